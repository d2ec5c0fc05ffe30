/-
  spec.Decimal by its contract, for a number below 0: a sign, then its figures.
-/
import Derived.Test.YtimhnphodnnbeaaDoorDec
namespace Go.Proofs.YtimhnphodnnbeaaDoor
open Go.RowKit

theorem neg_mod (m r : Nat) (h : r = m % 10) : (-(m : Int)).tmod 10 = -(r : Int) := by
  subst h
  rw [Int.neg_tmod, Int.tmod_eq_emod_of_nonneg (by omega)]
  omega

theorem neg_quo (m : Nat) : (-(m : Int)).tdiv 10 = -((m / 10 : Nat) : Int) := by
  rw [Int.neg_tdiv, Int.tdiv_eq_ediv_of_nonneg (by omega)]
  omega

end Go.Proofs.YtimhnphodnnbeaaDoor
