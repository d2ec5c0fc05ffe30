/-
  The specification's l01In and l06In by contracts.
-/
import Derived.Test.YthcakofocbileaaIntRow
import Derived.Test.YthcakofocbileaaPlain19
import Derived.Test.YthcakofocbileaaVar
import Derived.Test.YthcakofocbileaaRow
import Derived.BigQuiet
import Derived.Deep.RegionHeld3
namespace Go.Proofs.Ythcakofocbileaa
open Go.RowKit

theorem in_dec (x a b : Int) (w : World) : Calls Try.prog 32 #[.int .i64 x, .int .i64 a, .int .i64 b] w fun e w' => e = .returned (.bool (decide (a ≤ x ∧ x ≤ b))) ∧ w = w' := by
  by_cases h : a ≤ x ∧ x ≤ b
  · rw [decide_eq_true h]; exact l01In_yes x a b w h.1 h.2
  · rw [decide_eq_false h]; exact l01In_no x a b w (by omega)

theorem bel_dn {B : Nat} {a b : World} {n : Nat} (h : Below B a b) : Below B a (b.drewN n) := below_drewN h n

end Go.Proofs.Ythcakofocbileaa
