/-
  MetaPage by contracts, the specification's and the program's: the lowest bit.
-/
import Derived.Test.YthpfjfacjlpbdaaOwn
namespace Go.Proofs.Ythpfjfacjlpbdaa
open Go.RowKit

/-- the page of a meta -/
def pgOf (x : Int) : Int := if x.tmod 2 = 0 then 0 else 1

set_option maxHeartbeats 400000 in
theorem specMetaPage_any (x : Int) (w : World) :
    Calls Try.prog 10 #[.int .i64 x] w fun e w' => e = .returned (.int .i64 (pgOf x)) ∧ w = w' := by
  by_cases h : x.tmod 2 = 0
  · have HO : Hid (pgOf x = 0) := hide (if_pos h)
    go_enter Try.func10, Try.ntmps10
    go_wp2
    go_ret
    rw [HO.out]
    exact ⟨rfl, rfl⟩
  · have HO : Hid (pgOf x = 1) := hide (if_neg h)
    go_enter Try.func10, Try.ntmps10
    go_wp2
    go_ret
    rw [HO.out]
    exact ⟨rfl, rfl⟩

theorem and_one (x : Int) : bits .and .i64 x 1 = pgOf x := by
  have h1 : ((BitVec.ofInt 64 x) &&& (BitVec.ofInt 64 1)).toNat = (x % 18446744073709551616).toNat % 2 := by
    rw [BitVec.toNat_and, BitVec.toNat_ofInt, show (BitVec.ofInt 64 1).toNat = 1 from by decide, Nat.and_one_is_mod]
    rfl
  have h2 : bits .and .i64 x 1 = IntKind.i64.wrap (((x % 18446744073709551616).toNat % 2 : Nat) : Int) := by rw [← h1]; rfl
  rw [h2, pgOf]
  have h3 : x.tmod 2 = 0 ↔ x % 2 = 0 := by rw [← Int.dvd_iff_tmod_eq_zero, ← Int.dvd_iff_emod_eq_zero]
  by_cases h : x % 2 = 0
  · rw [if_pos (h3.2 h), show (x % 18446744073709551616).toNat % 2 = 0 from by omega]
    decide
  · rw [if_neg (fun e => h (h3.1 e)), show (x % 18446744073709551616).toNat % 2 = 1 from by omega]
    decide

set_option maxHeartbeats 400000 in
theorem implMetaPage_any (x : Int) (w : World) :
    Calls Try.prog 11 #[.int .i64 x] w fun e w' => e = .returned (.int .i64 (pgOf x)) ∧ w = w' := by
  have HB := hide (and_one x)
  go_enter Try.func11, Try.ntmps11
  go_wp2
  go_ret
  rw [← HB.out]
  exact ⟨rfl, rfl⟩
end Go.Proofs.Ythpfjfacjlpbdaa
