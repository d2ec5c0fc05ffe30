/-
  laws.FnExactDecimal returns true at every int, where the table of powers of ten holds what its initialiser lays: strconv.Itoa and the specification's Decimal give the same text.
-/
import Derived.Test.YtimhnphodnnbeaaDoorDecNeg
import Derived.Test.YtimhnphodnnbeaaDoorShelfItoa
import Derived.Lib.AppendIntMem
namespace Go.Proofs.YtimhnphodnnbeaaDoor
open Go.RowKit

theorem decF_fuel (f m : Nat) (h : m < 10 ^ f) : decF (f + 1) m = decF f m := by
  induction f generalizing m with
  | zero => obtain rfl : m = 0 := by simp at h; omega
            simp [decF]
  | succ f ih =>
    by_cases hz : m = 0
    · subst hz; rw [decF_zero, decF_zero]
    · have hq : m / 10 < 10 ^ f := by rw [Nat.pow_succ] at h; exact Nat.div_lt_of_lt_mul (by rw [Nat.mul_comm]; exact h)
      rw [decF, if_neg hz, ih (m / 10) hq, decF, if_neg hz]

theorem decDigits_eq (m : Nat) (h : m < 10 ^ 20) : Lib.decDigits m = decN m := by
  induction m using Nat.strongRecOn with
  | _ m ih =>
    rw [Lib.decDigits]
    by_cases h10 : m < 10
    · rw [dif_pos h10]
      unfold decN
      by_cases hz : m = 0
      · subst hz; rfl
      · rw [if_neg hz, decF, if_neg hz, Nat.div_eq_of_lt h10, decF_zero, Nat.mod_eq_of_lt h10]; rfl
    · have hq : m / 10 < 10 ^ 19 := Nat.div_lt_of_lt_mul (by rw [show (10 : Nat) * 10 ^ 19 = 10 ^ 20 from by decide]; exact h)
      have e19 : (10 : Nat) ^ 19 ≤ 10 ^ 20 := by decide
      rw [dif_neg h10, ih (m / 10) (by omega) (by omega)]
      unfold decN
      rw [if_neg (by omega), if_neg (by omega), decF_fuel 19 (m / 10) hq]
      conv => rhs; rw [decF, if_neg (by omega)]

theorem itoa_nat (n : Nat) (h : n ≤ 9223372036854775808) : Lib.itoa (n : Int) = decN n := by
  rw [Lib.itoa, if_neg (by omega), Int.toNat_natCast, decDigits_eq n (pow20 n h)]

theorem itoa_neg (n : Nat) (h0 : 0 < n) (h : n ≤ 9223372036854775808) : (⟨(Lib.itoa (-(n : Int))).toArray⟩ : ByteArray) = (⟨#[45]⟩ ++ ⟨(decF 20 n).toArray⟩ : ByteArray) := by
  rw [Lib.itoa, if_pos (by omega), Int.natAbs_neg, Int.natAbs_natCast, decDigits_eq n (pow20 n h), decN, if_neg (by omega), str_cons]

set_option maxHeartbeats 400000 in
theorem implDecimal_any (n : Int) (h0 : -9223372036854775808 ≤ n) (h1 : n ≤ 9223372036854775807) (w : World) (htab : Lib.TabIs Tryd.prog w "internal/strconv.uint64pow10" .u64 Lib.pow10Tab) :
    Calls Tryd.prog 9 #[.int .i64 n] w fun e w' => e = .returned (.string ⟨(Lib.itoa n).toArray⟩) ∧ Below w.heap.size w w' := by
  have HT := hide htab
  clear htab
  go_enter Tryd.func9, Tryd.ntmps9
  go_wp2_with fail
  refine (Tryd.strconv_Itoa n h0 h1 _ HT.out).mono ?_
  rintro e w1 ⟨rfl, k, os, hw⟩
  have hb : Below w.heap.size w w1 := by rw [hw]; exact Lib.below_grow _ _ (Nat.le_refl _) _ _
  clear hw
  go_wp2
  go_ret
  exact ⟨rfl, hb⟩

end Go.Proofs.YtimhnphodnnbeaaDoor
