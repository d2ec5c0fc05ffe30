/-
  The specification's NameKey by a contract.
-/
import Derived.Test.YtjldcbnoomcloaaNames
namespace Go.Proofs.Ytjldcbnoomcloaa
open Go.RowKit

set_option maxHeartbeats 1000000 in
set_option maxRecDepth 100000 in
theorem specNameKey_any (s : ByteArray) (hs : s.size ≤ 1048576) (w : World) :
    Calls Try.prog 59 #[.string s] w fun e w' => e = .returned (.bool (nameB sigB s 4)) ∧ w = w' := by
  go_enter Try.func59, Try.ntmps59
  go_wp2
  go_loopg [3] s.size (fun g iv wr => ∃ k : Nat, k ≤ s.size ∧ iv = .int .i64 (k : Int) ∧ g + k = s.size ∧ Hid (∀ i, i < k → sigB (byt s i) = true) ∧ w = wr)
  case atStart => exact ⟨0, Nat.zero_le _, rfl, rfl, hide (fun i h => by omega), rfl⟩
  case round =>
    obtain ⟨k, hk, rfl, hg, HA, rfl⟩ := hrel
    have HG := hide hg
    clear hg
    by_cases hlt : k < s.size
    · obtain ⟨y, hy⟩ : ∃ y, y = byt s k := ⟨_, rfl⟩
      have hyb : y < 256 := by rw [hy]; exact byt_lt s _
      have hs1 : s[k].toNat = y := by rw [hy]; exact byt_eq s _ hlt
      have HY := hide hy
      have hk0 : (0 : Int) ≤ (k : Int) := by omega
      have hk1 : (k : Int) < (s.size : Int) := by omega
      clear hy
      rcases (show (y < 48) ∨ (48 ≤ y ∧ y ≤ 57) ∨ (58 ≤ y ∧ y < 97) ∨ (97 ≤ y ∧ y ≤ 122) ∨ (122 < y) from by omega) with hq | hq | hq | hq | hq
      · have d0 : decide ((y : Int) < 97) = true := by simp; omega
        have d1 : decide ((y : Int) < 48) = true := by simp; omega
        have HO : Hid (nameB sigB s 4 = false) := hide (name_bad hlt (by rw [← HY.out, sigB, decide_eq_false (by omega)]))
        go_wp2
        go_ret
        rw [HO.out]
        exact ⟨rfl, rfl⟩
      · have d0 : decide ((y : Int) < 97) = true := by simp; omega
        have d1 : decide ((y : Int) < 48) = false := by simp; omega
        have d2 : decide ((57 : Int) < (y : Int)) = false := by simp; omega
        have HA2 : Hid (∀ i, i < k + 1 → sigB (byt s i) = true) := hide (fun i hi => by
          by_cases e : i = k
          · subst e; rw [← HY.out, sigB, decide_eq_true (by omega)]
          · exact HA.out i (by omega))
        go_wp2
        go_roundg (gk - 1)
        case measure => have := HG.out; omega
        case rel => exact ⟨k + 1, by omega, by go_num, by have := HG.out; omega, HA2, rfl⟩
      · have d0 : decide ((y : Int) < 97) = true := by simp; omega
        have d1 : decide ((y : Int) < 48) = false := by simp; omega
        have d2 : decide ((57 : Int) < (y : Int)) = true := by simp; omega
        have HO : Hid (nameB sigB s 4 = false) := hide (name_bad hlt (by rw [← HY.out, sigB, decide_eq_false (by omega)]))
        go_wp2
        go_ret
        rw [HO.out]
        exact ⟨rfl, rfl⟩
      · have d0 : decide ((y : Int) < 97) = false := by simp; omega
        have d1 : decide ((122 : Int) < (y : Int)) = false := by simp; omega
        have HA2 : Hid (∀ i, i < k + 1 → sigB (byt s i) = true) := hide (fun i hi => by
          by_cases e : i = k
          · subst e; rw [← HY.out, sigB, decide_eq_true (by omega)]
          · exact HA.out i (by omega))
        go_wp2
        go_roundg (gk - 1)
        case measure => have := HG.out; omega
        case rel => exact ⟨k + 1, by omega, by go_num, by have := HG.out; omega, HA2, rfl⟩
      · have d0 : decide ((y : Int) < 97) = false := by simp; omega
        have d1 : decide ((122 : Int) < (y : Int)) = true := by simp; omega
        have d2 : decide ((y : Int) < 48) = false := by simp; omega
        have d3 : decide ((57 : Int) < (y : Int)) = true := by simp; omega
        have HO : Hid (nameB sigB s 4 = false) := hide (name_bad hlt (by rw [← HY.out, sigB, decide_eq_false (by omega)]))
        go_wp2
        go_ret
        rw [HO.out]
        exact ⟨rfl, rfl⟩
    · have HO : Hid (nameB sigB s 4 = decide (1 ≤ (s.size : Int) ∧ (s.size : Int) ≤ 4)) := hide (by rw [name_all (fun i hi => HA.out i (by omega))]; congr 1; simp; omega)
      have HC := hide (l01In_all (s.size : Int) 1 4)
      go_wp2_with (go_at_call 76; refine (HC.out _).mono ?_; rintro e w1 ⟨rfl, rfl⟩)
      go_ret
      rw [HO.out, Bool.decide_and]
      exact ⟨rfl, rfl⟩

end Go.Proofs.Ytjldcbnoomcloaa
