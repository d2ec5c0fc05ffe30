/-
  The specification's l01In and l06In by contracts.
-/
import Derived.Test.YtplkioelbdemjaaGreatDoorIntRow
import Derived.Test.YtplkioelbdemjaaGreatDoorPlain19
import Derived.Test.YtplkioelbdemjaaGreatDoorVar
import Derived.Test.YtplkioelbdemjaaGreatDoorRow
import Derived.BigQuiet
import Derived.Deep.RegionHeld3
namespace Go.Proofs.YtplkioelbdemjaaGreatDoor
open Go.RowKit

theorem in_dec (x a b : Int) (w : World) : Calls Tryz.prog 40 #[.int .i64 x, .int .i64 a, .int .i64 b] w fun e w' => e = .returned (.bool (decide (a ≤ x ∧ x ≤ b))) ∧ w = w' := by
  by_cases h : a ≤ x ∧ x ≤ b
  · rw [decide_eq_true h]; exact l01In_yes x a b w h.1 h.2
  · rw [decide_eq_false h]; exact l01In_no x a b w (by omega)

theorem bel_dn {B : Nat} {a b : World} {n : Nat} (h : Below B a b) : Below B a (b.drewN n) := below_drewN h n

set_option maxHeartbeats 1000000 in
theorem l06In_any (l : List Int) (hl : l.length ≤ 1048576) (x : Int) (v : Value) (w : World) (hr : RowAt w 1 v l.length (ints l)) :
    Calls Tryz.prog 79 #[v, .int .i64 x] w fun e w' => e = .returned (.bool (decide (x ∈ l))) ∧ w = w' := by
  obtain ⟨-, a, cap, rfl, h2⟩ := hr
  have HR := hide h2
  clear h2
  go_enter Tryz.func79, Tryz.ntmps79
  go_wp2
  go_loopg [5] l.length (fun q iv wr => ∃ k : Nat, k ≤ l.length ∧ iv = .int .i64 (k : Int) ∧ q + k = l.length ∧ Hid (x ∉ l.take k) ∧ w = wr)
  case atStart => exact ⟨0, Nat.zero_le _, rfl, rfl, hide (by simp), rfl⟩
  case round =>
    obtain ⟨k, hk, rfl, hg, HT, rfl⟩ := hrel
    have HG := hide hg
    clear hg
    by_cases hlt : k < l.length
    · rcases HR.out with hn0 | ⟨b, off, rfl, hbl, hc⟩
      · omega
      · obtain ⟨y, hy⟩ : ∃ y, y = l[k] := ⟨_, rfl⟩
        have hcx : w.cell? ⟨b, off + k, none⟩ = some (.int .i64 y) := by rw [hc k (by omega), ints_at l k hlt, hy]
        have HY := hide hy
        have hk0 : (0 : Int) ≤ (k : Int) := by omega
        have hk1 : (k : Int) < (l.length : Int) := by omega
        clear hc hy
        by_cases hxy : y = x
        · have HD : Hid (decide (x ∈ l) = true) := hide (decide_eq_true (by rw [← hxy, HY.out]; exact List.getElem_mem hlt))
          subst hxy
          go_wp2
          go_ret
          rw [HD.out]
          exact ⟨rfl, rfl⟩
        · have HT2 : Hid (x ∉ l.take (k + 1)) := hide (fun h => by
            rw [List.take_succ_eq_append_getElem hlt] at h
            rcases List.mem_append.1 h with h | h
            · exact HT.out h
            · rw [List.mem_singleton, ← HY.out] at h; exact hxy h.symm)
          have hbq : (y == x) = false := by simp [hxy]
          have hbd : decide (y = x) = false := decide_eq_false hxy
          clear hxy
          go_wp2
          go_roundg (gk - 1)
          case measure => have := HG.out; omega
          case rel => exact ⟨k + 1, by omega, by go_num, by have := HG.out; omega, HT2, rfl⟩
    · have HD : Hid (decide (x ∈ l) = false) := hide (decide_eq_false (by
        have h1 := HT.out
        rw [List.take_of_length_le (by omega)] at h1
        exact h1))
      go_wp2
      go_ret
      rw [HD.out]
      exact ⟨rfl, rfl⟩
end Go.Proofs.YtplkioelbdemjaaGreatDoor
