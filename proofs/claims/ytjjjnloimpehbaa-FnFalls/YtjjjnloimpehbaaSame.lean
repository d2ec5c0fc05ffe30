/-
  laws.sameTexts by a contract.
-/
import Derived.Test.YtjjjnloimpehbaaDisk
namespace Go.Proofs.Ytjjjnloimpehbaa
open Go.RowKit

set_option maxHeartbeats 1000000 in
set_option maxRecDepth 100000 in
theorem sameTexts_row (l m : List ByteArray) (hl : l.length ≤ 9223372036854775807) (_hm : m.length ≤ 9223372036854775807) (v u : Value) (w : World) (hr : RowAt w 1 v l.length (strs l)) (hq : RowAt w 1 u m.length (strs m)) :
    Calls Try.prog 23 #[v, u] w fun e w' => e = .returned (.bool (decide (l = m))) ∧ Below w.heap.size w w' := by
  obtain ⟨-, a, cap, rfl, h2⟩ := hr
  obtain ⟨-, a', cap', rfl, h3⟩ := hq
  have HR := hide h2
  have HQ := hide h3
  clear h2 h3
  by_cases hne : l.length = m.length
  · have HN := hide hne
    rw [← hne]
    clear hne
    go_enter Try.func23, Try.ntmps23
    go_wp2
    go_loopg [5] l.length (fun q iv wr => ∃ k : Nat, k ≤ l.length ∧ iv = .int .i64 (k : Int) ∧ q + k = l.length ∧ Hid (l.take k = m.take k) ∧ Below w.heap.size w wr)
    case atStart => exact ⟨0, Nat.zero_le _, rfl, rfl, hide (by simp), Below.refl _ _⟩
    case round =>
      obtain ⟨k, hk, rfl, hg, HT, hb⟩ := hrel
      have HG := hide hg
      clear hg
      by_cases hlt : k < l.length
      · rcases HR.out with hn0 | ⟨b, off, rfl, hbl, hc⟩
        · omega
        · rcases HQ.out with hn0 | ⟨b', off', rfl, hbl', hc'⟩
          · have := HN.out; omega
          · have hltm : k < m.length := by have := HN.out; omega
            obtain ⟨x, hx⟩ : ∃ x, x = l[k] := ⟨_, rfl⟩
            obtain ⟨y, hy⟩ : ∃ y, y = m[k] := ⟨_, rfl⟩
            have hcx : wr.cell? ⟨b, off + k, none⟩ = some (.string x) := by rw [hb.cell (by exact hbl), hc k (by omega), strs_at l k hlt, hx]
            have hcy : wr.cell? ⟨b', off' + k, none⟩ = some (.string y) := by rw [hb.cell (by exact hbl'), hc' k (by omega), strs_at m k hltm, hy]
            have HX := hide hx
            have HY := hide hy
            have hk0 : (0 : Int) ≤ (k : Int) := by omega
            have hk1 : (k : Int) < (l.length : Int) := by omega
            clear hc hc' hx hy
            by_cases hxy : x = y
            · have HT2 : Hid (l.take (k + 1) = m.take (k + 1)) := hide (by rw [List.take_succ_eq_append_getElem hlt, List.take_succ_eq_append_getElem hltm, HT.out, ← HX.out, ← HY.out, hxy])
              have hbq := ba_beq x y
              rw [decide_eq_true hxy] at hbq
              clear hxy
              go_wp2
              go_quiet (fail)
              go_wp2
              go_roundg (gk - 1)
              case measure => have := HG.out; omega
              case rel => exact ⟨k + 1, by omega, by go_num, by have := HG.out; omega, HT2, below_drewN hb _⟩
            · have HD := hide (strs_ne hlt hltm (by rw [← HX.out, ← HY.out]; exact hxy))
              have hbq := ba_beq x y
              rw [decide_eq_false hxy] at hbq
              clear hxy
              go_wp2
              go_quiet (fail)
              go_wp2
              go_ret
              rw [HD.out]
              exact ⟨rfl, below_drewN hb _⟩
      · have HD : Hid (decide (l = m) = true) := hide (decide_eq_true (by
          have h1 := HT.out
          rw [List.take_of_length_le (by omega), List.take_of_length_le (by have := HN.out; omega)] at h1
          exact h1))
        go_wp2
        go_ret
        rw [HD.out]
        exact ⟨rfl, hb⟩
  · have HD : Hid (decide (l = m) = false) := hide (decide_eq_false (fun e => hne (by rw [e])))
    have hq1 : ¬ ((l.length : Int) = (m.length : Int)) := by omega
    clear hne
    go_enter Try.func23, Try.ntmps23
    go_wp2
    go_ret
    rw [HD.out]
    exact ⟨rfl, Below.refl _ _⟩

end Go.Proofs.Ytjjjnloimpehbaa
