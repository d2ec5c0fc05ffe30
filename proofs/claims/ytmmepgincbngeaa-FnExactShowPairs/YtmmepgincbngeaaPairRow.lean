/-
  Rows of pairs (a key and a value each), and the laws' own helpers over them by contracts: eqPairS, markPairS, heldPairS.
-/
import Derived.Test.YtmmepgincbngeaaAlSpec
import Derived.Test.YtmmepgincbngeaaFrame
import Derived.Deep.RegionHeld3
namespace Go.Proofs.Ytmmepgincbngeaa
open Go.RowKit

theorem prs_cons (p : ByteArray × ByteArray) (l : List (ByteArray × ByteArray)) : prs (p :: l) = Value.string p.1 :: .string p.2 :: prs l := rfl

theorem prs_at (l : List (ByteArray × ByteArray)) : ∀ k (h : k < l.length), (prs l)[k * 2]? = some (.string l[k].1) ∧ (prs l)[k * 2 + 1]? = some (.string l[k].2) := by
  induction l with
  | nil => intro k h; simp at h
  | cons p l ih =>
    intro k h
    cases k with
    | zero => exact ⟨rfl, rfl⟩
    | succ k =>
      rw [prs_cons, show (k + 1) * 2 = k * 2 + 1 + 1 from by omega]
      exact ih k (by simpa using h)

theorem prs_set (l : List (ByteArray × ByteArray)) : ∀ (k : Nat) (p : ByteArray) (x : ByteArray), k < l.length → ((prs l).set (k * 2) (.string p)).set (k * 2 + 1) (.string x) = prs (l.set k (p, x)) := by
  induction l with
  | nil => intro k p x h; simp at h
  | cons q l ih =>
    intro k p x h
    cases k with
    | zero => rfl
    | succ k =>
      rw [prs_cons, show (k + 1) * 2 = k * 2 + 1 + 1 from by omega, List.set_cons_succ, List.set_cons_succ, List.set_cons_succ, List.set_cons_succ, ih k p x (by simpa using h), List.set_cons_succ, prs_cons]

set_option maxHeartbeats 2000000 in
set_option maxRecDepth 100000 in
theorem eqPair_any (p q t u : ByteArray) (w : World) :
    Calls Try.prog 13 #[.agg #[.string p, .string t], .agg #[.string q, .string u]] w fun e w' => e = .returned (.bool (decide ((p, t) = (q, u)))) ∧ Below w.heap.size w w' := by
  have hbB : ∀ o o' : Obj, Below w.heap.size w ((w.alloc o).alloc o') := fun o o' => ((Below.refl w.heap.size w).alloc (Nat.le_refl _) _).alloc (by simp) _
  have HB := hide hbB
  clear hbB
  have hbp := ba_beq p q
  have hbq := ba_beq t u
  by_cases hp : p = q
  · rw [decide_eq_true hp] at hbp
    by_cases ht : t = u
    · have HD : Hid (decide ((p, t) = (q, u)) = true) := hide (by subst ht hp; simp)
      rw [decide_eq_true ht] at hbq
      clear ht hp
      go_enter Try.func13, Try.ntmps13
      go_wp2
      go_ret
      rw [HD.out]
      exact ⟨rfl, HB.out _ _⟩
    · have HD : Hid (decide ((p, t) = (q, u)) = false) := hide (by simp [ht])
      rw [decide_eq_false ht] at hbq
      clear ht hp
      go_enter Try.func13, Try.ntmps13
      go_wp2
      go_ret
      rw [HD.out]
      exact ⟨rfl, HB.out _ _⟩
  · have HD : Hid (decide ((p, t) = (q, u)) = false) := hide (by simp [hp])
    rw [decide_eq_false hp] at hbp
    clear hp
    go_enter Try.func13, Try.ntmps13
    go_wp2
    go_ret
    rw [HD.out]
    exact ⟨rfl, HB.out _ _⟩

set_option maxHeartbeats 2000000 in
set_option maxRecDepth 100000 in
theorem eqPairS_row (l m : List (ByteArray × ByteArray)) (hl : l.length ≤ 9223372036854775807) (_hm : m.length ≤ 9223372036854775807) (v u : Value) (w : World) (hr : RowAt w 2 v l.length (prs l)) (hq : RowAt w 2 u m.length (prs m)) :
    Calls Try.prog 8 #[v, u] w fun e w' => e = .returned (.bool (decide (l = m))) ∧ Below w.heap.size w w' := by
  obtain ⟨-, a, cap, rfl, h2⟩ := hr
  obtain ⟨-, a', cap', rfl, h3⟩ := hq
  have HR := hide h2
  have HQ := hide h3
  clear h2 h3
  by_cases hne : l.length = m.length
  · have HN := hide hne
    rw [← hne]
    clear hne
    go_enter Try.func8, Try.ntmps8
    go_wp2
    go_loopg [5] l.length (fun q iv wr => ∃ k : Nat, k ≤ l.length ∧ iv = .int .i64 (k : Int) ∧ q + k = l.length ∧ Hid (l.take k = m.take k) ∧ Below w.heap.size w wr)
    case atStart => exact ⟨0, Nat.zero_le _, rfl, rfl, hide (by simp), Below.refl _ _⟩
    case round =>
      obtain ⟨k, hk, rfl, hg, HT, hb⟩ := hrel
      have HG := hide hg
      clear hg
      by_cases hlt : k < l.length
      · rcases HR.out with hn0 | ⟨b, off, rfl, hbl, hc⟩
        · omega
        · rcases HQ.out with hn0 | ⟨b', off', rfl, hbl', hc'⟩
          · have := HN.out; omega
          · have hltm : k < m.length := by have := HN.out; omega
            obtain ⟨p, x, hx⟩ : ∃ p x, (p, x) = l[k] := ⟨_, _, rfl⟩
            obtain ⟨q, y, hy⟩ : ∃ q y, (q, y) = m[k] := ⟨_, _, rfl⟩
            have hc0 : wr.cell? ⟨b, off + k * 2, none⟩ = some (.string p) := by rw [hb.cell (by exact hbl), hc (k * 2) (by omega), (prs_at l k hlt).1, ← hx]
            have hc1 : wr.cell? ⟨b, off + k * 2 + 1, none⟩ = some (.string x) := by rw [hb.cell (by exact hbl), Nat.add_assoc, hc (k * 2 + 1) (by omega), (prs_at l k hlt).2, ← hx]
            have hd0 : wr.cell? ⟨b', off' + k * 2, none⟩ = some (.string q) := by rw [hb.cell (by exact hbl'), hc' (k * 2) (by omega), (prs_at m k hltm).1, ← hy]
            have hd1 : wr.cell? ⟨b', off' + k * 2 + 1, none⟩ = some (.string y) := by rw [hb.cell (by exact hbl'), Nat.add_assoc, hc' (k * 2 + 1) (by omega), (prs_at m k hltm).2, ← hy]
            have HX := hide hx
            have HY := hide hy
            have hk0 : (0 : Int) ≤ (k : Int) := by omega
            have hk1 : (k : Int) < (l.length : Int) := by omega
            have hbw : b < wr.heap.size := Nat.lt_of_lt_of_le hbl hb.size
            have hbw' : b' < wr.heap.size := Nat.lt_of_lt_of_le hbl' hb.size
            clear hc hc' hx hy
            by_cases hxy : (p, x) = (q, y)
            · have HT2 : Hid (l.take (k + 1) = m.take (k + 1)) := hide (by rw [List.take_succ_eq_append_getElem hlt, List.take_succ_eq_append_getElem hltm, HT.out, ← HX.out, ← HY.out, hxy])
              have HC := hide (eqPair_any p q x y)
              rw [decide_eq_true hxy] at HC
              clear hxy
              go_wp2_with fail
              go_region_held3 (fun wx => wx.cell? ⟨b, off + k * 2, none⟩ = some (.string p) ∧ wx.cell? ⟨b, off + k * 2 + 1, none⟩ = some (.string x) ∧ wx.cell? ⟨b', off' + k * 2, none⟩ = some (.string q) ∧ wx.cell? ⟨b', off' + k * 2 + 1, none⟩ = some (.string y)) (first | exact ⟨hc0, hc1, hd0, hd1⟩ | exact hS2) ((go_at_call 13; refine (HC.out _).mono ?_; rintro e w2 ⟨rfl, hb2⟩; have hS2 : w2.cell? ⟨b, off + k * 2, none⟩ = some (.string p) ∧ w2.cell? ⟨b, off + k * 2 + 1, none⟩ = some (.string x) ∧ w2.cell? ⟨b', off' + k * 2, none⟩ = some (.string q) ∧ w2.cell? ⟨b', off' + k * 2 + 1, none⟩ = some (.string y) := ⟨(hb2.cell (by exact hbw)).trans hc0, (hb2.cell (by exact hbw)).trans hc1, (hb2.cell (by exact hbw')).trans hd0, (hb2.cell (by exact hbw')).trans hd1⟩))
              all_goals
                have hb3 : Below w.heap.size w w2 := hb.trans ((Below.refl _ _).drew.trans (hb2.mono hb.size))
                clear hb2
                go_wp2_with fail
                go_roundg (gk - 1)
                case measure => have := HG.out; omega
                case rel => exact ⟨k + 1, by omega, by go_num, by have := HG.out; omega, HT2, hb3⟩
            · have HD := hide (list_ne hlt hltm (by rw [← HX.out, ← HY.out]; exact hxy))
              have HC := hide (eqPair_any p q x y)
              rw [decide_eq_false hxy] at HC
              clear hxy
              go_wp2_with fail
              go_region_held3 (fun wx => wx.cell? ⟨b, off + k * 2, none⟩ = some (.string p) ∧ wx.cell? ⟨b, off + k * 2 + 1, none⟩ = some (.string x) ∧ wx.cell? ⟨b', off' + k * 2, none⟩ = some (.string q) ∧ wx.cell? ⟨b', off' + k * 2 + 1, none⟩ = some (.string y)) (first | exact ⟨hc0, hc1, hd0, hd1⟩ | exact hS2) ((go_at_call 13; refine (HC.out _).mono ?_; rintro e w2 ⟨rfl, hb2⟩; have hS2 : w2.cell? ⟨b, off + k * 2, none⟩ = some (.string p) ∧ w2.cell? ⟨b, off + k * 2 + 1, none⟩ = some (.string x) ∧ w2.cell? ⟨b', off' + k * 2, none⟩ = some (.string q) ∧ w2.cell? ⟨b', off' + k * 2 + 1, none⟩ = some (.string y) := ⟨(hb2.cell (by exact hbw)).trans hc0, (hb2.cell (by exact hbw)).trans hc1, (hb2.cell (by exact hbw')).trans hd0, (hb2.cell (by exact hbw')).trans hd1⟩))
              all_goals
                have hb3 : Below w.heap.size w w2 := hb.trans ((Below.refl _ _).drew.trans (hb2.mono hb.size))
                clear hb2
                go_wp2_with fail
                go_ret
                rw [HD.out]
                exact ⟨rfl, hb3⟩
      · have HD : Hid (decide (l = m) = true) := hide (decide_eq_true (by
          have h1 := HT.out
          rw [List.take_of_length_le (by omega), List.take_of_length_le (by have := HN.out; omega)] at h1
          exact h1))
        go_wp2
        go_ret
        rw [HD.out]
        exact ⟨rfl, hb⟩
  · have HD : Hid (decide (l = m) = false) := hide (decide_eq_false (fun e => hne (by rw [e])))
    have hq1 : ¬ ((l.length : Int) = (m.length : Int)) := by omega
    clear hne
    go_enter Try.func8, Try.ntmps8
    go_wp2
    go_ret
    rw [HD.out]
    exact ⟨rfl, Below.refl _ _⟩

/-- the marks of pairs from k on, n of them -/
def marksQ (k n : Nat) : List (ByteArray × ByteArray) := (List.range n).map fun i => (markB (k + i * 2), markB (k + i * 2 + 1))

theorem marksQ_length (k n : Nat) : (marksQ k n).length = n := by simp [marksQ]

theorem marksQ_at (k n i : Nat) (h : i < n) : (prs (marksQ k n))[i * 2]? = some (.string (markB (k + i * 2))) ∧ (prs (marksQ k n))[i * 2 + 1]? = some (.string (markB (k + i * 2 + 1))) := by
  have := prs_at (marksQ k n) i (by rw [marksQ_length]; exact h)
  simpa [marksQ] using this

theorem marksQ_of (k n : Nat) (m : List (ByteArray × ByteArray)) (hl : m.length = n) (h : ∀ i, i < n → m[i]? = some (markB (k + i * 2), markB (k + i * 2 + 1))) : m = marksQ k n := by
  apply List.ext_getElem?
  intro i
  by_cases hi : i < n
  · rw [h i hi]; simp [marksQ, hi]
  · rw [List.getElem?_eq_none (by omega), List.getElem?_eq_none (by rw [marksQ_length]; omega)]

end Go.Proofs.Ytmmepgincbngeaa
