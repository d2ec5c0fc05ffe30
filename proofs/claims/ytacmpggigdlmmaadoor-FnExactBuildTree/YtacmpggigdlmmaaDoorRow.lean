/-
  Rows that are only read ('RowAt': a slice whose cells hold these values), and the laws' own helpers over lists of texts by contracts: szStringS, toStringS, eqStringS.
-/
import Derived.Test.YtacmpggigdlmmaaDoorOwn
import Derived.Laws.OwnMore
import Derived.WalkSpells
import Derived.WalkSmall
import Derived.BigQuiet
import Derived.Deep.QuietTactic
import Derived.Deep.LoopGhost
import Derived.Outline
import Derived.Below
namespace Go.Proofs.YtacmpggigdlmmaaDoor
open Go.RowKit

/-- a slice that reads as these cells, sz of them an element -/
def RowAt (w : World) (sz : Nat) (v : Value) (n : Nat) (xs : List Value) : Prop :=
  xs.length = n * sz ∧ ∃ a cap, v = .slice a n cap ∧ (n = 0 ∨ ∃ b off, a = some ⟨b, off, none⟩ ∧ b < w.heap.size ∧ ∀ j, j < n * sz → w.cell? ⟨b, off + j, none⟩ = xs[j]?)

theorem row_below {w w' : World} {sz n : Nat} {v : Value} {xs : List Value} (h : RowAt w sz v n xs) (hb : Below w.heap.size w w') : RowAt w' sz v n xs := by
  obtain ⟨hl, a, cap, hv, h2⟩ := h
  refine ⟨hl, a, cap, hv, h2.imp id ?_⟩
  rintro ⟨b, off, e, hlt, hc⟩
  exact ⟨b, off, e, Nat.lt_of_lt_of_le hlt hb.size, fun j hj => by rw [hb.cell (by exact hlt)]; exact hc j hj⟩

theorem row_of_own {w : World} {B e sz n : Nat} {v : Value} {xs : List Value} (h : w.ownsRow B e sz v n xs) : RowAt w sz v n xs := by
  refine ⟨h.1, ?_⟩
  rcases h.2 with ⟨rfl, rfl⟩ | ⟨g, cap, cur, rfl, hg, hh, rest⟩
  · exact ⟨none, 0, rfl, Or.inl rfl⟩
  · exact ⟨_, _, rfl, Or.inr ⟨g, 0, rfl, (h.lt g rfl).2, fun j hj => by rw [Nat.zero_add]; exact h.cellAt j hj⟩⟩

/-- a row that the call owns stays so where nothing that was there is turned -/
theorem own_stays {w w' : World} {B e sz n : Nat} {v : Value} {xs : List Value} (h : w.ownsRow B e sz v n xs) (hb : Below w.heap.size w w') : w'.ownsRow B e sz v n xs := by
  refine ⟨h.1, ?_⟩
  rcases h.2 with ⟨rfl, hn⟩ | ⟨g, cap, cur, rfl, hg, hh, rest⟩
  · exact Or.inl ⟨rfl, hn⟩
  · have hlt : g < w.heap.size := (h.lt g rfl).2
    exact Or.inr ⟨g, cap, cur, rfl, hg, (hb.block g hlt).trans hh, rest⟩

theorem own_down {w : World} {B B' e sz n : Nat} {v : Value} {xs : List Value} (h : w.ownsRow B e sz v n xs) (hb : B' ≤ B) : w.ownsRow B' e sz v n xs := by
  refine ⟨h.1, ?_⟩
  rcases h.2 with h0 | ⟨g, cap, cur, e1, hg, rest⟩
  · exact Or.inl h0
  · exact Or.inr ⟨g, cap, cur, e1, Nat.le_trans hb hg, rest⟩

/-- the cells of a row of texts -/
def strs (l : List ByteArray) : List Value := l.map Value.string

theorem strs_length (l : List ByteArray) : (strs l).length = l.length := by simp [strs]

theorem strs_at (l : List ByteArray) (k : Nat) (h : k < l.length) : (strs l)[k]? = some (.string l[k]) := by simp [strs, h]

/-- how much a list of texts holds: a place each, and its bytes -/
def bulkS : List ByteArray → Nat
  | [] => 0
  | s :: l => 1 + s.size + bulkS l

/-- what a size's count leaves -/
def szOut (left total : Nat) : Int := if total ≤ left then ((left - total : Nat) : Int) else -1

theorem szOut_yes {left total : Nat} (h : total ≤ left) : szOut left total = ((left - total : Nat) : Int) := if_pos h

theorem szOut_no {left total : Nat} (h : left < total) : szOut left total = -1 := if_neg (by omega)

/-- the bytes of the first k texts -/
def sumS (l : List ByteArray) (k : Nat) : Nat := ((l.take k).map ByteArray.size).sum

theorem sumS_succ (l : List ByteArray) (k : Nat) (h : k < l.length) : sumS l (k + 1) = sumS l k + (l[k]).size := by
  unfold sumS
  rw [List.take_succ_eq_append_getElem h, List.map_append, List.sum_append]
  simp

theorem sumS_zero (l : List ByteArray) : sumS l 0 = 0 := by simp [sumS]

theorem sumS_mono (l : List ByteArray) (k : Nat) : sumS l k ≤ sumS l l.length := by
  unfold sumS
  conv => rhs; rw [List.take_length, ← List.take_append_drop k l, List.map_append, List.sum_append]
  omega

theorem bulkS_eq (l : List ByteArray) : bulkS l = l.length + sumS l l.length := by
  unfold sumS
  rw [List.take_length]
  induction l with
  | nil => rfl
  | cons s l ih => simp [bulkS, ih]; omega

set_option maxHeartbeats 1000000 in
theorem szStringS_any (l : List ByteArray) (hl : l.length ≤ maxLen) (hs : ∀ s ∈ l, s.size ≤ maxLen) (v : Value) (left : Nat) (hleft : left ≤ 1048576) (w : World) (hr : RowAt w 1 v l.length (strs l)) :
    Calls Tryd.prog 33 #[v, .int .i64 (left : Int)] w fun e w' => e = .returned (.int .i64 (szOut left (bulkS l))) ∧ w = w' := by
  obtain ⟨-, a, cap, rfl, h2⟩ := hr
  have HR := hide h2
  have HS := hide hs
  clear h2 hs
  unfold maxLen at hl
  have HBk := hide (bulkS_eq l)
  by_cases h0 : left < l.length
  · have HO : Hid (szOut left (bulkS l) = -1) := hide (szOut_no (by rw [HBk.out]; omega))
    go_enter Tryd.func33, Tryd.ntmps33
    go_wp2
    go_ret
    rw [HO.out]
    exact ⟨rfl, rfl⟩
  · go_enter Tryd.func33, Tryd.ntmps33
    go_wp2
    go_loopg [1, 5] l.length (fun g lv iv wr => ∃ k m : Nat, k ≤ l.length ∧ iv = .int .i64 (k : Int) ∧ g + k = l.length ∧ lv = .int .i64 (m : Int) ∧ m ≤ 1048576 ∧ Hid (m + l.length + sumS l k = left) ∧ w = wr)
    case atStart => exact ⟨0, left - l.length, Nat.zero_le _, rfl, rfl, by go_num, by omega, hide (by rw [sumS_zero]; omega), rfl⟩
    case round =>
      obtain ⟨k, m, hk, rfl, hg, rfl, hm, HM, rfl⟩ := hrel
      have HG := hide hg
      clear hg
      by_cases hlt : k < l.length
      · rcases HR.out with hn0 | ⟨b, off, rfl, hb, hc⟩
        · omega
        · obtain ⟨x, hx⟩ : ∃ x, x = l[k] := ⟨_, rfl⟩
          have hcell : w.cell? ⟨b, off + k, none⟩ = some (.string x) := by rw [hc k (by omega), strs_at l k hlt, hx]
          have hxs : x.size ≤ 9223372036854775807 := by
            have := HS.out x (by rw [hx]; exact List.getElem_mem hlt)
            unfold maxLen at this
            omega
          have hsum : sumS l (k + 1) = sumS l k + x.size := by rw [hx]; exact sumS_succ l k hlt
          have HSum := hide hsum
          have hk0 : (0 : Int) ≤ (k : Int) := by omega
          have hk1 : (k : Int) < (l.length : Int) := by omega
          clear hc hx hsum
          by_cases hneg : m < x.size
          · have HO : Hid (szOut left (bulkS l) = -1) := hide (szOut_no (by have h1 := HBk.out; have h2 := HM.out; have h3 := HSum.out; have h4 := sumS_mono l (k + 1); omega))
            go_wp2
            go_ret
            rw [HO.out]
            exact ⟨rfl, rfl⟩
          · go_wp2
            go_roundg (gk - 1)
            case measure => have := HG.out; omega
            case rel => exact ⟨k + 1, m - x.size, by omega, by go_num, by have := HG.out; omega, by go_num, by omega, hide (by have h2 := HM.out; have h3 := HSum.out; omega), rfl⟩
      · have HO : Hid (szOut left (bulkS l) = (m : Int)) := hide (by
          have h1 := HBk.out
          have h2 := HM.out
          obtain rfl : k = l.length := by omega
          rw [szOut_yes (by omega)]
          congr 1
          omega)
        go_wp2
        go_ret
        rw [HO.out]
        exact ⟨rfl, rfl⟩

theorem Tryd.infoStrR : (Tryd.prog.info? 9).map (fun i => (i.zero, i.size, i.bytes)) = some (some (.string ⟨#[]⟩), 1, 16) := by kernel_rfl

theorem strs_made (n : Nat) : (madeCells #[Value.string ⟨#[]⟩] n).toList = strs (List.replicate n ⟨#[]⟩) := by simp [toList_madeCells_one, strs]

theorem strs_set (l : List ByteArray) (k : Nat) (x : ByteArray) : (strs l).set k (.string x) = strs (l.set k x) := by rw [strs, strs, List.map_set]

theorem own_n {w : World} {B e sz n m : Nat} {v : Value} {xs ys : List Value} (h : w.ownsRow B e sz v n xs) (hm : n = m) (hx : xs = ys) : w.ownsRow B e sz v m ys := by subst hm hx; exact h

set_option maxHeartbeats 1000000 in
set_option maxRecDepth 100000 in
theorem toStringS_any (l : List ByteArray) (hl : l.length ≤ 1048576) (v : Value) (w : World) (hr : RowAt w 1 v l.length (strs l)) :
    Calls Tryd.prog 39 #[v] w fun e w' => ∃ v', e = .returned v' ∧ w'.ownsRow w.heap.size 9 1 v' l.length (strs l) ∧ Below w.heap.size w w' := by
  obtain ⟨i0, hi, hz0, hz1, hz2⟩ := info_parts Tryd.infoStrR
  obtain ⟨-, a, cap, rfl, h2⟩ := hr
  have HR := hide h2
  clear h2
  go_enter Tryd.func39, Tryd.ntmps39
  go_wp2_with (at_make; refine wpList_make_full _ rfl _ _ 22 rfl w.heap.size 9 i0 (.string ⟨#[]⟩) 1 Tryd.underlying22 hi hz0 hz1 .i64 .i64 _ _ l.length rfl rfl rfl rfl (by rw [hz2]; omega) (by unfold maxLen; omega) (Nat.le_refl _) ?_)
  intro w1 hown1 hg1
  have hb1 : Below w.heap.size w w1 := (Below.refl _ _).grown hg1 (Nat.le_refl _) (fun k hk => by cases hk)
  have hown2 : w1.ownsRow w.heap.size 9 1 (.slice (some ⟨w.heap.size, 0, none⟩) l.length l.length) l.length (strs (List.replicate l.length ⟨#[]⟩)) := own_n hown1 rfl (strs_made _)
  clear hg1 hown1
  go_wp2
  go_loopg [4] l.length (fun q iv wr => ∃ (k : Nat) (m : List ByteArray), k ≤ l.length ∧ iv = .int .i64 (k : Int) ∧ q + k = l.length ∧ wr.ownsRow w.heap.size 9 1 (.slice (some ⟨w.heap.size, 0, none⟩) l.length l.length) l.length (strs m) ∧ Hid (m.length = l.length ∧ m.take k = l.take k) ∧ Below w.heap.size w wr)
  case atStart => exact ⟨0, _, Nat.zero_le _, rfl, rfl, hown2, hide ⟨by simp, by simp⟩, hb1⟩
  case round =>
    obtain ⟨k, m, hk, rfl, hg, hown, HM, hb⟩ := hrel
    have HG := hide hg
    clear hg hown2 hb1
    by_cases hlt : k < l.length
    · rcases HR.out with hn0 | ⟨b, off, rfl, hbl, hc⟩
      · omega
      · obtain ⟨x, hx⟩ : ∃ x, x = l[k] := ⟨_, rfl⟩
        have hcx : wr.cell? ⟨b, off + k, none⟩ = some (.string x) := by rw [hb.cell (by exact hbl), hc k (by omega), strs_at l k hlt, hx]
        obtain ⟨u, hu⟩ : ∃ u, (strs m)[k]? = some u := ⟨_, List.getElem?_eq_getElem (by rw [strs_length, HM.out.1]; exact hlt)⟩
        have hcell : wr.cell? ⟨w.heap.size, k, none⟩ = some u := by rw [hown.cellAt k (by omega), hu]
        have hfz : wr.frozen? ⟨w.heap.size, k, none⟩ = false := hown.frozenAt k
        have HO := hide ((hown.stored k (.string x)).1)
        rw [strs_set m k x] at HO
        have HM2 : Hid ((m.set k x).length = l.length ∧ (m.set k x).take (k + 1) = l.take (k + 1)) := hide (by
          refine ⟨by rw [List.length_set]; exact HM.out.1, ?_⟩
          have hkm : k < m.length := by rw [HM.out.1]; exact hlt
          rw [List.take_succ_eq_append_getElem (by rw [List.length_set]; exact hkm), List.take_succ_eq_append_getElem hlt, List.getElem_set_self, List.take_set_of_le (by omega), HM.out.2, hx])
        have hk0 : (0 : Int) ≤ (k : Int) := by omega
        have hk1 : (k : Int) < (l.length : Int) := by omega
        clear hu hown hx hc
        go_wp2
        go_roundg (gk - 1)
        case measure => have := HG.out; omega
        case rel => exact ⟨k + 1, m.set k x, by omega, by go_num, by have := HG.out; omega, HO.out, HM2, hb.setCell (Nat.le_refl _) _⟩
    · have hml : m = l := by
        have h1 := HM.out.2
        rw [List.take_of_length_le (by rw [HM.out.1]; omega), List.take_of_length_le (by omega)] at h1
        exact h1
      subst hml
      go_wp2
      go_ret
      exact ⟨_, rfl, hown, hb⟩

theorem strs_ne {l m : List ByteArray} {k : Nat} (hk : k < l.length) (hm : k < m.length) (h : l[k] ≠ m[k]) : decide (l = m) = false := by
  simp only [decide_eq_false_iff_not]
  intro e
  subst e
  exact h rfl

theorem ba_beq (x y : ByteArray) : (x.toList == y.toList) = decide (x = y) := by
  rw [ByteArray.toList_eq, ByteArray.toList_eq]
  by_cases h : x = y
  · subst h; simp
  · have hne : ¬ x.data.toList = y.data.toList := fun e => h (ByteArray.ext (Array.toList_inj.1 e))
    rw [decide_eq_false h]
    simpa using hne

set_option maxHeartbeats 1000000 in
set_option maxRecDepth 100000 in
theorem eqStringS_row (l m : List ByteArray) (hl : l.length ≤ 9223372036854775807) (_hm : m.length ≤ 9223372036854775807) (v u : Value) (w : World) (hr : RowAt w 1 v l.length (strs l)) (hq : RowAt w 1 u m.length (strs m)) :
    Calls Tryd.prog 46 #[v, u] w fun e w' => e = .returned (.bool (decide (l = m))) ∧ Below w.heap.size w w' := by
  obtain ⟨-, a, cap, rfl, h2⟩ := hr
  obtain ⟨-, a', cap', rfl, h3⟩ := hq
  have HR := hide h2
  have HQ := hide h3
  clear h2 h3
  by_cases hne : l.length = m.length
  · have HN := hide hne
    rw [← hne]
    clear hne
    go_enter Tryd.func46, Tryd.ntmps46
    go_wp2
    go_loopg [5] l.length (fun q iv wr => ∃ k : Nat, k ≤ l.length ∧ iv = .int .i64 (k : Int) ∧ q + k = l.length ∧ Hid (l.take k = m.take k) ∧ Below w.heap.size w wr)
    case atStart => exact ⟨0, Nat.zero_le _, rfl, rfl, hide (by simp), Below.refl _ _⟩
    case round =>
      obtain ⟨k, hk, rfl, hg, HT, hb⟩ := hrel
      have HG := hide hg
      clear hg
      by_cases hlt : k < l.length
      · rcases HR.out with hn0 | ⟨b, off, rfl, hbl, hc⟩
        · omega
        · rcases HQ.out with hn0 | ⟨b', off', rfl, hbl', hc'⟩
          · have := HN.out; omega
          · have hltm : k < m.length := by have := HN.out; omega
            obtain ⟨x, hx⟩ : ∃ x, x = l[k] := ⟨_, rfl⟩
            obtain ⟨y, hy⟩ : ∃ y, y = m[k] := ⟨_, rfl⟩
            have hcx : wr.cell? ⟨b, off + k, none⟩ = some (.string x) := by rw [hb.cell (by exact hbl), hc k (by omega), strs_at l k hlt, hx]
            have hcy : wr.cell? ⟨b', off' + k, none⟩ = some (.string y) := by rw [hb.cell (by exact hbl'), hc' k (by omega), strs_at m k hltm, hy]
            have HX := hide hx
            have HY := hide hy
            have hk0 : (0 : Int) ≤ (k : Int) := by omega
            have hk1 : (k : Int) < (l.length : Int) := by omega
            clear hc hc' hx hy
            by_cases hxy : x = y
            · have HT2 : Hid (l.take (k + 1) = m.take (k + 1)) := hide (by rw [List.take_succ_eq_append_getElem hlt, List.take_succ_eq_append_getElem hltm, HT.out, ← HX.out, ← HY.out, hxy])
              have hbq := ba_beq x y
              rw [decide_eq_true hxy] at hbq
              clear hxy
              go_wp2
              go_quiet (fail)
              go_wp2
              go_roundg (gk - 1)
              case measure => have := HG.out; omega
              case rel => exact ⟨k + 1, by omega, by go_num, by have := HG.out; omega, HT2, below_drewN hb _⟩
            · have HD := hide (strs_ne hlt hltm (by rw [← HX.out, ← HY.out]; exact hxy))
              have hbq := ba_beq x y
              rw [decide_eq_false hxy] at hbq
              clear hxy
              go_wp2
              go_quiet (fail)
              go_wp2
              go_ret
              rw [HD.out]
              exact ⟨rfl, below_drewN hb _⟩
      · have HD : Hid (decide (l = m) = true) := hide (decide_eq_true (by
          have h1 := HT.out
          rw [List.take_of_length_le (by omega), List.take_of_length_le (by have := HN.out; omega)] at h1
          exact h1))
        go_wp2
        go_ret
        rw [HD.out]
        exact ⟨rfl, hb⟩
  · have HD : Hid (decide (l = m) = false) := hide (decide_eq_false (fun e => hne (by rw [e])))
    have hq1 : ¬ ((l.length : Int) = (m.length : Int)) := by omega
    clear hne
    go_enter Tryd.func46, Tryd.ntmps46
    go_wp2
    go_ret
    rw [HD.out]
    exact ⟨rfl, Below.refl _ _⟩
end Go.Proofs.YtacmpggigdlmmaaDoor
