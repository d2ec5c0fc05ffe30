/-
  Rows of ints, and the laws' own helpers over them by contracts: szIntS, toIntS, eqIntS, markIntS, heldIntS.
-/
import Derived.Test.YtacmpggigdlmmaaDoorFrame
namespace Go.Proofs.YtacmpggigdlmmaaDoor
open Go.RowKit

/-- the cells of a row of ints -/
def ints (l : List Int) : List Value := l.map (Value.int .i64)

theorem ints_length (l : List Int) : (ints l).length = l.length := by simp [ints]

theorem ints_at (l : List Int) (k : Nat) (h : k < l.length) : (ints l)[k]? = some (.int .i64 l[k]) := by simp [ints, h]

theorem Tryd.infoIntR : (Tryd.prog.info? 3).map (fun i => (i.zero, i.size, i.bytes)) = some (some (.int .i64 0), 1, 8) := by kernel_rfl

theorem ints_made (n : Nat) : (madeCells #[Value.int .i64 0] n).toList = ints (List.replicate n 0) := by simp [toList_madeCells_one, ints]

theorem ints_set (l : List Int) (k : Nat) (x : Int) : (ints l).set k (.int .i64 x) = ints (l.set k x) := by rw [ints, ints, List.map_set]

theorem ints_one (l : List Int) : ∀ y ∈ ints l, y.oneCell' = true := fun y hy => by
  obtain ⟨p, _, rfl⟩ := List.mem_map.1 hy
  rfl

set_option maxHeartbeats 400000 in
theorem szIntS_any (a : Option Addr) (n cap : Nat) (hn : n ≤ maxLen) (left : Nat) (hleft : left ≤ 1048576) (w : World) :
    Calls Tryd.prog 16 #[.slice a n cap, .int .i64 (left : Int)] w fun e w' => e = .returned (.int .i64 (szOut left n)) ∧ w = w' := by
  unfold maxLen at hn
  by_cases h : n ≤ left
  · rw [szOut_yes h, show ((left - n : Nat) : Int) = (left : Int) - (n : Int) from by omega]
    have d1 : decide ((left : Int) - (n : Int) < 0) = false := by simp; omega
    go_enter Tryd.func16, Tryd.ntmps16
    go_wp2
    go_ret
    exact ⟨rfl, rfl⟩
  · rw [szOut_no (by omega)]
    have d1 : decide ((left : Int) - (n : Int) < 0) = true := by simp; omega
    go_enter Tryd.func16, Tryd.ntmps16
    go_wp2
    go_ret
    exact ⟨rfl, rfl⟩

set_option maxHeartbeats 1000000 in
set_option maxRecDepth 100000 in
theorem toIntS_any (l : List Int) (hl : l.length ≤ 1048576) (v : Value) (w : World) (hr : RowAt w 1 v l.length (ints l)) :
    Calls Tryd.prog 21 #[v] w fun e w' => ∃ v', e = .returned v' ∧ w'.ownsRow w.heap.size 3 1 v' l.length (ints l) ∧ Below w.heap.size w w' := by
  obtain ⟨i0, hi, hz0, hz1, hz2⟩ := info_parts Tryd.infoIntR
  obtain ⟨-, a, cap, rfl, h2⟩ := hr
  have HR := hide h2
  clear h2
  go_enter Tryd.func21, Tryd.ntmps21
  go_wp2_with (at_make; refine wpList_make_full _ rfl _ _ 26 rfl w.heap.size 3 i0 (.int .i64 0) 1 Tryd.underlying26 hi hz0 hz1 .i64 .i64 _ _ l.length rfl rfl rfl rfl (by rw [hz2]; omega) (by unfold maxLen; omega) (Nat.le_refl _) ?_)
  intro w1 hown1 hg1
  have hb1 : Below w.heap.size w w1 := (Below.refl _ _).grown hg1 (Nat.le_refl _) (fun k hk => by cases hk)
  have hown2 : w1.ownsRow w.heap.size 3 1 (.slice (some ⟨w.heap.size, 0, none⟩) l.length l.length) l.length (ints (List.replicate l.length 0)) := own_n hown1 rfl (ints_made _)
  clear hg1 hown1
  go_wp2
  go_loopg [4] l.length (fun q iv wr => ∃ (k : Nat) (m : List Int), k ≤ l.length ∧ iv = .int .i64 (k : Int) ∧ q + k = l.length ∧ wr.ownsRow w.heap.size 3 1 (.slice (some ⟨w.heap.size, 0, none⟩) l.length l.length) l.length (ints m) ∧ Hid (m.length = l.length ∧ m.take k = l.take k) ∧ Below w.heap.size w wr)
  case atStart => exact ⟨0, _, Nat.zero_le _, rfl, rfl, hown2, hide ⟨by simp, by simp⟩, hb1⟩
  case round =>
    obtain ⟨k, m, hk, rfl, hg, hown, HM, hb⟩ := hrel
    have HG := hide hg
    clear hg hown2 hb1
    by_cases hlt : k < l.length
    · rcases HR.out with hn0 | ⟨b, off, rfl, hbl, hc⟩
      · omega
      · obtain ⟨x, hx⟩ : ∃ x, x = l[k] := ⟨_, rfl⟩
        have hcx : wr.cell? ⟨b, off + k, none⟩ = some (.int .i64 x) := by rw [hb.cell (by exact hbl), hc k (by omega), ints_at l k hlt, hx]
        obtain ⟨u, hu⟩ : ∃ u, (ints m)[k]? = some u := ⟨_, List.getElem?_eq_getElem (by rw [ints_length, HM.out.1]; exact hlt)⟩
        have hcell : wr.cell? ⟨w.heap.size, k, none⟩ = some u := by rw [hown.cellAt k (by omega), hu]
        have hfz : wr.frozen? ⟨w.heap.size, k, none⟩ = false := hown.frozenAt k
        have HO := hide ((hown.stored k (.int .i64 x)).1)
        rw [ints_set m k x] at HO
        have HM2 : Hid ((m.set k x).length = l.length ∧ (m.set k x).take (k + 1) = l.take (k + 1)) := hide (by
          refine ⟨by rw [List.length_set]; exact HM.out.1, ?_⟩
          have hkm : k < m.length := by rw [HM.out.1]; exact hlt
          rw [List.take_succ_eq_append_getElem (by rw [List.length_set]; exact hkm), List.take_succ_eq_append_getElem hlt, List.getElem_set_self, List.take_set_of_le (by omega), HM.out.2, hx])
        have hk0 : (0 : Int) ≤ (k : Int) := by omega
        have hk1 : (k : Int) < (l.length : Int) := by omega
        clear hu hown hx hc
        go_wp2
        go_roundg (gk - 1)
        case measure => have := HG.out; omega
        case rel => exact ⟨k + 1, m.set k x, by omega, by go_num, by have := HG.out; omega, HO.out, HM2, hb.setCell (Nat.le_refl _) _⟩
    · have hml : m = l := by
        have h1 := HM.out.2
        rw [List.take_of_length_le (by rw [HM.out.1]; omega), List.take_of_length_le (by omega)] at h1
        exact h1
      subst hml
      go_wp2
      go_ret
      exact ⟨_, rfl, hown, hb⟩

set_option maxHeartbeats 1000000 in
set_option maxRecDepth 100000 in
theorem eqIntS_row (l m : List Int) (hl : l.length ≤ 9223372036854775807) (_hm : m.length ≤ 9223372036854775807) (v u : Value) (w : World) (hr : RowAt w 1 v l.length (ints l)) (hq : RowAt w 1 u m.length (ints m)) :
    Calls Tryd.prog 26 #[v, u] w fun e w' => e = .returned (.bool (decide (l = m))) ∧ Below w.heap.size w w' := by
  obtain ⟨-, a, cap, rfl, h2⟩ := hr
  obtain ⟨-, a', cap', rfl, h3⟩ := hq
  have HR := hide h2
  have HQ := hide h3
  clear h2 h3
  by_cases hne : l.length = m.length
  · have HN := hide hne
    rw [← hne]
    clear hne
    go_enter Tryd.func26, Tryd.ntmps26
    go_wp2
    go_loopg [5] l.length (fun q iv wr => ∃ k : Nat, k ≤ l.length ∧ iv = .int .i64 (k : Int) ∧ q + k = l.length ∧ Hid (l.take k = m.take k) ∧ Below w.heap.size w wr)
    case atStart => exact ⟨0, Nat.zero_le _, rfl, rfl, hide (by simp), Below.refl _ _⟩
    case round =>
      obtain ⟨k, hk, rfl, hg, HT, hb⟩ := hrel
      have HG := hide hg
      clear hg
      by_cases hlt : k < l.length
      · rcases HR.out with hn0 | ⟨b, off, rfl, hbl, hc⟩
        · omega
        · rcases HQ.out with hn0 | ⟨b', off', rfl, hbl', hc'⟩
          · have := HN.out; omega
          · have hltm : k < m.length := by have := HN.out; omega
            obtain ⟨x, hx⟩ : ∃ x, x = l[k] := ⟨_, rfl⟩
            obtain ⟨y, hy⟩ : ∃ y, y = m[k] := ⟨_, rfl⟩
            have hcx : wr.cell? ⟨b, off + k, none⟩ = some (.int .i64 x) := by rw [hb.cell (by exact hbl), hc k (by omega), ints_at l k hlt, hx]
            have hcy : wr.cell? ⟨b', off' + k, none⟩ = some (.int .i64 y) := by rw [hb.cell (by exact hbl'), hc' k (by omega), ints_at m k hltm, hy]
            have HX := hide hx
            have HY := hide hy
            have hk0 : (0 : Int) ≤ (k : Int) := by omega
            have hk1 : (k : Int) < (l.length : Int) := by omega
            clear hc hc' hx hy
            by_cases hxy : x = y
            · have HT2 : Hid (l.take (k + 1) = m.take (k + 1)) := hide (by rw [List.take_succ_eq_append_getElem hlt, List.take_succ_eq_append_getElem hltm, HT.out, ← HX.out, ← HY.out, hxy])
              subst hxy
              have hbq : (x != x) = false := by simp
              go_wp2
              go_quiet (fail)
              go_wp2
              go_roundg (gk - 1)
              case measure => have := HG.out; omega
              case rel => exact ⟨k + 1, by omega, by go_num, by have := HG.out; omega, HT2, below_drewN hb _⟩
            · have HD := hide (list_ne hlt hltm (by rw [← HX.out, ← HY.out]; exact hxy))
              have hbq : (x != y) = true := by simp [hxy]
              have hbr : (x == y) = false := by simp [hxy]
              go_wp2
              go_quiet (fail)
              go_wp2
              go_ret
              rw [HD.out]
              exact ⟨rfl, below_drewN hb _⟩
      · have HD : Hid (decide (l = m) = true) := hide (decide_eq_true (by
          have h1 := HT.out
          rw [List.take_of_length_le (by omega), List.take_of_length_le (by have := HN.out; omega)] at h1
          exact h1))
        go_wp2
        go_ret
        rw [HD.out]
        exact ⟨rfl, hb⟩
  · have HD : Hid (decide (l = m) = false) := hide (decide_eq_false (fun e => hne (by rw [e])))
    have hq1 : ¬ ((l.length : Int) = (m.length : Int)) := by omega
    clear hne
    go_enter Tryd.func26, Tryd.ntmps26
    go_wp2
    go_ret
    rw [HD.out]
    exact ⟨rfl, Below.refl _ _⟩

/-- the marks of ints from k on, n of them -/
def marksI (k n : Nat) : List Int := (List.range n).map fun i => ((k + i : Nat) : Int)

theorem marksI_length (k n : Nat) : (marksI k n).length = n := by simp [marksI]

theorem marksI_at (k n i : Nat) (h : i < n) : (ints (marksI k n))[i]? = some (.int .i64 ((k + i : Nat) : Int)) := by simp [ints, marksI, h]

theorem marksI_of (k n : Nat) (m : List Int) (hl : m.length = n) (h : ∀ i, i < n → m[i]? = some ((k + i : Nat) : Int)) : m = marksI k n := by
  apply List.ext_getElem?
  intro i
  by_cases hi : i < n
  · rw [h i hi]; simp [marksI, hi]
  · rw [List.getElem?_eq_none (by omega), List.getElem?_eq_none (by rw [marksI_length]; omega)]

set_option maxHeartbeats 1000000 in
set_option maxRecDepth 100000 in
theorem markIntS_row (l : List Int) (hl : l.length ≤ 1048576) (v : Value) (B k0 : Nat) (hk1 : k0 ≤ 1048576000) (w : World) (ha : w.ownsRow B 3 1 v l.length (ints l)) :
    Calls Tryd.prog 29 #[v, .int .i64 (k0 : Int)] w fun e w' => e = .returned (.int .i64 ((k0 + l.length : Nat) : Int)) ∧ w'.ownsRow B 3 1 v l.length (ints (marksI k0 l.length)) ∧ Kept w w' (fun k => v.ownBlock = some k) := by
  obtain ⟨a, cap, rfl⟩ : ∃ a cap, v = .slice a l.length cap := by obtain ⟨-, a, cap, e, -⟩ := row_of_own ha; exact ⟨a, cap, e⟩
  have HA := hide ha
  clear ha
  go_enter Tryd.func29, Tryd.ntmps29
  go_wp2
  go_loopg [1, 5] l.length (fun q kv iv wr => ∃ (k : Nat) (m : List Int), k ≤ l.length ∧ kv = .int .i64 ((k0 + k : Nat) : Int) ∧ iv = .int .i64 (k : Int) ∧ q + k = l.length ∧ Hid (wr.ownsRow B 3 1 (.slice a l.length cap) l.length (ints m)) ∧ Hid (m.length = l.length ∧ ∀ i, i < k → m[i]? = some ((k0 + i : Nat) : Int)) ∧ Hid (Kept w wr (fun k => (Value.slice a l.length cap).ownBlock = some k)))
  case atStart => exact ⟨0, l, Nat.zero_le _, rfl, rfl, rfl, HA, hide ⟨rfl, fun i h => by omega⟩, hide (kept_refl _ _)⟩
  case round =>
    obtain ⟨k, m, hk, rfl, rfl, hg, HOwn, HM, HK⟩ := hrel
    have HG := hide hg
    clear hg
    by_cases hlt : k < l.length
    · obtain ⟨g, rfl⟩ : ∃ g, a = some ⟨g, 0, none⟩ := by
        rcases HOwn.out.2 with ⟨e, h0⟩ | ⟨g, c, cur, e, _⟩
        · omega
        · injection e with e1; exact ⟨g, e1⟩
      have hi0 : (0 : Int) ≤ (k : Int) := by omega
      have hi1 : (k : Int) < (l.length : Int) := by omega
      have hown2 := HOwn.out
      have hfz : wr.frozen? ⟨g, k, none⟩ = false := hown2.frozenAt k
      obtain ⟨u, hu⟩ : ∃ u, (ints m)[k]? = some u := ⟨_, List.getElem?_eq_getElem (by rw [ints_length, HM.out.1]; exact hlt)⟩
      have hcell2 : wr.cell? ⟨g, k, none⟩ = some u := by rw [hown2.cellAt k (by omega), hu]
      have HO := hide ((hown2.stored k (.int .i64 ((k0 + k : Nat) : Int))).1)
      rw [ints_set] at HO
      have HM2 : Hid ((m.set k ((k0 + k : Nat) : Int)).length = l.length ∧ ∀ i, i < k + 1 → (m.set k ((k0 + k : Nat) : Int))[i]? = some ((k0 + i : Nat) : Int)) := hide ⟨by rw [List.length_set]; exact HM.out.1, fun i hi => by
        by_cases e : k = i
        · subst e; rw [List.getElem?_set_self (by rw [HM.out.1]; exact hlt)]
        · rw [List.getElem?_set_ne e]; exact HM.out.2 i (by omega)⟩
      have HK2 : Hid (Kept w (wr.setCell ⟨g, k, none⟩ (.int .i64 ((k0 + k : Nat) : Int))) (fun k => (Value.slice (some ⟨g, 0, none⟩) l.length cap).ownBlock = some k)) := hide (kept_trans HK.out (kept_setCell wr g k _) (fun j _ h => by rw [h]; rfl))
      clear hu hown2
      go_wp2_with fail
      go_roundg (gk - 1)
      case measure => have := HG.out; omega
      case rel => exact ⟨k + 1, _, by omega, by go_num, by go_num, by have := HG.out; omega, HO, HM2, HK2⟩
    · have hkn : k = l.length := by omega
      have HO : Hid (wr.ownsRow B 3 1 (.slice a l.length cap) l.length (ints (marksI k0 l.length))) := hide (by
        have e : m = marksI k0 l.length := marksI_of k0 l.length m HM.out.1 (fun i hi => HM.out.2 i (by omega))
        rw [← e]; exact HOwn.out)
      have HKn := hide hkn
      clear hkn
      go_wp2_with fail
      go_ret
      exact ⟨by rw [HKn.out]; rfl, HO.out, HK.out⟩

set_option maxHeartbeats 2000000 in
set_option maxRecDepth 100000 in
theorem heldIntS_row (n : Nat) (hn : n ≤ 1048576) (v : Value) (k0 : Nat) (hk1 : k0 ≤ 1048576000) (w : World) (ha : RowAt w 1 v n (ints (marksI k0 n))) :
    Calls Tryd.prog 32 #[v, .int .i64 (k0 : Int)] w fun e w' => e = .returned (.int .i64 ((k0 + n : Nat) : Int)) ∧ Below w.heap.size w w' := by
  obtain ⟨-, a, cap, rfl, h2⟩ := ha
  have HR := hide h2
  clear h2
  go_enter Tryd.func32, Tryd.ntmps32
  go_wp2
  go_loopg [1, 5] n (fun q kv iv wr => ∃ k : Nat, k ≤ n ∧ kv = .int .i64 ((k0 + k : Nat) : Int) ∧ iv = .int .i64 (k : Int) ∧ q + k = n ∧ Below w.heap.size w wr)
  case atStart => exact ⟨0, Nat.zero_le _, rfl, rfl, rfl, Below.refl _ _⟩
  case round =>
    obtain ⟨k, hk, rfl, rfl, hg, hb⟩ := hrel
    have HG := hide hg
    clear hg
    by_cases hlt : k < n
    · rcases HR.out with h0 | ⟨g, off, rfl, hglt, hc⟩
      · omega
      · obtain ⟨x, hx⟩ : ∃ x : Int, x = ((k0 + k : Nat) : Int) := ⟨_, rfl⟩
        have hcell : wr.cell? ⟨g, off + k, none⟩ = some (.int .i64 x) := by rw [hb.cell (by exact hglt), hc k (by omega), marksI_at k0 n k hlt, hx]
        rw [hx, show ((k0 + k : Nat) : Int) = (k0 : Int) + (k : Int) from by omega] at hcell
        have hi0 : (0 : Int) ≤ (k : Int) := by omega
        have hi1 : (k : Int) < (n : Int) := by omega
        have HB := hide hb
        clear hx hc hb
        go_wp2_with fail
        try (go_quiet (fail); go_wp2_with fail)
        go_roundg (gk - 1)
        case measure => have := HG.out; omega
        case rel => exact ⟨k + 1, by omega, by go_num, by go_num, by have := HG.out; omega, by first | exact HB.out | exact below_drewN HB.out _⟩
    · have hkn : k = n := by omega
      have HK := hide hkn
      clear hkn
      go_wp2_with fail
      go_ret
      exact ⟨by rw [HK.out]; rfl, hb⟩
end Go.Proofs.YtacmpggigdlmmaaDoor
