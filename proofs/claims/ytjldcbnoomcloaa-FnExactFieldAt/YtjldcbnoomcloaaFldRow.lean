/-
  Rows of fields (a name and a kind, two cells an element), and the laws' own helpers over them by contracts: szField, szFieldS, toField, toFieldS, eqField, eqFieldS, markFieldS, heldFieldS.
-/
import Derived.Test.YtjldcbnoomcloaaFrame
namespace Go.Proofs.Ytjldcbnoomcloaa
open Go.RowKit

/-- the cells of a row of fields -/
def flds (l : List (ByteArray × Int)) : List Value := l.flatMap fun p => [.string p.1, .int .i64 p.2]

theorem flds_cons (p : ByteArray × Int) (l : List (ByteArray × Int)) : flds (p :: l) = Value.string p.1 :: .int .i64 p.2 :: flds l := rfl

theorem flds_length (l : List (ByteArray × Int)) : (flds l).length = l.length * 2 := by
  induction l with
  | nil => rfl
  | cons p l ih => rw [flds, List.flatMap_cons, List.length_append]; change 2 + (flds l).length = _; rw [ih, List.length_cons]; omega

theorem flds_at (l : List (ByteArray × Int)) : ∀ k (h : k < l.length), (flds l)[k * 2]? = some (.string l[k].1) ∧ (flds l)[k * 2 + 1]? = some (.int .i64 l[k].2) := by
  induction l with
  | nil => intro k h; simp at h
  | cons p l ih =>
    intro k h
    have e : flds (p :: l) = [Value.string p.1, .int .i64 p.2] ++ flds l := rfl
    rw [e]
    cases k with
    | zero => exact ⟨rfl, rfl⟩
    | succ k =>
      have := ih k (by simpa using h)
      rw [List.getElem?_append_right (by simp; omega), List.getElem?_append_right (by simp; omega)]
      simp only [List.length_cons, List.length_nil, List.getElem_cons_succ]
      rw [show (k + 1) * 2 - (0 + 1 + 1) = k * 2 from by omega, show (k + 1) * 2 + 1 - (0 + 1 + 1) = k * 2 + 1 from by omega]
      exact this

/-- the bytes of the first k names -/
def sumF (l : List (ByteArray × Int)) (k : Nat) : Nat := ((l.take k).map fun p => p.1.size).sum

theorem sumF_succ (l : List (ByteArray × Int)) (k : Nat) (h : k < l.length) : sumF l (k + 1) = sumF l k + (l[k]).1.size := by
  unfold sumF
  rw [List.take_succ_eq_append_getElem h, List.map_append, List.sum_append]
  simp

theorem sumF_zero (l : List (ByteArray × Int)) : sumF l 0 = 0 := by simp [sumF]

theorem sumF_mono (l : List (ByteArray × Int)) (k : Nat) : sumF l k ≤ sumF l l.length := by
  unfold sumF
  conv => rhs; rw [List.take_length, ← List.take_append_drop k l, List.map_append, List.sum_append]
  omega

/-- how much a list of fields holds -/
def bulkF (l : List (ByteArray × Int)) : Nat := l.length + sumF l l.length

set_option maxHeartbeats 400000 in
theorem szField_any (p : Int) (t : ByteArray) (ht : t.size ≤ 9223372036854775807) (left : Nat) (hleft : left ≤ 1048576) (w : World) :
    Calls Try.prog 89 #[.agg #[.string t, .int .i64 p], .int .i64 (left : Int)] w fun e w' => e = .returned (.int .i64 (szOut left t.size)) ∧ Below w.heap.size w w' := by
  by_cases h : t.size ≤ left
  · have HO := hide (szOut_yes h)
    go_enter Try.func89, Try.ntmps89
    go_wp2
    go_ret
    refine ⟨?_, (Below.refl _ _).alloc (Nat.le_refl _) _⟩
    rw [HO.out]
    simp
    omega
  · have HO := hide (szOut_no (Nat.lt_of_not_le h))
    go_enter Try.func89, Try.ntmps89
    go_wp2
    go_ret
    rw [HO.out]
    exact ⟨rfl, (Below.refl _ _).alloc (Nat.le_refl _) _⟩

set_option maxHeartbeats 1000000 in
theorem szFieldS_any (l : List (ByteArray × Int)) (hl : l.length ≤ maxLen) (hs : ∀ p ∈ l, p.1.size ≤ maxLen) (v : Value) (left : Nat) (hleft : left ≤ 1048576) (w : World) (hr : RowAt w 2 v l.length (flds l)) :
    Calls Try.prog 43 #[v, .int .i64 (left : Int)] w fun e w' => e = .returned (.int .i64 (szOut left (bulkF l))) ∧ Below w.heap.size w w' := by
  obtain ⟨-, a, cap, rfl, h2⟩ := hr
  have HR := hide h2
  have HS := hide hs
  clear h2 hs
  unfold maxLen at hl
  have HBk : Hid (bulkF l = l.length + sumF l l.length) := hide rfl
  by_cases h0 : left < l.length
  · have HO : Hid (szOut left (bulkF l) = -1) := hide (szOut_no (by rw [HBk.out]; omega))
    go_enter Try.func43, Try.ntmps43
    go_wp2
    go_ret
    rw [HO.out]
    exact ⟨rfl, Below.refl _ _⟩
  · go_enter Try.func43, Try.ntmps43
    go_wp2
    go_loopg [1, 5] l.length (fun g lv iv wr => ∃ k m : Nat, k ≤ l.length ∧ iv = .int .i64 (k : Int) ∧ g + k = l.length ∧ lv = .int .i64 (m : Int) ∧ m ≤ 1048576 ∧ Hid (m + l.length + sumF l k = left) ∧ Below w.heap.size w wr)
    case atStart => exact ⟨0, left - l.length, Nat.zero_le _, rfl, rfl, by go_num, by omega, hide (by rw [sumF_zero]; omega), Below.refl _ _⟩
    case round =>
      obtain ⟨k, m, hk, rfl, hg, rfl, hm, HM, hb⟩ := hrel
      have HG := hide hg
      clear hg
      by_cases hlt : k < l.length
      · rcases HR.out with hn0 | ⟨b, off, rfl, hbl, hc⟩
        · omega
        · obtain ⟨p, hp⟩ : ∃ p, p = l[k].2 := ⟨_, rfl⟩
          obtain ⟨x, hx⟩ : ∃ x, x = l[k].1 := ⟨_, rfl⟩
          have hc0 : wr.cell? ⟨b, off + k * 2, none⟩ = some (.string x) := by rw [hb.cell (by exact hbl), hc (k * 2) (by omega), (flds_at l k hlt).1, hx]
          have hc1 : wr.cell? ⟨b, off + k * 2 + 1, none⟩ = some (.int .i64 p) := by rw [hb.cell (by exact hbl), Nat.add_assoc, hc (k * 2 + 1) (by omega), (flds_at l k hlt).2, hp]
          have hxs : x.size ≤ 9223372036854775807 := by
            have := HS.out l[k] (List.getElem_mem hlt)
            unfold maxLen at this
            rw [hx]; omega
          have hsum : sumF l (k + 1) = sumF l k + x.size := by rw [hx]; exact sumF_succ l k hlt
          have HSum := hide hsum
          have hk0 : (0 : Int) ≤ (k : Int) := by omega
          have hk1 : (k : Int) < (l.length : Int) := by omega
          clear hc hx hp hsum
          by_cases hneg : m < x.size
          · have HO : Hid (szOut left (bulkF l) = -1) := hide (szOut_no (by have h1 := HBk.out; have h2 := HM.out; have h3 := HSum.out; have h4 := sumF_mono l (k + 1); omega))
            have HC := hide (szField_any p x hxs m hm)
            rw [szOut_no hneg] at HC
            go_wp2_with fail
            refine (HC.out _).mono ?_
            rintro e w2 ⟨rfl, hb2⟩
            go_wp2_with fail
            go_ret
            rw [HO.out]
            exact ⟨rfl, hb.trans (hb2.mono hb.size)⟩
          · have HC := hide (szField_any p x hxs m hm)
            rw [szOut_yes (by omega)] at HC
            obtain ⟨m', hm'⟩ : ∃ m', m' = m - x.size := ⟨_, rfl⟩
            rw [← hm'] at HC
            have hml : m' ≤ 1048576 := by omega
            have HM2 : Hid (m' + l.length + sumF l (k + 1) = left) := hide (by have h2 := HM.out; have h3 := HSum.out; omega)
            clear hm' hneg
            go_wp2_with fail
            refine (HC.out _).mono ?_
            rintro e w2 ⟨rfl, hb2⟩
            go_wp2_with fail
            go_roundg (gk - 1)
            case measure => have := HG.out; omega
            case rel => exact ⟨k + 1, m', by omega, by go_num, by have := HG.out; omega, rfl, hml, HM2, hb.trans (hb2.mono hb.size)⟩
      · have HO : Hid (szOut left (bulkF l) = (m : Int)) := hide (by
          have h1 := HBk.out
          have h2 := HM.out
          obtain rfl : k = l.length := by omega
          rw [szOut_yes (by omega)]
          congr 1
          omega)
        go_wp2
        go_ret
        rw [HO.out]
        exact ⟨rfl, hb⟩

set_option maxHeartbeats 400000 in
theorem toField_any (p : Int) (t : ByteArray) (w : World) :
    Calls Try.prog 90 #[.agg #[.string t, .int .i64 p]] w fun e w' => e = .returned (.agg #[.string t, .int .i64 p]) ∧ Below w.heap.size w w' := by
  go_enter Try.func90, Try.ntmps90
  go_wp2
  refine bodyPost_ret (v := .agg #[.string t, .int .i64 p]) (by simp [results, Try.results90, go_sem]) rfl ⟨rfl, ?_⟩
  exact (((Below.refl w.heap.size w).alloc (Nat.le_refl _) _).alloc (by simp) _).alloc (by simp; omega) _

theorem Try.infoFld : (Try.prog.info? 48).map (fun i => (i.zero, i.size, i.bytes)) = some (some (.agg #[.string ⟨#[]⟩, .int .i64 0]), 2, 24) := by kernel_rfl

theorem flds_made (n : Nat) : (madeCells #[Value.string ⟨#[]⟩, .int .i64 0] (n * 2)).toList = flds (List.replicate n (⟨#[]⟩, 0)) := by
  have hlen : (flds (List.replicate n ((⟨#[]⟩ : ByteArray), (0 : Int)))).length = n * 2 := by rw [flds_length, List.length_replicate]
  apply List.ext_getElem?
  intro i
  by_cases hi : i < n * 2
  · have h1 : (madeCells #[Value.string ⟨#[]⟩, .int .i64 0] (n * 2)).toList[i]? = some (#[Value.string ⟨#[]⟩, .int .i64 0][i % 2]!) := by
      simp [madeCells, hi]
    have hk : i / 2 < (List.replicate n ((⟨#[]⟩ : ByteArray), (0 : Int))).length := by rw [List.length_replicate]; omega
    have h2 := flds_at _ (i / 2) hk
    rw [h1]
    rcases Nat.mod_two_eq_zero_or_one i with h | h
    · rw [h, show i = i / 2 * 2 from by omega, h2.1]; simp
    · rw [h, show i = i / 2 * 2 + 1 from by omega, h2.2]; simp
  · rw [List.getElem?_eq_none (by simp [madeCells]; omega), List.getElem?_eq_none (by rw [hlen]; omega)]

theorem flds_set (l : List (ByteArray × Int)) : ∀ (k : Nat) (x : ByteArray) (p : Int), k < l.length → ((flds l).set (k * 2) (.string x)).set (k * 2 + 1) (.int .i64 p) = flds (l.set k (x, p)) := by
  induction l with
  | nil => intro k x p h; simp at h
  | cons q l ih =>
    intro k x p h
    have e : flds (q :: l) = Value.string q.1 :: .int .i64 q.2 :: flds l := rfl
    cases k with
    | zero => rfl
    | succ k =>
      have h2 := ih k x p (by simpa using h)
      rw [List.set_cons_succ, e, show (k + 1) * 2 = k * 2 + 1 + 1 from by omega, flds_cons, ← h2]
      rfl

set_option maxHeartbeats 1000000 in
set_option maxRecDepth 100000 in
theorem toFieldS_any (l : List (ByteArray × Int)) (hl : l.length ≤ 1048576) (v : Value) (w : World) (hr : RowAt w 2 v l.length (flds l)) :
    Calls Try.prog 44 #[v] w fun e w' => ∃ v', e = .returned v' ∧ w'.ownsRow w.heap.size 48 2 v' l.length (flds l) ∧ Below w.heap.size w w' := by
  obtain ⟨i0, hi, hz0, hz1, hz2⟩ := info_parts Try.infoFld
  obtain ⟨-, a, cap, rfl, h2⟩ := hr
  have HR := hide h2
  clear h2
  go_enter Try.func44, Try.ntmps44
  go_wp2_with (at_make; refine wpList_make_full _ rfl _ _ 24 rfl w.heap.size 48 i0 (.agg #[.string ⟨#[]⟩, .int .i64 0]) 2 Try.underlying24 hi hz0 hz1 .i64 .i64 _ _ l.length rfl rfl rfl rfl (by rw [hz2]; omega) (by unfold maxLen; omega) (Nat.le_refl _) ?_)
  intro w1 hown1 hg1
  have hb1 : Below w.heap.size w w1 := (Below.refl _ _).grown hg1 (Nat.le_refl _) (fun k hk => by cases hk)
  have hown2 : w1.ownsRow w.heap.size 48 2 (.slice (some ⟨w.heap.size, 0, none⟩) l.length l.length) l.length (flds (List.replicate l.length (⟨#[]⟩, 0))) := own_n hown1 rfl (flds_made _)
  clear hg1 hown1
  go_wp2
  go_loopg [4] l.length (fun q iv wr => ∃ (k : Nat) (m : List (ByteArray × Int)), k ≤ l.length ∧ iv = .int .i64 (k : Int) ∧ q + k = l.length ∧ wr.ownsRow w.heap.size 48 2 (.slice (some ⟨w.heap.size, 0, none⟩) l.length l.length) l.length (flds m) ∧ Hid (m.length = l.length ∧ m.take k = l.take k) ∧ Below w.heap.size w wr)
  case atStart => exact ⟨0, _, Nat.zero_le _, rfl, rfl, hown2, hide ⟨by simp, by simp⟩, hb1⟩
  case round =>
    obtain ⟨k, m, hk, rfl, hg, hown, HM, hb⟩ := hrel
    have HG := hide hg
    clear hg hown2 hb1
    by_cases hlt : k < l.length
    · rcases HR.out with hn0 | ⟨b, off, rfl, hbl, hc⟩
      · omega
      · obtain ⟨p, hp⟩ : ∃ p, p = l[k].2 := ⟨_, rfl⟩
        obtain ⟨x, hx⟩ : ∃ x, x = l[k].1 := ⟨_, rfl⟩
        have hc0 : wr.cell? ⟨b, off + k * 2, none⟩ = some (.string x) := by rw [hb.cell (by exact hbl), hc (k * 2) (by omega), (flds_at l k hlt).1, hx]
        have hc1 : wr.cell? ⟨b, off + k * 2 + 1, none⟩ = some (.int .i64 p) := by rw [hb.cell (by exact hbl), Nat.add_assoc, hc (k * 2 + 1) (by omega), (flds_at l k hlt).2, hp]
        have hkm : k < m.length := by rw [HM.out.1]; exact hlt
        have HM2 : Hid ((m.set k (x, p)).length = l.length ∧ (m.set k (x, p)).take (k + 1) = l.take (k + 1)) := hide (by
          refine ⟨by rw [List.length_set]; exact HM.out.1, ?_⟩
          rw [List.take_succ_eq_append_getElem (by rw [List.length_set]; exact hkm), List.take_succ_eq_append_getElem hlt, List.getElem_set_self, List.take_set_of_le (by omega), HM.out.2, hp, hx])
        obtain ⟨u0, u1, hu⟩ : ∃ (u0 : ByteArray) (u1 : Int), (flds m)[k * 2]? = some (.string u0) ∧ (flds m)[k * 2 + 1]? = some (.int .i64 u1) := ⟨_, _, flds_at m k hkm⟩
        have HU := hide hu
        have HKm := hide hkm
        have hk0 : (0 : Int) ≤ (k : Int) := by omega
        have hk1 : (k : Int) < (l.length : Int) := by omega
        clear hx hp hc hkm hu
        go_wp2_with fail
        refine (toField_any p x _).mono ?_
        rintro e w2 ⟨rfl, hb2⟩
        have hown2 := own_stays hown hb2
        have hd0 : w2.cell? ⟨w.heap.size, k * 2, none⟩ = some (.string u0) := by rw [hown2.cellAt (k * 2) (by omega), HU.out.1]
        have hd1 : w2.cell? ⟨w.heap.size, k * 2 + 1, none⟩ = some (.int .i64 u1) := by rw [hown2.cellAt (k * 2 + 1) (by omega), HU.out.2]
        have hf0 : w2.frozen? ⟨w.heap.size, k * 2, none⟩ = false := hown2.frozenAt _
        have hf1 : w2.frozen? ⟨w.heap.size, k * 2 + 1, none⟩ = false := hown2.frozenAt _
        have hb3 : Below w.heap.size w w2 := hb.trans (hb2.mono hb.size)
        have HO := hide (((hown2.stored (k * 2) (.string x)).1.stored (k * 2 + 1) (.int .i64 p)).1)
        rw [flds_set m k x p HKm.out] at HO
        clear hown hb2
        go_wp2_with fail
        go_roundg (gk - 1)
        case measure => have := HG.out; omega
        case rel => exact ⟨k + 1, m.set k (x, p), by omega, by go_num, by have := HG.out; omega, HO.out, HM2, (hb3.setCell (Nat.le_refl _) _).setCell (Nat.le_refl _) _⟩
    · have hml : m = l := by
        have h1 := HM.out.2
        rw [List.take_of_length_le (by rw [HM.out.1]; omega), List.take_of_length_le (by omega)] at h1
        exact h1
      subst hml
      go_wp2
      go_ret
      exact ⟨_, rfl, hown, hb⟩

set_option maxHeartbeats 400000 in
theorem eqField_any (p q : Int) (t u : ByteArray) (w : World) :
    Calls Try.prog 91 #[.agg #[.string t, .int .i64 p], .agg #[.string u, .int .i64 q]] w fun e w' => e = .returned (.bool (decide ((t, p) = (u, q)))) ∧ Below w.heap.size w w' := by
  have hbB : ∀ o o' : Obj, Below w.heap.size w ((w.alloc o).alloc o') := fun o o' => ((Below.refl w.heap.size w).alloc (Nat.le_refl _) _).alloc (by simp) _
  have HB := hide hbB
  clear hbB
  have hbq := ba_beq t u
  by_cases ht : t = u
  · rw [decide_eq_true ht] at hbq
    by_cases hp : p = q
    · have HD : Hid (decide ((t, p) = (u, q)) = true) := hide (by subst ht hp; simp)
      have hpq : (p != q) = false := by simp [hp]
      clear ht hp
      go_enter Try.func91, Try.ntmps91
      go_wp2
      go_ret
      rw [HD.out]
      exact ⟨rfl, HB.out _ _⟩
    · have HD : Hid (decide ((t, p) = (u, q)) = false) := hide (by simp [hp])
      have hpq : (p != q) = true := by simp [hp]
      clear ht hp
      go_enter Try.func91, Try.ntmps91
      go_wp2
      go_ret
      rw [HD.out]
      exact ⟨rfl, HB.out _ _⟩
  · rw [decide_eq_false ht] at hbq
    have HD : Hid (decide ((t, p) = (u, q)) = false) := hide (by simp [ht])
    clear ht
    go_enter Try.func91, Try.ntmps91
    go_wp2
    go_ret
    rw [HD.out]
    exact ⟨rfl, HB.out _ _⟩

set_option maxHeartbeats 2000000 in
set_option maxRecDepth 100000 in
theorem eqFieldS_row (l m : List (ByteArray × Int)) (hl : l.length ≤ 9223372036854775807) (_hm : m.length ≤ 9223372036854775807) (v u : Value) (w : World) (hr : RowAt w 2 v l.length (flds l)) (hq : RowAt w 2 u m.length (flds m)) :
    Calls Try.prog 45 #[v, u] w fun e w' => e = .returned (.bool (decide (l = m))) ∧ Below w.heap.size w w' := by
  obtain ⟨-, a, cap, rfl, h2⟩ := hr
  obtain ⟨-, a', cap', rfl, h3⟩ := hq
  have HR := hide h2
  have HQ := hide h3
  clear h2 h3
  by_cases hne : l.length = m.length
  · have HN := hide hne
    rw [← hne]
    clear hne
    go_enter Try.func45, Try.ntmps45
    go_wp2
    go_loopg [5] l.length (fun q iv wr => ∃ k : Nat, k ≤ l.length ∧ iv = .int .i64 (k : Int) ∧ q + k = l.length ∧ Hid (l.take k = m.take k) ∧ Below w.heap.size w wr)
    case atStart => exact ⟨0, Nat.zero_le _, rfl, rfl, hide (by simp), Below.refl _ _⟩
    case round =>
      obtain ⟨k, hk, rfl, hg, HT, hb⟩ := hrel
      have HG := hide hg
      clear hg
      by_cases hlt : k < l.length
      · rcases HR.out with hn0 | ⟨b, off, rfl, hbl, hc⟩
        · omega
        · rcases HQ.out with hn0 | ⟨b', off', rfl, hbl', hc'⟩
          · have := HN.out; omega
          · have hltm : k < m.length := by have := HN.out; omega
            obtain ⟨p, x, hx⟩ : ∃ p x, (x, p) = l[k] := ⟨_, _, rfl⟩
            obtain ⟨q, y, hy⟩ : ∃ q y, (y, q) = m[k] := ⟨_, _, rfl⟩
            have hc0 : wr.cell? ⟨b, off + k * 2, none⟩ = some (.string x) := by rw [hb.cell (by exact hbl), hc (k * 2) (by omega), (flds_at l k hlt).1, ← hx]
            have hc1 : wr.cell? ⟨b, off + k * 2 + 1, none⟩ = some (.int .i64 p) := by rw [hb.cell (by exact hbl), Nat.add_assoc, hc (k * 2 + 1) (by omega), (flds_at l k hlt).2, ← hx]
            have hd0 : wr.cell? ⟨b', off' + k * 2, none⟩ = some (.string y) := by rw [hb.cell (by exact hbl'), hc' (k * 2) (by omega), (flds_at m k hltm).1, ← hy]
            have hd1 : wr.cell? ⟨b', off' + k * 2 + 1, none⟩ = some (.int .i64 q) := by rw [hb.cell (by exact hbl'), Nat.add_assoc, hc' (k * 2 + 1) (by omega), (flds_at m k hltm).2, ← hy]
            have HX := hide hx
            have HY := hide hy
            have hk0 : (0 : Int) ≤ (k : Int) := by omega
            have hk1 : (k : Int) < (l.length : Int) := by omega
            have hbw : b < wr.heap.size := Nat.lt_of_lt_of_le hbl hb.size
            have hbw' : b' < wr.heap.size := Nat.lt_of_lt_of_le hbl' hb.size
            clear hc hc' hx hy
            by_cases hxy : (x, p) = (y, q)
            · have HT2 : Hid (l.take (k + 1) = m.take (k + 1)) := hide (by rw [List.take_succ_eq_append_getElem hlt, List.take_succ_eq_append_getElem hltm, HT.out, ← HX.out, ← HY.out, hxy])
              have HC := hide (eqField_any p q x y)
              rw [decide_eq_true hxy] at HC
              clear hxy
              go_wp2_with fail
              go_region_held3 (fun wx => wx.cell? ⟨b, off + k * 2, none⟩ = some (.string x) ∧ wx.cell? ⟨b, off + k * 2 + 1, none⟩ = some (.int .i64 p) ∧ wx.cell? ⟨b', off' + k * 2, none⟩ = some (.string y) ∧ wx.cell? ⟨b', off' + k * 2 + 1, none⟩ = some (.int .i64 q)) (first | exact ⟨hc0, hc1, hd0, hd1⟩ | exact hS2) ((go_at_call 91; refine (HC.out _).mono ?_; rintro e w2 ⟨rfl, hb2⟩; have hS2 : w2.cell? ⟨b, off + k * 2, none⟩ = some (.string x) ∧ w2.cell? ⟨b, off + k * 2 + 1, none⟩ = some (.int .i64 p) ∧ w2.cell? ⟨b', off' + k * 2, none⟩ = some (.string y) ∧ w2.cell? ⟨b', off' + k * 2 + 1, none⟩ = some (.int .i64 q) := ⟨(hb2.cell (by exact hbw)).trans hc0, (hb2.cell (by exact hbw)).trans hc1, (hb2.cell (by exact hbw')).trans hd0, (hb2.cell (by exact hbw')).trans hd1⟩))
              all_goals
                have hb3 : Below w.heap.size w w2 := hb.trans ((Below.refl _ _).drew.trans (hb2.mono hb.size))
                clear hb2
                go_wp2_with fail
                go_roundg (gk - 1)
                case measure => have := HG.out; omega
                case rel => exact ⟨k + 1, by omega, by go_num, by have := HG.out; omega, HT2, hb3⟩
            · have HD := hide (list_ne hlt hltm (by rw [← HX.out, ← HY.out]; exact hxy))
              have HC := hide (eqField_any p q x y)
              rw [decide_eq_false hxy] at HC
              clear hxy
              go_wp2_with fail
              go_region_held3 (fun wx => wx.cell? ⟨b, off + k * 2, none⟩ = some (.string x) ∧ wx.cell? ⟨b, off + k * 2 + 1, none⟩ = some (.int .i64 p) ∧ wx.cell? ⟨b', off' + k * 2, none⟩ = some (.string y) ∧ wx.cell? ⟨b', off' + k * 2 + 1, none⟩ = some (.int .i64 q)) (first | exact ⟨hc0, hc1, hd0, hd1⟩ | exact hS2) ((go_at_call 91; refine (HC.out _).mono ?_; rintro e w2 ⟨rfl, hb2⟩; have hS2 : w2.cell? ⟨b, off + k * 2, none⟩ = some (.string x) ∧ w2.cell? ⟨b, off + k * 2 + 1, none⟩ = some (.int .i64 p) ∧ w2.cell? ⟨b', off' + k * 2, none⟩ = some (.string y) ∧ w2.cell? ⟨b', off' + k * 2 + 1, none⟩ = some (.int .i64 q) := ⟨(hb2.cell (by exact hbw)).trans hc0, (hb2.cell (by exact hbw)).trans hc1, (hb2.cell (by exact hbw')).trans hd0, (hb2.cell (by exact hbw')).trans hd1⟩))
              all_goals
                have hb3 : Below w.heap.size w w2 := hb.trans ((Below.refl _ _).drew.trans (hb2.mono hb.size))
                clear hb2
                go_wp2_with fail
                go_ret
                rw [HD.out]
                exact ⟨rfl, hb3⟩
      · have HD : Hid (decide (l = m) = true) := hide (decide_eq_true (by
          have h1 := HT.out
          rw [List.take_of_length_le (by omega), List.take_of_length_le (by have := HN.out; omega)] at h1
          exact h1))
        go_wp2
        go_ret
        rw [HD.out]
        exact ⟨rfl, hb⟩
  · have HD : Hid (decide (l = m) = false) := hide (decide_eq_false (fun e => hne (by rw [e])))
    have hq1 : ¬ ((l.length : Int) = (m.length : Int)) := by omega
    clear hne
    go_enter Try.func45, Try.ntmps45
    go_wp2
    go_ret
    rw [HD.out]
    exact ⟨rfl, Below.refl _ _⟩

/-- the marks of fields from k on, n of them -/
def marksF (k n : Nat) : List (ByteArray × Int) := (List.range n).map fun i => (markB (k + i * 2), ((k + i * 2 + 1 : Nat) : Int))

theorem marksF_length (k n : Nat) : (marksF k n).length = n := by simp [marksF]

theorem marksF_at (k n i : Nat) (h : i < n) : (flds (marksF k n))[i * 2]? = some (.string (markB (k + i * 2))) ∧ (flds (marksF k n))[i * 2 + 1]? = some (.int .i64 ((k + i * 2 + 1 : Nat) : Int)) := by
  have := flds_at (marksF k n) i (by rw [marksF_length]; exact h)
  simpa [marksF] using this

theorem marksF_of (k n : Nat) (m : List (ByteArray × Int)) (hl : m.length = n) (h : ∀ i, i < n → m[i]? = some (markB (k + i * 2), ((k + i * 2 + 1 : Nat) : Int))) : m = marksF k n := by
  apply List.ext_getElem?
  intro i
  by_cases hi : i < n
  · rw [h i hi]; simp [marksF, hi]
  · rw [List.getElem?_eq_none (by omega), List.getElem?_eq_none (by rw [marksF_length]; omega)]

set_option maxHeartbeats 2000000 in
set_option maxRecDepth 100000 in
theorem markFieldS_row (l : List (ByteArray × Int)) (hl : l.length ≤ 1048576) (v : Value) (B k0 : Nat) (hk0 : 0 < k0) (hk1 : k0 ≤ 1048576000) (w : World) (ha : w.ownsRow B 48 2 v l.length (flds l)) :
    Calls Try.prog 47 #[v, .int .i64 (k0 : Int)] w fun e w' => e = .returned (.int .i64 ((k0 + l.length * 2 : Nat) : Int)) ∧ w'.ownsRow B 48 2 v l.length (flds (marksF k0 l.length)) ∧ Kept w w' (fun k => v.ownBlock = some k) := by
  obtain ⟨a, cap, rfl⟩ : ∃ a cap, v = .slice a l.length cap := by obtain ⟨-, a, cap, e, -⟩ := row_of_own ha; exact ⟨a, cap, e⟩
  have HA := hide ha
  clear ha
  go_enter Try.func47, Try.ntmps47
  go_wp2
  go_loopg [1, 5] l.length (fun q kv iv wr => ∃ (k : Nat) (m : List (ByteArray × Int)), k ≤ l.length ∧ kv = .int .i64 ((k0 + k * 2 : Nat) : Int) ∧ iv = .int .i64 (k : Int) ∧ q + k = l.length ∧ Hid (wr.ownsRow B 48 2 (.slice a l.length cap) l.length (flds m)) ∧ Hid (m.length = l.length ∧ ∀ i, i < k → m[i]? = some (markB (k0 + i * 2), ((k0 + i * 2 + 1 : Nat) : Int))) ∧ Hid (Kept w wr (fun k => (Value.slice a l.length cap).ownBlock = some k)))
  case atStart => exact ⟨0, l, Nat.zero_le _, rfl, rfl, rfl, HA, hide ⟨rfl, fun i h => by omega⟩, hide (kept_refl _ _)⟩
  case round =>
    obtain ⟨k, m, hk, rfl, rfl, hg, HOwn, HM, HK⟩ := hrel
    have HG := hide hg
    clear hg
    by_cases hlt : k < l.length
    · obtain ⟨g, rfl⟩ : ∃ g, a = some ⟨g, 0, none⟩ := by
        rcases HOwn.out.2 with ⟨e, h0⟩ | ⟨g, c, cur, e, _⟩
        · omega
        · injection e with e1; exact ⟨g, e1⟩
      have hkm : k < m.length := by rw [HM.out.1]; exact hlt
      obtain ⟨u0, u1, hu⟩ : ∃ (u0 : ByteArray) (u1 : Int), (flds m)[k * 2]? = some (.string u0) ∧ (flds m)[k * 2 + 1]? = some (.int .i64 u1) := ⟨_, _, flds_at m k hkm⟩
      obtain ⟨p, hp⟩ : ∃ p, p = k0 + k * 2 := ⟨_, rfl⟩
      have hp1 : ((k0 + k * 2 : Nat) : Int) = (p : Int) := by rw [hp]
      have hpl : p ≤ 1048576000 + 2097152 := by omega
      have HC := hide (markText_row p (by omega) (by omega))
      have HKm := hide hkm
      have HU := hide hu
      have HP := hide hp
      have hi0 : (0 : Int) ≤ (k : Int) := by omega
      have hi1 : (k : Int) < (l.length : Int) := by omega
      rw [hp1]
      clear hkm hu hp hp1
      go_wp2_with fail
      refine (HC.out _).mono ?_
      rintro e w2 ⟨rfl, hb2⟩
      have hown2 := own_stays HOwn.out hb2
      have hf0 : w2.frozen? ⟨g, k * 2, none⟩ = false := hown2.frozenAt _
      have hc0 : w2.cell? ⟨g, k * 2, none⟩ = some (.string u0) := by rw [hown2.cellAt (k * 2) (by omega), HU.out.1]
      have hown3 := (hown2.stored (k * 2) (.string (markB p))).1
      have hf1 : (w2.setCell ⟨g, k * 2, none⟩ (.string (markB p))).frozen? ⟨g, k * 2 + 1, none⟩ = false := hown3.frozenAt _
      have hc1 : (w2.setCell ⟨g, k * 2, none⟩ (.string (markB p))).cell? ⟨g, k * 2 + 1, none⟩ = some (.int .i64 u1) := by rw [hown3.cellAt (k * 2 + 1) (by omega), List.getElem?_set_ne (by omega), HU.out.2]
      have HO := hide ((hown3.stored (k * 2 + 1) (.int .i64 ((p : Int) + 1))).1)
      rw [flds_set m k _ ((p : Int) + 1) HKm.out] at HO
      have HM2 : Hid ((m.set k (markB p, (p : Int) + 1)).length = l.length ∧ ∀ i, i < k + 1 → (m.set k (markB p, (p : Int) + 1))[i]? = some (markB (k0 + i * 2), ((k0 + i * 2 + 1 : Nat) : Int))) := hide ⟨by rw [List.length_set]; exact HM.out.1, fun i hi => by
        by_cases e : k = i
        · subst e; rw [List.getElem?_set_self HKm.out, HP.out]; simp
        · rw [List.getElem?_set_ne e]; exact HM.out.2 i (by omega)⟩
      have HK2 : Hid (Kept w ((w2.setCell ⟨g, k * 2, none⟩ (.string (markB p))).setCell ⟨g, k * 2 + 1, none⟩ (.int .i64 ((p : Int) + 1))) (fun k => (Value.slice (some ⟨g, 0, none⟩) l.length cap).ownBlock = some k)) := hide (kept_trans (kept_trans (kept_trans HK.out (kept_of_all hb2 (fun _ => False)) (fun j _ h => h.elim)) (kept_setCell w2 g _ _) (fun j _ h => by rw [h]; rfl)) (kept_setCell _ g _ _) (fun j _ h => by rw [h]; rfl))
      clear hb2 hown2 hown3
      go_wp2_with fail
      go_roundg (gk - 1)
      case measure => have := HG.out; omega
      case rel => exact ⟨k + 1, _, by omega, by have := HP.out; go_num, by go_num, by have := HG.out; omega, HO, HM2, HK2⟩
    · have hkn : k = l.length := by omega
      have HO : Hid (wr.ownsRow B 48 2 (.slice a l.length cap) l.length (flds (marksF k0 l.length))) := hide (by
        have e : m = marksF k0 l.length := marksF_of k0 l.length m HM.out.1 (fun i hi => HM.out.2 i (by omega))
        rw [← e]; exact HOwn.out)
      have HKn := hide hkn
      clear hkn
      go_wp2_with fail
      go_ret
      exact ⟨by rw [HKn.out]; rfl, HO.out, HK.out⟩

set_option maxHeartbeats 2000000 in
set_option maxRecDepth 100000 in
theorem heldFieldS_row (n : Nat) (hn : n ≤ 1048576) (v : Value) (k0 : Nat) (hk0 : 0 < k0) (hk1 : k0 ≤ 1048576000) (w : World) (ha : RowAt w 2 v n (flds (marksF k0 n))) :
    Calls Try.prog 48 #[v, .int .i64 (k0 : Int)] w fun e w' => e = .returned (.int .i64 ((k0 + n * 2 : Nat) : Int)) ∧ Below w.heap.size w w' := by
  obtain ⟨-, a, cap, rfl, h2⟩ := ha
  have HR := hide h2
  clear h2
  go_enter Try.func48, Try.ntmps48
  go_wp2
  go_loopg [1, 5] n (fun q kv iv wr => ∃ k : Nat, k ≤ n ∧ kv = .int .i64 ((k0 + k * 2 : Nat) : Int) ∧ iv = .int .i64 (k : Int) ∧ q + k = n ∧ Below w.heap.size w wr)
  case atStart => exact ⟨0, Nat.zero_le _, rfl, rfl, rfl, Below.refl _ _⟩
  case round =>
    obtain ⟨k, hk, rfl, rfl, hg, hb⟩ := hrel
    have HG := hide hg
    clear hg
    have hBw := hb.size
    by_cases hlt : k < n
    · rcases HR.out with h0 | ⟨g, off, rfl, hglt, hc⟩
      · omega
      · obtain ⟨p, hp⟩ : ∃ p, p = k0 + k * 2 := ⟨_, rfl⟩
        have hp1 : ((k0 + k * 2 : Nat) : Int) = (p : Int) := by rw [hp]
        have hpl : p ≤ 1048576000 + 2097152 := by omega
        have HC := hide (markText_row p (by omega) (by omega))
        obtain ⟨x, hx⟩ : ∃ x : ByteArray, x = markB p := ⟨_, rfl⟩
        have hc0 : wr.cell? ⟨g, off + k * 2, none⟩ = some (.string x) := by rw [hb.cell (by exact hglt), hc (k * 2) (by omega), (marksF_at k0 n k hlt).1, hx, hp]
        have hc1 : wr.cell? ⟨g, off + k * 2 + 1, none⟩ = some (.int .i64 ((p : Int) + 1)) := by rw [hb.cell (by exact hglt), Nat.add_assoc, hc (k * 2 + 1) (by omega), (marksF_at k0 n k hlt).2, hp]; simp
        have hi0 : (0 : Int) ≤ (k : Int) := by omega
        have hi1 : (k : Int) < (n : Int) := by omega
        rw [← hx] at HC
        have hgw : g < wr.heap.size := by omega
        have HP := hide hp
        rw [hp1]
        clear hx hc hp hp1
        go_wp2_with fail
        go_region_held3 (fun w' => w'.cell? ⟨g, off + k * 2, none⟩ = some (.string x) ∧ w'.cell? ⟨g, off + k * 2 + 1, none⟩ = some (.int .i64 ((p : Int) + 1))) (first | exact ⟨hc0, hc1⟩ | exact hc2) ((go_at_call 93; refine (HC.out _).mono ?_; rintro e w2 ⟨rfl, hbw⟩; have hc2 : w2.cell? ⟨g, off + k * 2, none⟩ = some (.string x) ∧ w2.cell? ⟨g, off + k * 2 + 1, none⟩ = some (.int .i64 ((p : Int) + 1)) := ⟨(hbw.cell (by exact hgw)).trans hc0, (hbw.cell (by exact hgw)).trans hc1⟩))
        all_goals (have hb3 : Below w.heap.size w w2 := hb.trans ((Below.refl _ _).drew.trans (hbw.mono hBw)))
        all_goals (have hc3 := hc2.2)
        all_goals clear hbw
        all_goals go_wp2_with fail
        all_goals go_roundg (gk - 1)
        case measure => have := HG.out; omega
        case rel => exact ⟨k + 1, by omega, by have := HP.out; go_num, by go_num, by have := HG.out; omega, hb3⟩
    · have hkn : k = n := by omega
      have HK := hide hkn
      clear hkn
      go_wp2_with fail
      go_ret
      exact ⟨by rw [HK.out]; rfl, hb⟩
end Go.Proofs.Ytjldcbnoomcloaa
