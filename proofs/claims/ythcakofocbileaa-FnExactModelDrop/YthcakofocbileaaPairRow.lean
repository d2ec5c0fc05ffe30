/-
  Rows of pairs (a key and a value each), and the laws' own helpers over them by contracts: eqPairS, markPairS, heldPairS.
-/
import Derived.Test.YthcakofocbileaaAlSpec
import Derived.Test.YthcakofocbileaaFrame
import Derived.Deep.RegionHeld3
namespace Go.Proofs.Ythcakofocbileaa
open Go.RowKit

theorem prs_cons (p : ByteArray × ByteArray) (l : List (ByteArray × ByteArray)) : prs (p :: l) = Value.string p.1 :: .string p.2 :: prs l := rfl

theorem prs_at (l : List (ByteArray × ByteArray)) : ∀ k (h : k < l.length), (prs l)[k * 2]? = some (.string l[k].1) ∧ (prs l)[k * 2 + 1]? = some (.string l[k].2) := by
  induction l with
  | nil => intro k h; simp at h
  | cons p l ih =>
    intro k h
    cases k with
    | zero => exact ⟨rfl, rfl⟩
    | succ k =>
      rw [prs_cons, show (k + 1) * 2 = k * 2 + 1 + 1 from by omega]
      exact ih k (by simpa using h)

theorem prs_set (l : List (ByteArray × ByteArray)) : ∀ (k : Nat) (p : ByteArray) (x : ByteArray), k < l.length → ((prs l).set (k * 2) (.string p)).set (k * 2 + 1) (.string x) = prs (l.set k (p, x)) := by
  induction l with
  | nil => intro k p x h; simp at h
  | cons q l ih =>
    intro k p x h
    cases k with
    | zero => rfl
    | succ k =>
      rw [prs_cons, show (k + 1) * 2 = k * 2 + 1 + 1 from by omega, List.set_cons_succ, List.set_cons_succ, List.set_cons_succ, List.set_cons_succ, ih k p x (by simpa using h), List.set_cons_succ, prs_cons]

set_option maxHeartbeats 2000000 in
set_option maxRecDepth 100000 in
theorem eqPair_any (p q t u : ByteArray) (w : World) :
    Calls Try.prog 37 #[.agg #[.string p, .string t], .agg #[.string q, .string u]] w fun e w' => e = .returned (.bool (decide ((p, t) = (q, u)))) ∧ Below w.heap.size w w' := by
  have hbB : ∀ o o' : Obj, Below w.heap.size w ((w.alloc o).alloc o') := fun o o' => ((Below.refl w.heap.size w).alloc (Nat.le_refl _) _).alloc (by simp) _
  have HB := hide hbB
  clear hbB
  have hbp := ba_beq p q
  have hbq := ba_beq t u
  by_cases hp : p = q
  · rw [decide_eq_true hp] at hbp
    by_cases ht : t = u
    · have HD : Hid (decide ((p, t) = (q, u)) = true) := hide (by subst ht hp; simp)
      rw [decide_eq_true ht] at hbq
      clear ht hp
      go_enter Try.func37, Try.ntmps37
      go_wp2
      go_ret
      rw [HD.out]
      exact ⟨rfl, HB.out _ _⟩
    · have HD : Hid (decide ((p, t) = (q, u)) = false) := hide (by simp [ht])
      rw [decide_eq_false ht] at hbq
      clear ht hp
      go_enter Try.func37, Try.ntmps37
      go_wp2
      go_ret
      rw [HD.out]
      exact ⟨rfl, HB.out _ _⟩
  · have HD : Hid (decide ((p, t) = (q, u)) = false) := hide (by simp [hp])
    rw [decide_eq_false hp] at hbp
    clear hp
    go_enter Try.func37, Try.ntmps37
    go_wp2
    go_ret
    rw [HD.out]
    exact ⟨rfl, HB.out _ _⟩

set_option maxHeartbeats 2000000 in
set_option maxRecDepth 100000 in
theorem eqPairS_row (l m : List (ByteArray × ByteArray)) (hl : l.length ≤ 9223372036854775807) (_hm : m.length ≤ 9223372036854775807) (v u : Value) (w : World) (hr : RowAt w 2 v l.length (prs l)) (hq : RowAt w 2 u m.length (prs m)) :
    Calls Try.prog 21 #[v, u] w fun e w' => e = .returned (.bool (decide (l = m))) ∧ Below w.heap.size w w' := by
  obtain ⟨-, a, cap, rfl, h2⟩ := hr
  obtain ⟨-, a', cap', rfl, h3⟩ := hq
  have HR := hide h2
  have HQ := hide h3
  clear h2 h3
  by_cases hne : l.length = m.length
  · have HN := hide hne
    rw [← hne]
    clear hne
    go_enter Try.func21, Try.ntmps21
    go_wp2
    go_loopg [5] l.length (fun q iv wr => ∃ k : Nat, k ≤ l.length ∧ iv = .int .i64 (k : Int) ∧ q + k = l.length ∧ Hid (l.take k = m.take k) ∧ Below w.heap.size w wr)
    case atStart => exact ⟨0, Nat.zero_le _, rfl, rfl, hide (by simp), Below.refl _ _⟩
    case round =>
      obtain ⟨k, hk, rfl, hg, HT, hb⟩ := hrel
      have HG := hide hg
      clear hg
      by_cases hlt : k < l.length
      · rcases HR.out with hn0 | ⟨b, off, rfl, hbl, hc⟩
        · omega
        · rcases HQ.out with hn0 | ⟨b', off', rfl, hbl', hc'⟩
          · have := HN.out; omega
          · have hltm : k < m.length := by have := HN.out; omega
            obtain ⟨p, x, hx⟩ : ∃ p x, (p, x) = l[k] := ⟨_, _, rfl⟩
            obtain ⟨q, y, hy⟩ : ∃ q y, (q, y) = m[k] := ⟨_, _, rfl⟩
            have hc0 : wr.cell? ⟨b, off + k * 2, none⟩ = some (.string p) := by rw [hb.cell (by exact hbl), hc (k * 2) (by omega), (prs_at l k hlt).1, ← hx]
            have hc1 : wr.cell? ⟨b, off + k * 2 + 1, none⟩ = some (.string x) := by rw [hb.cell (by exact hbl), Nat.add_assoc, hc (k * 2 + 1) (by omega), (prs_at l k hlt).2, ← hx]
            have hd0 : wr.cell? ⟨b', off' + k * 2, none⟩ = some (.string q) := by rw [hb.cell (by exact hbl'), hc' (k * 2) (by omega), (prs_at m k hltm).1, ← hy]
            have hd1 : wr.cell? ⟨b', off' + k * 2 + 1, none⟩ = some (.string y) := by rw [hb.cell (by exact hbl'), Nat.add_assoc, hc' (k * 2 + 1) (by omega), (prs_at m k hltm).2, ← hy]
            have HX := hide hx
            have HY := hide hy
            have hk0 : (0 : Int) ≤ (k : Int) := by omega
            have hk1 : (k : Int) < (l.length : Int) := by omega
            have hbw : b < wr.heap.size := Nat.lt_of_lt_of_le hbl hb.size
            have hbw' : b' < wr.heap.size := Nat.lt_of_lt_of_le hbl' hb.size
            clear hc hc' hx hy
            by_cases hxy : (p, x) = (q, y)
            · have HT2 : Hid (l.take (k + 1) = m.take (k + 1)) := hide (by rw [List.take_succ_eq_append_getElem hlt, List.take_succ_eq_append_getElem hltm, HT.out, ← HX.out, ← HY.out, hxy])
              have HC := hide (eqPair_any p q x y)
              rw [decide_eq_true hxy] at HC
              clear hxy
              go_wp2_with fail
              go_region_held3 (fun wx => wx.cell? ⟨b, off + k * 2, none⟩ = some (.string p) ∧ wx.cell? ⟨b, off + k * 2 + 1, none⟩ = some (.string x) ∧ wx.cell? ⟨b', off' + k * 2, none⟩ = some (.string q) ∧ wx.cell? ⟨b', off' + k * 2 + 1, none⟩ = some (.string y)) (first | exact ⟨hc0, hc1, hd0, hd1⟩ | exact hS2) ((go_at_call 37; refine (HC.out _).mono ?_; rintro e w2 ⟨rfl, hb2⟩; have hS2 : w2.cell? ⟨b, off + k * 2, none⟩ = some (.string p) ∧ w2.cell? ⟨b, off + k * 2 + 1, none⟩ = some (.string x) ∧ w2.cell? ⟨b', off' + k * 2, none⟩ = some (.string q) ∧ w2.cell? ⟨b', off' + k * 2 + 1, none⟩ = some (.string y) := ⟨(hb2.cell (by exact hbw)).trans hc0, (hb2.cell (by exact hbw)).trans hc1, (hb2.cell (by exact hbw')).trans hd0, (hb2.cell (by exact hbw')).trans hd1⟩))
              all_goals
                have hb3 : Below w.heap.size w w2 := hb.trans ((Below.refl _ _).drew.trans (hb2.mono hb.size))
                clear hb2
                go_wp2_with fail
                go_roundg (gk - 1)
                case measure => have := HG.out; omega
                case rel => exact ⟨k + 1, by omega, by go_num, by have := HG.out; omega, HT2, hb3⟩
            · have HD := hide (list_ne hlt hltm (by rw [← HX.out, ← HY.out]; exact hxy))
              have HC := hide (eqPair_any p q x y)
              rw [decide_eq_false hxy] at HC
              clear hxy
              go_wp2_with fail
              go_region_held3 (fun wx => wx.cell? ⟨b, off + k * 2, none⟩ = some (.string p) ∧ wx.cell? ⟨b, off + k * 2 + 1, none⟩ = some (.string x) ∧ wx.cell? ⟨b', off' + k * 2, none⟩ = some (.string q) ∧ wx.cell? ⟨b', off' + k * 2 + 1, none⟩ = some (.string y)) (first | exact ⟨hc0, hc1, hd0, hd1⟩ | exact hS2) ((go_at_call 37; refine (HC.out _).mono ?_; rintro e w2 ⟨rfl, hb2⟩; have hS2 : w2.cell? ⟨b, off + k * 2, none⟩ = some (.string p) ∧ w2.cell? ⟨b, off + k * 2 + 1, none⟩ = some (.string x) ∧ w2.cell? ⟨b', off' + k * 2, none⟩ = some (.string q) ∧ w2.cell? ⟨b', off' + k * 2 + 1, none⟩ = some (.string y) := ⟨(hb2.cell (by exact hbw)).trans hc0, (hb2.cell (by exact hbw)).trans hc1, (hb2.cell (by exact hbw')).trans hd0, (hb2.cell (by exact hbw')).trans hd1⟩))
              all_goals
                have hb3 : Below w.heap.size w w2 := hb.trans ((Below.refl _ _).drew.trans (hb2.mono hb.size))
                clear hb2
                go_wp2_with fail
                go_ret
                rw [HD.out]
                exact ⟨rfl, hb3⟩
      · have HD : Hid (decide (l = m) = true) := hide (decide_eq_true (by
          have h1 := HT.out
          rw [List.take_of_length_le (by omega), List.take_of_length_le (by have := HN.out; omega)] at h1
          exact h1))
        go_wp2
        go_ret
        rw [HD.out]
        exact ⟨rfl, hb⟩
  · have HD : Hid (decide (l = m) = false) := hide (decide_eq_false (fun e => hne (by rw [e])))
    have hq1 : ¬ ((l.length : Int) = (m.length : Int)) := by omega
    clear hne
    go_enter Try.func21, Try.ntmps21
    go_wp2
    go_ret
    rw [HD.out]
    exact ⟨rfl, Below.refl _ _⟩

/-- the marks of pairs from k on, n of them -/
def marksQ (k n : Nat) : List (ByteArray × ByteArray) := (List.range n).map fun i => (markB (k + i * 2), markB (k + i * 2 + 1))

theorem marksQ_length (k n : Nat) : (marksQ k n).length = n := by simp [marksQ]

theorem marksQ_at (k n i : Nat) (h : i < n) : (prs (marksQ k n))[i * 2]? = some (.string (markB (k + i * 2))) ∧ (prs (marksQ k n))[i * 2 + 1]? = some (.string (markB (k + i * 2 + 1))) := by
  have := prs_at (marksQ k n) i (by rw [marksQ_length]; exact h)
  simpa [marksQ] using this

theorem marksQ_of (k n : Nat) (m : List (ByteArray × ByteArray)) (hl : m.length = n) (h : ∀ i, i < n → m[i]? = some (markB (k + i * 2), markB (k + i * 2 + 1))) : m = marksQ k n := by
  apply List.ext_getElem?
  intro i
  by_cases hi : i < n
  · rw [h i hi]; simp [marksQ, hi]
  · rw [List.getElem?_eq_none (by omega), List.getElem?_eq_none (by rw [marksQ_length]; omega)]

set_option maxHeartbeats 2000000 in
set_option maxRecDepth 100000 in
theorem markPairS_big (l : List (ByteArray × ByteArray)) (hl : l.length ≤ 2000000) (v : Value) (B k0 : Nat) (hk0 : 0 < k0) (hk1 : k0 ≤ 1048576000) (w : World) (ha : w.ownsRow B 30 2 v l.length (prs l)) :
    Calls Try.prog 22 #[v, .int .i64 (k0 : Int)] w fun e w' => e = .returned (.int .i64 ((k0 + l.length * 2 : Nat) : Int)) ∧ w'.ownsRow B 30 2 v l.length (prs (marksQ k0 l.length)) ∧ Kept w w' (fun k => v.ownBlock = some k) := by
  obtain ⟨a, cap, rfl⟩ : ∃ a cap, v = .slice a l.length cap := by obtain ⟨-, a, cap, e, -⟩ := row_of_own ha; exact ⟨a, cap, e⟩
  have HA := hide ha
  clear ha
  go_enter Try.func22, Try.ntmps22
  go_wp2
  go_loopg [1, 5] l.length (fun q kv iv wr => ∃ (k : Nat) (m : List (ByteArray × ByteArray)), k ≤ l.length ∧ kv = .int .i64 ((k0 + k * 2 : Nat) : Int) ∧ iv = .int .i64 (k : Int) ∧ q + k = l.length ∧ Hid (wr.ownsRow B 30 2 (.slice a l.length cap) l.length (prs m)) ∧ Hid (m.length = l.length ∧ ∀ i, i < k → m[i]? = some (markB (k0 + i * 2), markB (k0 + i * 2 + 1))) ∧ Hid (Kept w wr (fun k => (Value.slice a l.length cap).ownBlock = some k)))
  case atStart => exact ⟨0, l, Nat.zero_le _, rfl, rfl, rfl, HA, hide ⟨rfl, fun i h => by omega⟩, hide (kept_refl _ _)⟩
  case round =>
    obtain ⟨k, m, hk, rfl, rfl, hg, HOwn, HM, HK⟩ := hrel
    have HG := hide hg
    clear hg
    by_cases hlt : k < l.length
    · obtain ⟨g, rfl⟩ : ∃ g, a = some ⟨g, 0, none⟩ := by
        rcases HOwn.out.2 with ⟨e, h0⟩ | ⟨g, c, cur, e, _⟩
        · omega
        · injection e with e1; exact ⟨g, e1⟩
      have hkm : k < m.length := by rw [HM.out.1]; exact hlt
      obtain ⟨u0, u1, hu⟩ : ∃ (u0 : ByteArray) (u1 : ByteArray), (prs m)[k * 2]? = some (.string u0) ∧ (prs m)[k * 2 + 1]? = some (.string u1) := ⟨_, _, prs_at m k hkm⟩
      obtain ⟨p, hp⟩ : ∃ p, p = k0 + k * 2 := ⟨_, rfl⟩
      have hp1 : ((k0 + k * 2 : Nat) : Int) = (p : Int) := by rw [hp]
      have hpl : p ≤ 1048576000 + 4000000 := by omega
      have HC0 := hide (markText_row p (by omega) (by omega))
      have HC := hide (markText_row (p + 1) (by omega) (by omega))
      rw [show ((p + 1 : Nat) : Int) = (p : Int) + 1 from by omega] at HC
      have HKm := hide hkm
      have HU := hide hu
      have HP := hide hp
      have hi0 : (0 : Int) ≤ (k : Int) := by omega
      have hi1 : (k : Int) < (l.length : Int) := by omega
      rw [hp1]
      clear hkm hu hp hp1
      go_wp2_with fail
      refine (HC0.out _).mono ?_
      rintro e w1 ⟨rfl, hb1⟩
      have hown1 := own_stays HOwn.out hb1
      have hf0 : w1.frozen? ⟨g, k * 2, none⟩ = false := hown1.frozenAt _
      have hc0 : w1.cell? ⟨g, k * 2, none⟩ = some (.string u0) := by rw [hown1.cellAt (k * 2) (by omega), HU.out.1]
      have HOw1 := hide ((hown1.stored (k * 2) (.string (markB p))).1)
      have HB1 := hide hb1
      clear hown1 hb1
      go_wp2_with fail
      refine (HC.out _).mono ?_
      rintro e w2 ⟨rfl, hb2⟩
      have hown2 := own_stays HOw1.out hb2
      have hf1 : w2.frozen? ⟨g, k * 2 + 1, none⟩ = false := hown2.frozenAt _
      have hc1 : w2.cell? ⟨g, k * 2 + 1, none⟩ = some (.string u1) := by rw [hown2.cellAt (k * 2 + 1) (by omega), List.getElem?_set_ne (by omega), HU.out.2]
      have HO := hide ((hown2.stored (k * 2 + 1) (.string (markB (p + 1)))).1)
      rw [prs_set m k _ _ HKm.out] at HO
      have HM2 : Hid ((m.set k (markB p, markB (p + 1))).length = l.length ∧ ∀ i, i < k + 1 → (m.set k (markB p, markB (p + 1)))[i]? = some (markB (k0 + i * 2), markB (k0 + i * 2 + 1))) := hide ⟨by rw [List.length_set]; exact HM.out.1, fun i hi => by
        by_cases e : k = i
        · subst e; rw [List.getElem?_set_self HKm.out, HP.out]
        · rw [List.getElem?_set_ne e]; exact HM.out.2 i (by omega)⟩
      have HK2 : Hid (Kept w (w2.setCell ⟨g, k * 2 + 1, none⟩ (.string (markB (p + 1)))) (fun k => (Value.slice (some ⟨g, 0, none⟩) l.length cap).ownBlock = some k)) := hide (kept_trans (kept_trans (kept_trans (kept_trans HK.out (kept_of_all HB1.out (fun _ => False)) (fun j _ h => h.elim)) (kept_setCell w1 g (k * 2) _) (fun j _ h => by rw [h]; rfl)) (kept_of_all hb2 (fun _ => False)) (fun j _ h => h.elim)) (kept_setCell w2 g _ _) (fun j _ h => by rw [h]; rfl))
      clear hc0 hf0
      clear hb2 hown2
      go_wp2_with fail
      go_roundg (gk - 1)
      case measure => have := HG.out; omega
      case rel => exact ⟨k + 1, _, by omega, by have := HP.out; go_num, by go_num, by have := HG.out; omega, HO, HM2, HK2⟩
    · have hkn : k = l.length := by omega
      have HO : Hid (wr.ownsRow B 30 2 (.slice a l.length cap) l.length (prs (marksQ k0 l.length))) := hide (by
        have e : m = marksQ k0 l.length := marksQ_of k0 l.length m HM.out.1 (fun i hi => HM.out.2 i (by omega))
        rw [← e]; exact HOwn.out)
      have HKn := hide hkn
      clear hkn
      go_wp2_with fail
      go_ret
      exact ⟨by rw [HKn.out]; rfl, HO.out, HK.out⟩

set_option maxHeartbeats 2000000 in
set_option maxRecDepth 100000 in
theorem heldPairS_big (n : Nat) (hn : n ≤ 2000000) (v : Value) (k0 : Nat) (hk0 : 0 < k0) (hk1 : k0 ≤ 1048576000) (w : World) (ha : RowAt w 2 v n (prs (marksQ k0 n))) :
    Calls Try.prog 23 #[v, .int .i64 (k0 : Int)] w fun e w' => e = .returned (.int .i64 ((k0 + n * 2 : Nat) : Int)) ∧ Below w.heap.size w w' := by
  obtain ⟨-, a, cap, rfl, h2⟩ := ha
  have HR := hide h2
  clear h2
  go_enter Try.func23, Try.ntmps23
  go_wp2
  go_loopg [1, 5] n (fun q kv iv wr => ∃ k : Nat, k ≤ n ∧ kv = .int .i64 ((k0 + k * 2 : Nat) : Int) ∧ iv = .int .i64 (k : Int) ∧ q + k = n ∧ Below w.heap.size w wr)
  case atStart => exact ⟨0, Nat.zero_le _, rfl, rfl, rfl, Below.refl _ _⟩
  case round =>
    obtain ⟨k, hk, rfl, rfl, hg, hb⟩ := hrel
    have HG := hide hg
    clear hg
    have hBw := hb.size
    by_cases hlt : k < n
    · rcases HR.out with h0 | ⟨g, off, rfl, hglt, hc⟩
      · omega
      · obtain ⟨p, hp⟩ : ∃ p, p = k0 + k * 2 := ⟨_, rfl⟩
        have hp1 : ((k0 + k * 2 : Nat) : Int) = (p : Int) := by rw [hp]
        have hpl : p ≤ 1048576000 + 4000000 := by omega
        have HC0 := hide (markText_row p (by omega) (by omega))
        have HC := hide (markText_row (p + 1) (by omega) (by omega))
        rw [show ((p + 1 : Nat) : Int) = (p : Int) + 1 from by omega] at HC
        obtain ⟨x0, hx0⟩ : ∃ x : ByteArray, x = markB p := ⟨_, rfl⟩
        obtain ⟨x, hx⟩ : ∃ x : ByteArray, x = markB (p + 1) := ⟨_, rfl⟩
        have hcell : ∀ wx, Below w.heap.size w wx → wx.cell? ⟨g, off + k * 2, none⟩ = some (.string x0) ∧ wx.cell? ⟨g, off + k * 2 + 1, none⟩ = some (.string x) := fun wx hbx => ⟨by rw [hbx.cell (by exact hglt), hc (k * 2) (by omega), (marksQ_at k0 n k hlt).1, hx0, hp], by rw [hbx.cell (by exact hglt), Nat.add_assoc, hc (k * 2 + 1) (by omega), (marksQ_at k0 n k hlt).2, hx, hp]⟩
        have HCe := hide hcell
        have hi0 : (0 : Int) ≤ (k : Int) := by omega
        have hi1 : (k : Int) < (n : Int) := by omega
        rw [← hx0] at HC0
        rw [← hx] at HC
        have HP := hide hp
        have hbe0 := ba_beq x0 x0
        have hbe1 := ba_beq x x
        rw [decide_eq_true rfl] at hbe0 hbe1
        rw [hp1]
        have hc0 := (hcell wr hb).1
        clear hx hx0 hc hp hp1 hcell
        go_wp2_with fail
        go_region_held3 (fun w' => w'.cell? ⟨g, off + k * 2, none⟩ = some (.string x0)) (first | go_keep | exact hc2) ((go_at_call 38; refine (HC0.out _).mono ?_; rintro e w2 ⟨rfl, hbw⟩; have hb2 : Below w.heap.size w w2 := hb.trans ((Below.refl _ _).drew.trans (hbw.mono hBw)); have hc2 : w2.cell? ⟨g, off + k * 2, none⟩ = some (.string x0) := (HCe.out w2 hb2).1))
        all_goals
          have hBw2 := hb2.size
          have hc1 := (HCe.out w2 hb2).2
          clear hbw hc2
          go_wp2_with fail
          go_region_held3 (fun w' => w'.cell? ⟨g, off + k * 2 + 1, none⟩ = some (.string x)) (first | go_keep | exact hc3) ((go_at_call 38; refine (HC.out _).mono ?_; rintro e w3 ⟨rfl, hbv⟩; have hb3 : Below w.heap.size w w3 := hb2.trans ((Below.refl _ _).drew.trans (hbv.mono hBw2)); have hc3 : w3.cell? ⟨g, off + k * 2 + 1, none⟩ = some (.string x) := (HCe.out w3 hb3).2))
          all_goals
            clear hbv hc3
            go_wp2_with fail
            go_roundg (gk - 1)
            case measure => have := HG.out; omega
            case rel => exact ⟨k + 1, by omega, by have := HP.out; go_num, by go_num, by have := HG.out; omega, hb3⟩
    · have hkn : k = n := by omega
      have HK := hide hkn
      clear hkn
      go_wp2_with fail
      go_ret
      exact ⟨by rw [HK.out]; rfl, hb⟩

theorem markPairS_row (l : List (ByteArray × ByteArray)) (hl : l.length ≤ 1048576) (v : Value) (B k0 : Nat) (hk0 : 0 < k0) (hk1 : k0 ≤ 1048576000) (w : World) (ha : w.ownsRow B 30 2 v l.length (prs l)) :
    Calls Try.prog 22 #[v, .int .i64 (k0 : Int)] w fun e w' => e = .returned (.int .i64 ((k0 + l.length * 2 : Nat) : Int)) ∧ w'.ownsRow B 30 2 v l.length (prs (marksQ k0 l.length)) ∧ Kept w w' (fun k => v.ownBlock = some k) :=
  markPairS_big l (by omega) v B k0 hk0 hk1 w ha

theorem heldPairS_row (n : Nat) (hn : n ≤ 1048576) (v : Value) (k0 : Nat) (hk0 : 0 < k0) (hk1 : k0 ≤ 1048576000) (w : World) (ha : RowAt w 2 v n (prs (marksQ k0 n))) :
    Calls Try.prog 23 #[v, .int .i64 (k0 : Int)] w fun e w' => e = .returned (.int .i64 ((k0 + n * 2 : Nat) : Int)) ∧ Below w.heap.size w w' :=
  heldPairS_big n (by omega) v k0 hk0 hk1 w ha

end Go.Proofs.Ythcakofocbileaa
