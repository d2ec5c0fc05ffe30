/-
  Facts and contracts that the law's own text rests on, by their texts' names: SpecScript, LawReadScriptW.
-/
import Derived.OwnWalk
import Derived.Test.YtmmepgincbngeaaDoorRs7
import Derived.Test.YtmmepgincbngeaaDoorRs11
import Derived.Test.YtmmepgincbngeaaDoorRs4
namespace Go.Proofs.YtmmepgincbngeaaDoor
open Go.RowKit
theorem Tryd.infoEvE : (Tryd.prog.info? 35).map (fun i => (i.zero, i.size, i.bytes)) = some (some (.agg #[.int .i64 0, .int .i64 0, .string ⟨#[]⟩, .string ⟨#[]⟩, .int .i64 0, .slice none 0 0, .int .i64 0]), 7, 88) := by kernel_rfl
theorem fieldsGo_in : ∀ (l cur : List UInt8), ∀ x ∈ Lib.fieldsGo cur l, x ≠ [] ∧ x.length ≤ cur.length + l.length
  | [], cur, x, h => by
    rw [Lib.fieldsGo] at h
    cases hc : cur.isEmpty with
    | true => rw [hc] at h; simp at h
    | false =>
      rw [hc] at h
      simp at h
      subst h
      exact ⟨fun e => by rw [e] at hc; simp at hc, by simp⟩
  | b :: l, cur, x, h => by
    rw [Lib.fieldsGo] at h
    by_cases hs : Lib.isSp b = true
    · rw [if_pos hs] at h
      cases hc : cur.isEmpty with
      | true =>
        rw [hc, if_pos rfl] at h
        have := fieldsGo_in l [] x h
        exact ⟨this.1, by have := this.2; simp at this ⊢; omega⟩
      | false =>
        rw [hc, if_neg (by decide)] at h
        rcases List.mem_cons.1 h with rfl | h
        · exact ⟨fun e => by rw [e] at hc; simp at hc, by simp⟩
        · have := fieldsGo_in l [] x h
          exact ⟨this.1, by have := this.2; simp at this ⊢; omega⟩
    · rw [if_neg hs] at h
      have := fieldsGo_in l (cur ++ [b]) x h
      exact ⟨this.1, by have := this.2; simp at this ⊢; omega⟩
theorem parts_in (l : List UInt8) : (partsOut (ba l)).1.length ≤ 10 ∧ ∀ x ∈ (partsOut (ba l)).1, x ≠ [] ∧ x.length ≤ 600 := by
  unfold partsOut
  split
  · rename_i h
    refine ⟨h.2.2, fun x hx => ?_⟩
    have h1 := fieldsGo_in _ _ x hx
    refine ⟨h1.1, Nat.le_trans h1.2 ?_⟩
    have : (ba l).data.toList.length = (ba l).size := by rw [Array.length_toList]; rfl
    rw [this]
    simpa using h.1
  · exact ⟨Nat.zero_le _, fun x hx => by cases hx⟩
theorem bitsO_len {l : List UInt8} {bs : List Bool} (h : bitsO l = some bs) : bs.length ≤ l.length := by
  unfold bitsO at h
  split at h
  · injection h with h; subst h; simp
  · split at h
    · injection h with h; subst h; simp
    · cases h
theorem evOf_small {p : List (List UInt8)} (hp : ∀ x ∈ p, x.length ≤ 600) {ev : Evt} (h : evOf p = some ev) : ev.key.size ≤ 600 ∧ ev.val.size ≤ 600 ∧ ev.left.length ≤ 600 := by
  have hd : ∀ j, (p.getD j []).length ≤ 600 := fun j => by
    rw [List.getD_eq_getElem?_getD]
    cases h : p[j]? with
    | none => simp
    | some x => exact hp x (List.mem_of_getElem? h)
  have hb : ∀ j, (ba (p.getD j [])).size ≤ 600 := fun j => by rw [ba_size]; exact hd j
  have h0 : (⟨#[]⟩ : ByteArray).size ≤ 600 := Nat.zero_le _
  rw [evOf] at h
  obtain ⟨i, -, h⟩ := Option.bind_eq_some_iff.1 h
  unfold evAt at h
  split at h
  · injection h with h; subst h; exact ⟨hb 1, hb 2, Nat.zero_le _⟩
  · injection h with h; subst h; exact ⟨hb 1, h0, Nat.zero_le _⟩
  · obtain ⟨n, -, h⟩ := Option.map_eq_some_iff.1 h; subst h; exact ⟨h0, h0, Nat.zero_le _⟩
  · obtain ⟨n, -, h⟩ := Option.map_eq_some_iff.1 h; subst h; exact ⟨hb 2, h0, Nat.zero_le _⟩
  · obtain ⟨n, -, h⟩ := Option.map_eq_some_iff.1 h; subst h; exact ⟨h0, h0, Nat.zero_le _⟩
  · obtain ⟨n, -, h⟩ := Option.bind_eq_some_iff.1 h
    obtain ⟨bs, hbs, h⟩ := Option.map_eq_some_iff.1 h
    subst h
    exact ⟨h0, h0, Nat.le_trans (bitsO_len hbs) (hd 2)⟩
  · injection h with h; subst h; exact ⟨h0, h0, Nat.zero_le _⟩
theorem kept_appE {W w' : World} {o : Obj} {v : Value} (hg : (W.alloc o).grownBy w' v.ownBlock) : Kept W w' (fun k => v.ownBlock = some k) := by
  exact ⟨hg.os, hg.tape, hg.output, Nat.le_trans (by simp) hg.size, fun k hk hn => (hg.block k (by simp; omega) (fun e => hn e.symm)).trans (heap_alloc_old W o hk)⟩
theorem evsOwn_snoc {W W' : World} {B K : Nat} {v v' : Value} {l : List (Evt × Value)} {q : Evt × Value} (h : EvsOwn W B v l) (hold : ∀ p ∈ l, ∀ b, p.2.ownBlock = some b → b < K) (hq : W.ownsRow B 4 1 q.2 q.1.left.length (bools q.1.left)) (hnew : ∀ b, q.2.ownBlock = some b → K ≤ b)
    (h1 : W'.ownsRow B 35 7 v' (l.length + 1) (evs l ++ ev7 q)) (hk : Kept W W' (fun b => v.ownBlock = some b)) : EvsOwn W' B v' (l ++ [q]) := by
  refine ⟨?_, fun p hp => ?_, fun i j p r b hi hj h2 h3 => ?_⟩
  · rw [List.length_append, evs_append]
    simpa [evs] using h1
  · rcases List.mem_append.1 hp with hp | hp
    · exact own_kept (h.2.1 p hp) hk (fun b hb e => one_type h.1 (h.2.1 p hp) Tryd.ev_bool b e hb)
    · rw [List.mem_singleton] at hp
      subst hp
      exact own_kept hq hk (fun b hb e => one_type h.1 hq Tryd.ev_bool b e hb)
  · by_cases hil : i < l.length
    · rw [List.getElem?_append_left hil] at hi
      by_cases hjl : j < l.length
      · rw [List.getElem?_append_left hjl] at hj
        exact h.2.2 i j p r b hi hj h2 h3
      · rw [List.getElem?_append_right (by omega)] at hj
        have hj2 := List.mem_of_getElem? hj
        rw [List.mem_singleton] at hj2
        subst hj2
        have h4 := hold p (List.mem_of_getElem? hi) b h2
        have h5 := hnew b h3
        omega
    · have hi2 := (List.getElem?_eq_some_iff.1 hi).1
      rw [List.length_append, List.length_singleton] at hi2
      by_cases hjl : j < l.length
      · rw [List.getElem?_append_left hjl] at hj
        rw [List.getElem?_append_right (by omega)] at hi
        have hi3 := List.mem_of_getElem? hi
        rw [List.mem_singleton] at hi3
        subst hi3
        have h4 := hold r (List.mem_of_getElem? hj) b h3
        have h5 := hnew b h2
        omega
      · have hj2 := (List.getElem?_eq_some_iff.1 hj).1
        rw [List.length_append, List.length_singleton] at hj2
        omega
theorem evs_none (w : World) (B : Nat) (hB : B ≤ w.heap.size) : EvsOwn (w.alloc (.cells #[] 35)) B (.slice (some ⟨w.heap.size, 0, none⟩) 0 0) [] := by
  refine ⟨?_, fun p hp => by (cases hp), fun i j p q b hi => by simp at hi⟩
  have h := World.ownsRow_lit (base := B) (e := 35) (size := 7) w #[] 0 hB (by unfold maxLen; omega) (by simp)
  simpa [evs] using h
theorem oneCell_ev7 (p : Evt × Value) (h : p.2.oneCell' = true) : ∀ u ∈ ev7 p, u.oneCell' = true := by
  intro u hu
  simp only [ev7, List.mem_cons, List.mem_nil_iff, or_false] at hu
  rcases hu with rfl | rfl | rfl | rfl | rfl | rfl | rfl <;> first | rfl | exact h
theorem scr_drop {L : List (List UInt8)} {i : Nat} {x : List UInt8} (h : L[i]? = some x) : L.drop i = x :: L.drop (i + 1) := by
  obtain ⟨hi, e⟩ := List.getElem?_eq_some_iff.1 h
  rw [List.drop_eq_getElem_cons hi, e]
def ScrRet (w w' : World) (r : Int × List Evt × Int) (e : Ending) : Prop := (∃ (v : Value) (l : List (Evt × Value)), e = .returned (.tuple #[.int .i64 r.1, v, .int .i64 r.2.2]) ∧ l.map Prod.fst = r.2.1 ∧ EvsOwn w' w.heap.size v l) ∧ Below w.heap.size w w'
theorem scr_mk {w w' : World} {r : Int × List Evt × Int} {e : Ending} (v : Value) (l : List (Evt × Value)) (he : e = .returned (.tuple #[.int .i64 r.1, v, .int .i64 r.2.2])) (h1 : l.map Prod.fst = r.2.1) (h2 : EvsOwn w' w.heap.size v l) (h3 : Below w.heap.size w w') : ScrRet w w' r e := ⟨⟨v, l, he, h1, h2⟩, h3⟩
set_option maxHeartbeats 32000000 in
set_option maxRecDepth 100000 in
theorem specReadScript_any (s : ByteArray) (hs : s.size ≤ 1048576) (w : World) :
    Calls Tryd.prog 11 #[.string s] w fun e w' => ScrRet w w' (scrO s) e := by
  have HLn := hide (fun wx => specLines_any s hs wx)
  obtain ⟨w0, hw0⟩ : ∃ w0, w0 = w.alloc (.cells #[] 35) := ⟨_, rfl⟩
  have HNo : Hid (EvsOwn w0 w.heap.size (.slice (some ⟨w.heap.size, 0, none⟩) 0 0) []) := hide (by rw [hw0]; exact evs_none w w.heap.size (Nat.le_refl _))
  have HB0 : Hid (Below w.heap.size w w0) := hide (by rw [hw0]; exact (Below.refl _ _).alloc (Nat.le_refl _) _)
  obtain ⟨R, hR⟩ : ∃ R, R = scrO s := ⟨_, rfl⟩
  rw [← hR]
  by_cases hbig : 3000 < s.size
  · have HO : Hid (R = (0, [], -1)) := hide (by rw [hR, scrO, if_pos (Or.inl hbig)])
    clear hR
    go_enter Tryd.func11, Tryd.ntmps11
    go_wp2_with fail
    rw [← hw0]
    go_ret3
    rw [HO.out]
    exact scr_mk _ [] rfl rfl (HNo.out) (HB0.out)
  have HL := hide (show linesOf s = linesOf s from rfl)
  obtain ⟨L, hL⟩ : ∃ L, linesOf s = L := ⟨_, rfl⟩
  rw [hL] at HLn
  have hLx : ∀ x ∈ L, x.length ≤ 3000 := fun x hx => by rw [← hL] at hx; have h1 := splitL_size _ x hx; have h2 : s.data.toList.length = s.size := by rw [Array.length_toList]; rfl
                                                        omega
  have HLx := hide hLx
  obtain ⟨n, hn⟩ : ∃ n, n = L.length := ⟨_, rfl⟩
  have HSc : Hid (scrO s = if 90 < n then (0, [], -1) else scrGo L 0 0 []) := hide (by
    rw [scrO, hL, hn]
    by_cases h : 90 < L.length
    · rw [if_pos (Or.inr h), if_pos h]
    · rw [if_neg (by omega), if_neg h])
  rw [← hR] at HSc
  rw [← hn] at HLn
  have HN := hide hn
  clear hR hL hLx hn HL
  by_cases hln : 90 < n
  · rw [if_pos hln] at HSc
    go_enter Tryd.func11, Tryd.ntmps11
    go_wp2_with fail
    rw [← hw0]
    refine (HLn.out w0).mono ?_
    rintro e w1 ⟨v1, rfl, ho, hb⟩
    obtain ⟨a1, c1, rfl⟩ := own_slice ho
    have HN1 := hide (evsOwn_stays HNo.out hb)
    have HB1 : Hid (Below w.heap.size w w1) := hide (HB0.out.trans (hb.mono HB0.out.size))
    clear ho hb
    go_wp2_with fail
    go_ret3
    rw [HSc.out]
    exact scr_mk _ [] rfl rfl (HN1.out) (HB1.out)
  rw [if_neg hln] at HSc
  go_enter Tryd.func11, Tryd.ntmps11
  go_wp2_with fail
  rw [← hw0]
  clear hw0
  refine (HLn.out w0).mono ?_
  rintro e w1 ⟨v1, rfl, ho, hb⟩
  obtain ⟨a1, c1, rfl⟩ := own_slice ho
  have HN1 := hide (evsOwn_stays HNo.out hb)
  have HB1 : Hid (Below w.heap.size w w1) := hide (HB0.out.trans (hb.mono HB0.out.size))
  clear ho hb HNo HB0
  go_wp2_with fail
  refine (HLn.out w1).mono ?_
  rintro e w2 ⟨v2, rfl, ho, hb⟩
  obtain ⟨a2, c2, rfl⟩ := own_slice ho
  have HRw := hide (row_of_own ho)
  have HN2 := hide (evsOwn_stays HN1.out hb)
  have HB2 : Hid (Below w.heap.size w w2) := hide (HB1.out.trans (hb.mono HB1.out.size))
  clear ho hb HN1 HB1 HLn
  obtain ⟨B2, hB2⟩ : ∃ b, b = w2.heap.size := ⟨_, rfl⟩
  obtain ⟨w3, hw3⟩ : ∃ wx, wx = w2.alloc (.cells #[] 35) := ⟨_, rfl⟩
  have HO3 : Hid (EvsOwn w3 B2 (.slice (some ⟨B2, 0, none⟩) 0 0) []) := hide (by rw [hw3, hB2]; exact evs_none w2 w2.heap.size (Nat.le_refl _))
  have HB3 : Hid (Below B2 w2 w3) := hide (by rw [hw3, hB2]; exact (Below.refl _ _).alloc (Nat.le_refl _) _)
  have HBs : Hid (B2 = w2.heap.size ∧ w.heap.size ≤ B2) := hide ⟨hB2, by rw [hB2]; exact HB2.out.size⟩
  have HCl : Hid (∀ wx, Below B2 w2 wx → ∀ i, i < n → ∃ b off x, a2 = some ⟨b, off, none⟩ ∧ wx.cell? ⟨b, off + i, none⟩ = some (.string (ba x)) ∧ L[i]? = some x) := hide (fun wx hb i hi => by
    obtain ⟨-, ap, cp, e, hrow⟩ := HRw.out
    injection e with e _ _
    subst e
    rcases hrow with h0 | ⟨b, off, rfl, hbl, hc⟩
    · omega
    · have hx : L[i]? = some (L[i]'(by rw [← HN.out]; exact hi)) := List.getElem?_eq_getElem _
      refine ⟨b, off, _, rfl, ?_, hx⟩
      rw [hb.cell (by rw [HBs.out.1]; exact hbl), hc i (by omega), strVs, List.getElem?_map, hx]
      rfl)
  go_upto_region 7 with fail
  rw [← hw3, ← hB2]
  clear hw3 hB2
  go_wp2_with fail
  go_loopg [7, 8, 9] n (fun q pv ov iv wr => ∃ (i : Nat) (pg : Int) (l : List (Evt × Value)), i ≤ n ∧ q + i = n ∧ iv = .int .i64 (i : Int) ∧ pv = .int .i64 pg ∧ Hid (R = scrGo (L.drop i) i pg (l.map Prod.fst)) ∧ l.length ≤ 70 ∧ Hid (EvsOwn wr B2 ov l) ∧ Hid (Below B2 w2 wr))
  case atStart => exact ⟨0, 0, [], Nat.zero_le _, rfl, rfl, rfl, HSc, Nat.zero_le _, HO3, HB3⟩
  case round =>
    clear HO3 HB3 HSc
    obtain ⟨i, pg, l, hi, hq, rfl, rfl, HR, hll, HOw, HB⟩ := hrel
    have HQ := hide hq
    clear hq
    have hBe : Hid (∀ wx, Below B2 w2 wx → Below w.heap.size w wx ∧ EvsOwn wx w.heap.size (.slice (some ⟨w.heap.size, 0, none⟩) 0 0) []) := hide (fun wx hb => ⟨HB2.out.trans (hb.mono HBs.out.2), evsOwn_stays HN2.out (by rw [← HBs.out.1]; exact hb)⟩)
    by_cases hlt : i < n
    rotate_left
    · have HRe : Hid (R = if pg = 0 then (0, [], 1) else (pg, l.map Prod.fst, 0)) := hide (by rw [HR.out, List.drop_of_length_le (by rw [← HN.out]; omega), scrGo])
      obtain ⟨ao, co, rfl⟩ := own_slice HOw.out.1
      by_cases hpg : pg = 0
      · subst hpg
        rw [if_pos rfl] at HRe
        have hlt2 : ¬ ((i : Int) < (n : Int)) := by omega
        go_wp2_with fail
        go_ret3
        rw [HRe.out]
        exact scr_mk _ [] rfl rfl ((hBe.out _ HB.out).2) ((hBe.out _ HB.out).1)
      · have hpz : (pg == 0) = false := by simp [hpg]
        rw [if_neg hpg] at HRe
        have hlt2 : ¬ ((i : Int) < (n : Int)) := by omega
        have HOe := hide (evsOwn_down HOw.out HBs.out.2)
        clear hpg
        go_wp2_with fail
        go_ret3
        rw [HRe.out]
        exact scr_mk _ l rfl rfl HOe.out ((hBe.out _ HB.out).1)
    obtain ⟨b, off, x, rfl, c0, hx⟩ := HCl.out wr HB.out i hlt
    have HDr := hide (scr_drop hx)
    have hxl := HLx.out x (List.mem_of_getElem? hx)
    have hi0 : (0 : Int) ≤ (i : Int) := by omega
    have hi1 : (i : Int) < (n : Int) := by omega
    have HPo := hide (fun wx => specPartsOf_any (ba x) (by rw [ba_size]; omega) wx)
    have HPi := hide (parts_in x)
    obtain ⟨P, hP⟩ : ∃ P, P = partsOut (ba x) := ⟨_, rfl⟩
    rw [← hP] at HPo HPi
    have HRs : Hid (R = if P.2 = false then (0, [], (i : Int) + 1) else if P.1 = [] ∨ (P.1.getD 0 []).getD 0 0 = 35 then scrGo (L.drop (i + 1)) (i + 1) pg (l.map Prod.fst) else if pg = 0 then match pagesO P.1 with | some m => scrGo (L.drop (i + 1)) (i + 1) m (l.map Prod.fst) | none => (0, [], (i : Int) + 1) else match evOf P.1 with | some e => if e.ok = true ∧ (l.map Prod.fst).length ≠ 70 then scrGo (L.drop (i + 1)) (i + 1) pg (l.map Prod.fst ++ [e]) else (0, [], (i : Int) + 1) | none => (0, [], (i : Int) + 1)) := hide (by rw [HR.out, HDr.out, hP]; rfl)
    obtain ⟨p, okp⟩ := P
    obtain ⟨m, hm⟩ : ∃ m, m = p.length := ⟨_, rfl⟩
    have HM := hide hm
    dsimp only at HPo HPi HRs
    rw [← hm] at HPo
    clear hx hxl hP hm HR
    go_wp2_with fail
    refine (HPo.out wr).mono ?_
    rintro e w4 ⟨v4, rfl, ho, hb⟩
    obtain ⟨a4, c4, rfl⟩ := own_slice ho
    have HPr := hide (row_of_own ho)
    have HB4 : Hid (Below B2 w2 w4) := hide (HB.out.trans (hb.mono (by rw [HBs.out.1]; exact HB.out.size)))
    have HO4 := hide (evsOwn_stays HOw.out hb)
    clear ho hb c0 HPo HOw HB
    cases okp with
    | false =>
      have HRe : Hid (R = (0, [], (i : Int) + 1)) := hide (by rw [HRs.out]; rfl)
      clear HRs
      go_wp2_with fail
      go_ret3
      rw [HRe.out]
      exact scr_mk _ [] rfl rfl ((hBe.out _ HB4.out).2) ((hBe.out _ HB4.out).1)
    | true =>
      by_cases hm0 : m = 0
      · have hz : ((m : Int) == 0) = true := by rw [hm0]; rfl
        have HR2 : Hid (R = scrGo (L.drop (i + 1)) (i + 1) pg (l.map Prod.fst)) := hide (by rw [HRs.out, if_neg (by decide), if_pos (Or.inl (List.eq_nil_of_length_eq_zero (by rw [← HM.out]; exact hm0)))])
        clear HRs hm0
        go_wp2_with fail
        go_roundg (gk - 1)
        case measure => have := HQ.out; omega
        case rel => exact ⟨i + 1, pg, l, by omega, by have := HQ.out; omega, by go_num, rfl, HR2, hll, HO4, HB4⟩
      have hz : ((m : Int) == 0) = false := by rw [beq_eq_false_iff_ne]; omega
      obtain ⟨b4, off4, rfl, HCp⟩ : ∃ b4 off4, a4 = some ⟨b4, off4, none⟩ ∧ Hid (∀ wx, Below w4.heap.size w4 wx → ∀ j, j < m → wx.cell? ⟨b4, off4 + j, none⟩ = some (.string (ba (p.getD j [])))) := by
        obtain ⟨-, ap, cp, e, hrow⟩ := HPr.out
        injection e with e _ _
        subst e
        rcases hrow with h0 | ⟨b4, off4, rfl, hbl, hc⟩
        · omega
        · refine ⟨b4, off4, rfl, hide (fun wx hb j hj => ?_)⟩
          rw [hb.cell (by exact hbl), hc j (by omega), strVs, List.getElem?_map, List.getElem?_eq_getElem (by rw [← HM.out]; exact hj), List.getD_eq_getElem?_getD, List.getElem?_eq_getElem (by rw [← HM.out]; exact hj)]
          rfl
      have c0 := HCp.out w4 (Below.refl _ _) 0 (by omega)
      rw [Nat.add_zero] at c0
      obtain ⟨q0, hq0⟩ : ∃ q, q = p.getD 0 [] := ⟨_, rfl⟩
      rw [← hq0] at c0 HRs
      have hqm : q0 ∈ p := by rw [hq0, List.getD_eq_getElem?_getD, List.getElem?_eq_getElem (show 0 < p.length by rw [← HM.out]; omega)]; exact List.getElem_mem _
      have hqn := (HPi.out.2 q0 hqm).1
      have hql : 0 < q0.length := List.length_pos_iff.2 hqn
      have hpn : p ≠ [] := fun e => by rw [e] at hqm; cases hqm
      obtain ⟨X0, hX0⟩ : ∃ x, x = ba q0 := ⟨_, rfl⟩
      rw [← hX0] at c0
      have hxs : 0 < X0.size := by rw [hX0, ba_size]; exact hql
      obtain ⟨y, hy⟩ : ∃ y, y = byt X0 0 := ⟨_, rfl⟩
      have hyb : y < 256 := by rw [hy]; exact byt_lt _ _
      have hs1 : X0[0].toNat = y := by rw [hy]; exact byt_eq X0 0 hxs
      have HY : Hid ((q0.getD 0 0 = 35) ↔ y = 35) := hide (by
        rw [hy, hX0, ba_byt q0 0 hql, List.getD_eq_getElem?_getD, List.getElem?_eq_getElem hql]
        exact ⟨fun h => by rw [show q0[0] = 35 from h]; rfl, fun h => UInt8.toNat_inj.1 h⟩)
      have HX0 := hide hX0
      have HQ0 := hide (⟨hq0, hpn⟩ : _ ∧ _)
      clear hy hq0 hqm hqn hql hX0 hpn
      by_cases hy35 : y = 35
      · have hyn : ((y : Int) == 35) = true := by rw [beq_iff_eq]; omega
        have HR2 : Hid (R = scrGo (L.drop (i + 1)) (i + 1) pg (l.map Prod.fst)) := hide (by rw [HRs.out, if_neg (by decide), if_pos (Or.inr (HY.out.2 hy35))])
        clear HRs hy35
        go_wp2_with fail
        go_roundg (gk - 1)
        case measure => have := HQ.out; omega
        case rel => exact ⟨i + 1, pg, l, by omega, by have := HQ.out; omega, by go_num, rfl, HR2, hll, HO4, HB4⟩
      have hyn : ((y : Int) == 35) = false := by rw [beq_eq_false_iff_ne]; omega
      have HRt : Hid (R = if pg = 0 then match pagesO p with | some m => scrGo (L.drop (i + 1)) (i + 1) m (l.map Prod.fst) | none => (0, [], (i : Int) + 1) else match evOf p with | some e => if e.ok = true ∧ (l.map Prod.fst).length ≠ 70 then scrGo (L.drop (i + 1)) (i + 1) pg (l.map Prod.fst ++ [e]) else (0, [], (i : Int) + 1) | none => (0, [], (i : Int) + 1)) := hide (by rw [HRs.out, if_neg (by decide), if_neg (fun h => h.elim HQ0.out.2 (fun h => hy35 (HY.out.1 h)))])
      clear HRs hy35
      by_cases hpg : pg = 0
      · subst hpg
        rw [if_pos rfl] at HRt
        have HFm := hide (fun nv wx => specFormat_any nv wx)
        by_cases hm2 : m = 2
        rotate_left
        · have h2 : ((m : Int) == 2) = false := by rw [beq_eq_false_iff_ne]; omega
          have HRe : Hid (R = (0, [], (i : Int) + 1)) := hide (by rw [HRt.out, pagesO, if_neg (fun h => hm2 (by rw [HM.out]; exact h.1))])
          clear HRt hm2
          go_wp2_with fail
          refine (HFm.out 0 _).mono ?_
          rintro e w6 ⟨v6, rfl, ho, hb⟩
          obtain ⟨vp, vl, rfl, ho1, ho2⟩ := ho
          obtain ⟨ap, cp, rfl⟩ := own_slice ho1
          obtain ⟨al, cl, rfl⟩ := own_slice ho2
          have HB6 : Hid (∀ o, Below B2 w2 (w6.alloc o)) := hide (fun o => by
            have h1 : Below B2 w2 w6 := HB4.out.trans (hb.mono (by rw [HBs.out.1]; exact HB4.out.size))
            exact h1.alloc (by rw [HBs.out.1]; exact h1.size) o)
          clear ho1 ho2 hb
          go_wp2_with fail
          go_ret3
          rw [HRe.out]
          exact scr_mk _ [] rfl rfl ((hBe.out _ (HB6.out _)).2) ((hBe.out _ (HB6.out _)).1)
        have h2 : ((m : Int) == 2) = true := by rw [beq_iff_eq]; omega
        have hlit := bl_lit q0 pgw
        rw [← HX0.out] at hlit
        unfold pgw at hlit
        by_cases hw : q0 = [112, 97, 103, 101, 115]
        rotate_left
        · rw [decide_eq_false hw] at hlit
          have HRe : Hid (R = (0, [], (i : Int) + 1)) := hide (by rw [HRt.out, pagesO, if_neg (fun h => hw (by rw [HQ0.out.1]; exact h.2))])
          clear HRt hw
          go_wp2_with fail
          refine (HFm.out 0 _).mono ?_
          rintro e w6 ⟨v6, rfl, ho, hb⟩
          obtain ⟨vp, vl, rfl, ho1, ho2⟩ := ho
          obtain ⟨ap, cp, rfl⟩ := own_slice ho1
          obtain ⟨al, cl, rfl⟩ := own_slice ho2
          have HB6 : Hid (∀ o, Below B2 w2 (w6.alloc o)) := hide (fun o => by
            have h1 : Below B2 w2 w6 := HB4.out.trans (hb.mono (by rw [HBs.out.1]; exact HB4.out.size))
            exact h1.alloc (by rw [HBs.out.1]; exact h1.size) o)
          clear ho1 ho2 hb
          go_wp2_with fail
          go_ret3
          rw [HRe.out]
          exact scr_mk _ [] rfl rfl ((hBe.out _ (HB6.out _)).2) ((hBe.out _ (HB6.out _)).1)
        rw [decide_eq_true hw] at hlit
        have HRu : Hid (R = match (decO (p.getD 1 [])).bind fun n => if 4 ≤ n ∧ n ≤ 40 then some n else none with | some m => scrGo (L.drop (i + 1)) (i + 1) m (l.map Prod.fst) | none => (0, [], (i : Int) + 1)) := hide (by rw [HRt.out, pagesO, if_pos ⟨by rw [← HM.out]; exact hm2, by rw [← HQ0.out.1]; exact hw⟩])
        have hm1 : (1 : Int) < (m : Int) := by omega
        have c1 := HCp.out w4 (Below.refl _ _) 1 (by omega)
        have hq1 : (p.getD 1 []).length ≤ 600 := by
          rw [List.getD_eq_getElem?_getD, List.getElem?_eq_getElem (show 1 < p.length by rw [← HM.out]; omega)]
          exact (HPi.out.2 _ (List.getElem_mem _)).2
        have HRd := hide (fun wx => specReadDecimal_any (ba (p.getD 1 [])) (by rw [ba_size]; omega) wx)
        obtain ⟨X1, hX1⟩ : ∃ x, x = ba (p.getD 1 []) := ⟨_, rfl⟩
        rw [← hX1] at c1 HRd
        have HX1 := hide hX1
        clear HRt hw hm2 hX1 hq1
        go_wp2_with fail
        refine (HRd.out _).mono ?_
        rintro e w5 ⟨hy1, hno, hb⟩
        have HB5 : Hid (Below B2 w2 w5) := hide (HB4.out.trans (hb.mono (by rw [HBs.out.1]; exact HB4.out.size)))
        have HO5 := hide (evsOwn_stays HO4.out hb)
        clear hb c0 c1 HO4 HB4
        by_cases hok : okD X1
        rotate_left
        · obtain rfl := hno hok
          have HRe : Hid (R = (0, [], (i : Int) + 1)) := hide (by rw [HRu.out, dec_no (by rw [← HX1.out]; exact hok)]; rfl)
          clear HRu hy1 hno hok
          go_wp2_with fail
          refine (HFm.out 0 _).mono ?_
          rintro e w6 ⟨v6, rfl, ho, hb⟩
          obtain ⟨vp, vl, rfl, ho1, ho2⟩ := ho
          obtain ⟨ap, cp, rfl⟩ := own_slice ho1
          obtain ⟨al, cl, rfl⟩ := own_slice ho2
          have HB6 : Hid (∀ o, Below B2 w2 (w6.alloc o)) := hide (fun o => by
            have h1 : Below B2 w2 w6 := HB5.out.trans (hb.mono (by rw [HBs.out.1]; exact HB5.out.size))
            exact h1.alloc (by rw [HBs.out.1]; exact h1.size) o)
          clear ho1 ho2 hb
          go_wp2_with fail
          go_ret3
          rw [HRe.out]
          exact scr_mk _ [] rfl rfl ((hBe.out _ (HB6.out _)).2) ((hBe.out _ (HB6.out _)).1)
        obtain rfl := hy1 hok
        obtain ⟨V, hV⟩ : ∃ x : Int, x = ((valD X1 X1.size : Nat) : Int) := ⟨_, rfl⟩
        rw [← hV]
        have HD : Hid (decO (p.getD 1 []) = some V) := hide (by rw [hV, HX1.out]; exact dec_yes (by rw [← HX1.out]; exact hok))
        rw [HD.out] at HRu
        clear hy1 hno hok hV
        by_cases hrg : 4 ≤ V ∧ V ≤ 40
        rotate_left
        · have HRe : Hid (R = (0, [], (i : Int) + 1)) := hide (by rw [HRu.out, Option.bind_some, if_neg hrg])
          have hdec := decide_eq_false hrg
          clear HRu
          go_wp2_with fail
          refine (HFm.out V _).mono ?_
          rintro e w6 ⟨v6, rfl, ho, hb⟩
          obtain ⟨vp, vl, rfl, ho1, ho2⟩ := ho
          obtain ⟨ap, cp, rfl⟩ := own_slice ho1
          obtain ⟨al, cl, rfl⟩ := own_slice ho2
          have HB6 : Hid (∀ o, Below B2 w2 (w6.alloc o)) := hide (fun o => by
            have h1 : Below B2 w2 w6 := HB5.out.trans (hb.mono (by rw [HBs.out.1]; exact HB5.out.size))
            exact h1.alloc (by rw [HBs.out.1]; exact h1.size) o)
          clear ho1 ho2 hb
          rw [decide_eq_false hrg]
          clear hrg
          go_wp2_with fail
          go_ret3
          rw [HRe.out]
          exact scr_mk _ [] rfl rfl ((hBe.out _ (HB6.out _)).2) ((hBe.out _ (HB6.out _)).1)
        have HR2 : Hid (R = scrGo (L.drop (i + 1)) (i + 1) V (l.map Prod.fst)) := hide (by rw [HRu.out, Option.bind_some, if_pos hrg])
        go_wp2_with fail
        refine (HFm.out V _).mono ?_
        rintro e w6 ⟨v6, rfl, ho, hb⟩
        obtain ⟨vp, vl, rfl, ho1, ho2⟩ := ho
        obtain ⟨ap, cp, rfl⟩ := own_slice ho1
        obtain ⟨al, cl, rfl⟩ := own_slice ho2
        rw [decide_eq_true hrg]
        have HB6 : Hid (∀ o, Below B2 w2 (w6.alloc o)) := hide (fun o => by
          have h1 : Below B2 w2 w6 := HB5.out.trans (hb.mono (by rw [HBs.out.1]; exact HB5.out.size))
          exact h1.alloc (by rw [HBs.out.1]; exact h1.size) o)
        have HO6 : Hid (∀ o, EvsOwn (w6.alloc o) B2 _ l) := hide (fun o => evsOwn_stays (evsOwn_stays HO5.out hb) ((Below.refl _ _).alloc (Nat.le_refl _) o))
        clear ho1 ho2 hb hrg
        go_wp2_with fail
        go_roundg (gk - 1)
        case measure => have := HQ.out; omega
        case rel => exact ⟨i + 1, V, l, by omega, by have := HQ.out; omega, by go_num, rfl, HR2, hll, hide (HO6.out _), hide (HB6.out _)⟩
      have hpz : (pg == 0) = false := by simp [hpg]
      rw [if_neg hpg] at HRt
      clear hpg
      have hpp : ∀ x ∈ p, x.length ≤ 600 := fun x hx => (HPi.out.2 x hx).2
      have HEv := hide (specEvent_any p (.slice (some ⟨b4, off4, none⟩) m c4) (by rw [← HM.out]; omega) HPi.out.1 hpp w4 (by rw [← HM.out]; exact HPr.out))
      have HSm := hide (fun ev h => evOf_small hpp (ev := ev) h)
      obtain ⟨ro, hro⟩ : ∃ r, r = evOf p := ⟨_, rfl⟩
      rw [← hro] at HEv HRt HSm
      clear hro hpp
      go_wp2_with fail
      refine HEv.out.mono ?_
      rintro e w5 ⟨⟨cs, bo, rfl, hcz, hco, hm⟩, hb⟩
      have HB5 : Hid (Below B2 w2 w5) := hide (HB4.out.trans (hb.mono (by rw [HBs.out.1]; exact HB4.out.size)))
      have HO5 := hide (evsOwn_stays HO4.out hb)
      have HK5 : Hid (∀ p ∈ l, ∀ b, p.2.ownBlock = some b → b < w4.heap.size) := hide (fun p hp b hb => ((HO4.out.2.1 p hp).lt b hb).2)
      have HMm : Hid (ro = none ∧ bo = false ∨ ∃ ev u, ro = some ev ∧ bo = true ∧ cs = (ev7 (ev, u)).toArray ∧ w5.ownsRow w4.heap.size 4 1 u ev.left.length (bools ev.left)) := hide (by
        cases ro with
        | none => exact Or.inl ⟨rfl, hm⟩
        | some ev =>
          obtain ⟨h1, u, h2, h3⟩ := hm
          exact Or.inr ⟨ev, u, rfl, h1, h2, h3⟩)
      have HSz4 : Hid (B2 ≤ w4.heap.size ∧ w4.heap.size ≤ w5.heap.size) := hide ⟨Nat.le_trans (by rw [HBs.out.1]; exact Nat.le_refl _) HB4.out.size, hb.size⟩
      clear hm hb HB4 HO4 c0 hz hyn
      obtain ⟨g16, hg16⟩ : ∃ g, g = w5.heap.size := ⟨_, rfl⟩
      obtain ⟨w6, hw6⟩ : ∃ wx, wx = (w5.alloc (Obj.cells #[.int .i64 0, .int .i64 0, .string ⟨#[]⟩, .string ⟨#[]⟩, .int .i64 0, .slice none 0 0, .int .i64 0] 35)).setCells w5.heap.size 0 cs.toList := ⟨_, rfl⟩
      have hs6 := sep_cellsAll (sep_new (sep_nil w5.heap.size w5) (Obj.cells #[.int .i64 0, .int .i64 0, .string ⟨#[]⟩, .string ⟨#[]⟩, .int .i64 0, .slice none 0 0, .int .i64 0] 35) (Nat.le_refl _)) 0 rfl cs (by rw [hcz]; rfl)
      have hth : Hid ((w5.alloc (Obj.cells #[.int .i64 0, .int .i64 0, .string ⟨#[]⟩, .string ⟨#[]⟩, .int .i64 0, .slice none 0 0, .int .i64 0] 35)).there w5.heap.size 0 cs.size) := hide (by rw [hcz]; exact there_of (heap_alloc_new w5 (Obj.cells #[.int .i64 0, .int .i64 0, .string ⟨#[]⟩, .string ⟨#[]⟩, .int .i64 0, .slice none 0 0, .int .i64 0] 35)) 0 7 (show 0 + 7 ≤ 7 by decide))
      have hb6 : Below w5.heap.size w5 w6 := by rw [hw6]; exact below_cells (Nat.le_refl _) _ 0 _ ((Below.refl w5.heap.size w5).alloc (Nat.le_refl _) _)
      have HB6 : Hid (Below B2 w2 w6) := hide (HB5.out.trans (hb6.mono (Nat.le_trans HSz4.out.1 HSz4.out.2)))
      have HO6 := hide (evsOwn_stays HO5.out hb6)
      have HM6 : Hid (ro = none ∧ bo = false ∨ ∃ ev u, ro = some ev ∧ bo = true ∧ cs = (ev7 (ev, u)).toArray ∧ w6.ownsRow w4.heap.size 4 1 u ev.left.length (bools ev.left)) := hide (by
        rcases HMm.out with h | ⟨ev, u, h1, h2, h3, h4⟩
        · exact Or.inl h
        · exact Or.inr ⟨ev, u, h1, h2, h3, own_stays h4 hb6⟩)
      rw [← hw6, ← hg16] at hs6
      have HS6 := hide hs6
      have HW6 := hide hw6.symm
      have HNz : Hid ((Tryd.prog.info? 35).map (·.size) = some cs.size) := hide (by rw [hcz]; exact Tryd.sizeEvI)
      have HOne := hide hco
      clear hs6 hw6 hb6 hcz hco HMm HB5 HO5
      go_upto_region 24 with ((with_reducible refine wpList_storeL ?_ 35 (.tmp 16) (.tmp 101) ?_ w5.heap.size 0 cs ?_ ?_ hth.out ?_ ?_ HW6.out ?_); exact rfl; exact rfl; exact rfl; exact rfl; exact HNz.out; exact HOne.out)
      rw [← hg16]
      clear hg16 hth HW6
      have HBz : Hid (Below w6.heap.size w6 w6) := hide (Below.refl _ _)
      rcases HM6.out with ⟨hn1, hn2⟩ | ⟨ev, u, he1, he2, hcs, hou⟩
      · subst hn1 hn2
        have HRe : Hid (R = (0, [], (i : Int) + 1)) := hide HRt.out
        clear HRt
        go_wp2_with fail
        go_ret3
        rw [HRe.out]
        exact scr_mk _ [] rfl rfl ((hBe.out _ HB6.out).2) ((hBe.out _ HB6.out).1)
      · subst he1 he2
        obtain ⟨au, cu, rfl⟩ := own_slice hou
        have HOu := hide hou
        have hsmall := HSm.out ev rfl
        have HRg : Hid (∀ wx, Below w6.heap.size w6 wx → wx.rangeAt g16 0 cs.toList) := hide (fun wx hb => range_all ((hb.block g16 (sep_lt HS6.out 0 rfl g16 rfl).2).trans (sep_get HS6.out 0 rfl)))
        have HRg6 := hide (HRg.out w6 (Below.refl _ _))
        have HOk := hide (specEventOk_any (.agg cs) ev (by unfold maxLen; omega) (by unfold maxLen; omega) (by unfold maxLen; omega) w6 (by rw [hcs]; exact ⟨au, cu, rfl, row_of_own hou⟩))
        obtain ⟨ok, hok⟩ : ∃ b, b = ev.ok := ⟨_, rfl⟩
        have HOkE := hide hok
        rw [← hok] at HOk
        have HCs := hide hcs
        clear hcs hou hsmall hok HM6
        go_wp2_with ((with_reducible refine wpList_loadW ?_ 35 (.tmp 16) ?_ g16 0 ?_ cs HRg6.out _ Tryd.underlying35 ?_ ?_ ?_); exact rfl; exact rfl; exact rfl; exact rfl; exact HNz.out)
        refine HOk.out.mono ?_
        rintro e w7 ⟨rfl, hb⟩
        have HB7 : Hid (Below B2 w2 w7) := hide (HB6.out.trans (hb.mono (by rw [HBs.out.1]; exact HB6.out.size)))
        have HO7 := hide (evsOwn_stays HO6.out hb)
        have HOu7 := hide (own_stays HOu.out hb)
        have HRg7 := hide (HRg.out w7 hb)
        clear hb HB6 HO6 HRg6 HRg HOk HOu HS6
        cases ok with
        | false =>
          have HRe : Hid (R = (0, [], (i : Int) + 1)) := hide (by rw [HRt.out]; exact if_neg (fun h => by rw [← HOkE.out] at h; cases h.1))
          clear HRt
          go_wp2_with fail
          go_ret3
          rw [HRe.out]
          exact scr_mk _ [] rfl rfl ((hBe.out _ HB7.out).2) ((hBe.out _ HB7.out).1)
        | true =>
        obtain ⟨ll, hllx⟩ : ∃ n, n = l.length := ⟨_, rfl⟩
        obtain ⟨ao, co, rfl⟩ := own_slice HO7.out.1
        have HLl := hide hllx
        rw [← hllx] at hll HO7 ⊢
        clear hllx
        by_cases h70 : ll = 70
        · have e70 : ((ll : Int) == 70) = true := by rw [beq_iff_eq]; omega
          have HRe : Hid (R = (0, [], (i : Int) + 1)) := hide (by rw [HRt.out]; exact if_neg (fun h => h.2 (by rw [List.length_map, ← HLl.out]; exact h70)))
          clear HRt h70
          go_wp2_with fail
          go_ret3
          rw [HRe.out]
          exact scr_mk _ [] rfl rfl ((hBe.out _ HB7.out).2) ((hBe.out _ HB7.out).1)
        have e70 : ((ll : Int) == 70) = false := by rw [beq_eq_false_iff_ne]; omega
        have HR2 : Hid (R = scrGo (L.drop (i + 1)) (i + 1) pg ((l ++ [((ev, .slice au ev.left.length cu) : Evt × Value)]).map Prod.fst)) := hide (by rw [HRt.out]; exact (if_pos ⟨HOkE.out.symm, by rw [List.length_map, ← HLl.out]; exact h70⟩).trans (by rw [List.map_append]; rfl))
        have hl1 : ll + 1 ≤ 70 := by omega
        clear HRt h70
        obtain ⟨i0, hinf, hz0, hz1, hz2⟩ := info_parts Tryd.infoEvE
        have hB7z : B2 ≤ w7.heap.size := by rw [HBs.out.1]; exact HB7.out.size
        have hown : w7.ownsRow B2 35 7 (.slice ao ll co) ll (evs l) := by have h := HO7.out.1; rw [← HLl.out] at h; exact h
        go_upto_region 26 with fail
        have hcs := HCs.out
        subst hcs
        have e0 : w7.cell? ⟨g16, 0, none⟩ = _ := HRg7.out 0 _ rfl
        have e1 : w7.cell? ⟨g16, 1, none⟩ = _ := HRg7.out 1 _ rfl
        have e2 : w7.cell? ⟨g16, 2, none⟩ = _ := HRg7.out 2 _ rfl
        have e3 : w7.cell? ⟨g16, 3, none⟩ = _ := HRg7.out 3 _ rfl
        have e4 : w7.cell? ⟨g16, 4, none⟩ = _ := HRg7.out 4 _ rfl
        have e5 : w7.cell? ⟨g16, 5, none⟩ = _ := HRg7.out 5 _ rfl
        have e6 : w7.cell? ⟨g16, 6, none⟩ = _ := HRg7.out 6 _ rfl
        go_wp2_with (at_builtin; refine wpList_append_own _ rfl _ _ 27 rfl B2 35 i0 (.agg #[.int .i64 0, .int .i64 0, .string ⟨#[]⟩, .string ⟨#[]⟩, .int .i64 0, .slice none 0 0, .int .i64 0]) 7 88 Tryd.underlying27 hinf hz0 hz1 hz2 rfl (by decide) _ _ _ rfl (hown.alloc _) ⟨w7.heap.size, 0, none⟩ 1 1 (ev7 ((ev, .slice au ev.left.length cu) : Evt × Value)) rfl rfl ?c1 ?c2 ?c3 ?c4 ?c5 ?_)
        case c1 => exact fun _ _ h => h
        case c2 => exact oneCell_ev7 _ rfl
        case c3 => unfold maxLen; omega
        case c4 => omega
        case c5 => exact Nat.le_trans hB7z (by first | omega | simp)
        intro v' w8 hown' hgrow _
        have HB8 : Hid (Below B2 w2 w8) := hide (below_grow HB7.out hB7z hown ((Below.refl _ _).alloc hB7z _) hgrow)
        have hO7 : EvsOwn w7 B2 (.slice ao ll co) l := HO7.out
        have HO8 : Hid (EvsOwn w8 B2 v' (l ++ [((ev, .slice au ev.left.length cu) : Evt × Value)])) := hide (evsOwn_snoc (K := w4.heap.size) hO7 HK5.out (own_down HOu7.out HSz4.out.1) (fun b hb => (HOu7.out.lt b hb).1) (by rw [← HLl.out]; exact hown') (kept_appE hgrow))
        have hll2 : (l ++ [((ev, .slice au ev.left.length cu) : Evt × Value)]).length ≤ 70 := by rw [List.length_append, ← HLl.out]; exact hl1
        clear hown' hgrow hown hO7 e0 e1 e2 e3 e4 e5 e6 HO7 HB7 HRg7 HOu7
        go_wp2_with fail
        go_roundg (gk - 1)
        case measure => have := HQ.out; omega
        case rel => exact ⟨i + 1, pg, l ++ [((ev, .slice au ev.left.length cu) : Evt × Value)], by omega, by have := HQ.out; omega, by go_num, rfl, HR2, hll2, HO8, HB8⟩
open Go.RowKit
theorem scrGo_small : ∀ (L : List (List UInt8)) (i : Nat) (pg : Int) (out : List Evt), out.length ≤ 70 → (∀ e ∈ out, e.left.length ≤ 60) → (scrGo L i pg out).2.1.length ≤ 70 ∧ ∀ e ∈ (scrGo L i pg out).2.1, e.left.length ≤ 60
  | [], i, pg, out, h1, h2 => by
    rw [scrGo]
    split
    · exact ⟨Nat.zero_le _, fun e he => by cases he⟩
    · exact ⟨h1, h2⟩
  | x :: r, i, pg, out, h1, h2 => by
    have h0 : ∀ k : Int, ((0, [], k) : Int × List Evt × Int).2.1.length ≤ 70 ∧ ∀ e ∈ ((0, [], k) : Int × List Evt × Int).2.1, e.left.length ≤ 60 := fun k => ⟨Nat.zero_le _, fun e he => by cases he⟩
    rw [scrGo]
    split
    · exact h0 _
    · split
      · exact scrGo_small r _ _ _ h1 h2
      · split
        · split
          · exact scrGo_small r _ _ _ h1 h2
          · exact h0 _
        · split
          · rename_i e he
            split
            · rename_i hok
              refine scrGo_small r _ _ _ (by rw [List.length_append, List.length_singleton]; have := hok.2; omega) (fun f hf => ?_)
              rcases List.mem_append.1 hf with hf | hf
              · exact h2 f hf
              · rw [List.mem_singleton] at hf
                subst hf
                have h := hok.1
                simp only [Evt.ok, Bool.and_eq_true, decide_eq_true_eq] at h
                omega
            · exact h0 _
          · exact h0 _
theorem scrO_small (s : ByteArray) : (scrO s).2.1.length ≤ 70 ∧ ∀ e ∈ (scrO s).2.1, e.left.length ≤ 60 := by
  rw [scrO]
  split
  · exact ⟨Nat.zero_le _, fun e he => by cases he⟩
  · exact scrGo_small _ _ _ _ (Nat.zero_le _) (fun e he => by cases he)
theorem endE_le : ∀ (es : List Evt) (K : Nat), (∀ e ∈ es, e.left.length ≤ 60) → endE K es ≤ K + es.length * 66
  | [], K, _ => by simp [endE]
  | e :: r, K, h => by
    have h1 := endE_le r (K + 6 + e.left.length) (fun f hf => h f (by simp [hf]))
    have h2 := h e (by simp)
    rw [endE, List.length_cons]
    omega
set_option maxHeartbeats 8000000 in
set_option maxRecDepth 100000 in
theorem lawReadScript (s : ByteArray) (w : World) (hI : s.size ≤ 1048576 → ∀ wx, Below w.heap.size w wx → Calls Tryd.prog 8 #[.string s] wx fun e w' => ScrRet wx w' (scrO s) e) :
    Calls Tryd.prog 4 #[.string s] w fun e w' => e = .returned (.bool true) ∧ Below w.heap.size w w' := by
  by_cases hbig : 1048576 < s.size
  · clear hI
    go_enter Tryd.func4, Tryd.ntmps4
    go_wp2_with fail
    go_ret
    exact ⟨rfl, Below.refl _ _⟩
  have hs : s.size ≤ 1048576 := by omega
  have HI := hide (hI hs)
  have HSp := hide (fun wx => specReadScript_any s hs wx)
  have HSm := hide (scrO_small s)
  obtain ⟨R, hR⟩ : ∃ R, R = scrO s := ⟨_, rfl⟩
  rw [← hR] at HI HSp HSm
  obtain ⟨pg, es, ln⟩ := R
  clear hR hI
  dsimp only at HSm
  have HL : Hid (es.length ≤ 1000 ∧ ∀ e ∈ es, e.left.length ≤ 1000) := hide ⟨by have := HSm.out.1; omega, fun e he => by have := HSm.out.2 e he; omega⟩
  have HEn := hide (endE_le es 1 HSm.out.2)
  obtain ⟨K, hK⟩ : ∃ K, K = endE 1 es := ⟨_, rfl⟩
  rw [← hK] at HEn
  have hKs : K ≤ 5000 := by have h1 := HEn.out; have h2 := HSm.out.1; omega
  have HK := hide hK
  have d1 : (pg != pg) = false := by simp
  have d2 : (ln != ln) = false := by simp
  have d3 : ((K : Int) != (K : Int)) = false := by simp
  have d4 : decide ((K : Int) < 0) = false := decide_eq_false (by omega)
  clear hK HSm
  go_enter Tryd.func4, Tryd.ntmps4
  go_wp2_with fail
  refine (HSp.out w).mono ?_
  rintro e w1 ⟨⟨v1, l1, rfl, h1, o1⟩, hb1⟩
  have HB1 := hide hb1
  have HE1 := hide h1
  have HO1 := hide o1
  clear h1 o1 hb1
  go_wp2_with fail
  refine (HI.out w1 HB1.out).mono ?_
  rintro e w2 ⟨⟨v2, l2, rfl, h2, o2⟩, hb2⟩
  have HB2 := hide hb2
  have HE2 := hide h2
  have HO2 := hide o2
  dsimp only at HE1 HE2
  clear h2 o2 hb2
  have HQ := hide (fun v wx h h' => eqEventS_same es (Nat.le_trans HL.out.1 (by omega)) (fun e he => Nat.le_trans (HL.out.2 e he) (by omega)) v v1 wx h h')
  go_wp2_with fail
  refine (HQ.out v2 w2 (by rw [← HE2.out]; exact evs_of_own HO2.out) (by rw [← HE1.out]; exact evs_of_own (evsOwn_stays HO1.out HB2.out))).mono ?_
  rintro e w3 ⟨rfl, hb3⟩
  have HB3 : Hid (Below w1.heap.size w1 w3) := hide (HB2.out.trans (hb3.mono HB2.out.size))
  have HO3 := hide (evsOwn_stays HO2.out hb3)
  clear hb3 HO2
  go_wp2_with fail
  refine (markEventS_any l2 (by rw [← List.length_map (f := Prod.fst), HE2.out]; exact HL.out.1) (fun p hp => HL.out.2 _ (by rw [← HE2.out]; exact List.mem_map_of_mem hp)) v2 w1.heap.size 1 (by omega) (by omega) w3 HB3.out.size HO3.out).mono ?_
  rintro e w4 ⟨rfl, ⟨l4, h4, o4⟩, hb4⟩
  rw [HE2.out] at h4
  rw [HE2.out, ← HK.out]
  have HE4 := hide h4
  have HO4 := hide o4
  have HB4 : Hid (Below w1.heap.size w1 w4) := hide (HB3.out.trans hb4)
  have HHe := hide (fun wx h => heldEventS_any es HL.out.1 HL.out.2 v2 1 (by omega) (by omega) wx h)
  rw [← HK.out] at HHe
  clear h4 o4 hb4 HO3
  go_wp2_with fail
  refine (HHe.out w4 (by rw [← HE4.out]; exact evs_of_own HO4.out)).mono ?_
  rintro e w5 ⟨rfl, hb5⟩
  have HB5 : Hid (Below w1.heap.size w1 w5) := hide (HB4.out.trans (hb5.mono HB4.out.size))
  have HO5 := hide (evsOwn_stays HO4.out hb5)
  clear hb5 HO4
  go_wp2_with fail
  refine (HI.out w5 (HB1.out.trans (HB5.out.mono HB1.out.size))).mono ?_
  rintro e w6 ⟨⟨v6, l6, rfl, h6, o6⟩, hb6⟩
  have HB6 : Hid (Below w1.heap.size w1 w6) := hide (HB5.out.trans (hb6.mono HB5.out.size))
  have HO6 := hide (evsOwn_stays HO5.out hb6)
  have HE6 := hide h6
  have HP6 := hide o6
  dsimp only at HE6
  clear h6 o6 hb6 HO5
  go_wp2_with fail
  refine (HQ.out v6 w6 (by rw [← HE6.out]; exact evs_of_own HP6.out) (by rw [← HE1.out]; exact evs_of_own (evsOwn_stays HO1.out HB6.out))).mono ?_
  rintro e w7 ⟨rfl, hb7⟩
  have HB7 : Hid (Below w1.heap.size w1 w7) := hide (HB6.out.trans (hb7.mono HB6.out.size))
  have HO7 := hide (evsOwn_stays HO6.out hb7)
  clear hb7 HO6 HP6
  go_wp2_with fail
  refine (HHe.out w7 (by rw [← HE4.out]; exact evs_of_own HO7.out)).mono ?_
  rintro e w8 ⟨rfl, hb8⟩
  have HB8 : Hid (Below w.heap.size w w8) := hide (HB1.out.trans ((HB7.out.trans (hb8.mono HB7.out.size)).mono HB1.out.size))
  clear hb8
  go_wp2_with fail
  go_ret
  exact ⟨rfl, HB8.out⟩
end Go.Proofs.YtmmepgincbngeaaDoor
