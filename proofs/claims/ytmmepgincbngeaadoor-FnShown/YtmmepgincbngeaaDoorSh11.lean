/-
  Facts and contracts that the law's own text rests on, by their texts' names: TakeI, ImplScript, Bld, ShelfBld.
-/
import Derived.Test.YtmmepgincbngeaaDoorSh10
import Derived.OpenVars
import Derived.Shelf.Strings.Builder1
import Derived.Test.YtmmepgincbngeaaDoorSh1
import Derived.Shelf.Lays
import Derived.Test.YtmmepgincbngeaaDoorProg
namespace Go.Proofs.YtmmepgincbngeaaDoor
open Go.RowKit
def ScrV (B : Nat) (W : World) (g : Nat) (pg : Int) (l : List (Evt × Value)) : Prop := B ≤ g ∧ ∃ v, W.heap[g]? = some (.cells #[.int .i64 pg, v] 53 (0, 0)) ∧ EvsOwn W B v l
theorem ScrV.lt {B : Nat} {W : World} {g : Nat} {pg : Int} {l : List (Evt × Value)} (h : ScrV B W g pg l) : g < W.heap.size := by
  obtain ⟨-, v, h2, -⟩ := h
  exact (Array.getElem?_eq_some_iff.1 h2).1
theorem ScrV.stays {B : Nat} {W W' : World} {g : Nat} {pg : Int} {l : List (Evt × Value)} (h : ScrV B W g pg l) (hb : Below W.heap.size W W') : ScrV B W' g pg l := by
  obtain ⟨h1, v, h2, h3⟩ := h
  exact ⟨h1, v, (hb.block g (Array.getElem?_eq_some_iff.1 h2).1).trans h2, evsOwn_stays h3 hb⟩
theorem own_noScr {w : World} {B e sz n g : Nat} {v : Value} {xs : List Value} {cs : Array Value} {fz : Nat × Nat} (h : w.ownsRow B e sz v n xs) (he : e ≠ 53) (hg : w.heap[g]? = some (.cells cs 53 fz)) : v.ownBlock ≠ some g := by
  rcases h.2 with ⟨rfl, _⟩ | ⟨g', cap, cur, rfl, _, hgg, _⟩
  · simp [Value.ownBlock]
  · simp [Value.ownBlock]
    rintro rfl
    rw [hgg] at hg
    injection hg with hg
    injection hg with h1 h2
    exact he h2
theorem evs_setCell {W : World} {B g j : Nat} {v x : Value} {l : List (Evt × Value)} {cs : Array Value} {fz : Nat × Nat} (h : EvsOwn W B v l) (hg : W.heap[g]? = some (.cells cs 53 fz)) : EvsOwn (W.setCell ⟨g, j, none⟩ x) B v l := by
  have hk : W.grownBy (W.setCell ⟨g, j, none⟩ x) (some g) := ⟨rfl, rfl, rfl, by simp [World.setCell], fun k _ hk => Below.heap_setCell _ _ _ _ (fun e => hk (by simp [e]))⟩
  exact ⟨h.1.kept hk (Or.inr (own_noScr h.1 (by decide) hg)), fun p hp => (h.2.1 p hp).kept hk (Or.inr (own_noScr (h.2.1 p hp) (by decide) hg)), h.2.2⟩
theorem own_capT {w : World} {B e sz n cap : Nat} {a : Option Addr} {xs : List Value} (h : w.ownsRow B e sz (.slice a n cap) n xs) : n ≤ cap := by
  rcases h.2 with ⟨h0, h1⟩ | ⟨g, c, cur, hv, _, _, hle, _⟩
  · injection h0 with _ e1 e2
    omega
  · injection hv with _ _ e2
    subst e2
    exact hle
theorem heap_set {W : World} {g j : Nat} {x : Value} {cs : Array Value} {T : TypeId} (hg : W.heap[g]? = some (.cells cs T (0, 0))) : (W.setCell ⟨g, j, none⟩ x).heap[g]? = some (.cells (cs.setIfInBounds j x) T (0, 0)) := by
  simp only [World.setCell, Array.getElem?_modify, hg, if_true, Option.map_some]
  simp
noncomputable def takeO (x : List UInt8) (pg : Int) (l : List Evt) : Option (Int × List Evt) :=
  if (partsOut (ba x)).2 = false then none
  else if (partsOut (ba x)).1 = [] ∨ ((partsOut (ba x)).1.getD 0 []).getD 0 0 = 35 then some (pg, l)
  else if pg = 0 then (pagesO (partsOut (ba x)).1).map fun n => (n, l)
  else (evI (partsOut (ba x)).1).bind fun e => if l.length = 70 then none else some (pg, l ++ [e])
theorem scrGo_take (x : List UInt8) (r : List (List UInt8)) (i : Nat) (pg : Int) (l : List Evt) : scrGo (x :: r) i pg l = match takeO x pg l with | none => (0, [], (i : Int) + 1) | some q => scrGo r (i + 1) q.1 q.2 := by
  rw [scrGo, takeO]
  have e : (⟨x.toArray⟩ : ByteArray) = ba x := rfl
  rw [e]
  by_cases h1 : (partsOut (ba x)).2 = false
  · rw [if_pos h1, if_pos h1]
  rw [if_neg h1, if_neg h1]
  by_cases h2 : (partsOut (ba x)).1 = [] ∨ ((partsOut (ba x)).1.getD 0 []).getD 0 0 = 35
  · rw [if_pos h2, if_pos h2]
  rw [if_neg h2, if_neg h2]
  by_cases h3 : pg = 0
  · rw [if_pos h3, if_pos h3]
    cases pagesO (partsOut (ba x)).1 <;> rfl
  rw [if_neg h3, if_neg h3, evI]
  cases evOf (partsOut (ba x)).1 with
  | none => rfl
  | some ev =>
    cases hk : ev.ok with
    | false => simp [Option.filter, hk]
    | true =>
      by_cases h4 : l.length = 70
      · simp [Option.filter, hk, h4]
      · simp [Option.filter, hk, h4]
def TakePost (B g : Nat) (W : World) (r : Option (Int × List Evt)) (e : Ending) (w' : World) : Prop := (match r with | none => e = .returned (.bool false) | some q => e = .returned (.bool true) ∧ ∃ l, l.map Prod.fst = q.2 ∧ ScrV B w' g q.1 l) ∧ Below B W w'
theorem hasPre (x : List UInt8) (h : x ≠ []) : Lib.hasPrefix (ba x).data.toList (⟨#[35]⟩ : ByteArray).data.toList = decide (x.getD 0 0 = 35) := by
  cases x with
  | nil => exact absurd rfl h
  | cons b r =>
    show (List.isPrefixOf [35] (b :: r)) = decide (b = 35)
    simp only [List.isPrefixOf, Bool.and_true]
    by_cases e : b = 35
    · subst e; rfl
    · rw [decide_eq_false e, beq_eq_false_iff_ne]
      exact fun h => e h.symm
set_option maxHeartbeats 16000000 in
set_option maxRecDepth 100000 in
theorem take_any (x : List UInt8) (hx : x.length ≤ 1048576) (B g : Nat) (pg : Int) (l : List (Evt × Value)) (hl : l.length ≤ 70) (W : World) (h : ScrV B W g pg l) (hT : SumTab W) (htab : Lib.TabIs Tryd.prog W "strings.asciiSpace" .u8 Lib.asciiSpaceTab) :
    Calls Tryd.prog 20 #[.pointer (some ⟨g, 0, none⟩), .string (ba x)] W (TakePost B g W (takeO x pg (l.map Prod.fst))) := by
  have HPt := hide (implPartsOf_any (ba x) (by rw [ba_size]; exact hx) W htab)
  have HPi := hide (parts_in x)
  obtain ⟨R, hR⟩ : ∃ y, y = takeO x pg (l.map Prod.fst) := ⟨_, rfl⟩
  have HRR := hide hR
  rw [takeO] at hR
  obtain ⟨q, hq⟩ : ∃ y, y = partsOut (ba x) := ⟨_, rfl⟩
  rw [← HRR.out]
  rw [← hq] at HPt HPi hR
  have HR := hide hR
  have HH := hide h
  have HTb : Hid (∀ wx, Below W.heap.size W wx → SumTab wx) := hide (fun wx h => sumTab_below hT h)
  have HBg : Hid (B ≤ W.heap.size) := hide (Nat.le_of_lt (Nat.lt_of_le_of_lt h.1 h.lt))
  clear hR hq h hT htab HRR
  go_enter Tryd.func20, Tryd.ntmps20
  go_wp2_with fail
  refine HPt.out.mono ?_
  rintro e w1 ⟨v, rfl, ho, hb⟩
  obtain ⟨a, c, rfl⟩ := own_slice ho
  have hcap : q.1.length ≤ c := own_capT ho
  have HB1 : Hid (Below B W w1) := hide (hb.mono HBg.out)
  have HV1 := hide (HH.out.stays hb)
  have HT1 := hide (HTb.out w1 hb)
  have HRow := hide (row_of_own ho)
  clear ho hb
  obtain ⟨ps, okp⟩ := q
  dsimp only at hcap HRow ⊢
  cases okp with
  | false =>
    have HRe : Hid (R = none) := hide (by rw [HR.out, if_pos rfl])
    go_wp2_with fail
    go_ret
    rw [HRe.out]
    exact ⟨rfl, HB1.out⟩
  | true =>
  have HR1 : Hid (R = if ps = [] ∨ (ps.getD 0 []).getD 0 0 = 35 then some (pg, l.map Prod.fst) else if pg = 0 then (pagesO ps).map fun n => (n, l.map Prod.fst) else (evI ps).bind fun e => if (l.map Prod.fst).length = 70 then none else some (pg, l.map Prod.fst ++ [e])) := hide (by rw [HR.out, if_neg (by simp)])
  clear HR
  obtain ⟨m, hm⟩ : ∃ n, n = ps.length := ⟨_, rfl⟩
  have HM := hide hm
  rw [← hm] at HRow hcap ⊢
  clear hm
  by_cases hm0 : m = 0
  · have HRe : Hid (R = some (pg, l.map Prod.fst)) := hide (by rw [HR1.out, if_pos (Or.inl (List.eq_nil_of_length_eq_zero (by rw [← HM.out]; exact hm0)))])
    subst hm0
    go_wp2_with fail
    go_ret
    rw [HRe.out]
    exact ⟨⟨rfl, l, rfl, HV1.out⟩, HB1.out⟩
  have hme : ((m : Int) == 0) = false := by rw [beq_eq_false_iff_ne]; omega
  have hmz : (0 : Int) < (m : Int) := by omega
  have hm1 : 0 < m := by omega
  have hmp : 0 < ps.length := by rw [← HM.out]; exact hm1
  have hx0 : ps.getD 0 [] ≠ [] := by
    rw [List.getD_eq_getElem?_getD, List.getElem?_eq_getElem hmp]
    exact (HPi.out.2 _ (List.getElem_mem _)).1
  have HPre := hide (fun wx => Tryd.strings_HasPrefix (ba (ps.getD 0 [])) ⟨#[35]⟩ wx)
  rw [hasPre _ hx0] at HPre
  obtain ⟨b0, o0, ha0, hc0⟩ := rowat_get HRow.out hm1
  subst ha0
  have c0 : w1.cell? ⟨b0, o0, none⟩ = some (.string (ba (ps.getD 0 []))) := by
    have := hc0 w1 (Below.refl _ _) 0 hm1
    rw [Nat.add_zero] at this
    rw [this, strVs, List.getElem?_map, List.getElem?_eq_getElem hmp, List.getD_eq_getElem?_getD, List.getElem?_eq_getElem hmp]
    rfl
  clear hc0 hm0
  by_cases hrm : (ps.getD 0 []).getD 0 0 = 35
  · have HRe : Hid (R = some (pg, l.map Prod.fst)) := hide (by rw [HR1.out, if_pos (Or.inr hrm)])
    rw [decide_eq_true hrm] at HPre
    obtain ⟨X0, hX0⟩ : ∃ y, y = ba (ps.getD 0 []) := ⟨_, rfl⟩
    rw [← hX0] at c0 HPre
    clear hrm hx0 hX0
    go_wp2_with fail
    refine (HPre.out _).mono ?_
    rintro e w2 ⟨rfl, hw⟩
    rw [hw]
    clear hw
    go_wp2_with fail
    go_ret
    rw [HRe.out]
    exact ⟨⟨rfl, l, rfl, HV1.out⟩, HB1.out⟩
  have HR2 : Hid (R = if pg = 0 then (pagesO ps).map fun n => (n, l.map Prod.fst) else (evI ps).bind fun e => if (l.map Prod.fst).length = 70 then none else some (pg, l.map Prod.fst ++ [e])) := hide (by
    rw [HR1.out, if_neg]
    rintro (h | h)
    · rw [h] at hmp
      simp at hmp
    · exact hrm h)
  rw [decide_eq_false hrm] at HPre
  obtain ⟨X0, hX0⟩ : ∃ y, y = ba (ps.getD 0 []) := ⟨_, rfl⟩
  rw [← hX0] at c0 HPre
  have hps : ∀ y ∈ ps, y.length ≤ 600 := fun y hy => (HPi.out.2 y hy).2
  have hpl : ps.length ≤ 10 := HPi.out.1
  have HPg := hide (pagesIn_any ps hmp hpl hps (some ⟨b0, o0, none⟩) c w1 (by rw [← HM.out]; exact HRow.out) HT1.out)
  have HEv := hide (eventIn_any ps hmp hpl hps (some ⟨b0, o0, none⟩) c (by rw [← HM.out]; exact hcap) w1 (by rw [← HM.out]; exact HRow.out))
  have HSm := hide (fun ev h => evOf_small hps (ev := ev) h)
  rw [← HM.out] at HPg HEv
  obtain ⟨hgB, v0, hg1, hev1⟩ := HV1.out
  have HEv1 := hide hev1
  have hcg0 : w1.cell? ⟨g, 0, none⟩ = some (.int .i64 pg) := Lib.cell_of_heap hg1 0
  have HG1 := hide hg1
  have HgB := hide hgB
  clear hrm hx0 hX0 hps hpl hmp hev1 hg1 hgB
  by_cases hpz : pg = 0
  · have HR3 : Hid (R = (pagesO ps).map fun n => (n, l.map Prod.fst)) := hide (by rw [HR2.out, if_pos hpz])
    subst hpz
    obtain ⟨po, hpo⟩ : ∃ y, y = pagesO ps := ⟨_, rfl⟩
    rw [← hpo] at HR3 HPg
    clear hpo
    go_wp2_with fail
    refine (HPre.out _).mono ?_
    rintro e w2 ⟨rfl, hw⟩
    rw [hw]
    clear hw
    go_wp2_with fail
    refine HPg.out.mono ?_
    rintro e w2 ⟨rfl, hb⟩
    have hg2 : w2.heap[g]? = some (.cells #[.int .i64 0, v0] 53 (0, 0)) := (hb.block g (Array.getElem?_eq_some_iff.1 HG1.out).1).trans HG1.out
    have d0 : w2.cell? ⟨g, 0, none⟩ = some (.int .i64 0) := Lib.cell_of_heap hg2 0
    have f0 : w2.frozen? ⟨g, 0, none⟩ = false := Lib.frozen_of_heap hg2 0
    have HB2 : Hid (Below B W w2) := hide (HB1.out.trans (hb.mono (Nat.le_trans HBg.out HB1.out.size)))
    have HSet : Hid (∀ n : Int, ScrV B (w2.setCell ⟨g, 0, none⟩ (.int .i64 n)) g n l ∧ Below B W (w2.setCell ⟨g, 0, none⟩ (.int .i64 n))) := hide (fun n => ⟨⟨HgB.out, v0, heap_set hg2, evs_setCell (evsOwn_stays HEv1.out hb) hg2⟩, HB2.out.setCell (p := ⟨g, 0, none⟩) HgB.out _⟩)
    clear hb hg2
    cases po with
    | none =>
      dsimp only [pgRet]
      go_wp2_with fail
      go_ret
      rw [HR3.out]
      exact ⟨rfl, (HSet.out 0).2⟩
    | some n =>
      dsimp only [pgRet]
      go_wp2_with fail
      go_ret
      rw [HR3.out]
      exact ⟨⟨rfl, l, rfl, (HSet.out n).1⟩, (HSet.out n).2⟩
  have hpz2 : (pg == 0) = false := by simp [hpz]
  have HR3 : Hid (R = (evI ps).bind fun e => if (l.map Prod.fst).length = 70 then none else some (pg, l.map Prod.fst ++ [e])) := hide (by rw [HR2.out, if_neg hpz])
  clear hpz HR2
  obtain ⟨eo, heo⟩ : ∃ y, y = evI ps := ⟨_, rfl⟩
  have HEo := hide heo
  rw [← heo] at HR3 HEv
  clear heo
  go_wp2_with fail
  refine (HPre.out _).mono ?_
  rintro e w2 ⟨rfl, hw⟩
  rw [hw]
  clear hw
  go_wp2_with fail
  refine HEv.out.mono ?_
  rintro e w2 ⟨⟨cs, bo, rfl, hcz, hco, hmm⟩, hb2⟩
  have HB2 : Hid (Below B W w2) := hide (HB1.out.trans (hb2.mono (Nat.le_trans HBg.out HB1.out.size)))
  have HG2 : Hid (w2.heap[g]? = some (.cells #[.int .i64 pg, v0] 53 (0, 0))) := hide ((hb2.block g (Array.getElem?_eq_some_iff.1 HG1.out).1).trans HG1.out)
  have HE2 := hide (evsOwn_stays HEv1.out hb2)
  have HSz1 : Hid (w1.heap.size ≤ w2.heap.size ∧ B ≤ w1.heap.size) := hide ⟨hb2.size, Nat.le_trans HBg.out HB1.out.size⟩
  have HMm := hide hmm
  have HOne := hide hco
  have HSz := hide hcz
  obtain ⟨w3, hw3⟩ : ∃ y, y = (w2.alloc (Obj.cells #[.int .i64 0, .int .i64 0, .string ⟨#[]⟩, .string ⟨#[]⟩, .int .i64 0, .slice none 0 0, .int .i64 0] 35)).setCells w2.heap.size 0 cs.toList := ⟨_, rfl⟩
  have HC3 : Hid (w3.heap[w2.heap.size]? = some (.cells cs 35 (0, 0))) := hide (by rw [hw3]; exact cells_setW (heap_alloc_new w2 (Obj.cells #[.int .i64 0, .int .i64 0, .string ⟨#[]⟩, .string ⟨#[]⟩, .int .i64 0, .slice none 0 0, .int .i64 0] 35)) cs (by rw [hcz]; rfl))
  have hth : Hid ((w2.alloc (Obj.cells #[.int .i64 0, .int .i64 0, .string ⟨#[]⟩, .string ⟨#[]⟩, .int .i64 0, .slice none 0 0, .int .i64 0] 35)).there w2.heap.size 0 cs.size) := hide (by rw [hcz]; exact there_of (heap_alloc_new w2 (Obj.cells #[.int .i64 0, .int .i64 0, .string ⟨#[]⟩, .string ⟨#[]⟩, .int .i64 0, .slice none 0 0, .int .i64 0] 35)) 0 7 (show 0 + 7 ≤ 7 by decide))
  have hb3 : Below w2.heap.size w2 w3 := by rw [hw3]; exact below_cells (Nat.le_refl _) _ 0 _ ((Below.refl _ _).alloc (Nat.le_refl _) _)
  have HB3 : Hid (Below B W w3) := hide (HB2.out.trans (hb3.mono (Nat.le_trans HSz1.out.2 HSz1.out.1)))
  have HG3 : Hid (w3.heap[g]? = some (.cells #[.int .i64 pg, v0] 53 (0, 0))) := hide ((hb3.block g (Array.getElem?_eq_some_iff.1 HG2.out).1).trans HG2.out)
  have HE3 := hide (evsOwn_stays HE2.out hb3)
  have HOo : Hid (∀ (u : Value) (n : Nat) (bs : List Value), w2.ownsRow w1.heap.size 4 1 u n bs → w3.ownsRow w1.heap.size 4 1 u n bs) := hide (fun u n bs ho => own_stays ho hb3)
  have HW3 := hide hw3.symm
  have HNz : Hid ((Tryd.prog.info? 35).map (·.size) = some cs.size) := hide (by rw [hcz]; exact Tryd.sizeEvI)
  clear hw3 hcz hco hmm hb2 hb3 c0 hcg0
  go_upto_region 10 with ((with_reducible refine wpList_storeL ?_ 35 (.tmp 7) (.tmp 41) ?_ w2.heap.size 0 cs ?_ ?_ hth.out ?_ ?_ HW3.out ?_); exact rfl; exact rfl; exact rfl; exact rfl; exact HNz.out; exact HOne.out)
  obtain ⟨ge, hge⟩ : ∃ g, g = w2.heap.size := ⟨_, rfl⟩
  have HGe : Hid (w1.heap.size ≤ ge) := hide (by rw [hge]; exact HSz1.out.1)
  rw [← hge] at HC3 ⊢
  clear hge hth HW3
  obtain ⟨av, cv, rfl⟩ := own_slice HE3.out.1
  have HKl : Hid (∀ p ∈ l, ∀ b, p.2.ownBlock = some b → b < w1.heap.size) := hide (fun p hp b hb => ((HEv1.out.2.1 p hp).lt b hb).2)
  obtain ⟨ll, hllx⟩ : ∃ n, n = l.length := ⟨_, rfl⟩
  have HLl := hide hllx
  rw [← hllx] at HE3 HG3 hl
  have HRn : Hid (R = eo.bind fun e => if ll = 70 then none else some (pg, l.map Prod.fst ++ [e])) := hide (by rw [HR3.out, List.length_map, hllx])
  clear hllx HR3
  have k1 : w3.cell? ⟨g, 1, none⟩ = some (.slice av ll cv) := Lib.cell_of_heap HG3.out 1
  cases eo with
  | none =>
    have hk : bo = false := HMm.out
    subst hk
    go_wp2_with fail
    go_ret
    rw [HRn.out]
    exact ⟨rfl, HB3.out⟩
  | some ev =>
  obtain ⟨hk, u, hcs, hou⟩ := HMm.out
  subst hk
  by_cases h70 : ll = 70
  · subst h70
    go_wp2_with fail
    go_ret
    rw [HRn.out]
    exact ⟨rfl, HB3.out⟩
  have e70 : ((ll : Int) == 70) = false := by rw [beq_eq_false_iff_ne]; omega
  have HRs : Hid (R = some (pg, l.map Prod.fst ++ [ev])) := hide (by rw [HRn.out, Option.bind_some, if_neg h70])
  have hl1 : ll + 1 ≤ 70 := by omega
  obtain ⟨au, cu, rfl⟩ := own_slice hou
  have HCs := hide hcs
  have HOu := hide (HOo.out _ _ _ hou)
  clear hou h70 HRn HOo
  obtain rfl : cs = #[.int .i64 ev.kind, .int .i64 ev.id, .string ev.key, .string ev.val, .int .i64 ev.stage, .slice au ev.left.length cu, .int .i64 ev.torn] := hcs
  go_upto_region 12 with fail
  have hSd : (fun wx => wx.heap[g]? = some (Obj.cells #[.int .i64 pg, .slice av ll cv] 53 (0, 0)) ∧ wx.heap[ge]? = some (Obj.cells #[.int .i64 ev.kind, .int .i64 ev.id, .string ev.key, .string ev.val, .int .i64 ev.stage, .slice au ev.left.length cu, .int .i64 ev.torn] 35 (0, 0))) w3.drew := ⟨HG3.out, HC3.out⟩
  refine wp_regionZ (S := (fun wx => wx.heap[g]? = some (Obj.cells #[.int .i64 pg, .slice av ll cv] 53 (0, 0)) ∧ wx.heap[ge]? = some (Obj.cells #[.int .i64 ev.kind, .int .i64 ev.id, .string ev.key, .string ev.val, .int .i64 ev.stage, .slice au ev.left.length cu, .int .i64 ev.torn] 35 (0, 0)))) 10 (by kernel_rfl) ?_
  refine takeZ 0 53 ?_ rfl rfl (by kernel_rfl) (by kernel_rfl) (by kernel_rfl) (by kernel_rfl) (fun _ _ _ h => h) (Or.inl ⟨by rfl, ?_⟩) hSd ?_
  rotate_left
  · (intro wx hSw; have s0 : wx.cell? ⟨g, 0, none⟩ = some (.int .i64 pg) := Lib.cell_of_heap hSw.1 0; have s1 : wx.cell? ⟨g, 1, none⟩ = some (.slice av ll cv) := Lib.cell_of_heap hSw.1 1; clear hSw; go_simp; try with_reducible rfl)
  (try simp only [List.setIfInBounds_toArray, List.set_cons_zero, List.set_cons_succ])
  refine takeZ 1 54 ?_ rfl rfl (by kernel_rfl) (by kernel_rfl) (by kernel_rfl) (by kernel_rfl) (fun _ _ _ h => h) (Or.inl ⟨by rfl, ?_⟩) hSd ?_
  rotate_left
  · (intro wx hSw; have s0 : wx.cell? ⟨g, 0, none⟩ = some (.int .i64 pg) := Lib.cell_of_heap hSw.1 0; have s1 : wx.cell? ⟨g, 1, none⟩ = some (.slice av ll cv) := Lib.cell_of_heap hSw.1 1; clear hSw; go_simp; try with_reducible rfl)
  (try simp only [List.setIfInBounds_toArray, List.set_cons_zero, List.set_cons_succ])
  refine takeZ 2 55 ?_ rfl rfl (by kernel_rfl) (by kernel_rfl) (by kernel_rfl) (by kernel_rfl) (fun _ _ _ h => h) (Or.inl ⟨by rfl, ?_⟩) hSd ?_
  rotate_left
  · (intro wx hSw; have s0 : wx.cell? ⟨g, 0, none⟩ = some (.int .i64 pg) := Lib.cell_of_heap hSw.1 0; have s1 : wx.cell? ⟨g, 1, none⟩ = some (.slice av ll cv) := Lib.cell_of_heap hSw.1 1; clear hSw; go_simp; try with_reducible rfl)
  (try simp only [List.setIfInBounds_toArray, List.set_cons_zero, List.set_cons_succ])
  refine takeZ 3 56 ?_ rfl rfl (by kernel_rfl) (by kernel_rfl) (by kernel_rfl) (by kernel_rfl) (fun _ _ _ h => h) (Or.inl ⟨by rfl, ?_⟩) hSd ?_
  rotate_left
  · (intro wx hSw; have s0 : wx.cell? ⟨g, 0, none⟩ = some (.int .i64 pg) := Lib.cell_of_heap hSw.1 0; have s1 : wx.cell? ⟨g, 1, none⟩ = some (.slice av ll cv) := Lib.cell_of_heap hSw.1 1; clear hSw; go_simp; try with_reducible rfl)
  (try simp only [List.setIfInBounds_toArray, List.set_cons_zero, List.set_cons_succ])
  refine takeZ 4 57 ?_ rfl rfl (by kernel_rfl) (by kernel_rfl) (by kernel_rfl) (by kernel_rfl) (fun _ _ _ h => h) (Or.inl ⟨by rfl, ?_⟩) hSd ?_
  rotate_left
  · (intro wx hSw; have s0 : wx.cell? ⟨g, 0, none⟩ = some (.int .i64 pg) := Lib.cell_of_heap hSw.1 0; have s1 : wx.cell? ⟨g, 1, none⟩ = some (.slice av ll cv) := Lib.cell_of_heap hSw.1 1; clear hSw; go_simp; try with_reducible rfl)
  (try simp only [List.setIfInBounds_toArray, List.set_cons_zero, List.set_cons_succ])
  refine takeZ 5 58 (.agg #[.int .i64 ev.kind, .int .i64 ev.id, .string ev.key, .string ev.val, .int .i64 ev.stage, .slice au ev.left.length cu, .int .i64 ev.torn]) rfl rfl (by kernel_rfl) (by kernel_rfl) (by kernel_rfl) (by kernel_rfl) (fun _ _ _ h => h) (yields_loadL (by rfl) 35 (.tmp 7) rfl ge 0 rfl #[.int .i64 ev.kind, .int .i64 ev.id, .string ev.key, .string ev.val, .int .i64 ev.stage, .slice au ev.left.length cu, .int .i64 ev.torn] _ (fun _ h => range_all h.2) Tryd.underlying35 rfl HNz.out) hSd ?_
  (try simp only [List.setIfInBounds_toArray, List.set_cons_zero, List.set_cons_succ])
  have hzB : B ≤ w3.drew.heap.size := Nat.le_trans HBg.out HB3.out.size
  have hgl : g < w3.drew.heap.size := (Array.getElem?_eq_some_iff.1 HG3.out).1
  have hel : ge < w3.drew.heap.size := (Array.getElem?_eq_some_iff.1 HC3.out).1
  have hSa : (fun wx => wx.heap[g]? = some (Obj.cells #[.int .i64 pg, .slice av ll cv] 53 (0, 0)) ∧ wx.heap[ge]? = some (Obj.cells #[.int .i64 ev.kind, .int .i64 ev.id, .string ev.key, .string ev.val, .int .i64 ev.stage, .slice au ev.left.length cu, .int .i64 ev.torn] 35 (0, 0))) (w3.drew.alloc (Obj.cells #[.int .i64 ev.kind, .int .i64 ev.id, .string ev.key, .string ev.val, .int .i64 ev.stage, .slice au ev.left.length cu, .int .i64 ev.torn] 35)) := ⟨(heap_alloc_old _ _ hgl).trans HG3.out, (heap_alloc_old _ _ hel).trans HC3.out⟩
  have hown : w3.drew.ownsRow B 35 7 (.slice av ll cv) ll (evs l) := by have h := HE3.out.1; rw [← HLl.out] at h; exact h
  obtain ⟨i0, hinf, hz0, hz1, hz2⟩ := info_parts Tryd.infoEvE
  refine readyZ (i := 6) (by kernel_rfl) rfl (fun K hK => ?_)
  go_simp
  refine hK.out _ _ (Or.inr hSa) ?_
  clear hK K
  refine readyZ (i := 7) (by kernel_rfl) rfl (fun K hK => ?_)
  refine step_append_lies _ rfl (.tmp 57) (.tmp 59) 27 rfl B 35 i0 (.agg #[.int .i64 0, .int .i64 0, .string ⟨#[]⟩, .string ⟨#[]⟩, .int .i64 0, .slice none 0 0, .int .i64 0]) 7 88 Tryd.underlying27 hinf hz0 hz1 hz2 rfl (by decide) (.slice av ll cv) ll (evs l) rfl (hown.alloc _) ⟨w3.drew.heap.size, 0, none⟩ 1 1 (ev7 ((ev, .slice au ev.left.length cu) : Evt × Value)) rfl rfl (new_cells w3.drew #[.int .i64 ev.kind, .int .i64 ev.id, .string ev.key, .string ev.val, .int .i64 ev.stage, .slice au ev.left.length cu, .int .i64 ev.torn] 35) (oneCell_ev7 _ rfl) (by decide) (by unfold maxLen; omega) (by omega) (Nat.le_trans hzB (by simp)) _ rfl ?_
  intro b' c' w4 hown' hgrow hor hlt4
  have hne1 : (Value.slice av ll cv).ownBlock ≠ some g := own_noScr hown (by decide) HG3.out
  have hne2 : (Value.slice av ll cv).ownBlock ≠ some ge := fun e => by rw [HLl.out] at e; have h := (HEv1.out.1.lt ge e).2; have := HGe.out; omega
  have hS4 : (fun wx => wx.heap[g]? = some (Obj.cells #[.int .i64 pg, .slice av ll cv] 53 (0, 0)) ∧ wx.heap[ge]? = some (Obj.cells #[.int .i64 ev.kind, .int .i64 ev.id, .string ev.key, .string ev.val, .int .i64 ev.stage, .slice au ev.left.length cu, .int .i64 ev.torn] 35 (0, 0))) w4 := ⟨(hgrow.block g (Nat.lt_of_lt_of_le hgl (by simp)) (fun e => hne1 e.symm)).trans hSa.1, (hgrow.block ge (Nat.lt_of_lt_of_le hel (by simp)) (fun e => hne2 e.symm)).trans hSa.2⟩
  have hb4 : Below B w3.drew w4 := below_grow (Below.refl _ _) hzB hown ((Below.refl _ _).alloc hzB _) hgrow
  have HO4 : Hid (EvsOwn w4 B (.slice (some ⟨b', 0, none⟩) (ll + 1) c') (l ++ [((ev, .slice au ev.left.length cu) : Evt × Value)])) := hide (evsOwn_snoc (W := w3.drew) (v := .slice av ll cv) (K := w1.heap.size) (by rw [HLl.out] at hown ⊢; exact ⟨hown, HE3.out.2⟩) HKl.out (own_down (show w3.drew.ownsRow w1.heap.size 4 1 _ _ _ from HOu.out) HSz1.out.2) (fun b hb => (HOu.out.lt b hb).1) (by rw [← HLl.out]; exact hown') (kept_appE hgrow))
  have HB4 : Hid (Below B W w4) := hide (HB3.out.drew.trans hb4)
  refine hK.out (Act.put _ (some 60) _) _ (Or.inr hS4) ?_
  clear hK K
  simp only [Act.put, List.setIfInBounds_toArray, List.set_cons_zero, List.set_cons_succ]
  have s1 : w4.cell? ⟨g, 1, none⟩ = some (.slice av ll cv) := Lib.cell_of_heap hS4.1 1
  refine readyZ (i := 8) (by kernel_rfl) rfl (fun K hK => ?_)
  go_simp
  refine hK.out _ _ (Or.inr hS4) ?_
  clear hK K s1
  refine takeZ 9 62 ?_ rfl rfl (by kernel_rfl) (by kernel_rfl) (by kernel_rfl) (by kernel_rfl) (fun _ _ _ h => h) (Or.inl ⟨by rfl, ?_⟩) hS4 ?_
  rotate_left
  · (intro wx hSw; have s0 : wx.cell? ⟨g, 0, none⟩ = some (.int .i64 pg) := Lib.cell_of_heap hSw.1 0; have s1 : wx.cell? ⟨g, 1, none⟩ = some (.slice av ll cv) := Lib.cell_of_heap hSw.1 1; clear hSw; go_simp; try with_reducible rfl)
  (try simp only [List.setIfInBounds_toArray, List.set_cons_zero, List.set_cons_succ])
  have y1 : w4.cell? ⟨g, 1, none⟩ = some (.slice av ll cv) := Lib.cell_of_heap hS4.1 1
  have z1 : w4.frozen? ⟨g, 1, none⟩ = false := Lib.frozen_of_heap hS4.1 1
  have HV5 : Hid (ScrV B (w4.setCell ⟨g, 1, none⟩ (.slice (some ⟨b', 0, none⟩) (ll + 1) c')) g pg (l ++ [((ev, .slice au ev.left.length cu) : Evt × Value)])) := hide ⟨HgB.out, _, heap_set hS4.1, evs_setCell HO4.out hS4.1⟩
  have HB5 := hide (HB4.out.setCell (p := ⟨g, 1, none⟩) HgB.out (.slice (some ⟨b', 0, none⟩) (ll + 1) c'))
  obtain ⟨w5, hw5⟩ : ∃ wx, wx = w4.setCell ⟨g, 1, none⟩ (.slice (some ⟨b', 0, none⟩) (ll + 1) c') := ⟨_, rfl⟩
  rw [← hw5] at HV5 HB5
  refine readyZ (i := 10) (by kernel_rfl) rfl (fun K hK => ?_)
  go_simp
  rw [← hw5]
  refine hK.out _ _ (Or.inl rfl) ?_
  clear hK K
  refine doneZ (by kernel_rfl) ?_ _
  clear hw5 y1 z1 hS4 hb4 hne1 hne2 hown hSa hgrow hor hlt4 hSd
  go_wp2_with fail
  go_ret
  rw [HRs.out]
  exact ⟨⟨rfl, _, by rw [List.map_append]; rfl, HV5.out⟩, HB5.out⟩
open Go.RowKit
theorem tab_below {w w' : World} {name : String} {k : IntKind} {zs : List Int} (h : Lib.TabIs Tryd.prog w name k zs) (hb : Below w.heap.size w w') : Lib.TabIs Tryd.prog w' name k zs := by
  unfold Lib.TabIs World.var? at h ⊢
  obtain ⟨g, hg, h⟩ := Option.bind_eq_some_iff.1 h
  rw [hg, Option.bind_some]
  cases hh : w.heap[g]? with
  | none => rw [hh] at h; cases h
  | some o => rw [hb.block g (Array.getElem?_eq_some_iff.1 hh).1, hh]; rw [hh] at h; exact h
theorem evs_down {w : World} {B B' : Nat} {v : Value} {l : List (Evt × Value)} (h : EvsOwn w B v l) (hb : B' ≤ B) : EvsOwn w B' v l := ⟨own_down h.1 hb, fun p hp => own_down (h.2.1 p hp) hb, h.2.2⟩
theorem takeO_len {x : List UInt8} {pg : Int} {l : List Evt} {q : Int × List Evt} (h : takeO x pg l = some q) (hl : l.length ≤ 70) : q.2.length ≤ 70 := by
  rw [takeO] at h
  split at h
  · cases h
  · split at h
    · injection h with h; subst h; exact hl
    · split at h
      · obtain ⟨n, -, h⟩ := Option.map_eq_some_iff.1 h; subst h; exact hl
      · obtain ⟨ev, -, h⟩ := Option.bind_eq_some_iff.1 h
        split at h
        · cases h
        · injection h with h
          subst h
          rw [List.length_append, List.length_singleton]
          omega
set_option maxHeartbeats 16000000 in
set_option maxRecDepth 100000 in
theorem implReadScript_any (s : ByteArray) (hs : s.size ≤ 1048576) (w : World) (hT : SumTab w) (htab : Lib.TabIs Tryd.prog w "strings.asciiSpace" .u8 Lib.asciiSpaceTab) :
    Calls Tryd.prog 8 #[.string s] w fun e w' => ScrRet w w' (scrO s) e := by
  have HLn := hide (implLines_any s hs w)
  have HTb : Hid (∀ wx, Below w.heap.size w wx → SumTab wx ∧ Lib.TabIs Tryd.prog wx "strings.asciiSpace" .u8 Lib.asciiSpaceTab) := hide (fun wx h => ⟨sumTab_below hT h, tab_below htab h⟩)
  have HSm : Hid (∀ x ∈ linesOf s, x.length ≤ 1048576) := hide (fun x hx => by
    have h := splitL_size _ x hx
    have h2 : s.data.toList.length = s.size := by rw [Array.length_toList]; rfl
    omega)
  have HLl : Hid ((linesOf s).length ≤ 1048576) := hide (by
    have h := splitL_len s.data.toList
    have h2 : s.data.toList.length = s.size := by rw [Array.length_toList]; rfl
    show (splitL s.data.toList).length ≤ 1048576
    omega)
  obtain ⟨R, hR⟩ : ∃ r, r = scrO s := ⟨_, rfl⟩
  have HRR := hide hR
  obtain ⟨L, hL⟩ : ∃ L, L = linesOf s := ⟨_, rfl⟩
  have HLL := hide hL
  rw [← hR]
  rw [← hL] at HLn HSm HLl
  rw [scrO, ← hL] at hR
  have HRs := hide hR
  clear hR hL hT htab
  have HNone : Hid (∀ wx, Below w.heap.size w wx → EvsOwn (wx.alloc (.cells #[] 35)) w.heap.size (.slice (some ⟨wx.heap.size, 0, none⟩) 0 0) [] ∧ Below w.heap.size w (wx.alloc (.cells #[] 35))) := hide (fun wx h => ⟨evs_none wx w.heap.size h.size, h.alloc h.size _⟩)
  go_enter Tryd.func8, Tryd.ntmps8
  by_cases hbig : 3000 < s.size
  · have hb1 : (3000 : Int) < (s.size : Int) := by omega
    have HRe : Hid (R = (0, [], -1)) := hide (by rw [HRs.out, if_pos (Or.inl hbig)])
    clear hbig
    go_wp2_with fail
    go_ret3
    rw [HRe.out]
    exact scr_mk _ [] rfl rfl (HNone.out w (Below.refl _ _)).1 (HNone.out w (Below.refl _ _)).2
  have hb1 : ¬ (3000 : Int) < (s.size : Int) := by omega
  go_wp2_with fail
  refine HLn.out.mono ?_
  rintro e w2 ⟨v2, rfl, ho2, hb2⟩
  obtain ⟨a2, c2, rfl⟩ := own_slice ho2
  obtain ⟨n, hn⟩ : ∃ n, n = L.length := ⟨_, rfl⟩
  have HN := hide hn
  have HB2 := hide hb2
  have HRow := hide (row_of_own ho2)
  rw [← hn] at HRow ⊢
  have hnl : n ≤ 1048576 := by rw [hn]; exact HLl.out
  clear ho2 hb2 hn
  by_cases h90 : 90 < n
  · have hb9 : (90 : Int) < (n : Int) := by omega
    have HRe : Hid (R = (0, [], -1)) := hide (by rw [HRs.out, if_pos (Or.inr (by rw [← HN.out]; exact h90))])
    clear h90
    go_wp2_with fail
    go_ret3
    rw [HRe.out]
    exact scr_mk _ [] rfl rfl (HNone.out w2 HB2.out).1 (HNone.out w2 HB2.out).2
  have hb9 : ¬ (90 : Int) < (n : Int) := by omega
  have HRg : Hid (R = scrGo L 0 0 []) := hide (by rw [HRs.out, if_neg]; rintro (h | h); exact hbig h; rw [← HN.out] at h; exact h90 h)
  clear HRs hbig h90
  go_wp2_with fail
  have hw2s : w.heap.size ≤ w2.heap.size := HB2.out.size
  have HSiz := hide hw2s
  clear hw2s
  go_loopg [23] n (fun q iv wr => ∃ (i : Nat) (pg : Int) (l : List (Evt × Value)), i ≤ n ∧ q + i = n ∧ iv = .int .i64 (i : Int) ∧ l.length ≤ 70 ∧ Hid (R = scrGo (L.drop i) i pg (l.map Prod.fst)) ∧ Hid (ScrV w2.heap.size wr (w2.heap.size + 1) pg l) ∧ Hid (Below w2.heap.size w2 wr))
  case atStart =>
    refine ⟨0, 0, [], by omega, by omega, rfl, by simp, HRg, hide ⟨by omega, .slice (some ⟨w2.heap.size, 0, none⟩) 0 0, ?_, ?_⟩, hide (((Below.refl _ _).alloc (Nat.le_refl _) _).alloc (by simp) _)⟩
    · have h := heap_alloc_new (w2.alloc (Obj.cells #[] 35)) (Obj.cells #[.int .i64 0, .slice (some ⟨w2.heap.size, 0, none⟩) 0 0] 53)
      rw [show (w2.alloc (Obj.cells #[] 35)).heap.size = w2.heap.size + 1 from by simp] at h
      exact h
    · exact evsOwn_stays (evs_none w2 w2.heap.size (Nat.le_refl _)) ((Below.refl _ _).alloc (Nat.le_refl _) _)
  case round =>
    obtain ⟨i, pg, l, hin, hq, rfl, hll, HRt, HV, HB⟩ := hrel
    have HQ := hide hq
    clear hq
    have HBw : Hid (Below w.heap.size w wr) := hide (HB2.out.trans (HB.out.mono HSiz.out))
    by_cases hlt : i < n
    · obtain ⟨x, hxi⟩ : ∃ x, L[i]? = some x := ⟨L[i]'(by rw [← HN.out]; exact hlt), List.getElem?_eq_getElem _⟩
      have HX : Hid (R = match takeO x pg (l.map Prod.fst) with | none => (0, [], (i : Int) + 1) | some q => scrGo (L.drop (i + 1)) (i + 1) q.1 q.2) := hide (by rw [HRt.out, scr_drop hxi]; exact scrGo_take x _ i pg _)
      have HC := hide (take_any x (HSm.out x (List.mem_of_getElem? hxi)) w2.heap.size (w2.heap.size + 1) pg l hll wr HV.out (HTb.out wr HBw.out).1 (HTb.out wr HBw.out).2)
      have HTl := hide (fun q h => takeO_len (x := x) (pg := pg) (l := l.map Prod.fst) (q := q) h (by rw [List.length_map]; exact hll))
      obtain ⟨b0, o0, rfl, hc0⟩ := rowat_get HRow.out (by omega)
      have c0 : wr.cell? ⟨b0, o0 + i, none⟩ = some (.string (ba x)) := by
        rw [hc0 wr HB.out i hlt, strVs, List.getElem?_map, hxi]
        rfl
      obtain ⟨tk, hto⟩ : ∃ y, y = takeO x pg (l.map Prod.fst) := ⟨_, rfl⟩
      rw [← hto] at HX HC HTl
      have hi0 : (0 : Int) ≤ (i : Int) := by omega
      have hi1 : (i : Int) < (n : Int) := by omega
      clear hc0 hxi hto
      go_wp2_with fail
      refine HC.out.mono ?_
      rintro e w5 ⟨hm, hb5⟩
      have HB5 : Hid (Below w2.heap.size w2 w5) := hide (HB.out.trans hb5)
      have HB5w : Hid (Below w.heap.size w w5) := hide (HBw.out.trans (hb5.mono HSiz.out))
      clear hb5
      cases tk with
      | none =>
        have hm : e = .returned (.bool false) := hm
        subst hm
        have HRe : Hid (R = (0, [], (i : Int) + 1)) := HX
        go_wp2_with fail
        go_ret3
        rw [HRe.out]
        exact scr_mk _ [] rfl (by go_num) (HNone.out w5 HB5w.out).1 (HNone.out w5 HB5w.out).2
      | some q =>
        obtain ⟨rfl, l5, hl5, hv5⟩ := hm
        have HV5 := hide hv5
        have HR5 : Hid (R = scrGo (L.drop (i + 1)) (i + 1) q.1 (l5.map Prod.fst)) := hide (by rw [HX.out, hl5])
        have hl6 : l5.length ≤ 70 := by have h := HTl.out q rfl; rw [← hl5, List.length_map] at h; exact h
        clear hl5 hv5
        go_wp2_with fail
        go_roundg (gk - 1)
        case measure => have := HQ.out; omega
        case rel => exact ⟨i + 1, q.1, l5, by omega, by have := HQ.out; omega, by go_num, hl6, HR5, HV5, HB5⟩
    · obtain rfl : i = n := by omega
      have HRe : Hid (R = if pg = 0 then (0, [], 1) else (pg, l.map Prod.fst, 0)) := hide (by rw [HRt.out, HN.out, List.drop_length, scrGo])
      obtain ⟨-, v, hg, hev⟩ := HV.out
      have e0 : wr.cell? ⟨w2.heap.size + 1, 0, none⟩ = some (.int .i64 pg) := Lib.cell_of_heap hg 0
      have e1 : wr.cell? ⟨w2.heap.size + 1, 1, none⟩ = some v := Lib.cell_of_heap hg 1
      obtain ⟨av, cv, rfl⟩ := own_slice hev.1
      have HEv := hide (evs_down hev HSiz.out)
      clear hg hev
      by_cases hpz : pg = 0
      · subst hpz
        have HRf : Hid (R = (0, [], 1)) := hide (by rw [HRe.out, if_pos rfl])
        go_wp2_with fail
        go_ret3
        rw [HRf.out]
        exact scr_mk _ [] rfl rfl (HNone.out wr HBw.out).1 (HNone.out wr HBw.out).2
      · have hpz2 : (pg == 0) = false := by simp [hpz]
        have HRf : Hid (R = (pg, l.map Prod.fst, 0)) := hide (by rw [HRe.out, if_neg hpz])
        clear hpz
        go_wp2_with fail
        go_quiet (fail)
        go_wp2_with fail
        go_ret3
        rw [HRf.out]
        exact scr_mk _ l rfl rfl (by have h := evsOwn_stays HEv.out (below_drewN (Below.refl wr.heap.size wr) nq); exact h) (below_drewN HBw.out nq)
open Go.RowKit
theorem Tryd.bldSize : (Tryd.prog.info? 44).map (·.size) = some 2 := by kernel_rfl
theorem Tryd.bldLies : liesAt Tryd.prog Tryd.prog.depth 44 (2 / Tryd.prog.cellsOf 44) 0 44 1 = true := by kernel_rfl
theorem Tryd.bldByte : (Tryd.prog.info? 5).map (fun i => (i.zero, i.size, i.bytes)) = some (some (.int .u8 0), 1, 1) := by kernel_rfl
set_option maxHeartbeats 1000000 in
set_option maxRecDepth 100000 in
theorem bld_used (b : Nat) (w : World) (h0 : w.cell? ⟨b, 0, none⟩ = some (.pointer (some ⟨b, 0, none⟩))) :
    Calls Tryd.prog 35 #[.pointer (some ⟨b, 0, none⟩)] w fun e w' => e = .returned (.tuple #[]) ∧ w' = w := by
  obtain ⟨j, hj, -⟩ := Option.map_eq_some_iff.1 Tryd.bldSize
  go_enter Tryd.func35, Tryd.ntmps35
  go_wp2
  rw [Lib.run_neq_ptr_same w _ Tryd.underlying42 hj]
  go_wp2
  go_end0
  exact ⟨rfl, rfl⟩
set_option maxHeartbeats 1000000 in
set_option maxRecDepth 100000 in
theorem bld_fresh (b : Nat) (w : World) (h0 : w.cell? ⟨b, 0, none⟩ = some (.pointer none)) (hsh : w.shape? b = some (44, 2)) (hfz : w.frozen? ⟨b, 0, none⟩ = false) :
    Calls Tryd.prog 35 #[.pointer (some ⟨b, 0, none⟩)] w fun e w' => e = .returned (.tuple #[]) ∧ w' = w.setCell ⟨b, 0, none⟩ (.pointer (some ⟨b, 0, none⟩)) := by
  obtain ⟨j, hj, hjs⟩ := Option.map_eq_some_iff.1 Tryd.bldSize
  go_enter Tryd.func35, Tryd.ntmps35
  go_wp2
  rw [Lib.run_to_unsafe w ⟨b, 0, none⟩ Tryd.underlying42 Tryd.underlying89 hj (by rw [hjs]; decide) hsh (Nat.zero_lt_succ 1)]
  simp only [Result.andThen]
  rw [Oper.upon_value]
  go_wp2
  rw [run_callFunc_extern Tryd.func48 (by kernel_rfl) (by kernel_rfl) (by kernel_rfl) (e := Extern.AbiNoEscape.same) (by kernel_rfl)]
  rw [Lib.run_noEscape]
  simp only [Result.andThen]
  rw [Oper.upon_value]
  go_wp2
  rw [Lib.run_from_unsafe w ⟨b, 0, none⟩ Tryd.underlying89 Tryd.underlying42 hj hsh Tryd.bldLies]
  simp only [Result.andThen]
  rw [Oper.upon_value]
  go_wp2
  go_end0
  exact ⟨rfl, rfl⟩
theorem bld_check (B b : Nat) (bs : List Value) (w : World) (h : Lib.IsBuilder 44 5 B b bs w) :
    Calls Tryd.prog 35 #[.pointer (some ⟨b, 0, none⟩)] w fun e w' => e = .returned (.tuple #[]) ∧ (Lib.BuilderAt 44 5 B b (.pointer (some ⟨b, 0, none⟩)) bs w' ∧ Below B w w') := by
  rcases h with h | h
  · refine (bld_fresh b w h.cell0 h.shape h.frozen0).mono ?_
    rintro e w' ⟨rfl, rfl⟩
    exact ⟨rfl, h.used _, (Below.refl B w).setCell (p := ⟨b, 0, none⟩) h.1 _⟩
  · refine (bld_used b w h.cell0).mono ?_
    rintro e w' ⟨rfl, rfl⟩
    exact ⟨rfl, h, Below.refl B _⟩
set_option maxHeartbeats 2000000 in
set_option maxRecDepth 100000 in
theorem bld_write (B b : Nat) (bs : List Value) (s : ByteArray) (w : World) (h : Lib.IsBuilder 44 5 B b bs w) (hlen : bs.length + s.size ≤ 140737488355328) (hBw : B ≤ w.heap.size) :
    Calls Tryd.prog 17 #[.pointer (some ⟨b, 0, none⟩), .string s] w fun e w' => e = .returned (.tuple #[.int .i64 s.size, .nilIface]) ∧ (Lib.BuilderAt 44 5 B b (.pointer (some ⟨b, 0, none⟩)) (bs ++ Lib.strCells s) w' ∧ Below B w w') := by
  obtain ⟨i0, hi, hz0, hz1, hz2⟩ := info_parts Tryd.bldByte
  go_enter Tryd.func17, Tryd.ntmps17
  go_wp2_with (go_at_call 35; refine (bld_check B b bs _ h).mono ?_)
  rintro e w1 ⟨rfl, h1, hb1⟩
  obtain ⟨hB, v, hbk, hown, hne⟩ := h1
  have c0 : w1.cell? ⟨b, 0, none⟩ = some (.pointer (some ⟨b, 0, none⟩)) := by rw [Lib.cell_of_heap hbk]; rfl
  have c1 : w1.cell? ⟨b, 1, none⟩ = some v := by rw [Lib.cell_of_heap hbk]; rfl
  go_wp2_with (at_builtin; refine Lib.wpList_append_own_string _ rfl _ _ 22 9 rfl B 5 i0 Tryd.underlying22 Tryd.underlying9 hi hz0 hz1 hz2 _ _ _ rfl hown s rfl ?c3 ?c4 ?c5 ?_)
  case c3 => unfold maxLen; omega
  case c4 => omega
  case c5 => have := hb1.size; omega
  intro v' w2 hown' hgrow _
  have hlt : b < w1.heap.size := by
    rcases Nat.lt_or_ge b w1.heap.size with h' | h'
    · exact h'
    · simp [Array.getElem?_eq_none h'] at hbk
  have hb2 : w2.heap[b]? = some (.cells #[.pointer (some ⟨b, 0, none⟩), v] 44 (0, 0)) := by
    rw [hgrow.block b hlt (fun e => hne e.symm)]
    exact hbk
  have d0 : w2.cell? ⟨b, 0, none⟩ = some (.pointer (some ⟨b, 0, none⟩)) := by rw [Lib.cell_of_heap hb2]; rfl
  have d1 : w2.cell? ⟨b, 1, none⟩ = some v := by rw [Lib.cell_of_heap hb2]; rfl
  have f1 : w2.frozen? ⟨b, 1, none⟩ = false := Lib.frozen_of_heap hb2 1
  obtain ⟨ao, n', cap, rfl⟩ : ∃ ao n' cap, v' = .slice ao n' cap := by
    rcases hown'.2 with ⟨hv, _⟩ | ⟨g, cap, cur, hv, _⟩
    · exact ⟨_, _, _, hv⟩
    · exact ⟨_, _, _, hv⟩
  go_wp2
  go_ret2
  refine ⟨rfl, ?_, ?_⟩
  · exact Lib.BuilderAt.put (T := 44) (e := 5) hB hb2 (bs' := bs ++ Lib.strCells s) (by simpa [Lib.strCells_length] using hown') (by decide)
  · exact (hb1.grown hgrow (by have := hb1.size; omega) (fun k hk => (hown.lt k hk).1)).setCell (p := ⟨b, 1, none⟩) hB _
end Go.Proofs.YtmmepgincbngeaaDoor
namespace Go.Proofs
open Go.Shelf
def Tryd.lays169_ren : Go.Shelf.Ren := ⟨fun | 169 => 18 | n => n, fun | 70 => 42 | 9 => 9 | 0 => 0 | 72 => 44 | 37 => 22 | 127 => 75 | 3 => 3 | 5 => 5 | n => n, fun | n => n⟩
theorem Tryd.lays169 : Go.Proofs.Lays.n169 Tryd.prog Tryd.lays169_ren := {
  mixed := by kernel_rfl
  f169 := Tryd.func18.trans (congrArg some (by kernel_rfl))
  t0 := Tryd.underlying0
  a0 := Tryd.isAgg0
  z0 := Tryd.sizeOf0
  v0 := Tryd.zeroValue0
  t3 := Tryd.underlying3
  a3 := Tryd.isAgg3
  z3 := Tryd.sizeOf3
  v3 := Tryd.zeroValue3
  t9 := Tryd.underlying9
  a9 := Tryd.isAgg9
  z9 := Tryd.sizeOf9
  v9 := Tryd.zeroValue9
  t37 := Tryd.underlying22
  a37 := Tryd.isAgg22
  z37 := Tryd.sizeOf22
  v37 := Tryd.zeroValue22
  t70 := Tryd.underlying42
  a70 := Tryd.isAgg42
  z70 := Tryd.sizeOf42
  v70 := Tryd.zeroValue42
  t72 := Tryd.underlying44
  a72 := Tryd.isAgg44
  z72 := Tryd.sizeOf44
  v72 := Tryd.zeroValue44
  t127 := Tryd.underlying75
  a127 := Tryd.isAgg75
  z127 := Tryd.sizeOf75
  v127 := Tryd.zeroValue75 }
theorem Tryd.Builder_Extra_169 : Builder.Extra Tryd.prog Tryd.lays169_ren := {
  sizeBuilder := by kernel_rfl
  liesBuilder := by kernel_rfl
  t5 := Tryd.underlying5
  a5 := Tryd.isAgg5
  z5 := Tryd.sizeOf5
  v5 := Tryd.zeroValue5
  infoByte := by kernel_rfl
  cellsByte := by kernel_rfl
  sizeByte := by kernel_rfl
  neB5 := by decide }
open Go.RowKit in
theorem Tryd.Builder_String_any (B b : Nat) (l : List UInt8) (w : World) (h : Lib.IsBuilder 44 5 B b (Lib.byteCells l) w) (hBw : B ≤ w.heap.size) :
    Calls Tryd.prog 18 #[.pointer (some ⟨b, 0, none⟩)] w fun e w' => e = .returned (.string ⟨l.toArray⟩) ∧ Below B w w' := Any.Builder_String_any Tryd.lays169 Tryd.Builder_Extra_169 B b l w h hBw
end Go.Proofs
