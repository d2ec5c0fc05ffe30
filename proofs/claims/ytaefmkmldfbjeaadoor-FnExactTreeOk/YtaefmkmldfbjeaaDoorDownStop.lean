/-
  (*impl.walk).down where the page cannot be gone to: no node, too deep, or seen already.
-/
import Derived.Test.YtaefmkmldfbjeaaDoorDownDef
import Derived.Test.YtaefmkmldfbjeaaDoorGetSpec
import Derived.ControlIn
namespace Go.Proofs.YtaefmkmldfbjeaaDoor
open Go.RowKit Go.Shelf

attribute [local go_sem] Oper.semAt_some

def badEv : Ev := ⟨.agg #[.int .i64 0, .bool false, .slice none 0 0, .slice none 0 0, .slice none 0 0, .slice none 0 0], false, ⟨0, Nd.none, []⟩⟩

set_option maxHeartbeats 4000000 in
set_option maxRecDepth 100000 in
theorem down_stop {w : World} {ps : List ByteArray} {ls : List (Int × ByteArray)} {vp vl : Value} {gw l : Nat} {J Jx : List Ev → (Nat → Prop) → World → Prop} {Sp : List Ev → Prop} (K : DCtx w ps ls vp vl gw l J Jx Sp)
    (p : Int) (way : List (Nd × Nat)) (vw : Value) (s : List Int) (vs : Value) (pre : List Ev) (C : Nat → Prop) (W : World) (hst : DSt w W gw l vp vl C s vs) (hj : J pre C W) (hw : WayAt W w.heap.size C vw way) (hs : s.length ≤ 1048576) (hsp : Sp (pre ++ [badEv]))
    (hbad : (rdN (readD ps ls p)).2 = false ∨ 8 ≤ way.length ∨ p ∈ s) :
    Calls Tryd.prog 22 #[.pointer (some ⟨gw, 0, none⟩), .int .i64 p, vw] W fun e W' => DPost J Jx w gw l vp vl pre C W vs ([], none) e W' := by
  have HRP := hide (implReadPage_any (.agg #[vp, vl]) ps ls K.hp K.hl K.hps K.hls p W (disk_below K.disk hst.low))
  have HRN := hide (fun wx h => implReadNode_any (readD ps ls p) (readD_smallG K.hps K.hls p) wx h)
  have HK := hide K
  have HSp := hide hsp
  have HSt := hide hst
  have HJ := hide hj
  have HBad := hide hbad
  obtain ⟨D, hD⟩ : ∃ D, D = readD ps ls p := ⟨_, rfl⟩
  rw [← hD] at HRP HRN HBad
  obtain ⟨X, -, hwr, -, -⟩ := hw
  obtain ⟨aw, cw, rfl⟩ := own_slice hwr
  obtain ⟨lw, hlw⟩ : ∃ lw, lw = way.length := ⟨_, rfl⟩
  rw [← hlw] at HBad ⊢
  have p0 := (cell_at hst.wk 0).1
  have p1 := (cell_at hst.wk 1).1
  clear K hst hj hbad hD hwr hlw hsp
  have key : ∀ w3 e W', Below W.heap.size W w3 → (∃ C', KeptC C w3 W' ∧ (∀ k, C' k → C k ∨ w3.heap.size ≤ k) ∧ ((e = Ending.returned (.bool true) ∧ J (pre ++ [badEv]) C' W') ∨ (e = .returned (.bool false) ∧ Jx (pre ++ [badEv]) C' W'))) → ∃ b, e = .returned (.bool b) ∧ DPost J Jx w gw l vp vl pre C W vs ([], none) (.returned (.bool false)) W' := by
    rintro w3 e W' hb3 ⟨C', h1, h2, h3⟩
    have hkk : KeptC (DBl gw vs C) W W' := keptC_trans (keptC_of_below hb3) (keptC_mono h1 (fun j _ h => Or.inl h)) (fun j h => Or.inl h)
    have hcc : ∀ k, C' k → C k ∨ W.heap.size ≤ k := fun k h => by
      rcases h2 k h with h | h
      · exact Or.inl h
      · have := hb3.size; exact Or.inr (by omega)
    rcases h3 with ⟨rfl, h3⟩ | ⟨rfl, h3⟩
    · exact ⟨true, rfl, false, [badEv], C', rfl, hcc, hkk, Or.inr (Or.inl ⟨rfl, rfl, rfl, h3⟩)⟩
    · exact ⟨false, rfl, false, [badEv], C', rfl, hcc, hkk, Or.inr (Or.inr ⟨rfl, ⟨[], rfl⟩, h3⟩)⟩
  have HKey := hide key
  have HC := hide (fun wx h => contains_any s hs p vs wx h)
  clear key
  have three : (rdN D).2 = false ∨ ((rdN D).2 = true ∧ (8 : Int) ≤ (lw : Int)) ∨ ((rdN D).2 = true ∧ ¬ (8 : Int) ≤ (lw : Int) ∧ p ∈ s) := by
    have := HBad.out
    cases h : (rdN D).2
    · exact Or.inl rfl
    · by_cases h8 : (8 : Int) ≤ (lw : Int)
      · exact Or.inr (Or.inl ⟨rfl, h8⟩)
      · rcases this with h1 | h1 | h1
        · rw [h] at h1; cases h1
        · exact absurd (by omega) h8
        · exact Or.inr (Or.inr ⟨rfl, h8, h1⟩)
  rcases three with hok | ⟨hok, h8⟩ | ⟨hok, h8, hin⟩
  · have HOk := hide hok
    clear hok
    refine (callsIn_wide (n := 0)).1 ?_
    refine callsIn_of_wp Tryd.func22 rfl trivial ?_
    simp only [Tryd.ntmps22, List.size_toArray, List.length_cons, List.length_nil, Nat.reduceAdd, Nat.reduceSub, Array.replicate_succ, Array.replicate_zero, List.push_toArray, List.append_toArray, List.nil_append, List.cons_append]
    gi_wp2_with (first
      | (refine ⟨trivial, rfl, ?_⟩; gi_at_call 28; refine (callsIn_wide.2 HRP.out).mono ?_; clear HRP; rintro e w1 ⟨rfl, hb1⟩; have HB1 := hide hb1; clear hb1 p0 p1)
      | (refine ⟨trivial, rfl, ?_⟩; gi_at_call 27; refine (callsIn_wide.2 (HRN.out _ (sumTab_below HK.out.tab (HSt.out.low.trans (HB1.out.mono HSt.out.low.size))))).mono ?_; clear HRN; rintro e w2 ⟨n, v2, ok, rfl, hrn, hno, hb2⟩; obtain rfl : ok = false := (congrArg Prod.snd (rdN_of hrn)).symm.trans HOk.out; obtain ⟨a1, c1, a2, c2, a3, c3, rfl⟩ := nodeOwn_cells hno; generalize n.ks.length = lk; generalize n.vs.length = lv; generalize n.cs.length = lc; generalize n.lf = lf; obtain ⟨w3, hw3⟩ : ∃ w3, w3 = w2.alloc (.cells #[.bool lf, .slice a1 lk c1, .slice a2 lv c2, .slice a3 lc c3] 50 (0, 0)) := ⟨_, rfl⟩; have HB3 : Hid (Below W.heap.size W w3) := hide ((HB1.out.trans (hb2.mono HB1.out.size)).trans (by rw [hw3]; exact (Below.refl _ _).alloc (Nat.le_trans HB1.out.size hb2.size) _)); have HSt3 : Hid (DSt w w3 gw l vp vl C s vs) := hide (HSt.out.keep (keptC_of_below (C := fun _ => False) HB3.out) (fun _ h => h.elim) (fun _ h => h.elim) (fun _ h => Or.inl h)); have HJ3 : Hid (J pre C w3) := hide (HK.out.abides _ _ _ _ HJ.out (keptC_of_below HB3.out)); have q2 := (cell_at HSt3.out.wk 2).1; have q3 := (cell_at HSt3.out.wk 3).1; obtain ⟨fn, tmps, assign, body, hy, hR⟩ := HK.out.yields pre badEv C w3 0 HSp.out HJ3.out ⟨fun _ => rfl, fun h => (by cases h)⟩; have HY := hide hR; dsimp only [encs, badEv] at hy; rw [hw3] at q2 q3 hy; clear hb2 hno hrn hR)
      | (refine ⟨rfl, ?_⟩; rw [← hw3]; refine HY.out.mono ?_; clear HY; rintro e w5 hp5; obtain ⟨bb, rfl, hp6⟩ := HKey.out w3 e w5 HB3.out hp5; have HP6 := hide hp6; clear hp5 hp6)
      | (refine ⟨(trivial : Fence.wide.fn 29), ?_⟩))
    go_ret
    exact HP6.out
  · have HOk := hide hok
    clear hok
    refine (callsIn_wide (n := 0)).1 ?_
    refine callsIn_of_wp Tryd.func22 rfl trivial ?_
    simp only [Tryd.ntmps22, List.size_toArray, List.length_cons, List.length_nil, Nat.reduceAdd, Nat.reduceSub, Array.replicate_succ, Array.replicate_zero, List.push_toArray, List.append_toArray, List.nil_append, List.cons_append]
    gi_wp2_with (first
      | (refine ⟨trivial, rfl, ?_⟩; gi_at_call 28; refine (callsIn_wide.2 HRP.out).mono ?_; clear HRP; rintro e w1 ⟨rfl, hb1⟩; have HB1 := hide hb1; clear hb1 p0 p1)
      | (refine ⟨trivial, rfl, ?_⟩; gi_at_call 27; refine (callsIn_wide.2 (HRN.out _ (sumTab_below HK.out.tab (HSt.out.low.trans (HB1.out.mono HSt.out.low.size))))).mono ?_; clear HRN; rintro e w2 ⟨n, v2, ok, rfl, hrn, hno, hb2⟩; obtain rfl : ok = true := (congrArg Prod.snd (rdN_of hrn)).symm.trans HOk.out; obtain ⟨a1, c1, a2, c2, a3, c3, rfl⟩ := nodeOwn_cells hno; generalize n.ks.length = lk; generalize n.vs.length = lv; generalize n.cs.length = lc; generalize n.lf = lf; obtain ⟨w3, hw3⟩ : ∃ w3, w3 = w2.alloc (.cells #[.bool lf, .slice a1 lk c1, .slice a2 lv c2, .slice a3 lc c3] 50 (0, 0)) := ⟨_, rfl⟩; have HB3 : Hid (Below W.heap.size W w3) := hide ((HB1.out.trans (hb2.mono HB1.out.size)).trans (by rw [hw3]; exact (Below.refl _ _).alloc (Nat.le_trans HB1.out.size hb2.size) _)); have HSt3 : Hid (DSt w w3 gw l vp vl C s vs) := hide (HSt.out.keep (keptC_of_below (C := fun _ => False) HB3.out) (fun _ h => h.elim) (fun _ h => h.elim) (fun _ h => Or.inl h)); have HJ3 : Hid (J pre C w3) := hide (HK.out.abides _ _ _ _ HJ.out (keptC_of_below HB3.out)); have q2 := (cell_at HSt3.out.wk 2).1; have q3 := (cell_at HSt3.out.wk 3).1; obtain ⟨fn, tmps, assign, body, hy, hR⟩ := HK.out.yields pre badEv C w3 0 HSp.out HJ3.out ⟨fun _ => rfl, fun h => (by cases h)⟩; have HY := hide hR; dsimp only [encs, badEv] at hy; rw [hw3] at q2 q3 hy; clear hb2 hno hrn hR)
      | (refine ⟨rfl, ?_⟩; rw [← hw3]; refine HY.out.mono ?_; clear HY; rintro e w5 hp5; obtain ⟨bb, rfl, hp6⟩ := HKey.out w3 e w5 HB3.out hp5; have HP6 := hide hp6; clear hp5 hp6)
      | (refine ⟨(trivial : Fence.wide.fn 29), ?_⟩))
    go_ret
    exact HP6.out
  · have HOk := hide hok
    clear hok
    refine (callsIn_wide (n := 0)).1 ?_
    refine callsIn_of_wp Tryd.func22 rfl trivial ?_
    simp only [Tryd.ntmps22, List.size_toArray, List.length_cons, List.length_nil, Nat.reduceAdd, Nat.reduceSub, Array.replicate_succ, Array.replicate_zero, List.push_toArray, List.append_toArray, List.nil_append, List.cons_append]
    gi_wp2_with (first
      | (refine ⟨trivial, rfl, ?_⟩; gi_at_call 28; refine (callsIn_wide.2 HRP.out).mono ?_; clear HRP; rintro e w1 ⟨rfl, hb1⟩; have HB1 := hide hb1; clear hb1 p0 p1)
      | (refine ⟨trivial, rfl, ?_⟩; gi_at_call 27; refine (callsIn_wide.2 (HRN.out _ (sumTab_below HK.out.tab (HSt.out.low.trans (HB1.out.mono HSt.out.low.size))))).mono ?_; clear HRN; rintro e w2 ⟨n, v2, ok, rfl, hrn, hno, hb2⟩; obtain rfl : ok = true := (congrArg Prod.snd (rdN_of hrn)).symm.trans HOk.out; obtain ⟨a1, c1, a2, c2, a3, c3, rfl⟩ := nodeOwn_cells hno; generalize n.ks.length = lk; generalize n.vs.length = lv; generalize n.cs.length = lc; generalize n.lf = lf; obtain ⟨w3, hw3⟩ : ∃ w3, w3 = w2.alloc (.cells #[.bool lf, .slice a1 lk c1, .slice a2 lv c2, .slice a3 lc c3] 50 (0, 0)) := ⟨_, rfl⟩; have HB3 : Hid (Below W.heap.size W w3) := hide ((HB1.out.trans (hb2.mono HB1.out.size)).trans (by rw [hw3]; exact (Below.refl _ _).alloc (Nat.le_trans HB1.out.size hb2.size) _)); have HSt3 : Hid (DSt w w3 gw l vp vl C s vs) := hide (HSt.out.keep (keptC_of_below (C := fun _ => False) HB3.out) (fun _ h => h.elim) (fun _ h => h.elim) (fun _ h => Or.inl h)); have HJ3 : Hid (J pre C w3) := hide (HK.out.abides _ _ _ _ HJ.out (keptC_of_below HB3.out)); have q2 := (cell_at HSt3.out.wk 2).1; have q3 := (cell_at HSt3.out.wk 3).1; obtain ⟨fn, tmps, assign, body, hy, hR⟩ := HK.out.yields pre badEv C w3 0 HSp.out HJ3.out ⟨fun _ => rfl, fun h => (by cases h)⟩; have HY := hide hR; dsimp only [encs, badEv] at hy; rw [hw3] at q2 q3 hy; clear hb2 hno hrn hR)
      | (refine ⟨trivial, rfl, ?_⟩; gi_at_call 29; refine (callsIn_wide.2 (HC.out _ (by rw [← hw3]; exact row_of_own HSt3.out.row))).mono ?_; clear HC; rintro e w4 ⟨rfl, rfl⟩; rw [decide_eq_true hin])
      | (refine ⟨rfl, ?_⟩; rw [← hw3]; refine HY.out.mono ?_; clear HY; rintro e w5 hp5; obtain ⟨bb, rfl, hp6⟩ := HKey.out w3 e w5 HB3.out hp5; have HP6 := hide hp6; clear hp5 hp6))
    go_ret
    exact HP6.out
end Go.Proofs.YtaefmkmldfbjeaaDoor
