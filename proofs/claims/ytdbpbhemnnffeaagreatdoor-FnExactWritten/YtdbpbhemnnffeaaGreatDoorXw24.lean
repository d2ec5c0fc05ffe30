/-
  Facts and contracts that the law's own text rests on, by their texts' names: DownStop, DownStep, DownStep2.
-/
import Derived.ControlIn
import Derived.Test.YtdbpbhemnnffeaaGreatDoorXw21
import Derived.Test.YtdbpbhemnnffeaaGreatDoorXw23
import Derived.ArgAppend
namespace Go.Proofs.YtdbpbhemnnffeaaGreatDoor
open Go.RowKit Go.Shelf
attribute [local go_sem] Oper.semAt_some
def badEv : Ev := ⟨.agg #[.int .i64 0, .bool false, .slice none 0 0, .slice none 0 0, .slice none 0 0, .slice none 0 0], false, ⟨0, Nd.none, []⟩⟩
set_option maxHeartbeats 4000000 in
set_option maxRecDepth 100000 in
theorem down_stop {w : World} {ps : List ByteArray} {ls : List (Int × ByteArray)} {vp vl : Value} {gw l : Nat} {J Jx : List Ev → (Nat → Prop) → World → Prop} {Sp : List Ev → Prop} (K : DCtx w ps ls vp vl gw l J Jx Sp)
    (p : Int) (way : List (Nd × Nat)) (vw : Value) (s : List Int) (vs : Value) (pre : List Ev) (C : Nat → Prop) (W : World) (hst : DSt w W gw l vp vl C s vs) (hj : J pre C W) (hw : WayAt W w.heap.size C vw way) (hs : s.length ≤ 1048576) (hsp : Sp (pre ++ [badEv]))
    (hbad : (rdN (readD ps ls p)).2 = false ∨ 8 ≤ way.length ∨ p ∈ s) :
    Calls Tryz.prog 79 #[.pointer (some ⟨gw, 0, none⟩), .int .i64 p, vw] W fun e W' => DPost J Jx w gw l vp vl pre C W vs ([], none) e W' := by
  have HRP := hide (implReadPage_any (.agg #[vp, vl]) ps ls K.hp K.hl K.hps K.hls p W (disk_below K.disk hst.low))
  have HRN := hide (fun wx h => implReadNode_any (readD ps ls p) (readD_smallG K.hps K.hls p) wx h)
  have HK := hide K
  have HSp := hide hsp
  have HSt := hide hst
  have HJ := hide hj
  have HBad := hide hbad
  obtain ⟨D, hD⟩ : ∃ D, D = readD ps ls p := ⟨_, rfl⟩
  rw [← hD] at HRP HRN HBad
  obtain ⟨X, -, hwr, -, -⟩ := hw
  obtain ⟨aw, cw, rfl⟩ := own_slice hwr
  obtain ⟨lw, hlw⟩ : ∃ lw, lw = way.length := ⟨_, rfl⟩
  rw [← hlw] at HBad ⊢
  have p0 := (cell_at hst.wk 0).1
  have p1 := (cell_at hst.wk 1).1
  clear K hst hj hbad hD hwr hlw hsp
  have key : ∀ w3 e W', Below W.heap.size W w3 → (∃ C', KeptC C w3 W' ∧ (∀ k, C' k → C k ∨ w3.heap.size ≤ k) ∧ ((e = Ending.returned (.bool true) ∧ J (pre ++ [badEv]) C' W') ∨ (e = .returned (.bool false) ∧ Jx (pre ++ [badEv]) C' W'))) → ∃ b, e = .returned (.bool b) ∧ DPost J Jx w gw l vp vl pre C W vs ([], none) (.returned (.bool false)) W' := by
    rintro w3 e W' hb3 ⟨C', h1, h2, h3⟩
    have hkk : KeptC (DBl gw vs C) W W' := keptC_trans (keptC_of_below hb3) (keptC_mono h1 (fun j _ h => Or.inl h)) (fun j h => Or.inl h)
    have hcc : ∀ k, C' k → C k ∨ W.heap.size ≤ k := fun k h => by
      rcases h2 k h with h | h
      · exact Or.inl h
      · have := hb3.size; exact Or.inr (by omega)
    rcases h3 with ⟨rfl, h3⟩ | ⟨rfl, h3⟩
    · exact ⟨true, rfl, false, [badEv], C', rfl, hcc, hkk, Or.inr (Or.inl ⟨rfl, rfl, rfl, h3⟩)⟩
    · exact ⟨false, rfl, false, [badEv], C', rfl, hcc, hkk, Or.inr (Or.inr ⟨rfl, ⟨[], rfl⟩, h3⟩)⟩
  have HKey := hide key
  have HC := hide (fun wx h => contains_any s hs p vs wx h)
  clear key
  have three : (rdN D).2 = false ∨ ((rdN D).2 = true ∧ (8 : Int) ≤ (lw : Int)) ∨ ((rdN D).2 = true ∧ ¬ (8 : Int) ≤ (lw : Int) ∧ p ∈ s) := by
    have := HBad.out
    cases h : (rdN D).2
    · exact Or.inl rfl
    · by_cases h8 : (8 : Int) ≤ (lw : Int)
      · exact Or.inr (Or.inl ⟨rfl, h8⟩)
      · rcases this with h1 | h1 | h1
        · rw [h] at h1; cases h1
        · exact absurd (by omega) h8
        · exact Or.inr (Or.inr ⟨rfl, h8, h1⟩)
  rcases three with hok | ⟨hok, h8⟩ | ⟨hok, h8, hin⟩
  · have HOk := hide hok
    clear hok
    refine (callsIn_wide (n := 0)).1 ?_
    refine callsIn_of_wp Tryz.func79 rfl trivial ?_
    simp only [Tryz.ntmps79, List.size_toArray, List.length_cons, List.length_nil, Nat.reduceAdd, Nat.reduceSub, Array.replicate_succ, Array.replicate_zero, List.push_toArray, List.append_toArray, List.nil_append, List.cons_append]
    gi_wp2_with (first
      | (refine ⟨trivial, rfl, ?_⟩; gi_at_call 88; refine (callsIn_wide.2 HRP.out).mono ?_; clear HRP; rintro e w1 ⟨rfl, hb1⟩; have HB1 := hide hb1; clear hb1 p0 p1)
      | (refine ⟨trivial, rfl, ?_⟩; gi_at_call 87; refine (callsIn_wide.2 (HRN.out _ (sumTab_below HK.out.tab (HSt.out.low.trans (HB1.out.mono HSt.out.low.size))))).mono ?_; clear HRN; rintro e w2 ⟨n, v2, ok, rfl, hrn, hno, hb2⟩; obtain rfl : ok = false := (congrArg Prod.snd (rdN_of hrn)).symm.trans HOk.out; obtain ⟨a1, c1, a2, c2, a3, c3, rfl⟩ := nodeOwn_cells hno; generalize n.ks.length = lk; generalize n.vs.length = lv; generalize n.cs.length = lc; generalize n.lf = lf; obtain ⟨w3, hw3⟩ : ∃ w3, w3 = w2.alloc (.cells #[.bool lf, .slice a1 lk c1, .slice a2 lv c2, .slice a3 lc c3] 129 (0, 0)) := ⟨_, rfl⟩; have HB3 : Hid (Below W.heap.size W w3) := hide ((HB1.out.trans (hb2.mono HB1.out.size)).trans (by rw [hw3]; exact (Below.refl _ _).alloc (Nat.le_trans HB1.out.size hb2.size) _)); have HSt3 : Hid (DSt w w3 gw l vp vl C s vs) := hide (HSt.out.keep (keptC_of_below (C := fun _ => False) HB3.out) (fun _ h => h.elim) (fun _ h => h.elim) (fun _ h => Or.inl h)); have HJ3 : Hid (J pre C w3) := hide (HK.out.abides _ _ _ _ HJ.out (keptC_of_below HB3.out)); have q2 := (cell_at HSt3.out.wk 2).1; have q3 := (cell_at HSt3.out.wk 3).1; obtain ⟨fn, tmps, assign, body, hy, hR⟩ := HK.out.yields pre badEv C w3 0 HSp.out HJ3.out ⟨fun _ => rfl, fun h => (by cases h)⟩; have HY := hide hR; dsimp only [encs, badEv] at hy; rw [hw3] at q2 q3 hy; clear hb2 hno hrn hR)
      | (refine ⟨rfl, ?_⟩; rw [← hw3]; refine HY.out.mono ?_; clear HY; rintro e w5 hp5; obtain ⟨bb, rfl, hp6⟩ := HKey.out w3 e w5 HB3.out hp5; have HP6 := hide hp6; clear hp5 hp6)
      | (refine ⟨(trivial : Fence.wide.fn 89), ?_⟩))
    go_ret
    exact HP6.out
  · have HOk := hide hok
    clear hok
    refine (callsIn_wide (n := 0)).1 ?_
    refine callsIn_of_wp Tryz.func79 rfl trivial ?_
    simp only [Tryz.ntmps79, List.size_toArray, List.length_cons, List.length_nil, Nat.reduceAdd, Nat.reduceSub, Array.replicate_succ, Array.replicate_zero, List.push_toArray, List.append_toArray, List.nil_append, List.cons_append]
    gi_wp2_with (first
      | (refine ⟨trivial, rfl, ?_⟩; gi_at_call 88; refine (callsIn_wide.2 HRP.out).mono ?_; clear HRP; rintro e w1 ⟨rfl, hb1⟩; have HB1 := hide hb1; clear hb1 p0 p1)
      | (refine ⟨trivial, rfl, ?_⟩; gi_at_call 87; refine (callsIn_wide.2 (HRN.out _ (sumTab_below HK.out.tab (HSt.out.low.trans (HB1.out.mono HSt.out.low.size))))).mono ?_; clear HRN; rintro e w2 ⟨n, v2, ok, rfl, hrn, hno, hb2⟩; obtain rfl : ok = true := (congrArg Prod.snd (rdN_of hrn)).symm.trans HOk.out; obtain ⟨a1, c1, a2, c2, a3, c3, rfl⟩ := nodeOwn_cells hno; generalize n.ks.length = lk; generalize n.vs.length = lv; generalize n.cs.length = lc; generalize n.lf = lf; obtain ⟨w3, hw3⟩ : ∃ w3, w3 = w2.alloc (.cells #[.bool lf, .slice a1 lk c1, .slice a2 lv c2, .slice a3 lc c3] 129 (0, 0)) := ⟨_, rfl⟩; have HB3 : Hid (Below W.heap.size W w3) := hide ((HB1.out.trans (hb2.mono HB1.out.size)).trans (by rw [hw3]; exact (Below.refl _ _).alloc (Nat.le_trans HB1.out.size hb2.size) _)); have HSt3 : Hid (DSt w w3 gw l vp vl C s vs) := hide (HSt.out.keep (keptC_of_below (C := fun _ => False) HB3.out) (fun _ h => h.elim) (fun _ h => h.elim) (fun _ h => Or.inl h)); have HJ3 : Hid (J pre C w3) := hide (HK.out.abides _ _ _ _ HJ.out (keptC_of_below HB3.out)); have q2 := (cell_at HSt3.out.wk 2).1; have q3 := (cell_at HSt3.out.wk 3).1; obtain ⟨fn, tmps, assign, body, hy, hR⟩ := HK.out.yields pre badEv C w3 0 HSp.out HJ3.out ⟨fun _ => rfl, fun h => (by cases h)⟩; have HY := hide hR; dsimp only [encs, badEv] at hy; rw [hw3] at q2 q3 hy; clear hb2 hno hrn hR)
      | (refine ⟨rfl, ?_⟩; rw [← hw3]; refine HY.out.mono ?_; clear HY; rintro e w5 hp5; obtain ⟨bb, rfl, hp6⟩ := HKey.out w3 e w5 HB3.out hp5; have HP6 := hide hp6; clear hp5 hp6)
      | (refine ⟨(trivial : Fence.wide.fn 89), ?_⟩))
    go_ret
    exact HP6.out
  · have HOk := hide hok
    clear hok
    refine (callsIn_wide (n := 0)).1 ?_
    refine callsIn_of_wp Tryz.func79 rfl trivial ?_
    simp only [Tryz.ntmps79, List.size_toArray, List.length_cons, List.length_nil, Nat.reduceAdd, Nat.reduceSub, Array.replicate_succ, Array.replicate_zero, List.push_toArray, List.append_toArray, List.nil_append, List.cons_append]
    gi_wp2_with (first
      | (refine ⟨trivial, rfl, ?_⟩; gi_at_call 88; refine (callsIn_wide.2 HRP.out).mono ?_; clear HRP; rintro e w1 ⟨rfl, hb1⟩; have HB1 := hide hb1; clear hb1 p0 p1)
      | (refine ⟨trivial, rfl, ?_⟩; gi_at_call 87; refine (callsIn_wide.2 (HRN.out _ (sumTab_below HK.out.tab (HSt.out.low.trans (HB1.out.mono HSt.out.low.size))))).mono ?_; clear HRN; rintro e w2 ⟨n, v2, ok, rfl, hrn, hno, hb2⟩; obtain rfl : ok = true := (congrArg Prod.snd (rdN_of hrn)).symm.trans HOk.out; obtain ⟨a1, c1, a2, c2, a3, c3, rfl⟩ := nodeOwn_cells hno; generalize n.ks.length = lk; generalize n.vs.length = lv; generalize n.cs.length = lc; generalize n.lf = lf; obtain ⟨w3, hw3⟩ : ∃ w3, w3 = w2.alloc (.cells #[.bool lf, .slice a1 lk c1, .slice a2 lv c2, .slice a3 lc c3] 129 (0, 0)) := ⟨_, rfl⟩; have HB3 : Hid (Below W.heap.size W w3) := hide ((HB1.out.trans (hb2.mono HB1.out.size)).trans (by rw [hw3]; exact (Below.refl _ _).alloc (Nat.le_trans HB1.out.size hb2.size) _)); have HSt3 : Hid (DSt w w3 gw l vp vl C s vs) := hide (HSt.out.keep (keptC_of_below (C := fun _ => False) HB3.out) (fun _ h => h.elim) (fun _ h => h.elim) (fun _ h => Or.inl h)); have HJ3 : Hid (J pre C w3) := hide (HK.out.abides _ _ _ _ HJ.out (keptC_of_below HB3.out)); have q2 := (cell_at HSt3.out.wk 2).1; have q3 := (cell_at HSt3.out.wk 3).1; obtain ⟨fn, tmps, assign, body, hy, hR⟩ := HK.out.yields pre badEv C w3 0 HSp.out HJ3.out ⟨fun _ => rfl, fun h => (by cases h)⟩; have HY := hide hR; dsimp only [encs, badEv] at hy; rw [hw3] at q2 q3 hy; clear hb2 hno hrn hR)
      | (refine ⟨trivial, rfl, ?_⟩; gi_at_call 89; refine (callsIn_wide.2 (HC.out _ (by rw [← hw3]; exact row_of_own HSt3.out.row))).mono ?_; clear HC; rintro e w4 ⟨rfl, rfl⟩; rw [decide_eq_true hin])
      | (refine ⟨rfl, ?_⟩; rw [← hw3]; refine HY.out.mono ?_; clear HY; rintro e w5 hp5; obtain ⟨bb, rfl, hp6⟩ := HKey.out w3 e w5 HB3.out hp5; have HP6 := hide hp6; clear hp5 hp6))
    go_ret
    exact HP6.out
open Go.RowKit
theorem downL_len (R : Int → Nd × Bool) (hR : Right R) : ∀ (k : Nat) (p : Int) (way : List (Nd × Nat)) (s s' : List Int), (downL R k p way s).2 = some s' → s'.length ≤ s.length + cntK k
  | 0, p, way, s, s', h => by rw [downL] at h; cases h
  | k + 1, p, way, s, s', h => by
    rw [downL] at h
    split at h
    · cases h
    · rename_i hb
      have hok : (R p).1.ok = true := hR p (by cases hc : (R p).2; exact absurd (Or.inl hc) hb; rfl)
      obtain ⟨c1, c2, c3, c4⟩ := cnt_yes (node_yes hok).1
      have hcs : (R p).1.cs.length ≤ 4 := by
        cases hlf : (R p).1.lf with
        | true => have := (c3 hlf).2; omega
        | false => have := (c4 hlf).1; omega
      have key : ∀ i s1, (kidsL (downL R k) (R p).1 way (s ++ [p]) i).2 = some s1 → s1.length ≤ s.length + 1 + i * cntK k := by
        intro i
        induction i with
        | zero => intro s1 h1; rw [kidsL] at h1; injection h1 with h1; subst h1; simp
        | succ i ih =>
          intro s1 h1
          cases h2 : (kidsL (downL R k) (R p).1 way (s ++ [p]) i).2 with
          | none => rw [kidsL_succ_none h2, h2] at h1; cases h1
          | some s2 =>
            rw [kidsL_succ_some h2] at h1
            have := ih s2 h2
            have := downL_len R hR k _ _ _ _ h1
            rw [Nat.succ_mul]
            omega
      have := key _ _ h
      have hm : (R p).1.cs.length * cntK k ≤ 4 * cntK k := Nat.mul_le_mul_right _ hcs
      rw [cntK]
      omega
theorem kidsL_len (R : Int → Nd × Bool) (hR : Right R) (k : Nat) (n : Nd) (way : List (Nd × Nat)) (s : List Int) : ∀ i s1, (kidsL (downL R k) n way s i).2 = some s1 → s1.length ≤ s.length + i * cntK k
  | 0, s1, h1 => by rw [kidsL] at h1; injection h1 with h1; subst h1; simp
  | i + 1, s1, h1 => by
    cases h2 : (kidsL (downL R k) n way s i).2 with
    | none => rw [kidsL_succ_none h2, h2] at h1; cases h1
    | some s2 =>
      rw [kidsL_succ_some h2] at h1
      have := kidsL_len R hR k n way s i s2 h2
      have := downL_len R hR k _ _ _ _ h1
      rw [Nat.succ_mul]
      omega
structure DLoop (w W Wi : World) (gw l gn : Nat) (vp vl : Value) (C Ci : Nat → Prop) (J : List Ev → (Nat → Prop) → World → Prop) (pre qi : List Ev) (n : Nd) (vk vv vc vw : Value) (way : List (Nd × Nat)) (f : Int → List (Nd × Nat) → List Int → List Vis × Option (List Int)) (p : Int) (s si : List Int) (vs vsi : Value) (i : Nat) : Prop where
  st : DSt w Wi gw l vp vl Ci si vsi
  j : J (pre ++ qi) Ci Wi
  sub : ∀ k, Ci k → C k ∨ W.heap.size ≤ k
  kept : KeptC (DBl gw vs C) W Wi
  box : Wi.heap[gn]? = some (.cells #[.bool n.lf, vk, vv, vc] 129 (0, 0))
  own : NodeOwn Wi W.heap.size (.agg #[.bool n.lf, vk, vv, vc]) n.lf n.ks n.vs n.cs
  away : ∀ j, (j = gn ∨ nodeBlocks (.agg #[.bool n.lf, vk, vv, vc]) j) → W.heap.size ≤ j ∧ ¬ Ci j ∧ j ≠ gw ∧ vsi.ownBlock ≠ some j
  wy : WayAt Wi w.heap.size Ci vw way
  old : ∀ j, vsi.ownBlock = some j → vs.ownBlock = some j ∨ W.heap.size ≤ j
  ev : qi.map Ev.plain = some ⟨p, n, way⟩ :: (kidsL f n way (s ++ [p]) i).1.map some
  so : (kidsL f n way (s ++ [p]) i).2 = some si
theorem DLoop.grow {w W Wi Wj : World} {gw l gn : Nat} {vp vl : Value} {C Ci : Nat → Prop} {J Jx : List Ev → (Nat → Prop) → World → Prop} {pre qi : List Ev} {n : Nd} {vk vv vc vw : Value} {way : List (Nd × Nat)} {f : Int → List (Nd × Nat) → List Int → List Vis × Option (List Int)} {p : Int} {s si : List Int} {vs vsi : Value} {i : Nat}
    {ps : List ByteArray} {ls : List (Int × ByteArray)} {Sp : List Ev → Prop} (K : DCtx w ps ls vp vl gw l J Jx Sp) (h : DLoop w W Wi gw l gn vp vl C Ci J pre qi n vk vv vc vw way f p s si vs vsi i) (hb : Below Wi.heap.size Wi Wj) : DLoop w W Wj gw l gn vp vl C Ci J pre qi n vk vv vc vw way f p s si vs vsi i where
  st := h.st.keep (keptC_of_below (C := fun _ => False) hb) (fun _ h => h.elim) (fun _ h => h.elim) (fun _ h => Or.inl h)
  j := K.abides _ _ _ _ h.j (keptC_of_below hb)
  sub := h.sub
  kept := keptC_trans h.kept (keptC_of_below (C := fun _ => False) hb) (fun _ h => h.elim)
  box := stays h.box hb
  own := nodeOwn_below h.own hb
  away := h.away
  wy := way_kept h.wy (keptC_of_below (C := fun _ => False) hb) (fun _ h => h.elim) (fun _ h => Or.inl h)
  old := h.old
  ev := h.ev
  so := h.so
theorem DLoop.step {w W Wi Wk : World} {gw l gn : Nat} {vp vl : Value} {C Ci : Nat → Prop} {J Jx : List Ev → (Nat → Prop) → World → Prop} {pre qi : List Ev} {n : Nd} {vk vv vc vw : Value} {way : List (Nd × Nat)} {f : Int → List (Nd × Nat) → List Int → List Vis × Option (List Int)} {p : Int} {s si : List Int} {vs vsi : Value} {i : Nat}
    {ps : List ByteArray} {ls : List (Int × ByteArray)} {Sp : List Ev → Prop} (K : DCtx w ps ls vp vl gw l J Jx Sp) (h : DLoop w W Wi gw l gn vp vl C Ci J pre qi n vk vv vc vw way f p s si vs vsi i)
    {q : List Ev} {C' : Nat → Prop} {s' : List Int} {vs' : Value} (hC : ∀ k, C' k → Ci k ∨ Wi.heap.size ≤ k) (hk : KeptC (DBl gw vsi Ci) Wi Wk) (hr : (f (n.cs.getD i 0) (way ++ [(n, i)]) si).2 = some s') (hq : q.map Ev.plain = (f (n.cs.getD i 0) (way ++ [(n, i)]) si).1.map some)
    (hj : J (pre ++ qi ++ q) C' Wk) (hst : DSt w Wk gw l vp vl C' s' vs') (ho : ∀ j, vs'.ownBlock = some j → vsi.ownBlock = some j ∨ Wi.heap.size ≤ j) :
    DLoop w W Wk gw l gn vp vl C C' J pre (qi ++ q) n vk vv vc vw way f p s s' vs vs' (i + 1) := by
  have hsz : W.heap.size ≤ Wi.heap.size := h.kept.2.2.2.1
  have hnot : ∀ j, (j = gn ∨ nodeBlocks (.agg #[.bool n.lf, vk, vv, vc]) j) → ¬ DBl gw vsi Ci j ∧ j < Wi.heap.size := fun j hj => by
    obtain ⟨-, a2, a3, a4⟩ := h.away j hj
    refine ⟨?_, ?_⟩
    · rintro (x | x | x)
      · exact a2 x
      · exact a3 x
      · exact a4 x
    · rcases hj with rfl | hj
      · exact (Array.getElem?_eq_some_iff.1 h.box).1
      · exact (nodeOwn_lt h.own j hj).2
  exact {
    st := hst
    j := by rw [List.append_assoc] at hj; exact hj
    sub := fun k hc => by
      rcases hC k hc with x | x
      · exact h.sub k x
      · exact Or.inr (by omega)
    kept := keptC_trans h.kept hk (fun j hj => by
      rcases hj with x | x | x
      · rcases h.sub j x with y | y
        · exact Or.inl (Or.inl y)
        · exact Or.inr y
      · exact Or.inl (Or.inr (Or.inl x))
      · rcases h.old j x with y | y
        · exact Or.inl (Or.inr (Or.inr y))
        · exact Or.inr y)
    box := (hk.2.2.2.2 gn (hnot gn (Or.inl rfl)).2 (hnot gn (Or.inl rfl)).1).trans h.box
    own := nodeOwn_kept h.own hk (fun k hb => (hnot k (Or.inr hb)).1)
    away := fun j hj => by
      obtain ⟨a1, a2, a3, a4⟩ := h.away j hj
      have hlt := (hnot j hj).2
      refine ⟨a1, fun hc => ?_, a3, fun he => ?_⟩
      · rcases hC j hc with x | x
        · exact a2 x
        · omega
      · rcases ho j he with x | x
        · exact a4 x
        · omega
    wy := way_kept h.wy hk (fun j hj => by
      rcases hj with x | x | x
      · exact Or.inl x
      · subst x; exact Or.inr (Or.inl ⟨_, _, h.st.wk⟩)
      · exact Or.inr (Or.inr (Or.inl (own_typ h.st.row x)))) hC
    old := fun j hj => by
      rcases ho j hj with x | x
      · exact h.old j x
      · exact Or.inr (by omega)
    ev := by rw [List.map_append, h.ev, hq, kidsL_succ_some h.so, List.map_append]; rfl
    so := by rw [kidsL_succ_some h.so]; exact hr }
theorem DLoop.fin {w W Wi : World} {gw l gn : Nat} {vp vl : Value} {C Ci : Nat → Prop} {J Jx : List Ev → (Nat → Prop) → World → Prop} {pre qi : List Ev} {n : Nd} {vk vv vc vw : Value} {way : List (Nd × Nat)} {f : Int → List (Nd × Nat) → List Int → List Vis × Option (List Int)} {p : Int} {s si : List Int} {vs vsi : Value}
    (h : DLoop w W Wi gw l gn vp vl C Ci J pre qi n vk vv vc vw way f p s si vs vsi n.cs.length) :
    DPost J Jx w gw l vp vl pre C W vs (⟨p, n, way⟩ :: (kidsL f n way (s ++ [p]) n.cs.length).1, (kidsL f n way (s ++ [p]) n.cs.length).2) (.returned (.bool true)) Wi :=
  ⟨true, qi, Ci, rfl, h.sub, h.kept, Or.inl ⟨rfl, si, vsi, h.so, h.ev, h.j, h.st, h.old⟩⟩
theorem kidsL_pre {f : Int → List (Nd × Nat) → List Int → List Vis × Option (List Int)} {n : Nd} {way : List (Nd × Nat)} {s : List Int} : ∀ (d i : Nat), ∃ t, evs (kidsL f n way s (i + d)) = (kidsL f n way s i).1.map some ++ t
  | 0, i => ⟨_, rfl⟩
  | d + 1, i => by
    obtain ⟨t, ht⟩ := kidsL_pre d i
    cases h : (kidsL f n way s (i + d)).2 with
    | none => rw [← Nat.add_assoc, kidsL_succ_none h]; exact ⟨t, ht⟩
    | some s2 =>
      rw [← Nat.add_assoc, kidsL_succ_some h]
      have e : evs (kidsL f n way s (i + d)) = (kidsL f n way s (i + d)).1.map some := by rw [evs, h]; simp
      rw [e] at ht
      refine ⟨t ++ evs (f (n.cs.getD (i + d) 0) (way ++ [(n, i + d)]) s2), ?_⟩
      rw [← List.append_assoc, ← ht]
      simp [evs]
theorem DLoop.pre {w W Wi : World} {gw l gn : Nat} {vp vl : Value} {C Ci : Nat → Prop} {J : List Ev → (Nat → Prop) → World → Prop} {pre qi : List Ev} {n : Nd} {vk vv vc vw : Value} {way : List (Nd × Nat)} {f : Int → List (Nd × Nat) → List Int → List Vis × Option (List Int)} {p : Int} {s si : List Int} {vs vsi : Value} {i : Nat}
    (h : DLoop w W Wi gw l gn vp vl C Ci J pre qi n vk vv vc vw way f p s si vs vsi i) (hi : i < n.cs.length) {q : List Ev} {t : List (Option Vis)} (h2 : q.map Ev.plain ++ t = evs (f (n.cs.getD i 0) (way ++ [(n, i)]) si)) :
    ∃ t, (qi ++ q).map Ev.plain ++ t = evs (⟨p, n, way⟩ :: (kidsL f n way (s ++ [p]) n.cs.length).1, (kidsL f n way (s ++ [p]) n.cs.length).2) := by
  have e1 := kidsL_succ_some h.so
  have elen : n.cs.length = i + 1 + (n.cs.length - (i + 1)) := by omega
  obtain ⟨t2, ht2⟩ := kidsL_pre (f := f) (n := n) (way := way) (s := s ++ [p]) (n.cs.length - (i + 1)) (i + 1)
  rw [← elen] at ht2
  cases hx : (f (n.cs.getD i 0) (way ++ [(n, i)]) si).2 with
  | none =>
    refine ⟨t, ?_⟩
    rw [elen, kidsL_none (by rw [e1]; exact hx), e1, List.map_append, h.ev, List.append_assoc, h2]
    simp [evs]
  | some s2 =>
    have e3 : evs (f (n.cs.getD i 0) (way ++ [(n, i)]) si) = (f (n.cs.getD i 0) (way ++ [(n, i)]) si).1.map some := by rw [evs, hx]; simp
    refine ⟨t ++ t2, ?_⟩
    have : evs (⟨p, n, way⟩ :: (kidsL f n way (s ++ [p]) n.cs.length).1, (kidsL f n way (s ++ [p]) n.cs.length).2) = some ⟨p, n, way⟩ :: evs (kidsL f n way (s ++ [p]) n.cs.length) := by simp [evs]
    rw [this, ht2, e1]
    simp only [List.map_append]
    rw [← e3, ← h2, h.ev]
    simp
theorem DLoop.no {w W Wi Wk : World} {gw l gn : Nat} {vp vl : Value} {C Ci : Nat → Prop} {J Jx : List Ev → (Nat → Prop) → World → Prop} {pre qi : List Ev} {n : Nd} {vk vv vc vw : Value} {way : List (Nd × Nat)} {f : Int → List (Nd × Nat) → List Int → List Vis × Option (List Int)} {p : Int} {s si : List Int} {vs vsi : Value} {i : Nat}
    (h : DLoop w W Wi gw l gn vp vl C Ci J pre qi n vk vv vc vw way f p s si vs vsi i) (hi : i < n.cs.length)
    {q : List Ev} {C' : Nat → Prop} (hC : ∀ k, C' k → Ci k ∨ Wi.heap.size ≤ k) (hk : KeptC (DBl gw vsi Ci) Wi Wk)
    (hor : ((f (n.cs.getD i 0) (way ++ [(n, i)]) si).2 = none ∧ q.map Ev.plain = (f (n.cs.getD i 0) (way ++ [(n, i)]) si).1.map some ++ [none] ∧ J (pre ++ qi ++ q) C' Wk) ∨ ((∃ t, q.map Ev.plain ++ t = evs (f (n.cs.getD i 0) (way ++ [(n, i)]) si)) ∧ Jx (pre ++ qi ++ q) C' Wk)) :
    DPost J Jx w gw l vp vl pre C W vs (⟨p, n, way⟩ :: (kidsL f n way (s ++ [p]) n.cs.length).1, (kidsL f n way (s ++ [p]) n.cs.length).2) (.returned (.bool false)) Wk := by
  have hsz : W.heap.size ≤ Wi.heap.size := h.kept.2.2.2.1
  have hsub : ∀ k, C' k → C k ∨ W.heap.size ≤ k := fun k hc => by
    rcases hC k hc with x | x
    · exact h.sub k x
    · exact Or.inr (by omega)
  have hkept : KeptC (DBl gw vs C) W Wk := keptC_trans h.kept hk (fun j hj => by
    rcases hj with x | x | x
    · rcases h.sub j x with y | y
      · exact Or.inl (Or.inl y)
      · exact Or.inr y
    · exact Or.inl (Or.inr (Or.inl x))
    · rcases h.old j x with y | y
      · exact Or.inl (Or.inr (Or.inr y))
      · exact Or.inr y)
  have e1 := kidsL_succ_some h.so
  have elen : n.cs.length = i + 1 + (n.cs.length - (i + 1)) := by omega
  refine ⟨false, qi ++ q, C', rfl, hsub, hkept, Or.inr ?_⟩
  rcases hor with ⟨h1, h2, h3⟩ | ⟨⟨t, h2⟩, h3⟩
  · refine Or.inl ⟨rfl, ?_, ?_, by rw [← List.append_assoc]; exact h3⟩
    · rw [elen, kidsL_none (by rw [e1]; exact h1), e1]; exact h1
    · rw [elen, kidsL_none (by rw [e1]; exact h1), e1, List.map_append, h.ev, h2]; simp
  · obtain ⟨t2, ht2⟩ := kidsL_pre (f := f) (n := n) (way := way) (s := s ++ [p]) (n.cs.length - (i + 1)) (i + 1)
    rw [← elen] at ht2
    refine Or.inr ⟨rfl, ?_, by rw [← List.append_assoc]; exact h3⟩
    cases hx : (f (n.cs.getD i 0) (way ++ [(n, i)]) si).2 with
    | none =>
      refine ⟨t, ?_⟩
      rw [elen, kidsL_none (by rw [e1]; exact hx), e1, List.map_append, h.ev, List.append_assoc, h2]
      simp [evs]
    | some s2 =>
      have e3 : evs (f (n.cs.getD i 0) (way ++ [(n, i)]) si) = (f (n.cs.getD i 0) (way ++ [(n, i)]) si).1.map some := by rw [evs, hx]; simp
      refine ⟨t ++ t2, ?_⟩
      have : evs (⟨p, n, way⟩ :: (kidsL f n way (s ++ [p]) n.cs.length).1, (kidsL f n way (s ++ [p]) n.cs.length).2) = some ⟨p, n, way⟩ :: evs (kidsL f n way (s ++ [p]) n.cs.length) := by simp [evs]
      rw [this, ht2, e1]
      simp only [List.map_append]
      rw [← e3, ← h2, h.ev]
      simp
open Go.RowKit
theorem dst_seen {w W w' : World} {gw l b cap : Nat} {vp vl vs : Value} {C : Nat → Prop} {s : List Int} {p : Int} {o : Obj} (h : DSt w W gw l vp vl C s vs) (hC : ∀ k, C k → k < W.heap.size)
    (hown : w'.ownsRow w.heap.size 3 1 (.slice (some ⟨b, 0, none⟩) (s.length + 1) cap) (s.length + 1) (ints s ++ [.int .i64 p])) (hg : (W.alloc o).grownBy w' vs.ownBlock) (hb : vs.ownBlock = some b ∨ b = W.heap.size + 1) :
    DSt w (w'.setCell ⟨gw, 2, none⟩ (.slice (some ⟨b, 0, none⟩) (s.length + 1) cap)) gw l vp vl C (s ++ [p]) (.slice (some ⟨b, 0, none⟩) (s.length + 1) cap) ∧
    KeptC (fun k => k = gw ∨ vs.ownBlock = some k) W (w'.setCell ⟨gw, 2, none⟩ (.slice (some ⟨b, 0, none⟩) (s.length + 1) cap)) ∧ w'.cell? ⟨gw, 2, none⟩ = some vs ∧ w'.frozen? ⟨gw, 2, none⟩ = false := by
  have k1 : Kept W w' (fun k => vs.ownBlock = some k) := kept_app hg
  have hga : gw < W.heap.size := (Array.getElem?_eq_some_iff.1 h.wk).1
  have g1 := (k1.2.2.2.2 gw hga (fun e => Tryz.step_ne.2.2.2.2 (typ_one (own_typ h.row e) ⟨_, _, h.wk⟩))).trans h.wk
  have k2 := kept_setCell w' gw 2 (.slice (some ⟨b, 0, none⟩) (s.length + 1) cap)
  have hkept : KeptC (fun k => k = gw ∨ vs.ownBlock = some k) W (w'.setCell ⟨gw, 2, none⟩ (.slice (some ⟨b, 0, none⟩) (s.length + 1) cap)) := keptC_trans (C := fun k => k = gw ∨ vs.ownBlock = some k) (C' := fun k => k = gw) ⟨k1.1, k1.2.1, k1.2.2.1, k1.2.2.2.1, fun k hk hn => k1.2.2.2.2 k hk (fun e => hn (Or.inr e))⟩ k2 (fun j e => Or.inl (Or.inl e))
  refine ⟨⟨h.low.trans (keptC_below hkept (fun k hk => ?_) h.low.size), heap_setCell_same _ gw 2 _ _ _ g1, h.gc, h.gn, ?_, fun j hj hc => ?_⟩, hkept, (cell_at g1 2).1, (cell_at g1 2).2⟩
  · rcases hk with rfl | hk
    · exact h.gn
    · exact (h.row.lt k hk).1
  · have ho := own_kept hown k2 (fun k e e2 => by subst e2; exact Tryz.step_ne.2.2.2.2 (typ_one (own_typ hown e) ⟨_, _, g1⟩))
    rw [ints_snoc] at ho
    rw [List.length_append, List.length_singleton]
    exact ho
  · injection hj with hj
    have hj : b = j := hj
    subst hj
    rcases hb with e | e
    · exact h.rc b e hc
    · have := hC b hc; omega
theorem row_cells {W : World} {B T n c : Nat} {a : Option Addr} {xs : List Value} (h : W.ownsRow B T 5 (.slice a n c) n xs) : (a = none → n = 0) ∧ ∀ b, a = some b → ∀ j u, xs[j]? = some u → W.cell? (b.add j) = some u := by
  obtain ⟨hl, a', c', e, h2⟩ := row_of_own h
  injection e with e1 e2 e3
  subst e1
  subst e3
  refine ⟨fun e => ?_, fun b e j u hj => ?_⟩
  · subst e
    rcases h2 with h0 | ⟨b, off, e, -⟩
    · exact h0
    · cases e
  · subst e
    have hjl : j < n * 5 := by rw [← hl]; exact (List.getElem?_eq_some_iff.1 hj).1
    rcases h2 with h0 | ⟨b', off, e, -, hc⟩
    · omega
    · injection e with e
      subst e
      rw [Addr.add_lit, hc j hjl, hj]
theorem step_append_grows {P : Program} (w : World) {ops : Array Oper} {o : Oper} {a : Act} {K : Act → World → Prop} {Q : Exit → Act → World → Prop} {E : Prop} (hgd : o.guard = none) (s x : Operand) (t : TypeId)
    (ho : o.op = .call { callee := .builtin .append, args := #[s, x], argTypes := #[t, t] })
    (e : TypeId) (i : TypeInfo) (z : Value) (size bytes : Nat) (h1 : P.underlying t = some (.slice e)) (h2 : P.info? e = some i) (h3 : i.zero = some z) (h4 : i.size = size) (h5 : i.bytes = bytes) (h6 : z.cells.size = size) (h7 : 0 < size)
    (ao : Option Addr) (n : Nat) (olds : List Value) (hs : a.eval s = .slice ao n n) (hnone : ao = none → n = 0) (hlo : olds.length = n * size) (holds : ∀ b, ao = some b → ∀ j u, olds[j]? = some u → w.cell? (b.add j) = some u)
    (ad : Addr) (c : Nat) (news : List Value) (hx : a.eval x = .slice (some ad) 1 c) (hn : news.length = 1 * size) (hc : ∀ j u, news[j]? = some u → w.cell? (ad.add j) = some u) (h1c : ∀ u ∈ news, u.oneCell' = true)
    (b1 : n + 1 ≤ maxLen) (b2 : (n + 1) * bytes ≤ 140737488355328)
    (hK : ∀ v' w', w'.ownsRow w.heap.size e size v' (n + 1) (olds ++ news) → w.grownBy w' none → K (a.put o.dst v') w') :
    if Region.wanted o (yielded ops a.tmps) = true then Oper.wp P o a w K Q else E := by
  have hw : Region.wanted o (yielded ops a.tmps) = true := by simp [Region.wanted, hgd]
  rw [if_pos hw]
  cases ao with
  | some b =>
    obtain ⟨v', w', hrun, r1, r2⟩ := run_append_arg_grows (P := P) w t o.type e i z size bytes h1 h2 h3 h4 h5 h6 h7 b n n olds hlo (holds b rfl) ad 1 c news hn hc (by omega) b1 b2
    unfold Oper.wp execOp
    simp only [ho, resolve, invoke, builtin, Sem.run_bind, Sem.run_pure, Result.andThen_ok, List.map_toArray, List.map_cons, List.map_nil, hs, hx, hrun]
    exact hK v' w' r1 r2
  | none =>
    obtain rfl := hnone rfl
    obtain rfl : olds = [] := List.eq_nil_of_length_eq_zero (by simpa using hlo)
    obtain ⟨v', w', hrun, r1, r2, _⟩ := run_append_own (P := P) w w.heap.size t o.type e i z size bytes h1 h2 h3 h4 h5 h6 h7 (.slice none 0 0) 0 [] (World.ownsRow_nil w _ e size) ad 1 c news hn hc h1c b1 b2 (Nat.le_refl _)
    unfold Oper.wp execOp
    simp only [ho, resolve, invoke, builtin, Sem.run_bind, Sem.run_pure, Result.andThen_ok, List.map_toArray, List.map_cons, List.map_nil, hs, hx, hrun]
    exact hK v' w' r1 r2
theorem dloop_zero {w W w5 W6 : World} {gw l gn : Nat} {vp vl : Value} {C C6 : Nat → Prop} {J : List Ev → (Nat → Prop) → World → Prop} {pre : List Ev} {x : Ev} {n : Nd} {vk vv vc vw : Value} {way : List (Nd × Nat)} (f : Int → List (Nd × Nat) → List Int → List Vis × Option (List Int)) {p : Int} {s : List Int} {vs vs5 : Value}
    (hC : ∀ k, C k → w.heap.size ≤ k ∧ k < W.heap.size) (hst : DSt w w5 gw l vp vl C (s ++ [p]) vs5) (hold : ∀ j, vs5.ownBlock = some j → (vs.ownBlock = some j ∧ j < W.heap.size) ∨ (W.heap.size ≤ j ∧ j ≠ gn ∧ ¬ nodeBlocks (.agg #[.bool n.lf, vk, vv, vc]) j)) (hgw : gw < W.heap.size)
    (hk5 : KeptC (DBl gw vs C) W w5) (hbox : w5.heap[gn]? = some (.cells #[.bool n.lf, vk, vv, vc] 129 (0, 0))) (hgn : W.heap.size ≤ gn) (hown : NodeOwn w5 W.heap.size (.agg #[.bool n.lf, vk, vv, vc]) n.lf n.ks n.vs n.cs) (hway : WayAt w5 w.heap.size C vw way)
    (hx : x.plain = some ⟨p, n, way⟩) (hk6 : KeptC C w5 W6) (hC6 : ∀ k, C6 k → C k ∨ w5.heap.size ≤ k) (hj6 : J (pre ++ [x]) C6 W6) :
    DLoop w W W6 gw l gn vp vl C C6 J pre [x] n vk vv vc vw way f p s (s ++ [p]) vs vs5 0 := by
  have hsz : W.heap.size ≤ w5.heap.size := hk5.2.2.2.1
  have hnot : ∀ j, (j = gn ∨ nodeBlocks (.agg #[.bool n.lf, vk, vv, vc]) j) → W.heap.size ≤ j ∧ ¬ C j ∧ j < w5.heap.size := fun j hj => by
    have h1 : W.heap.size ≤ j ∧ j < w5.heap.size := by
      rcases hj with rfl | hj
      · exact ⟨hgn, (Array.getElem?_eq_some_iff.1 hbox).1⟩
      · exact nodeOwn_lt hown j hj
    exact ⟨h1.1, fun hc => by have := (hC j hc).2; omega, h1.2⟩
  exact {
    st := hst.keep hk6 (fun _ h => Or.inl h) (fun j h => (hC j h).1) hC6
    j := hj6
    sub := fun k hc => by
      rcases hC6 k hc with x | x
      · exact Or.inl x
      · exact Or.inr (by omega)
    kept := keptC_trans hk5 (keptC_mono hk6 (fun j _ h => (Or.inl h : DBl gw vs C j))) (fun _ h => Or.inl h)
    box := (hk6.2.2.2.2 gn (hnot gn (Or.inl rfl)).2.2 (hnot gn (Or.inl rfl)).2.1).trans hbox
    own := nodeOwn_kept hown hk6 (fun k hb => (hnot k (Or.inr hb)).2.1)
    away := fun j hj => by
      obtain ⟨a1, a2, a3⟩ := hnot j hj
      refine ⟨a1, fun hc => ?_, fun e => by omega, fun he => ?_⟩
      · rcases hC6 j hc with x | x
        · exact a2 x
        · omega
      · rcases hold j he with x | x
        · omega
        · rcases hj with hj | hj
          · exact x.2.1 hj
          · exact x.2.2 hj
    wy := way_kept hway hk6 (fun _ h => Or.inl h) hC6
    old := fun j hj => by
      rcases hold j hj with x | x
      · exact Or.inl x.1
      · exact Or.inr x.1
    ev := by rw [List.map_singleton, hx, kidsL]; rfl
    so := by rw [kidsL] }
def DNext (w W : World) (gw l gn : Nat) (vp vl : Value) (C : Nat → Prop) (J Jx : List Ev → (Nat → Prop) → World → Prop) (pre : List Ev) (n : Nd) (vk vv vc vw : Value) (way : List (Nd × Nat)) (f : Int → List (Nd × Nat) → List Int → List Vis × Option (List Int)) (p : Int) (s : List Int) (vs : Value) (i : Nat) (b : Bool) (Wk : World) : Prop :=
  (b = true ∧ ∃ Ck qk sk vsk, DLoop w W Wk gw l gn vp vl C Ck J pre qk n vk vv vc vw way f p s sk vs vsk (i + 1)) ∨
  (b = false ∧ DPost J Jx w gw l vp vl pre C W vs (⟨p, n, way⟩ :: (kidsL f n way (s ++ [p]) n.cs.length).1, (kidsL f n way (s ++ [p]) n.cs.length).2) (.returned (.bool false)) Wk)
theorem dloop_next {w W Wi Wj wn : World} {gw l gn k : Nat} {vp vl : Value} {C Ci : Nat → Prop} {J Jx : List Ev → (Nat → Prop) → World → Prop} {pre qi : List Ev} {n : Nd} {vk vv vc vw vn : Value} {way : List (Nd × Nat)} {f : Int → List (Nd × Nat) → List Int → List Vis × Option (List Int)} {p : Int} {s si : List Int} {vs vsi : Value} {i : Nat} {X : List WStep}
    {ps : List ByteArray} {ls : List (Int × ByteArray)} {Sp : List Ev → Prop} (K : DCtx w ps ls vp vl gw l J Jx Sp) (h : DLoop w W Wi gw l gn vp vl C Ci J pre qi n vk vv vc vw way f p s si vs vsi i) (hsp : ∀ q' t, q'.map Ev.plain ++ t = evs (⟨p, n, way⟩ :: (kidsL f n way (s ++ [p]) n.cs.length).1, (kidsL f n way (s ++ [p]) n.cs.length).2) → Sp (pre ++ q')) (hwW : w.heap.size ≤ W.heap.size) (hi : i < n.cs.length) (hlen : way.length + (k + 1) = 8) (hsi : si.length + cntK k ≤ 100000)
    (hX : X.map (fun x => (x.nd, x.at_)) = way) (hXk : ∀ x ∈ X, Wi.ownsRow w.heap.size 9 1 x.k x.nd.ks.length (strs x.nd.ks) ∧ (∀ j, x.k.ownBlock = some j → ¬ Ci j) ∧ Slc x)
    (hj : Below Wi.heap.size Wi Wj) (hown : wn.ownsRow Wj.heap.size 169 5 vn (way.length + 1) (wcells X ++ [.bool n.lf, vk, vv, vc, .int .i64 (i : Int)])) (hg : Wj.grownBy wn none)
    (hrec : ∀ (q : Int) (way' : List (Nd × Nat)) (vw' : Value) (s' : List Int) (vs' : Value) (pre' : List Ev) (C' : Nat → Prop) (W' : World), DSt w W' gw l vp vl C' s' vs' → J pre' C' W' → WayAt W' w.heap.size C' vw' way' → way'.length + k = 8 → s'.length + cntK k ≤ 100000 → (∀ q' t, q'.map Ev.plain ++ t = evs (f q way' s') → Sp (pre' ++ q')) →
      Calls Tryz.prog 79 #[.pointer (some ⟨gw, 0, none⟩), .int .i64 q, vw'] W' fun e W'' => DPost J Jx w gw l vp vl pre' C' W' vs' (f q way' s') e W'') :
    Calls Tryz.prog 79 #[.pointer (some ⟨gw, 0, none⟩), .int .i64 (n.cs.getD i 0), vn] wn fun e Wk => ∃ b, e = .returned (.bool b) ∧ DNext w W gw l gn vp vl C J Jx pre n vk vv vc vw way f p s vs i b Wk := by
  have hbn : Below Wj.heap.size Wj wn := ⟨hg.os, hg.tape, hg.output, hg.size, fun k hk => hg.block k hk (fun e => by cases e)⟩
  have hb : Below Wi.heap.size Wi wn := hj.trans (hbn.mono hj.size)
  have hD := h.grow K hb
  have hwsz : w.heap.size ≤ Wi.heap.size := h.st.low.size
  obtain ⟨vk', vv', vc', e4, o1, o2, o3, -⟩ := id hD.own
  obtain ⟨-, rfl, rfl, rfl⟩ := agg4 e4
  have hWay : WayAt wn w.heap.size Ci vn (way ++ [(n, i)]) := by
    refine ⟨X ++ [⟨vk, vv, vc, n, i⟩], by rw [List.map_append, hX]; rfl, ?_, fun j hj2 hc => ?_, fun x hx => ?_⟩
    · have e5 : wcells (X ++ [⟨vk, vv, vc, n, i⟩]) = wcells X ++ [.bool n.lf, vk, vv, vc, .int .i64 (i : Int)] := by simp [wcells]
      rw [e5, List.length_append, List.length_singleton]
      exact own_down hown (by have := hj.size; omega)
    · have := (hown.lt j hj2).1
      have := (K.inn _ _ _ h.j j hc).2
      have := hj.size
      omega
    · rcases List.mem_append.1 hx with hx | hx
      · exact ⟨own_stays (hXk x hx).1 hb, (hXk x hx).2⟩
      · rw [List.mem_singleton] at hx
        subst hx
        exact ⟨own_down o1 hwW, fun j hj2 => (hD.away j (Or.inr ⟨_, vk, vv, vc, rfl, Or.inl hj2⟩)).2.1, (by obtain ⟨a, c, e⟩ := own_slice o2; exact ⟨a, _, c, e⟩), by obtain ⟨a, c, e⟩ := own_slice o3; exact ⟨a, _, c, e⟩⟩
  refine (hrec (n.cs.getD i 0) (way ++ [(n, i)]) vn si vsi (pre ++ qi) Ci wn hD.st hD.j hWay (by rw [List.length_append, List.length_singleton]; omega) hsi (fun q' t h2 => by
    obtain ⟨t', ht'⟩ := h.pre hi h2
    rw [List.append_assoc]
    exact hsp _ t' ht')).mono ?_
  rintro e Wk ⟨b, q, C', rfl, hC', hk, hor⟩
  refine ⟨b, rfl, ?_⟩
  rcases hor with ⟨rfl, s', vs', h1, h2, h3, h4, h5⟩ | ⟨rfl, h1, h2, h3⟩ | ⟨rfl, h1, h3⟩
  · exact Or.inl ⟨rfl, C', qi ++ q, s', vs', hD.step K hC' hk h1 h2 h3 h4 h5⟩
  · exact Or.inr ⟨rfl, hD.no hi hC' hk (Or.inl ⟨h1, h2, h3⟩)⟩
  · exact Or.inr ⟨rfl, hD.no hi hC' hk (Or.inr ⟨h1, h3⟩)⟩
end Go.Proofs.YtdbpbhemnnffeaaGreatDoor
