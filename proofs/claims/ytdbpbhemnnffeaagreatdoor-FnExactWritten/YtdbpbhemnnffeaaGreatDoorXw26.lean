/-
  Facts and contracts that the law's own text rests on, by their texts' names: DownGo, RangeSep2, SeqNodes, AllPlain.
-/
import Derived.Test.YtdbpbhemnnffeaaGreatDoorXw24
import Derived.Test.YtdbpbhemnnffeaaGreatDoorXw9
import Derived.Test.YtdbpbhemnnffeaaGreatDoorXw25
import Derived.Test.YtdbpbhemnnffeaaGreatDoorXw4
import Derived.Laws.EntriesVeiled
namespace Go.Proofs.YtdbpbhemnnffeaaGreatDoor
open Go.RowKit Go.Shelf
attribute [local go_sem] Oper.semAt_some
theorem Tryz.infoStep : (Tryz.prog.info? 169).map (fun i => (i.zero, i.size, i.bytes)) = some (some (.agg #[.bool false, .slice none 0 0, .slice none 0 0, .slice none 0 0, .int .i64 0]), 5, 88) := by kernel_rfl
theorem step_cells (w : World) (n : Nat) (hn : n = w.heap.size) (a b c d e : Value) (T : TypeId) : ∀ (j : Nat) (u : Value), [a, b, c, d, e][j]? = some u → (w.alloc (.cells #[a, b, c, d, e] T (0, 0))).cell? ((⟨n, 0, none⟩ : Addr).add j) = some u := by
  subst hn
  intro j u hj
  have hb := heap_alloc_new w (Obj.cells #[a, b, c, d, e] T)
  match j, hj with
  | 0, hj => simp at hj; subst hj; simp only [Addr.add_lit, Nat.add_zero]; exact (cell_at hb 0).1
  | 1, hj => simp at hj; subst hj; simp only [Addr.add_lit]; exact (cell_at hb 1).1
  | 2, hj => simp at hj; subst hj; simp only [Addr.add_lit]; exact (cell_at hb 2).1
  | 3, hj => simp at hj; subst hj; simp only [Addr.add_lit]; exact (cell_at hb 3).1
  | 4, hj => simp at hj; subst hj; simp only [Addr.add_lit]; exact (cell_at hb 4).1
theorem rdN_right2 (ps : List ByteArray) (ls : List (Int × ByteArray)) : Right (fun q => rdN (readD ps ls q)) := fun p h => by
  have : rdN (readD ps ls p) = ((rdN (readD ps ls p)).1, true) := by rw [← h]
  exact rdN_ok this
set_option maxHeartbeats 8000000 in
set_option maxRecDepth 100000 in
theorem down_go {w : World} {ps : List ByteArray} {ls : List (Int × ByteArray)} {vp vl : Value} {gw l : Nat} {J Jx : List Ev → (Nat → Prop) → World → Prop} {Sp : List Ev → Prop} (K : DCtx w ps ls vp vl gw l J Jx Sp) (k : Nat) (f : Int → List (Nd × Nat) → List Int → List Vis × Option (List Int)) (hf : f = downL (fun q => rdN (readD ps ls q)) k)
    (p : Int) (way : List (Nd × Nat)) (vw : Value) (s : List Int) (vs : Value) (pre : List Ev) (C : Nat → Prop) (W : World) (hst : DSt w W gw l vp vl C s vs) (hj : J pre C W) (hw : WayAt W w.heap.size C vw way) (hlen : way.length + (k + 1) = 8) (hs : s.length + cntK (k + 1) ≤ 100000)
    (n : Nd) (hn : rdN (readD ps ls p) = (n, true)) (hin : ¬ p ∈ s) (hsp : ∀ q' t, q'.map Ev.plain ++ t = evs (⟨p, n, way⟩ :: (kidsL f n way (s ++ [p]) n.cs.length).1, (kidsL f n way (s ++ [p]) n.cs.length).2) → Sp (pre ++ q'))
    (hrec : ∀ (q : Int) (way' : List (Nd × Nat)) (vw' : Value) (s' : List Int) (vs' : Value) (pre' : List Ev) (C' : Nat → Prop) (W' : World), DSt w W' gw l vp vl C' s' vs' → J pre' C' W' → WayAt W' w.heap.size C' vw' way' → way'.length + k = 8 → s'.length + cntK k ≤ 100000 → (∀ q' t, q'.map Ev.plain ++ t = evs (f q way' s') → Sp (pre' ++ q')) →
      Calls Tryz.prog 79 #[.pointer (some ⟨gw, 0, none⟩), .int .i64 q, vw'] W' fun e W'' => DPost J Jx w gw l vp vl pre' C' W' vs' (f q way' s') e W'') :
    Calls Tryz.prog 79 #[.pointer (some ⟨gw, 0, none⟩), .int .i64 p, vw] W fun e W' => DPost J Jx w gw l vp vl pre C W vs (⟨p, n, way⟩ :: (kidsL f n way (s ++ [p]) n.cs.length).1, (kidsL f n way (s ++ [p]) n.cs.length).2) e W' := by
  have mixed : Tryz.prog.follows .mixedOrders = true := by kernel_rfl
  obtain ⟨i0, hi, hz0, hz1, hz2⟩ := info_parts Tryz.infoIntW
  obtain ⟨i1, hj1, hy0, hy1, hy2⟩ := info_parts Tryz.infoStep
  have hck : cntK (k + 1) = 1 + 4 * cntK k := rfl
  rw [hck] at hs
  have HRP := hide (implReadPage_any (.agg #[vp, vl]) ps ls K.hp K.hl K.hps K.hls p W (disk_below K.disk hst.low))
  have HRN := hide (fun wx h => implReadNode_any (readD ps ls p) (readD_smallG K.hps K.hls p) wx h)
  have HK := hide K
  have HSt := hide hst
  have HJ := hide hj
  have HW := hide hw
  have HRec := hide hrec
  have HNd := hide hn
  have HSp := hide hsp
  have HF := hide hf
  have HS := hide (⟨hlen, hs⟩ : _ ∧ _)
  have HC := hide (fun v wx h => (by have := contains_any s (by omega) p v wx h; rw [decide_eq_false hin] at this; exact this : Calls Tryz.prog 89 #[v, .int .i64 p] wx fun e w' => e = .returned (.bool false) ∧ wx = w'))
  obtain ⟨D, hD⟩ : ∃ D, D = readD ps ls p := ⟨_, rfl⟩
  rw [← hD] at HRP HRN HNd
  obtain ⟨X0, -, hwr, -, -⟩ := id hw
  obtain ⟨aw, cw, rfl⟩ := own_slice hwr
  obtain ⟨xs, ys, rfl⟩ := own_slice hst.row
  have hcw : way.length ≤ cw := by
    rcases hwr.2 with ⟨e, h0⟩ | ⟨g, cap, cur, e, -, -, hc, -⟩
    · injection e with e1 e2 e3; omega
    · injection e with e1 e2 e3; omega
  obtain ⟨lw, hlw⟩ : ∃ lw, lw = way.length := ⟨_, rfl⟩
  have HLw := hide hlw
  rw [← hlw] at HW hcw ⊢
  have d8 : decide ((8 : Int) ≤ (lw : Int)) = false := decide_eq_false (by omega)
  have d9 : ¬ ((8 : Int) ≤ (lw : Int)) := by omega
  have p0 := (cell_at hst.wk 0).1
  have p1 := (cell_at hst.wk 1).1
  have HGw : Hid (gw < W.heap.size) := hide (Array.getElem?_eq_some_iff.1 hst.wk).1
  clear K hst hj hD hwr hlw hw hrec hn hf hlen hs hin hck hsp
  go_enter Tryz.func79, Tryz.ntmps79
  go_wp2_with fail
  refine HRP.out.mono ?_
  rintro e w1 ⟨rfl, hb1⟩
  have HB1 := hide hb1
  clear hb1 p0 p1
  go_wp2_with fail
  refine (HRN.out _ (sumTab_below HK.out.tab (HSt.out.low.trans (HB1.out.mono HSt.out.low.size)))).mono ?_
  rintro e w2 ⟨n', v2, ok, rfl, hrn, hno, hb2⟩
  have hr := (rdN_of hrn).symm.trans HNd.out
  injection hr with hr1 hr2
  subst hr1
  subst hr2
  obtain ⟨a1, c1, a2, c2, a3, c3, rfl⟩ := nodeOwn_cells hno
  obtain ⟨lk, hlk⟩ : ∃ lk, lk = n'.ks.length := ⟨_, rfl⟩
  obtain ⟨lv, hlv⟩ : ∃ lv, lv = n'.vs.length := ⟨_, rfl⟩
  obtain ⟨lc, hlc⟩ : ∃ lc, lc = n'.cs.length := ⟨_, rfl⟩
  rw [← hlk, ← hlv, ← hlc] at hno ⊢
  have HLc := hide hlc
  have HLn : Hid (n'.cs.length ≤ 4) := hide (by
    obtain ⟨-, e2, e3, e4⟩ := cnt_yes (node_yes (rdN_ok HNd.out)).1
    cases hlf : n'.lf with
    | true => have := (e3 hlf).2; omega
    | false => have := (e4 hlf).1; omega)
  obtain ⟨w3, hw3⟩ : ∃ w3, w3 = w2.alloc (.cells #[.bool n'.lf, .slice a1 lk c1, .slice a2 lv c2, .slice a3 lc c3] 129 (0, 0)) := ⟨_, rfl⟩
  obtain ⟨gn, hgn⟩ : ∃ g, g = w2.heap.size := ⟨_, rfl⟩
  have hb3 : Below w2.heap.size w2 w3 := by rw [hw3]; exact (Below.refl _ _).alloc (Nat.le_refl _) _
  have HB2 : Hid (Below W.heap.size W w2) := hide (HB1.out.trans (hb2.mono HB1.out.size))
  have HB3 : Hid (Below W.heap.size W w3) := hide (HB2.out.trans (hb3.mono HB2.out.size))
  have HSt3 : Hid (DSt w w3 gw l vp vl C s (.slice xs s.length ys)) := hide (HSt.out.keep (keptC_of_below (C := fun _ => False) HB3.out) (fun _ h => h.elim) (fun _ h => h.elim) (fun _ h => Or.inl h))
  have HJ3 : Hid (J pre C w3) := hide (HK.out.abides _ _ _ _ HJ.out (keptC_of_below HB3.out))
  have HW3 := hide (way_kept HW.out (keptC_of_below (C := fun _ => False) HB3.out) (fun _ h => h.elim) (fun _ h => Or.inl h))
  have HN3 : Hid (NodeOwn w3 W.heap.size (.agg #[.bool n'.lf, .slice a1 lk c1, .slice a2 lv c2, .slice a3 lc c3]) n'.lf n'.ks n'.vs n'.cs) := hide (nodeOwn_down (nodeOwn_below hno hb3) HB1.out.size)
  have HG3 : Hid (w3.heap[gn]? = some (.cells #[.bool n'.lf, .slice a1 lk c1, .slice a2 lv c2, .slice a3 lc c3] 129 (0, 0))) := hide (by rw [hw3, hgn]; exact heap_alloc_new w2 _)
  have HGn : Hid (W.heap.size ≤ gn ∧ w3.heap.size = gn + 1) := hide ⟨by rw [hgn]; exact HB2.out.size, by rw [hw3, hgn]; simp⟩
  have q2 := (cell_at HSt3.out.wk 2).1
  rw [hw3] at q2
  clear hb2 hb3 hno hrn hlk hlv hlc
  go_wp2_with fail
  rw [← hw3, ← hgn]
  rw [← hw3] at q2
  clear hw3 hgn
  refine (HC.out _ _ (row_of_own HSt3.out.row)).mono ?_
  rintro e w4 ⟨rfl, rfl⟩
  go_wp2_with (at_builtin; (refine wpList_append_lies _ rfl _ _ 30 rfl w.heap.size 3 i0 (.int .i64 0) 1 8 Tryz.underlying30 hi hz0 hz1 hz2 rfl (by decide) _ s.length (ints s) rfl (HSt3.out.row.alloc _) ⟨w3.heap.size, 0, none⟩ 1 1 [.int .i64 p] rfl rfl (one_newW w3 _ rfl _ _) ?c1 (by decide) ?c3 ?c4 ?c5 _ rfl ?_))
  case c1 => intro u hu; simp at hu; subst hu; rfl
  case c3 => have := HS.out.2; unfold maxLen; omega
  case c4 => have := HS.out.2; omega
  case c5 => have := HSt3.out.low.size; simp; omega
  intro b4 d4 w4 hown4 hg4 hb4 hl4
  obtain ⟨st1, st2, st3, st4⟩ := dst_seen HSt3.out (fun k h => (HK.out.inn _ _ _ HJ3.out k h).2) hown4 hg4 (by simpa using hb4)
  obtain ⟨w5, hw5⟩ : ∃ w5, w5 = w4.setCell ⟨gw, 2, none⟩ (.slice (some ⟨b4, 0, none⟩) (s.length + 1) d4) := ⟨_, rfl⟩
  rw [← hw5] at st1 st2
  have hlt : ∀ j, (Value.slice xs s.length ys).ownBlock = some j → j < W.heap.size := fun j e => (HSt.out.row.lt j e).2
  have hnS : ∀ j, W.heap.size ≤ j → ¬ (j = gw ∨ (Value.slice xs s.length ys).ownBlock = some j) := fun j hj e => by
    rcases e with e | e
    · have := HGw.out; omega
    · have := hlt j e; omega
  have st2d : KeptC (fun k => k = gw ∨ (Value.slice xs s.length ys).ownBlock = some k) w3 w5.drew := st2
  have HSt5 : Hid (DSt w w5.drew gw l vp vl C (s ++ [p]) (.slice (some ⟨b4, 0, none⟩) (s.length + 1) d4)) := hide (st1.keep (W' := w5.drew) (C' := C) (keptC_refl (fun _ => False) w5) (fun _ h => h.elim) (fun _ h => h.elim) (fun _ h => Or.inl h))
  have HJ5 : Hid (J pre C w5.drew) := hide (HK.out.abides _ _ _ _ HJ3.out (keptC_mono st2d (fun j _ h hc => by
    rcases h with h | h
    · subst h; exact HSt3.out.gc hc
    · exact HSt3.out.rc j h hc)))
  have HW5 : Hid (WayAt w5.drew w.heap.size C (.slice aw lw cw) way) := hide (way_kept HW3.out st2d (fun j h => by
    rcases h with h | h
    · subst h; exact Or.inr (Or.inl ⟨_, _, HSt3.out.wk⟩)
    · exact Or.inr (Or.inr (Or.inl (own_typ HSt3.out.row h)))) (fun _ h => Or.inl h))
  have HN5 : Hid (NodeOwn w5.drew W.heap.size (.agg #[.bool n'.lf, .slice a1 lk c1, .slice a2 lv c2, .slice a3 lc c3]) n'.lf n'.ks n'.vs n'.cs) := hide (nodeOwn_kept HN3.out st2d (fun k hb => hnS k (nodeOwn_lt HN3.out k hb).1))
  have HG5 : Hid (w5.drew.heap[gn]? = some (.cells #[.bool n'.lf, .slice a1 lk c1, .slice a2 lv c2, .slice a3 lc c3] 129 (0, 0))) := hide ((st2d.2.2.2.2 gn (by have := HGn.out.2; omega) (hnS gn HGn.out.1)).trans HG3.out)
  have HK5 : Hid (KeptC (DBl gw (.slice xs s.length ys) C) W w5.drew) := hide (keptC_trans (keptC_of_below HB3.out) (keptC_mono st2d (fun j _ h => (Or.inr h : DBl gw (.slice xs s.length ys) C j))) (fun _ h => Or.inl h))
  have hold5 : ∀ j, (Value.slice (some ⟨b4, 0, none⟩) (s.length + 1) d4).ownBlock = some j → ((Value.slice xs s.length ys).ownBlock = some j ∧ j < W.heap.size) ∨ (W.heap.size ≤ j ∧ j ≠ gn ∧ ¬ nodeBlocks (.agg #[.bool n'.lf, .slice a1 lk c1, .slice a2 lv c2, .slice a3 lc c3]) j) := fun j e => by
    injection e with e
    have e : b4 = j := e
    subst e
    rcases hb4 with e | e
    · exact Or.inl ⟨e, hlt b4 e⟩
    · have e : b4 = w3.heap.size + 1 := by simpa using e
      have := HGn.out
      exact Or.inr ⟨by omega, by omega, fun hb => by have := (nodeOwn_lt HN3.out b4 hb).2; omega⟩
  obtain ⟨x, hx⟩ : ∃ x : Ev, x = ⟨.agg #[.int .i64 p, .bool n'.lf, .slice a1 lk c1, .slice a2 lv c2, .slice a3 lc c3, .slice aw lw cw], true, ⟨p, n', way⟩⟩ := ⟨_, rfl⟩
  have hC : ∀ k, C k → w.heap.size ≤ k ∧ k < W.heap.size := HK.out.inn _ _ _ HJ.out
  have hlies : Lies w.heap.size x C w5.drew := by
    rw [hx]
    refine ⟨fun e => (by cases e), fun _ => ?_⟩
    exact ⟨_, _, _, _, rfl, nodeOwn_down HN5.out HSt.out.low.size, fun k hb hc => by have := (hC k hc).2; have := (nodeOwn_lt HN5.out k hb).1; omega, HW5.out⟩
  obtain ⟨fn, tmps, assign, body, hy, hR⟩ := HK.out.yields pre x C w5.drew 0 (HSp.out [x] (evs (kidsL f n' way (s ++ [p]) n'.cs.length)) (by rw [hx]; simp [evs, Ev.plain])) HJ5.out hlies
  have HYb : Hid (RoundIn Fence.wide 0 Tryz.prog l fn tmps assign body w5.drew fun e W' => ∃ b, e = .returned (.bool b) ∧ ((b = true ∧ ∃ C6 q6 s6 v6, DLoop w W W' gw l gn vp vl C C6 J pre q6 n' (.slice a1 lk c1) (.slice a2 lv c2) (.slice a3 lc c3) (.slice aw lw cw) way f p s s6 (.slice xs s.length ys) v6 0) ∨
      (b = false ∧ DPost J Jx w gw l vp vl pre C W (.slice xs s.length ys) (⟨p, n', way⟩ :: (kidsL f n' way (s ++ [p]) n'.cs.length).1, (kidsL f n' way (s ++ [p]) n'.cs.length).2) (.returned (.bool false)) W'))) := hide (hR.mono (fun e W' h => by
    obtain ⟨C', h1, h2, h3⟩ := h
    have hpl : x.plain = some ⟨p, n', way⟩ := by rw [hx]; rfl
    rcases h3 with ⟨rfl, h3⟩ | ⟨rfl, h3⟩
    · exact ⟨true, rfl, Or.inl ⟨rfl, C', [x], s ++ [p], _, dloop_zero f hC HSt5.out hold5 HGw.out HK5.out HG5.out HGn.out.1 HN5.out HW5.out hpl h1 h2 h3⟩⟩
    · refine ⟨false, rfl, Or.inr ⟨rfl, false, [x], C', rfl, fun k hc => ?_, keptC_trans HK5.out (keptC_mono h1 (fun j _ h => (Or.inl h : DBl gw (.slice xs s.length ys) C j))) (fun _ h => Or.inl h), Or.inr (Or.inr ⟨rfl, ?_, h3⟩)⟩⟩
      · rcases h2 k hc with y | y
        · exact Or.inl y
        · have := HK5.out.2.2.2.1; exact Or.inr (by omega)
      · rw [List.map_singleton, hpl]
        exact ⟨evs (kidsL f n' way (s ++ [p]) n'.cs.length), by simp [evs]⟩))
  rw [hx] at hy
  dsimp only [encs] at hy
  have y3 : w5.cell? ⟨gw, 3, none⟩ = _ := (cell_at st1.wk 3).1
  have g0 : w5.cell? ⟨gn, 0, none⟩ = _ := (cell_at HG5.out 0).1
  have g1 : w5.cell? ⟨gn, 1, none⟩ = _ := (cell_at HG5.out 1).1
  have g2 : w5.cell? ⟨gn, 2, none⟩ = _ := (cell_at HG5.out 2).1
  have g3 : w5.cell? ⟨gn, 3, none⟩ = _ := (cell_at HG5.out 3).1
  clear st1 st2 st2d hlt hnS hold5 hlies hR hown4 hg4 hb4 hl4 hx hC q2
  go_wp2_with fail
  rw [← hw5]
  clear hw5 st3 st4
  refine (wpIn_wide (n := 0)).1 ?_
  gi_region_with_o (refine ⟨rfl, ?_⟩; refine HYb.out.mono ?_; clear HYb; rintro e w6 ⟨bb, rfl, hbb⟩; have HBb := hide hbb; clear hbb)
  all_goals (
    rcases HBb.out with ⟨hb, C6, q6, s6, v6, hd6⟩ | ⟨hb, hp6⟩
    · subst hb
      have HD6 := hide hd6
      clear g0 g1 g2 g3 y3 hy HBb hd6
      have g3 := (cell_at HD6.out.box 3).1
      go_wp2_with fail
      clear g3
      go_loopg [65] lc (fun q iv wr => ∃ (i : Nat), q + i = lc ∧ iv = .int .i64 (i : Int) ∧ Hid (∃ Ci qi si vi, DLoop w W wr gw l gn vp vl C Ci J pre qi n' (.slice a1 lk c1) (.slice a2 lv c2) (.slice a3 lc c3) (.slice aw lw cw) way f p s si (.slice xs s.length ys) vi i))
      case atStart => exact ⟨0, by omega, rfl, hide ⟨_, _, _, _, HD6.out⟩⟩
      case round =>
        obtain ⟨i, hq, rfl, HD⟩ := hrel
        cases gk with
        | zero =>
          have hk : i = lc := by omega
          have hno : ¬ ((i : Int) < (lc : Int)) := by omega
          have HP : Hid (DPost J Jx w gw l vp vl pre C W (.slice xs s.length ys) (⟨p, n', way⟩ :: (kidsL f n' way (s ++ [p]) n'.cs.length).1, (kidsL f n' way (s ++ [p]) n'.cs.length).2) (.returned (.bool true)) wr) := hide (by
            obtain ⟨Ci, qi, si, vi, h⟩ := HD.out
            have h2 : i = n'.cs.length := by rw [hk]; exact HLc.out
            rw [h2] at h
            exact h.fin)
          clear hq hk
          go_wp2_with fail
          go_ret
          exact HP.out
        | succ q =>
          have hlt : (i : Int) < (lc : Int) := by omega
          have HQ := hide hq
          have hi4 : (i : Int) < 4 := by have := HLn.out; have := HLc.out; omega
          obtain ⟨Ci, qi, si, vi, hd⟩ := HD.out
          obtain ⟨X, hX, hXr, hXc, hXk⟩ := id hd.wy
          obtain ⟨vk', vv', vc', e4, -, -, o3, -⟩ := id hd.own
          obtain ⟨-, rfl, rfl, rfl⟩ := agg4 e4
          rw [← HLc.out] at o3
          obtain ⟨gc, hgc, hcell⟩ := row_getI (i := i) o3 (by have := HLc.out; omega) HLc.out
          subst hgc
          obtain ⟨kid, hkid⟩ : ∃ x, x = n'.cs.getD i 0 := ⟨_, rfl⟩
          rw [← hkid] at hcell
          have hil : i < n'.cs.length := by have := HLc.out; omega
          have hsi : si.length + cntK k ≤ 100000 := by
            have h1 := kidsL_len (fun q => rdN (readD ps ls q)) (rdN_right2 ps ls) k n' way (s ++ [p]) i si (by rw [← HF.out]; exact hd.so)
            have h2 := HS.out.2
            have h3 := HLn.out
            have hm : (i + 1) * cntK k ≤ 4 * cntK k := Nat.mul_le_mul_right _ (by omega)
            rw [Nat.succ_mul] at hm
            rw [List.length_append, List.length_singleton] at h1
            omega
          have HNext : Hid (∀ (vn : Value) (wn : World) (o : Obj), wn.ownsRow (wr.drew.alloc o).heap.size 169 5 vn (lw + 1) (wcells X ++ [.bool n'.lf, .slice a1 lk c1, .slice a2 lv c2, .slice (some ⟨gc, 0, none⟩) lc c3, .int .i64 (i : Int)]) → (wr.drew.alloc o).grownBy wn none →
              Calls Tryz.prog 79 #[.pointer (some ⟨gw, 0, none⟩), .int .i64 kid, vn] wn fun e Wk => ∃ b, e = .returned (.bool b) ∧ DNext w W gw l gn vp vl C J Jx pre n' (.slice a1 lk c1) (.slice a2 lv c2) (.slice (some ⟨gc, 0, none⟩) lc c3) (.slice aw lw cw) way f p s (.slice xs s.length ys) i b Wk) := hide (fun vn wn o ho hg => by
            rw [HLw.out] at ho
            rw [hkid]
            exact dloop_next (k := k) HK.out hd HSp.out HSt.out.low.size hil HS.out.1 hsi hX hXk ((Below.refl _ _).drew.alloc (Nat.le_refl _) o) ho hg HRec.out)
          have HWc : Hid (∀ o, (aw = none → lw = 0) ∧ ∀ b, aw = some b → ∀ j u, (wcells X)[j]? = some u → (wr.drew.alloc o).cell? (b.add j) = some u) := hide (fun o => by
            rw [← HLw.out] at hXr
            exact row_cells ((show wr.drew.ownsRow w.heap.size 169 5 (.slice aw lw cw) lw (wcells X) from hXr).alloc o))
          have HXl : Hid ((wcells X).length = lw * 5) := hide (by rw [HLw.out]; exact hXr.1)
          have HL8 : Hid (lw ≤ 8) := hide (by have := HS.out.1; have := HLw.out; omega)
          have b0 := (cell_at hd.box 0).1
          have b1 := (cell_at hd.box 1).1
          have b2 := (cell_at hd.box 2).1
          have b3 := (cell_at hd.box 3).1
          clear hd hX hXr hXc hXk o3 e4 hkid hil hsi HD
          go_wp2_with fail
          go_region_law (first
            | (refine step_call1 _ ?_ 90 Tryz.f90 Tryz.func90 ?_ ?_ (.tmp 72) #[130] ?_ (.slice aw lw cw) ?_ _ (clip_any aw lw cw hcw _) ?_; exact rfl; decide; exact Option.some_ne_none _; exact rfl; exact rfl; rintro e wc ⟨rfl, rfl⟩; refine ⟨_, rfl, ?_⟩)
            | (refine step_append_grows _ ?_ (.tmp 73) (.tmp 77) 130 ?_ 169 i1 (.agg #[.bool false, .slice none 0 0, .slice none 0 0, .slice none 0 0, .int .i64 0]) 5 88 Tryz.underlying130 hj1 hy0 hy1 hy2 ?_ ?_ aw lw (wcells X) ?_ (HWc.out (.deferred none)).1 HXl.out (HWc.out _).2 ⟨wr.heap.size, 0, none⟩ 1 [.bool n'.lf, .slice a1 lk c1, .slice a2 lv c2, .slice (some ⟨gc, 0, none⟩) lc c3, .int .i64 (i : Int)] ?_ ?_ (step_cells wr.drew _ rfl _ _ _ _ _ _) ?_ ?_ ?_ ?_; exact rfl; exact rfl; exact rfl; decide; exact rfl; exact rfl; exact rfl; (intro u hu; simp at hu; rcases hu with rfl | rfl | rfl | rfl | rfl <;> rfl); (have := HL8.out; unfold maxLen; omega); (have := HL8.out; omega); intro vn wn hown hg)
            | (refine step_call3 _ ?_ 79 Tryz.f79 Tryz.func79 ?_ ?_ (.tmp 70) (.tmp 71) (.tmp 78) #[166, 3, 130] ?_ (.pointer (some ⟨gw, 0, none⟩)) (.int .i64 kid) vn ?_ ?_ ?_ _ (HNext.out vn wn _ hown hg) ?_; exact rfl; decide; exact Option.some_ne_none _; exact rfl; exact rfl; exact rfl; exact rfl; rintro e wk ⟨b, rfl, hnx⟩; refine ⟨_, rfl, ?_⟩; have HNx := hide hnx; clear hnx hown hg))
          all_goals (
            rcases HNx.out with ⟨hb, Ck, qk, sk, vsk, hdn⟩ | ⟨hb, hpn⟩
            · subst hb
              have HDn := hide hdn
              clear hdn HNx
              go_wp2_with fail
              go_roundg q
              case measure => omega
              case rel => exact ⟨i + 1, by have := HQ.out; omega, by go_num, hide ⟨_, _, _, _, HDn.out⟩⟩
            · subst hb
              have HPn := hide hpn
              clear hpn HNx
              go_wp2_with fail
              go_ret
              exact HPn.out)
    · subst hb
      have HP := hide hp6
      clear hp6 HBb
      go_wp2_with fail
      go_ret
      exact HP.out)
theorem down_any {w : World} {ps : List ByteArray} {ls : List (Int × ByteArray)} {vp vl : Value} {gw l : Nat} {J Jx : List Ev → (Nat → Prop) → World → Prop} {Sp : List Ev → Prop} (K : DCtx w ps ls vp vl gw l J Jx Sp) : ∀ (k : Nat)
    (p : Int) (way : List (Nd × Nat)) (vw : Value) (s : List Int) (vs : Value) (pre : List Ev) (C : Nat → Prop) (W : World), DSt w W gw l vp vl C s vs → J pre C W → WayAt W w.heap.size C vw way → way.length + k = 8 → s.length + cntK k ≤ 100000 → (∀ q' t, q'.map Ev.plain ++ t = evs (downL (fun q => rdN (readD ps ls q)) k p way s) → Sp (pre ++ q')) →
    Calls Tryz.prog 79 #[.pointer (some ⟨gw, 0, none⟩), .int .i64 p, vw] W fun e W' => DPost J Jx w gw l vp vl pre C W vs (downL (fun q => rdN (readD ps ls q)) k p way s) e W'
  | 0, p, way, vw, s, vs, pre, C, W, hst, hj, hw, hlen, hs, hsp => by
    rw [downL] at hsp ⊢
    exact down_stop K p way vw s vs pre C W hst hj hw (by omega) (hsp [badEv] [] rfl) (Or.inr (Or.inl (by omega)))
  | k + 1, p, way, vw, s, vs, pre, C, W, hst, hj, hw, hlen, hs, hsp => by
    rw [downL] at hsp ⊢
    have hck : cntK (k + 1) = 1 + 4 * cntK k := rfl
    by_cases hb : (rdN (readD ps ls p)).2 = false ∨ p ∈ s
    · rw [if_pos hb] at hsp ⊢
      exact down_stop K p way vw s vs pre C W hst hj hw (by omega) (hsp [badEv] [] rfl) (by rcases hb with h | h; exact Or.inl h; exact Or.inr (Or.inr h))
    · rw [if_neg hb] at hsp ⊢
      have h1 : rdN (readD ps ls p) = ((rdN (readD ps ls p)).1, true) := by
        have : (rdN (readD ps ls p)).2 = true := by cases h : (rdN (readD ps ls p)).2; exact absurd (Or.inl h) hb; rfl
        rw [← this]
      exact down_go K k _ rfl p way vw s vs pre C W hst hj hw hlen hs _ h1 (fun h => hb (Or.inr h)) hsp (fun q way' vw' s' vs' pre' C' W' a b c d e g => down_any K k q way' vw' s' vs' pre' C' W' a b c d e g)
open Go Go.RowKit
def SeqSep2 {α : Type} (F : Fence) (n : Nat) (P : Program) (g : Nat) (lb : Array Value) (encs : α → Array Value) (Lies : α → (Nat → Prop) → World → Prop) (M : Nat → Prop) (n0 : Nat) (S Sp : List α → Prop) (w : World) : Prop :=
  ∀ (l : Nat) (J Jx : List α → (Nat → Prop) → World → Prop) (C0 : Nat → Prop) (W : World), Below w.heap.size w W → (∀ k, C0 k → ¬ M k) →
    (∀ pre C A B, J pre C A → KeptC (fun k => ¬ C k) A B → J pre C B) →
    (∀ pre C A, J pre C A → ∀ k, C k → n0 ≤ k ∧ k < A.heap.size) →
    (∀ pre x C W1 m, Sp (pre ++ [x]) → J pre C W1 → Lies x C W1 → YieldAt F m P l (encs x) W1 fun e W' => ∃ C', KeptC C W1 W' ∧ (∀ k, C' k → C k ∨ W1.heap.size ≤ k) ∧
      ((e = .returned (.bool true) ∧ J (pre ++ [x]) C' W') ∨ (e = .returned (.bool false) ∧ Jx (pre ++ [x]) C' W'))) →
    J [] C0 W →
    CallsIn F n P g (#[.func (.yield l) #[] #[]] ++ lb) W fun e W' => (∃ v, e = .returned v) ∧ Below n0 W W' ∧ ((∃ xs C, S xs ∧ J xs C W') ∨ (∃ pre C, Sp pre ∧ Jx pre C W'))
theorem wpIn_rangeFunc_sep2 {F : Fence} {n : Nat} {P : Program} {α : Type} {g : Operand} {ps : Array Tmp} {assign body : Code} {Q : Exit → Act → World → Prop} {a : Act} {w : World}
    (hro : F.round = none) (hdep : F.depth = none) {gf : Nat} {lb : Array Value} (hg : a.eval g = .func (.func gf) #[] lb) (hFg : F.fn gf) (eg : ∀ args w, (callFunc gf args).run P w = .ok (.enter gf args) w)
    {encs : α → Array Value} {Lies : α → (Nat → Prop) → World → Prop} {M : Nat → Prop} {n0 : Nat} {S Sp : List α → Prop} (hseq : SeqSep2 F (n - 1) P gf lb encs Lies M n0 S Sp w) (hn0 : n0 ≤ w.heap.size) (hM : ∀ k, M k → k < w.heap.size)
    (hL : ∀ x C C' A B, Lies x C A → KeptC C A B → (∀ k, C' k → C k ∨ A.heap.size ≤ k) → Lies x C' B)
    (hps : ∀ x, (encs x).size = ps.size)
    (I : List α → (Nat → Prop) → World → Prop) (Ix : Code → List α → (Nat → Prop) → World → Prop)
    (hI : ∀ pre C A B, I pre C A → KeptC (fun k => ¬ C k) A B → I pre C B) (hIx : ∀ c pre C A B, Ix c pre C A → KeptC (fun k => ¬ C k) A B → Ix c pre C B)
    (hIn : ∀ pre C A, I pre C A → ∀ k, C k → n0 ≤ k ∧ k < A.heap.size)
    (C0 : Nat → Prop) (h0 : I [] C0 w) (hC0 : ∀ k, C0 k → ¬ M k)
    (Ax : α → Act → (Nat → Prop) → World → Prop) (hAx : ∀ x a' C A B, Ax x a' C A → KeptC (fun k => ¬ C k) A B → Ax x a' C B)
    (hassign : ∀ (l : Nat) (m : Nat) (pre : List α) (x : α) (C : Nat → Prop) (W : World) (K : Act → World → Prop), I pre C W → Lies x C W → (∀ a' C' W', KeptC C W W' → (∀ k, C' k → C k ∨ W.heap.size ≤ k) → I pre C' W' → Ax x a' C' W' → K a' W') →
      assign.wpIn (F.inRound l) m P (Exit.then K (fun _ _ _ => False)) { tmps := (ps.zip (encs x)).foldl (fun t (p, v) => t.setIfInBounds p v) a.tmps, defers := [] } W)
    (hbody : ∀ (l : Nat) (m : Nat) (pre : List α) (x : α) (a' : Act) (C : Nat → Prop) (W : World), Sp (pre ++ [x]) → I pre C W → Ax x a' C W → Lies x C W → body.wpIn (F.inRound l) m P (sepPost I Ix (pre ++ [x]) C W) a' W)
    (hdone : ∀ (D : Nat) (xs : List α) (C : Nat → Prop) (W : World), w.heap.size ≤ D → ¬ C D → S xs → I xs C W → Below n0 w W → W.heap[D]? = some (.deferred (some [])) → Q .normal { a with defers := { target := .collected D, args := #[] } :: a.defers } W)
    (hstop : ∀ (D : Nat) (c : Code) (pre : List α) (C : Nat → Prop) (W : World), w.heap.size ≤ D → ¬ C D → Sp pre → Ix c pre C W → Below n0 w W → W.heap[D]? = some (.deferred (some [])) → c.wpIn F n P Q { a with defers := { target := .collected D, args := #[] } :: a.defers } W) :
    (Code.rangeFunc g ps assign body).wpIn F n P Q a w := by
  refine wpIn_rangeFunc ?_
  intro fn hfn
  rw [hro]
  obtain ⟨rec, hrec⟩ : ∃ rec : LoopState → Option Code → Loop, rec = fun st pe => { state := st, pending := pe, fn, tmps := a.tmps, params := ps, assign, body, defers := w.heap.size } := ⟨_, rfl⟩
  obtain ⟨W1, hW1⟩ : ∃ W1, (w.alloc (.deferred (some []))).alloc (.loop (rec .ready none)) = W1 := ⟨_, rfl⟩
  have hL1 : W1.heap[w.heap.size + 1]? = some (.loop (rec .ready none)) := by
    rw [← hW1]; have := World.alloc_heap_new (w.alloc (.deferred (some []))) (.loop (rec .ready none)); rwa [World.size_alloc] at this
  have hK1 : W1.heap[w.heap.size]? = some (.deferred (some [])) := by
    rw [← hW1]; exact (Below.heap_alloc _ _ _ (by simp)).trans (World.alloc_heap_new w _)
  have hB1 : Below w.heap.size w W1 := by
    rw [← hW1]; exact ((Below.refl _ w).alloc (Nat.le_refl _) _).alloc (by simp) _
  have hI1 : I [] C0 W1 := hI _ _ _ _ h0 (keptC_of_below hB1)
  have hlw : ∀ k, C0 k → k < w.heap.size := fun k hk => (hIn _ _ _ h0 k hk).2
  refine ⟨w.heap.size + 1, [{ target := .collected w.heap.size, args := #[] }], W1, { target := .fn (.func gf) lb, args := #[.func (.yield (w.heap.size + 1)) #[] #[]] }, W1, gf,
    #[.func (.yield (w.heap.size + 1)) #[] #[]] ++ lb, W1, ?_, ?_, ?_, ?_, (fun h => by rw [hdep] at h; cases h), ?_⟩
  · rw [← hW1, hrec]; exact run_enterLoop_outer _ _ _ _ _
  · simp only [resolve, hg]
    simp [go_sem]
  · intro f' hf'; simp [Target.leads] at hf'; subst hf'; exact hFg
  · simp [invoke, go_sem, eg]
  · obtain ⟨X, hX⟩ : ∃ X : Nat → Prop, X = fun k => k = w.heap.size + 1 ∨ k = w.heap.size := ⟨_, rfl⟩
    have hXl : X (w.heap.size + 1) := by rw [hX]; exact Or.inl rfl
    have hXd : X w.heap.size := by rw [hX]; exact Or.inr rfl
    have hXc : ∀ k, X k → k = w.heap.size + 1 ∨ k = w.heap.size := fun k h => by rw [hX] at h; exact h
    refine (hseq (w.heap.size + 1)
      (fun pre C W => ∃ C1, C = (fun k => C1 k ∨ X k) ∧ (∀ k, C1 k → ¬ X k) ∧ I pre C1 W ∧ W.heap[w.heap.size + 1]? = some (.loop (rec .ready none)) ∧ W.heap[w.heap.size]? = some (.deferred (some [])))
      (fun pre C W => ∃ c C1, C = (fun k => C1 k ∨ X k) ∧ (∀ k, C1 k → ¬ X k) ∧ Ix c pre C1 W ∧ W.heap[w.heap.size + 1]? = some (.loop (rec .done (some c))) ∧ W.heap[w.heap.size]? = some (.deferred (some [])))
      (fun k => C0 k ∨ X k) W1 hB1 ?_ ?_ ?_ ?_ ⟨C0, rfl, fun k hk hx => by have := hlw k hk; rcases hXc k hx with h | h <;> omega, hI1, hL1, hK1⟩).mono ?_
    · rintro k (hk | hk) hm
      · exact hC0 k hk hm
      · have := hM k hm
        rcases hXc k hk with h | h <;> omega
    · rintro pre C A B ⟨C1, rfl, hd, hi, hl, hk⟩ hAB
      have hs : ∀ j, (C1 j ∨ X j) → j < A.heap.size → B.heap[j]? = A.heap[j]? := fun j hj hlt => hAB.2.2.2.2 j hlt (fun h => h hj)
      exact ⟨C1, rfl, hd, hI _ _ _ _ hi (keptC_mono hAB (fun j _ hn hc => hn (Or.inl hc))), (hs _ (Or.inr hXl) (Array.getElem?_eq_some_iff.1 hl).1).trans hl, (hs _ (Or.inr hXd) (Array.getElem?_eq_some_iff.1 hk).1).trans hk⟩
    · rintro pre C A ⟨C1, rfl, hd, hi, hl, hk⟩ k (hc | hc)
      · exact hIn _ _ _ hi k hc
      · have h1 := (Array.getElem?_eq_some_iff.1 hl).1
        rcases hXc k hc with h | h <;> constructor <;> omega
    · -- one round
      rintro pre x C W m hsp ⟨C1, rfl, hd, hi, hl, hk⟩ hlies
      have hlt : w.heap.size + 1 < W.heap.size := (Array.getElem?_eq_some_iff.1 hl).1
      have hy := run_yield (P := P) (args := encs x) hl (by rw [hrec]; exact hps x)
      rw [hrec] at hy
      have hlies1 : Lies x C1 W := hL x _ C1 W W hlies (keptC_refl _ _) (fun k h => Or.inl (Or.inl h))
      refine ⟨fn, _, assign, body, hy, roundIn_of_wpIn hfn (hassign _ m pre x C1 W _ hi hlies1 ?_)⟩
      clear hy
      intro a' C2 Wa hka hca hia hax
      have hnl : ¬ C1 (w.heap.size + 1) := fun h => hd _ h hXl
      have hnd : ¬ C1 w.heap.size := fun h => hd _ h hXd
      have hla := (hka.2.2.2.2 _ hlt hnl).trans hl
      have hkaa := (hka.2.2.2.2 _ (by omega) hnd).trans hk
      have hnl2 : ¬ C2 (w.heap.size + 1) := fun h => by rcases hca _ h with h | h; exact hnl h; omega
      have hnd2 : ¬ C2 w.heap.size := fun h => by rcases hca _ h with h | h; exact hnd h; omega
      have hlta : w.heap.size + 1 < Wa.heap.size := (Array.getElem?_eq_some_iff.1 hla).1
      refine ⟨_, run_beginRound hla (by rw [hrec]), ?_⟩
      obtain ⟨Wb, hWb⟩ : ∃ Wb, Wb = Wa.putObj (w.heap.size + 1) (.loop { rec .ready none with state := .busy }) := ⟨_, rfl⟩
      rw [← hWb]
      have hlb : Wb.heap[w.heap.size + 1]? = some (.loop { rec .ready none with state := .busy }) := by rw [hWb]; exact World.putObj_heap_same hlta
      have hkb : Wb.heap[w.heap.size]? = some (.deferred (some [])) := by rw [hWb]; exact (World.putObj_heap_other (by omega)).trans hkaa
      have hab : KeptC (fun k => ¬ C2 k) Wa Wb := by rw [hWb]; exact keptC_putObj Wa _ hnl2
      have habX : KeptC X Wa Wb := by rw [hWb]; exact keptC_putObj Wa _ hXl
      have hszb : Wb.heap.size = Wa.heap.size := by rw [hWb]; simp
      have hlies2 : Lies x C2 Wb := hL x (fun k => C2 k ∨ X k) C2 Wa Wb (hL x _ _ W Wa hlies (keptC_mono hka (fun j _ h => Or.inl h)) (fun k h => by
        rcases h with h | h
        · rcases hca k h with h | h
          · exact Or.inl (Or.inl h)
          · exact Or.inr h
        · exact Or.inl (Or.inr h))) (keptC_mono habX (fun j _ h => Or.inr h)) (fun k h => Or.inl (Or.inl h))
      refine wpIn_mono (hbody _ m pre x a' C2 Wb hsp (hI _ _ _ _ hia hab) (hAx _ _ _ _ _ hax hab) hlies2) ?_
      have hWX : KeptC (fun k => C1 k ∨ X k) W Wb := keptC_trans (keptC_mono hka (fun j _ h => Or.inl h)) habX (fun j h => Or.inl (Or.inr h))
      have hszW : W.heap.size ≤ Wb.heap.size := hWX.2.2.2.1
      have fin : ∀ (jump : Option Code) (C3 : Nat → Prop) (W3 : World), KeptC C2 Wb W3 → (∀ k, C3 k → C2 k ∨ Wb.heap.size ≤ k) →
          (Instr.endRound (w.heap.size + 1) jump).run P W3 = .ok (.bool jump.isNone) (W3.putObj (w.heap.size + 1) (.loop (rec (if jump.isNone then .ready else .done) jump))) ∧
          (W3.putObj (w.heap.size + 1) (.loop (rec (if jump.isNone then .ready else .done) jump))).heap[w.heap.size + 1]? = some (.loop (rec (if jump.isNone then .ready else .done) jump)) ∧
          (W3.putObj (w.heap.size + 1) (.loop (rec (if jump.isNone then .ready else .done) jump))).heap[w.heap.size]? = some (.deferred (some [])) ∧
          (∀ k, C3 k → ¬ X k) ∧ KeptC (fun k => ¬ C3 k) W3 (W3.putObj (w.heap.size + 1) (.loop (rec (if jump.isNone then .ready else .done) jump))) ∧
          KeptC (fun k => C1 k ∨ X k) W (W3.putObj (w.heap.size + 1) (.loop (rec (if jump.isNone then .ready else .done) jump))) ∧ (∀ k, (C3 k ∨ X k) → (C1 k ∨ X k) ∨ W.heap.size ≤ k) := fun jump C3 W3 hk3 hc3 => by
        have hl3 := (hk3.2.2.2.2 _ (Array.getElem?_eq_some_iff.1 hlb).1 hnl2).trans hlb
        have hd3 := (hk3.2.2.2.2 _ (Array.getElem?_eq_some_iff.1 hkb).1 hnd2).trans hkb
        have := run_endRound (P := P) jump hl3
        have hx3 : ∀ k, C3 k → ¬ X k := fun k h hx => by
          rcases hc3 k h with h | h
          · rcases hXc k hx with e | e <;> subst e
            · exact hnl2 h
            · exact hnd2 h
          · rcases hXc k hx with e | e <;> omega
        rw [hrec] at this ⊢
        refine ⟨this, World.putObj_heap_same (Array.getElem?_eq_some_iff.1 hl3).1, (World.putObj_heap_other (by omega)).trans hd3, hx3, keptC_putObj W3 _ (fun h => hx3 _ h hXl), ?_, ?_⟩
        · refine keptC_trans (keptC_trans hWX hk3 (fun j h => ?_)) (keptC_putObj (C := X) W3 _ hXl) (fun j h => Or.inl (Or.inr h))
          rcases hca j h with h | h
          · exact Or.inl (Or.inl h)
          · exact Or.inr h
        · rintro k (h | h)
          · rcases hc3 k h with h | h
            · rcases hca k h with h | h
              · exact Or.inl (Or.inl h)
              · exact Or.inr h
            · exact Or.inr (by omega)
          · exact Or.inl (Or.inr h)
      rintro e a3 W3 hp
      cases e with
      | normal =>
        obtain ⟨C3, hk3, hc3, hi3⟩ := hp
        obtain ⟨hr, hl4, hk4, hx4, hs4, hw4, hn4⟩ := fin none C3 W3 hk3 hc3
        exact ⟨_, _, hr, _, hw4, hn4, .inl ⟨rfl, C3, rfl, hx4, hI _ _ _ _ hi3 hs4, hl4, hk4⟩⟩
      | ret =>
        obtain ⟨C3, hk3, hc3, hi3⟩ := hp
        obtain ⟨hr, hl4, hk4, hx4, hs4, hw4, hn4⟩ := fin (some .ret) C3 W3 hk3 hc3
        exact ⟨_, _, hr, _, hw4, hn4, .inr ⟨rfl, .ret, C3, rfl, hx4, hIx _ _ _ _ _ hi3 hs4, hl4, hk4⟩⟩
      | exit id => exact hp.elim
      | goto t => exact hp.elim
      | panic ch => exact hp.elim
      | outgrown => exact hp.elim
    · -- behind the iterator
      rintro e W2 ⟨⟨v, rfl⟩, hb2, (⟨xs, C, hS, C1, rfl, hd, hi, hl, hk⟩ | ⟨pre, C, hSp, c, C1, rfl, hd, hi, hl, hk⟩)⟩
      · have hnl : ¬ C1 (w.heap.size + 1) := fun h => hd _ h hXl
        refine ⟨none, _, by have := run_endLoop (P := P) hl (by rw [hrec]; simp); rw [hrec] at this; exact this, hdone _ xs C1 _ (Nat.le_refl _) (fun h => hd _ h hXd) hS (hI _ _ _ _ hi (keptC_putObj W2 _ hnl)) ?_ ((World.putObj_heap_other (by omega)).trans hk)⟩
        exact ((hB1.mono hn0).trans hb2).trans (keptC_below (keptC_putObj (C := X) W2 _ hXl) (fun k h => by rcases hXc k h with e | e <;> omega) (by have := hb2.size; have := hB1.size; omega))
      · have hnl : ¬ C1 (w.heap.size + 1) := fun h => hd _ h hXl
        refine ⟨some c, _, by have := run_endLoop (P := P) hl (by rw [hrec]; simp); rw [hrec] at this; exact this, hstop _ c pre C1 _ (Nat.le_refl _) (fun h => hd _ h hXd) hSp (hIx _ _ _ _ _ hi (keptC_putObj W2 _ hnl)) ?_ ((World.putObj_heap_other (by omega)).trans hk)⟩
        exact ((hB1.mono hn0).trans hb2).trans (keptC_below (keptC_putObj (C := X) W2 _ hXl) (fun k h => by rcases hXc k h with e | e <;> omega) (by have := hb2.size; have := hB1.size; omega))
open Go.RowKit Go.Shelf
noncomputable def comes (R : Int → Nd × Bool) (root : Int) : List (Option Vis) := if root = 0 then [] else evs (downL R 8 root [] [])
set_option maxHeartbeats 2000000 in
set_option maxRecDepth 100000 in
theorem nodesOf_seq {w Wc : World} {ps : List ByteArray} {ls : List (Int × ByteArray)} {vp vl : Value} (n : Nat) (root : Int) (gr gd : Nat) (hp : ps.length ≤ 1048576) (hl : ls.length ≤ 1048576) (hps : ∀ s ∈ ps, s.size ≤ 1048576) (hls : ∀ p ∈ ls, p.2.size ≤ 1048576) (hT : SumTab w) (hd : DiskAt w (.agg #[vp, vl]) ps ls)
    (hlow : Below w.heap.size w Wc) (hgr : Wc.heap[gr]? = some (.cells #[.int .i64 root] 3 (0, 0))) (hgd : Wc.heap[gd]? = some (.cells #[vp, vl] 45 (0, 0))) :
    SeqSep2 Fence.wide n Tryz.prog 78 #[.pointer (some ⟨gr, 0, none⟩), .pointer (some ⟨gd, 0, none⟩)] encs (Lies w.heap.size) (fun k => k = gr ∨ k = gd) w.heap.size
      (fun xs => xs.map Ev.plain = comes (fun q => rdN (readD ps ls q)) root) (fun pre => ∃ t, pre.map Ev.plain ++ t = comes (fun q => rdN (readD ps ls q)) root) Wc := by
  intro l J Jx C0 W hW hC0 hJ hJn hY hj0
  obtain ⟨vp', vl', ed, hr1, hr2⟩ := id hd
  obtain ⟨ap, cp, rfl⟩ := row_slice hr1
  obtain ⟨al, cl, rfl⟩ := row_slice hr2
  injection ed with ed
  have ed := congrArg Array.toList ed
  simp only [List.cons.injEq, and_true] at ed
  obtain ⟨rfl, rfl⟩ := ed
  clear hr1 hr2
  obtain ⟨np, hnp⟩ : ∃ x, x = ps.length := ⟨_, rfl⟩
  obtain ⟨nl, hnl⟩ : ∃ x, x = ls.length := ⟨_, rfl⟩
  rw [← hnp, ← hnl] at hd hgd
  refine callsIn_wide.2 ?_
  have hK : DCtx w ps ls (.slice ap np cp) (.slice al nl cl) W.heap.size l J Jx (fun pre => ∃ t, pre.map Ev.plain ++ t = comes (fun q => rdN (readD ps ls q)) root) := ⟨by omega, by omega, hps, hls, hT, hd, hJ, hJn, hY⟩
  have hlW : Below w.heap.size w W := hlow.trans (hW.mono hlow.size)
  obtain ⟨W1, hW1⟩ : ∃ W1, W1 = W.alloc (.cells #[.slice ap np cp, .slice al nl cl, .slice none 0 0, .func (.yield l) #[] #[]] 153 (0, 0)) := ⟨_, rfl⟩
  have hb1 : Below W.heap.size W W1 := by rw [hW1]; exact (Below.refl _ _).alloc (Nat.le_refl _) _
  have hst : DSt w W1 W.heap.size l (.slice ap np cp) (.slice al nl cl) C0 [] (.slice none 0 0) := {
    low := hlW.trans (hb1.mono hlW.size)
    wk := by rw [hW1]; exact heap_alloc_new W _
    gc := fun hc => by have := (hJn _ _ _ hj0 _ hc).2; omega
    gn := hlW.size
    row := World.ownsRow_nil _ _ _ _
    rc := fun j e => by cases e }
  have hway : WayAt W1 w.heap.size C0 (.slice none 0 0) [] := ⟨[], rfl, World.ownsRow_nil _ _ _ _, fun j e => (by cases e), fun x h => (by cases h)⟩
  have HD0 := hide (fun hz : ¬ root = 0 => down_any hK 8 root [] (.slice none 0 0) [] (.slice none 0 0) [] C0 W1 hst (hJ _ _ _ _ hj0 (keptC_of_below hb1)) hway rfl (by decide) (fun q t h => ⟨t, by rw [comes, if_neg hz]; exact h⟩))
  have HJn := hide hJn
  have HJ0 := hide hj0
  have HLW := hide hlW
  have HB1 := hide hb1
  have r0 := (cell_at (stays hgr hW) 0).1
  have d0 := (cell_at (stays hgd hW) 0).1
  have d1 := (cell_at (stays hgd hW) 1).1
  obtain ⟨cm, hcm⟩ : ∃ cm, cm = comes (fun q => rdN (readD ps ls q)) root := ⟨_, rfl⟩
  rw [← hcm]
  obtain ⟨PP, hPP⟩ : ∃ PP : World → Prop, PP = fun W' => (∃ xs C, xs.map Ev.plain = cm ∧ J xs C W') ∨ (∃ pre C, (∃ t, pre.map Ev.plain ++ t = cm) ∧ Jx pre C W') := ⟨_, rfl⟩
  refine Calls.mono (R := fun e W' => (∃ v, e = .returned v) ∧ Below w.heap.size W W' ∧ PP W') ?_ (fun e W' h => by rw [hPP] at h; exact h)
  have HPP := hide hPP
  have r1 := (cell_at (stays (stays hgr hW) hb1) 0).1
  rw [hW1] at r1
  clear hPP
  by_cases hz : root = 0
  · have HC : Hid (cm = []) := hide (by rw [hcm, comes, if_pos hz])
    subst hz
    clear hK hJ hJn hY hj0 hlW hb1 hst hway hW hC0 hp hl hps hls hT hd hlow hgr hgd hcm hnp hnl HD0
    go_enter Tryz.func78, Tryz.ntmps78
    go_wp2_with fail
    refine bodyPost_ret (results_none rfl _ _ _) rfl ?_
    exact ⟨⟨_, rfl⟩, Below.refl _ _, by rw [HPP.out]; exact Or.inl ⟨[], C0, by rw [HC.out]; rfl, HJ0.out⟩⟩
  · have HC : Hid (cm = evs (downL (fun q => rdN (readD ps ls q)) 8 root [] [])) := hide (by rw [hcm, comes, if_neg hz])
    have HD := hide (HD0.out hz)
    have hz0 : (root == 0) = false := by simp [hz]
    clear HD0
    clear hK hJ hJn hY hj0 hlW hb1 hst hway hW hC0 hp hl hps hls hT hd hlow hgr hgd hcm hnp hnl hz
    go_enter Tryz.func78, Tryz.ntmps78
    go_wp2_with fail
    rw [← hW1]
    refine HD.out.mono ?_
    rintro e W2 ⟨b, q, C', rfl, hC', hk, hor⟩
    have HBl : Hid (Below w.heap.size W W2) := hide ((HB1.out.mono HLW.out.size).trans (keptC_below hk (fun k h => by
      rcases h with h | h | h
      · exact (HJn.out _ _ _ HJ0.out k h).1
      · rw [h]; exact HLW.out.size
      · cases h) (Nat.le_trans HLW.out.size HB1.out.size)))
    have HO : Hid ((∃ xs C, xs.map Ev.plain = cm ∧ J xs C W2) ∨ (∃ pre C, (∃ t, pre.map Ev.plain ++ t = cm) ∧ Jx pre C W2)) := hide (by
      rw [HC.out]
      rcases hor with ⟨-, s', vs', h1, h2, h3, -, -⟩ | ⟨-, h1, h2, h3⟩ | ⟨-, h1, h3⟩
      · exact Or.inl ⟨q, C', by rw [h2, evs, h1]; simp, h3⟩
      · exact Or.inl ⟨q, C', by rw [h2, evs, h1]; simp, h3⟩
      · exact Or.inr ⟨q, C', h1, h3⟩)
    clear hC' hk hor
    go_wp2_with fail
    first | go_ret | go_ret2 | go_end0
    exact ⟨⟨_, rfl⟩, HBl.out, by rw [HPP.out]; exact HO.out⟩
theorem comes_seen (R : Int → Nd × Bool) (root : Int) : comes R root = (seenI R root).1.map some ++ (if (seenI R root).2 = true then [] else [none]) := by
  unfold comes seenI
  by_cases h : root = 0
  · rw [if_pos h, if_pos h]; rfl
  · rw [if_neg h, if_neg h, evs]
    cases hd : (downL R 8 root [] []).2 with
    | none => simp
    | some s => simp
theorem plain_ok {xs : List Ev} (h : ∀ x ∈ xs, x.ok = true) : xs.map Ev.plain = (xs.map Ev.vis).map some := by
  rw [List.map_map]
  exact List.map_congr_left (fun x hx => by rw [Ev.plain, if_pos (h x hx)]; rfl)
theorem all_done (R : Int → Nd × Bool) (root : Int) {xs : List Ev} (h : ∀ x ∈ xs, x.ok = true) (hx : xs.map Ev.plain = comes R root) : allI R root = (pairsV (xs.map Ev.vis), true) ∧ (seenI R root).1 = xs.map Ev.vis ∧ (seenI R root).2 = true := by
  rw [plain_ok h, comes_seen] at hx
  have h2 : (seenI R root).2 = true := by
    cases hc : (seenI R root).2 with
    | true => rfl
    | false =>
      rw [hc] at hx
      have : (none : Option Vis) ∈ (xs.map Ev.vis).map some := by rw [hx]; simp
      simp at this
  rw [h2, if_pos rfl, List.append_nil] at hx
  have h3 : (seenI R root).1 = xs.map Ev.vis := ((List.map_inj_right (fun _ _ e => Option.some.inj e)).1 hx).symm
  exact ⟨by rw [allI, if_pos h2, h3], h3, h2⟩
theorem all_stop (R : Int → Nd × Bool) (root : Int) {pre : List Ev} {x : Ev} (hx : x.ok = false) {t : List (Option Vis)} (ht : (pre ++ [x]).map Ev.plain ++ t = comes R root) : allI R root = ([], false) ∧ (seenI R root).2 = false := by
  have h2 : (seenI R root).2 = false := by
    cases hc : (seenI R root).2 with
    | false => rfl
    | true =>
      rw [comes_seen, hc, if_pos rfl, List.append_nil] at ht
      have : (none : Option Vis) ∈ (seenI R root).1.map some := by
        rw [← ht]
        have : x.plain = none := by rw [Ev.plain, if_neg (by rw [hx]; decide)]
        simp [this]
      simp at this
  exact ⟨by rw [allI, if_neg (by rw [h2]; decide)], h2⟩
end Go.Proofs.YtdbpbhemnnffeaaGreatDoor
