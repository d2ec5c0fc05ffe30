/-
  impl's walk through a tree: how what was seen grows, how a way grows, the loop's first state and its next one. No function of the program but down, as a premise.
-/
import Derived.Test.YtaefmkmldfbjeaaDoorDownStep
import Derived.ArgAppend
namespace Go.Proofs.YtaefmkmldfbjeaaDoor
open Go.RowKit

theorem dst_seen {w W w' : World} {gw l b cap : Nat} {vp vl vs : Value} {C : Nat → Prop} {s : List Int} {p : Int} {o : Obj} (h : DSt w W gw l vp vl C s vs) (hC : ∀ k, C k → k < W.heap.size)
    (hown : w'.ownsRow w.heap.size 3 1 (.slice (some ⟨b, 0, none⟩) (s.length + 1) cap) (s.length + 1) (ints s ++ [.int .i64 p])) (hg : (W.alloc o).grownBy w' vs.ownBlock) (hb : vs.ownBlock = some b ∨ b = W.heap.size + 1) :
    DSt w (w'.setCell ⟨gw, 2, none⟩ (.slice (some ⟨b, 0, none⟩) (s.length + 1) cap)) gw l vp vl C (s ++ [p]) (.slice (some ⟨b, 0, none⟩) (s.length + 1) cap) ∧
    KeptC (fun k => k = gw ∨ vs.ownBlock = some k) W (w'.setCell ⟨gw, 2, none⟩ (.slice (some ⟨b, 0, none⟩) (s.length + 1) cap)) ∧ w'.cell? ⟨gw, 2, none⟩ = some vs ∧ w'.frozen? ⟨gw, 2, none⟩ = false := by
  have k1 : Kept W w' (fun k => vs.ownBlock = some k) := kept_app hg
  have hga : gw < W.heap.size := (Array.getElem?_eq_some_iff.1 h.wk).1
  have g1 := (k1.2.2.2.2 gw hga (fun e => Tryd.step_ne.2.2.2.2 (typ_one (own_typ h.row e) ⟨_, _, h.wk⟩))).trans h.wk
  have k2 := kept_setCell w' gw 2 (.slice (some ⟨b, 0, none⟩) (s.length + 1) cap)
  have hkept : KeptC (fun k => k = gw ∨ vs.ownBlock = some k) W (w'.setCell ⟨gw, 2, none⟩ (.slice (some ⟨b, 0, none⟩) (s.length + 1) cap)) := keptC_trans (C := fun k => k = gw ∨ vs.ownBlock = some k) (C' := fun k => k = gw) ⟨k1.1, k1.2.1, k1.2.2.1, k1.2.2.2.1, fun k hk hn => k1.2.2.2.2 k hk (fun e => hn (Or.inr e))⟩ k2 (fun j e => Or.inl (Or.inl e))
  refine ⟨⟨h.low.trans (keptC_below hkept (fun k hk => ?_) h.low.size), heap_setCell_same _ gw 2 _ _ _ g1, h.gc, h.gn, ?_, fun j hj hc => ?_⟩, hkept, (cell_at g1 2).1, (cell_at g1 2).2⟩
  · rcases hk with rfl | hk
    · exact h.gn
    · exact (h.row.lt k hk).1
  · have ho := own_kept hown k2 (fun k e e2 => by subst e2; exact Tryd.step_ne.2.2.2.2 (typ_one (own_typ hown e) ⟨_, _, g1⟩))
    rw [ints_snoc] at ho
    rw [List.length_append, List.length_singleton]
    exact ho
  · injection hj with hj
    have hj : b = j := hj
    subst hj
    rcases hb with e | e
    · exact h.rc b e hc
    · have := hC b hc; omega

theorem row_cells {W : World} {B T n c : Nat} {a : Option Addr} {xs : List Value} (h : W.ownsRow B T 5 (.slice a n c) n xs) : (a = none → n = 0) ∧ ∀ b, a = some b → ∀ j u, xs[j]? = some u → W.cell? (b.add j) = some u := by
  obtain ⟨hl, a', c', e, h2⟩ := row_of_own h
  injection e with e1 e2 e3
  subst e1
  subst e3
  refine ⟨fun e => ?_, fun b e j u hj => ?_⟩
  · subst e
    rcases h2 with h0 | ⟨b, off, e, -⟩
    · exact h0
    · cases e
  · subst e
    have hjl : j < n * 5 := by rw [← hl]; exact (List.getElem?_eq_some_iff.1 hj).1
    rcases h2 with h0 | ⟨b', off, e, -, hc⟩
    · omega
    · injection e with e
      subst e
      rw [Addr.add_lit, hc j hjl, hj]

theorem step_append_grows {P : Program} (w : World) {ops : Array Oper} {o : Oper} {a : Act} {K : Act → World → Prop} {Q : Exit → Act → World → Prop} {E : Prop} (hgd : o.guard = none) (s x : Operand) (t : TypeId)
    (ho : o.op = .call { callee := .builtin .append, args := #[s, x], argTypes := #[t, t] })
    (e : TypeId) (i : TypeInfo) (z : Value) (size bytes : Nat) (h1 : P.underlying t = some (.slice e)) (h2 : P.info? e = some i) (h3 : i.zero = some z) (h4 : i.size = size) (h5 : i.bytes = bytes) (h6 : z.cells.size = size) (h7 : 0 < size)
    (ao : Option Addr) (n : Nat) (olds : List Value) (hs : a.eval s = .slice ao n n) (hnone : ao = none → n = 0) (hlo : olds.length = n * size) (holds : ∀ b, ao = some b → ∀ j u, olds[j]? = some u → w.cell? (b.add j) = some u)
    (ad : Addr) (c : Nat) (news : List Value) (hx : a.eval x = .slice (some ad) 1 c) (hn : news.length = 1 * size) (hc : ∀ j u, news[j]? = some u → w.cell? (ad.add j) = some u) (h1c : ∀ u ∈ news, u.oneCell' = true)
    (b1 : n + 1 ≤ maxLen) (b2 : (n + 1) * bytes ≤ 140737488355328)
    (hK : ∀ v' w', w'.ownsRow w.heap.size e size v' (n + 1) (olds ++ news) → w.grownBy w' none → K (a.put o.dst v') w') :
    if Region.wanted o (yielded ops a.tmps) = true then Oper.wp P o a w K Q else E := by
  have hw : Region.wanted o (yielded ops a.tmps) = true := by simp [Region.wanted, hgd]
  rw [if_pos hw]
  cases ao with
  | some b =>
    obtain ⟨v', w', hrun, r1, r2⟩ := run_append_arg_grows (P := P) w t o.type e i z size bytes h1 h2 h3 h4 h5 h6 h7 b n n olds hlo (holds b rfl) ad 1 c news hn hc (by omega) b1 b2
    unfold Oper.wp execOp
    simp only [ho, resolve, invoke, builtin, Sem.run_bind, Sem.run_pure, Result.andThen_ok, List.map_toArray, List.map_cons, List.map_nil, hs, hx, hrun]
    exact hK v' w' r1 r2
  | none =>
    obtain rfl := hnone rfl
    obtain rfl : olds = [] := List.eq_nil_of_length_eq_zero (by simpa using hlo)
    obtain ⟨v', w', hrun, r1, r2, _⟩ := run_append_own (P := P) w w.heap.size t o.type e i z size bytes h1 h2 h3 h4 h5 h6 h7 (.slice none 0 0) 0 [] (World.ownsRow_nil w _ e size) ad 1 c news hn hc h1c b1 b2 (Nat.le_refl _)
    unfold Oper.wp execOp
    simp only [ho, resolve, invoke, builtin, Sem.run_bind, Sem.run_pure, Result.andThen_ok, List.map_toArray, List.map_cons, List.map_nil, hs, hx, hrun]
    exact hK v' w' r1 r2

/-- the loop's first state -/
theorem dloop_zero {w W w5 W6 : World} {gw l gn : Nat} {vp vl : Value} {C C6 : Nat → Prop} {J : List Ev → (Nat → Prop) → World → Prop} {pre : List Ev} {x : Ev} {n : Nd} {vk vv vc vw : Value} {way : List (Nd × Nat)} (f : Int → List (Nd × Nat) → List Int → List Vis × Option (List Int)) {p : Int} {s : List Int} {vs vs5 : Value}
    (hC : ∀ k, C k → w.heap.size ≤ k ∧ k < W.heap.size) (hst : DSt w w5 gw l vp vl C (s ++ [p]) vs5) (hold : ∀ j, vs5.ownBlock = some j → (vs.ownBlock = some j ∧ j < W.heap.size) ∨ (W.heap.size ≤ j ∧ j ≠ gn ∧ ¬ nodeBlocks (.agg #[.bool n.lf, vk, vv, vc]) j)) (hgw : gw < W.heap.size)
    (hk5 : KeptC (DBl gw vs C) W w5) (hbox : w5.heap[gn]? = some (.cells #[.bool n.lf, vk, vv, vc] 50 (0, 0))) (hgn : W.heap.size ≤ gn) (hown : NodeOwn w5 W.heap.size (.agg #[.bool n.lf, vk, vv, vc]) n.lf n.ks n.vs n.cs) (hway : WayAt w5 w.heap.size C vw way)
    (hx : x.plain = some ⟨p, n, way⟩) (hk6 : KeptC C w5 W6) (hC6 : ∀ k, C6 k → C k ∨ w5.heap.size ≤ k) (hj6 : J (pre ++ [x]) C6 W6) :
    DLoop w W W6 gw l gn vp vl C C6 J pre [x] n vk vv vc vw way f p s (s ++ [p]) vs vs5 0 := by
  have hsz : W.heap.size ≤ w5.heap.size := hk5.2.2.2.1
  have hnot : ∀ j, (j = gn ∨ nodeBlocks (.agg #[.bool n.lf, vk, vv, vc]) j) → W.heap.size ≤ j ∧ ¬ C j ∧ j < w5.heap.size := fun j hj => by
    have h1 : W.heap.size ≤ j ∧ j < w5.heap.size := by
      rcases hj with rfl | hj
      · exact ⟨hgn, (Array.getElem?_eq_some_iff.1 hbox).1⟩
      · exact nodeOwn_lt hown j hj
    exact ⟨h1.1, fun hc => by have := (hC j hc).2; omega, h1.2⟩
  exact {
    st := hst.keep hk6 (fun _ h => Or.inl h) (fun j h => (hC j h).1) hC6
    j := hj6
    sub := fun k hc => by
      rcases hC6 k hc with x | x
      · exact Or.inl x
      · exact Or.inr (by omega)
    kept := keptC_trans hk5 (keptC_mono hk6 (fun j _ h => (Or.inl h : DBl gw vs C j))) (fun _ h => Or.inl h)
    box := (hk6.2.2.2.2 gn (hnot gn (Or.inl rfl)).2.2 (hnot gn (Or.inl rfl)).2.1).trans hbox
    own := nodeOwn_kept hown hk6 (fun k hb => (hnot k (Or.inr hb)).2.1)
    away := fun j hj => by
      obtain ⟨a1, a2, a3⟩ := hnot j hj
      refine ⟨a1, fun hc => ?_, fun e => by omega, fun he => ?_⟩
      · rcases hC6 j hc with x | x
        · exact a2 x
        · omega
      · rcases hold j he with x | x
        · omega
        · rcases hj with hj | hj
          · exact x.2.1 hj
          · exact x.2.2 hj
    wy := way_kept hway hk6 (fun _ h => Or.inl h) hC6
    old := fun j hj => by
      rcases hold j hj with x | x
      · exact Or.inl x.1
      · exact Or.inr x.1
    ev := by rw [List.map_singleton, hx, kidsL]; rfl
    so := by rw [kidsL] }

/-- behind a kid -/
def DNext (w W : World) (gw l gn : Nat) (vp vl : Value) (C : Nat → Prop) (J Jx : List Ev → (Nat → Prop) → World → Prop) (pre : List Ev) (n : Nd) (vk vv vc vw : Value) (way : List (Nd × Nat)) (f : Int → List (Nd × Nat) → List Int → List Vis × Option (List Int)) (p : Int) (s : List Int) (vs : Value) (i : Nat) (b : Bool) (Wk : World) : Prop :=
  (b = true ∧ ∃ Ck qk sk vsk, DLoop w W Wk gw l gn vp vl C Ck J pre qk n vk vv vc vw way f p s sk vs vsk (i + 1)) ∨
  (b = false ∧ DPost J Jx w gw l vp vl pre C W vs (⟨p, n, way⟩ :: (kidsL f n way (s ++ [p]) n.cs.length).1, (kidsL f n way (s ++ [p]) n.cs.length).2) (.returned (.bool false)) Wk)

theorem dloop_next {w W Wi Wj wn : World} {gw l gn k : Nat} {vp vl : Value} {C Ci : Nat → Prop} {J Jx : List Ev → (Nat → Prop) → World → Prop} {pre qi : List Ev} {n : Nd} {vk vv vc vw vn : Value} {way : List (Nd × Nat)} {f : Int → List (Nd × Nat) → List Int → List Vis × Option (List Int)} {p : Int} {s si : List Int} {vs vsi : Value} {i : Nat} {X : List WStep}
    {ps : List ByteArray} {ls : List (Int × ByteArray)} {Sp : List Ev → Prop} (K : DCtx w ps ls vp vl gw l J Jx Sp) (h : DLoop w W Wi gw l gn vp vl C Ci J pre qi n vk vv vc vw way f p s si vs vsi i) (hsp : ∀ q' t, q'.map Ev.plain ++ t = evs (⟨p, n, way⟩ :: (kidsL f n way (s ++ [p]) n.cs.length).1, (kidsL f n way (s ++ [p]) n.cs.length).2) → Sp (pre ++ q')) (hwW : w.heap.size ≤ W.heap.size) (hi : i < n.cs.length) (hlen : way.length + (k + 1) = 8) (hsi : si.length + cntK k ≤ 100000)
    (hX : X.map (fun x => (x.nd, x.at_)) = way) (hXk : ∀ x ∈ X, Wi.ownsRow w.heap.size 9 1 x.k x.nd.ks.length (strs x.nd.ks) ∧ (∀ j, x.k.ownBlock = some j → ¬ Ci j) ∧ Slc x)
    (hj : Below Wi.heap.size Wi Wj) (hown : wn.ownsRow Wj.heap.size 68 5 vn (way.length + 1) (wcells X ++ [.bool n.lf, vk, vv, vc, .int .i64 (i : Int)])) (hg : Wj.grownBy wn none)
    (hrec : ∀ (q : Int) (way' : List (Nd × Nat)) (vw' : Value) (s' : List Int) (vs' : Value) (pre' : List Ev) (C' : Nat → Prop) (W' : World), DSt w W' gw l vp vl C' s' vs' → J pre' C' W' → WayAt W' w.heap.size C' vw' way' → way'.length + k = 8 → s'.length + cntK k ≤ 100000 → (∀ q' t, q'.map Ev.plain ++ t = evs (f q way' s') → Sp (pre' ++ q')) →
      Calls Tryd.prog 22 #[.pointer (some ⟨gw, 0, none⟩), .int .i64 q, vw'] W' fun e W'' => DPost J Jx w gw l vp vl pre' C' W' vs' (f q way' s') e W'') :
    Calls Tryd.prog 22 #[.pointer (some ⟨gw, 0, none⟩), .int .i64 (n.cs.getD i 0), vn] wn fun e Wk => ∃ b, e = .returned (.bool b) ∧ DNext w W gw l gn vp vl C J Jx pre n vk vv vc vw way f p s vs i b Wk := by
  have hbn : Below Wj.heap.size Wj wn := ⟨hg.os, hg.tape, hg.output, hg.size, fun k hk => hg.block k hk (fun e => by cases e)⟩
  have hb : Below Wi.heap.size Wi wn := hj.trans (hbn.mono hj.size)
  have hD := h.grow K hb
  have hwsz : w.heap.size ≤ Wi.heap.size := h.st.low.size
  obtain ⟨vk', vv', vc', e4, o1, o2, o3, -⟩ := id hD.own
  obtain ⟨-, rfl, rfl, rfl⟩ := agg4 e4
  have hWay : WayAt wn w.heap.size Ci vn (way ++ [(n, i)]) := by
    refine ⟨X ++ [⟨vk, vv, vc, n, i⟩], by rw [List.map_append, hX]; rfl, ?_, fun j hj2 hc => ?_, fun x hx => ?_⟩
    · have e5 : wcells (X ++ [⟨vk, vv, vc, n, i⟩]) = wcells X ++ [.bool n.lf, vk, vv, vc, .int .i64 (i : Int)] := by simp [wcells]
      rw [e5, List.length_append, List.length_singleton]
      exact own_down hown (by have := hj.size; omega)
    · have := (hown.lt j hj2).1
      have := (K.inn _ _ _ h.j j hc).2
      have := hj.size
      omega
    · rcases List.mem_append.1 hx with hx | hx
      · exact ⟨own_stays (hXk x hx).1 hb, (hXk x hx).2⟩
      · rw [List.mem_singleton] at hx
        subst hx
        exact ⟨own_down o1 hwW, fun j hj2 => (hD.away j (Or.inr ⟨_, vk, vv, vc, rfl, Or.inl hj2⟩)).2.1, (by obtain ⟨a, c, e⟩ := own_slice o2; exact ⟨a, _, c, e⟩), by obtain ⟨a, c, e⟩ := own_slice o3; exact ⟨a, _, c, e⟩⟩
  refine (hrec (n.cs.getD i 0) (way ++ [(n, i)]) vn si vsi (pre ++ qi) Ci wn hD.st hD.j hWay (by rw [List.length_append, List.length_singleton]; omega) hsi (fun q' t h2 => by
    obtain ⟨t', ht'⟩ := h.pre hi h2
    rw [List.append_assoc]
    exact hsp _ t' ht')).mono ?_
  rintro e Wk ⟨b, q, C', rfl, hC', hk, hor⟩
  refine ⟨b, rfl, ?_⟩
  rcases hor with ⟨rfl, s', vs', h1, h2, h3, h4, h5⟩ | ⟨rfl, h1, h2, h3⟩ | ⟨rfl, h1, h3⟩
  · exact Or.inl ⟨rfl, C', qi ++ q, s', vs', hD.step K hC' hk h1 h2 h3 h4 h5⟩
  · exact Or.inr ⟨rfl, hD.no hi hC' hk (Or.inl ⟨h1, h2, h3⟩)⟩
  · exact Or.inr ⟨rfl, hD.no hi hC' hk (Or.inr ⟨h1, h3⟩)⟩
end Go.Proofs.YtaefmkmldfbjeaaDoor
