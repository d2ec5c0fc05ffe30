/-
  impl's walk through a tree: the state of down's loop over the kids, and how it goes on. No function of the program.
-/
import Derived.Test.YtaefmkmldfbjeaaDoorDownDef
import Derived.Test.YtaefmkmldfbjeaaDoorGetSpec
namespace Go.Proofs.YtaefmkmldfbjeaaDoor
open Go.RowKit

theorem downL_len (R : Int → Nd × Bool) (hR : Right R) : ∀ (k : Nat) (p : Int) (way : List (Nd × Nat)) (s s' : List Int), (downL R k p way s).2 = some s' → s'.length ≤ s.length + cntK k
  | 0, p, way, s, s', h => by rw [downL] at h; cases h
  | k + 1, p, way, s, s', h => by
    rw [downL] at h
    split at h
    · cases h
    · rename_i hb
      have hok : (R p).1.ok = true := hR p (by cases hc : (R p).2; exact absurd (Or.inl hc) hb; rfl)
      obtain ⟨c1, c2, c3, c4⟩ := cnt_yes (node_yes hok).1
      have hcs : (R p).1.cs.length ≤ 4 := by
        cases hlf : (R p).1.lf with
        | true => have := (c3 hlf).2; omega
        | false => have := (c4 hlf).1; omega
      have key : ∀ i s1, (kidsL (downL R k) (R p).1 way (s ++ [p]) i).2 = some s1 → s1.length ≤ s.length + 1 + i * cntK k := by
        intro i
        induction i with
        | zero => intro s1 h1; rw [kidsL] at h1; injection h1 with h1; subst h1; simp
        | succ i ih =>
          intro s1 h1
          cases h2 : (kidsL (downL R k) (R p).1 way (s ++ [p]) i).2 with
          | none => rw [kidsL_succ_none h2, h2] at h1; cases h1
          | some s2 =>
            rw [kidsL_succ_some h2] at h1
            have := ih s2 h2
            have := downL_len R hR k _ _ _ _ h1
            rw [Nat.succ_mul]
            omega
      have := key _ _ h
      have hm : (R p).1.cs.length * cntK k ≤ 4 * cntK k := Nat.mul_le_mul_right _ hcs
      rw [cntK]
      omega

theorem kidsL_len (R : Int → Nd × Bool) (hR : Right R) (k : Nat) (n : Nd) (way : List (Nd × Nat)) (s : List Int) : ∀ i s1, (kidsL (downL R k) n way s i).2 = some s1 → s1.length ≤ s.length + i * cntK k
  | 0, s1, h1 => by rw [kidsL] at h1; injection h1 with h1; subst h1; simp
  | i + 1, s1, h1 => by
    cases h2 : (kidsL (downL R k) n way s i).2 with
    | none => rw [kidsL_succ_none h2, h2] at h1; cases h1
    | some s2 =>
      rw [kidsL_succ_some h2] at h1
      have := kidsL_len R hR k n way s i s2 h2
      have := downL_len R hR k _ _ _ _ h1
      rw [Nat.succ_mul]
      omega

/-- the state of the loop over a node's kids, i of them gone to -/
structure DLoop (w W Wi : World) (gw l gn : Nat) (vp vl : Value) (C Ci : Nat → Prop) (J : List Ev → (Nat → Prop) → World → Prop) (pre qi : List Ev) (n : Nd) (vk vv vc vw : Value) (way : List (Nd × Nat)) (f : Int → List (Nd × Nat) → List Int → List Vis × Option (List Int)) (p : Int) (s si : List Int) (vs vsi : Value) (i : Nat) : Prop where
  st : DSt w Wi gw l vp vl Ci si vsi
  j : J (pre ++ qi) Ci Wi
  sub : ∀ k, Ci k → C k ∨ W.heap.size ≤ k
  kept : KeptC (DBl gw vs C) W Wi
  box : Wi.heap[gn]? = some (.cells #[.bool n.lf, vk, vv, vc] 50 (0, 0))
  own : NodeOwn Wi W.heap.size (.agg #[.bool n.lf, vk, vv, vc]) n.lf n.ks n.vs n.cs
  away : ∀ j, (j = gn ∨ nodeBlocks (.agg #[.bool n.lf, vk, vv, vc]) j) → W.heap.size ≤ j ∧ ¬ Ci j ∧ j ≠ gw ∧ vsi.ownBlock ≠ some j
  wy : WayAt Wi w.heap.size Ci vw way
  old : ∀ j, vsi.ownBlock = some j → vs.ownBlock = some j ∨ W.heap.size ≤ j
  ev : qi.map Ev.plain = some ⟨p, n, way⟩ :: (kidsL f n way (s ++ [p]) i).1.map some
  so : (kidsL f n way (s ++ [p]) i).2 = some si

theorem DLoop.grow {w W Wi Wj : World} {gw l gn : Nat} {vp vl : Value} {C Ci : Nat → Prop} {J Jx : List Ev → (Nat → Prop) → World → Prop} {pre qi : List Ev} {n : Nd} {vk vv vc vw : Value} {way : List (Nd × Nat)} {f : Int → List (Nd × Nat) → List Int → List Vis × Option (List Int)} {p : Int} {s si : List Int} {vs vsi : Value} {i : Nat}
    {ps : List ByteArray} {ls : List (Int × ByteArray)} {Sp : List Ev → Prop} (K : DCtx w ps ls vp vl gw l J Jx Sp) (h : DLoop w W Wi gw l gn vp vl C Ci J pre qi n vk vv vc vw way f p s si vs vsi i) (hb : Below Wi.heap.size Wi Wj) : DLoop w W Wj gw l gn vp vl C Ci J pre qi n vk vv vc vw way f p s si vs vsi i where
  st := h.st.keep (keptC_of_below (C := fun _ => False) hb) (fun _ h => h.elim) (fun _ h => h.elim) (fun _ h => Or.inl h)
  j := K.abides _ _ _ _ h.j (keptC_of_below hb)
  sub := h.sub
  kept := keptC_trans h.kept (keptC_of_below (C := fun _ => False) hb) (fun _ h => h.elim)
  box := stays h.box hb
  own := nodeOwn_below h.own hb
  away := h.away
  wy := way_kept h.wy (keptC_of_below (C := fun _ => False) hb) (fun _ h => h.elim) (fun _ h => Or.inl h)
  old := h.old
  ev := h.ev
  so := h.so

/-- behind a kid that told true -/
theorem DLoop.step {w W Wi Wk : World} {gw l gn : Nat} {vp vl : Value} {C Ci : Nat → Prop} {J Jx : List Ev → (Nat → Prop) → World → Prop} {pre qi : List Ev} {n : Nd} {vk vv vc vw : Value} {way : List (Nd × Nat)} {f : Int → List (Nd × Nat) → List Int → List Vis × Option (List Int)} {p : Int} {s si : List Int} {vs vsi : Value} {i : Nat}
    {ps : List ByteArray} {ls : List (Int × ByteArray)} {Sp : List Ev → Prop} (K : DCtx w ps ls vp vl gw l J Jx Sp) (h : DLoop w W Wi gw l gn vp vl C Ci J pre qi n vk vv vc vw way f p s si vs vsi i)
    {q : List Ev} {C' : Nat → Prop} {s' : List Int} {vs' : Value} (hC : ∀ k, C' k → Ci k ∨ Wi.heap.size ≤ k) (hk : KeptC (DBl gw vsi Ci) Wi Wk) (hr : (f (n.cs.getD i 0) (way ++ [(n, i)]) si).2 = some s') (hq : q.map Ev.plain = (f (n.cs.getD i 0) (way ++ [(n, i)]) si).1.map some)
    (hj : J (pre ++ qi ++ q) C' Wk) (hst : DSt w Wk gw l vp vl C' s' vs') (ho : ∀ j, vs'.ownBlock = some j → vsi.ownBlock = some j ∨ Wi.heap.size ≤ j) :
    DLoop w W Wk gw l gn vp vl C C' J pre (qi ++ q) n vk vv vc vw way f p s s' vs vs' (i + 1) := by
  have hsz : W.heap.size ≤ Wi.heap.size := h.kept.2.2.2.1
  have hnot : ∀ j, (j = gn ∨ nodeBlocks (.agg #[.bool n.lf, vk, vv, vc]) j) → ¬ DBl gw vsi Ci j ∧ j < Wi.heap.size := fun j hj => by
    obtain ⟨-, a2, a3, a4⟩ := h.away j hj
    refine ⟨?_, ?_⟩
    · rintro (x | x | x)
      · exact a2 x
      · exact a3 x
      · exact a4 x
    · rcases hj with rfl | hj
      · exact (Array.getElem?_eq_some_iff.1 h.box).1
      · exact (nodeOwn_lt h.own j hj).2
  exact {
    st := hst
    j := by rw [List.append_assoc] at hj; exact hj
    sub := fun k hc => by
      rcases hC k hc with x | x
      · exact h.sub k x
      · exact Or.inr (by omega)
    kept := keptC_trans h.kept hk (fun j hj => by
      rcases hj with x | x | x
      · rcases h.sub j x with y | y
        · exact Or.inl (Or.inl y)
        · exact Or.inr y
      · exact Or.inl (Or.inr (Or.inl x))
      · rcases h.old j x with y | y
        · exact Or.inl (Or.inr (Or.inr y))
        · exact Or.inr y)
    box := (hk.2.2.2.2 gn (hnot gn (Or.inl rfl)).2 (hnot gn (Or.inl rfl)).1).trans h.box
    own := nodeOwn_kept h.own hk (fun k hb => (hnot k (Or.inr hb)).1)
    away := fun j hj => by
      obtain ⟨a1, a2, a3, a4⟩ := h.away j hj
      have hlt := (hnot j hj).2
      refine ⟨a1, fun hc => ?_, a3, fun he => ?_⟩
      · rcases hC j hc with x | x
        · exact a2 x
        · omega
      · rcases ho j he with x | x
        · exact a4 x
        · omega
    wy := way_kept h.wy hk (fun j hj => by
      rcases hj with x | x | x
      · exact Or.inl x
      · subst x; exact Or.inr (Or.inl ⟨_, _, h.st.wk⟩)
      · exact Or.inr (Or.inr (Or.inl (own_typ h.st.row x)))) hC
    old := fun j hj => by
      rcases ho j hj with x | x
      · exact h.old j x
      · exact Or.inr (by omega)
    ev := by rw [List.map_append, h.ev, hq, kidsL_succ_some h.so, List.map_append]; rfl
    so := by rw [kidsL_succ_some h.so]; exact hr }

/-- behind the last kid -/
theorem DLoop.fin {w W Wi : World} {gw l gn : Nat} {vp vl : Value} {C Ci : Nat → Prop} {J Jx : List Ev → (Nat → Prop) → World → Prop} {pre qi : List Ev} {n : Nd} {vk vv vc vw : Value} {way : List (Nd × Nat)} {f : Int → List (Nd × Nat) → List Int → List Vis × Option (List Int)} {p : Int} {s si : List Int} {vs vsi : Value}
    (h : DLoop w W Wi gw l gn vp vl C Ci J pre qi n vk vv vc vw way f p s si vs vsi n.cs.length) :
    DPost J Jx w gw l vp vl pre C W vs (⟨p, n, way⟩ :: (kidsL f n way (s ++ [p]) n.cs.length).1, (kidsL f n way (s ++ [p]) n.cs.length).2) (.returned (.bool true)) Wi :=
  ⟨true, qi, Ci, rfl, h.sub, h.kept, Or.inl ⟨rfl, si, vsi, h.so, h.ev, h.j, h.st, h.old⟩⟩

theorem kidsL_pre {f : Int → List (Nd × Nat) → List Int → List Vis × Option (List Int)} {n : Nd} {way : List (Nd × Nat)} {s : List Int} : ∀ (d i : Nat), ∃ t, evs (kidsL f n way s (i + d)) = (kidsL f n way s i).1.map some ++ t
  | 0, i => ⟨_, rfl⟩
  | d + 1, i => by
    obtain ⟨t, ht⟩ := kidsL_pre d i
    cases h : (kidsL f n way s (i + d)).2 with
    | none => rw [← Nat.add_assoc, kidsL_succ_none h]; exact ⟨t, ht⟩
    | some s2 =>
      rw [← Nat.add_assoc, kidsL_succ_some h]
      have e : evs (kidsL f n way s (i + d)) = (kidsL f n way s (i + d)).1.map some := by rw [evs, h]; simp
      rw [e] at ht
      refine ⟨t ++ evs (f (n.cs.getD (i + d) 0) (way ++ [(n, i + d)]) s2), ?_⟩
      rw [← List.append_assoc, ← ht]
      simp [evs]

/-- what comes of the next kid comes of the whole -/
theorem DLoop.pre {w W Wi : World} {gw l gn : Nat} {vp vl : Value} {C Ci : Nat → Prop} {J : List Ev → (Nat → Prop) → World → Prop} {pre qi : List Ev} {n : Nd} {vk vv vc vw : Value} {way : List (Nd × Nat)} {f : Int → List (Nd × Nat) → List Int → List Vis × Option (List Int)} {p : Int} {s si : List Int} {vs vsi : Value} {i : Nat}
    (h : DLoop w W Wi gw l gn vp vl C Ci J pre qi n vk vv vc vw way f p s si vs vsi i) (hi : i < n.cs.length) {q : List Ev} {t : List (Option Vis)} (h2 : q.map Ev.plain ++ t = evs (f (n.cs.getD i 0) (way ++ [(n, i)]) si)) :
    ∃ t, (qi ++ q).map Ev.plain ++ t = evs (⟨p, n, way⟩ :: (kidsL f n way (s ++ [p]) n.cs.length).1, (kidsL f n way (s ++ [p]) n.cs.length).2) := by
  have e1 := kidsL_succ_some h.so
  have elen : n.cs.length = i + 1 + (n.cs.length - (i + 1)) := by omega
  obtain ⟨t2, ht2⟩ := kidsL_pre (f := f) (n := n) (way := way) (s := s ++ [p]) (n.cs.length - (i + 1)) (i + 1)
  rw [← elen] at ht2
  cases hx : (f (n.cs.getD i 0) (way ++ [(n, i)]) si).2 with
  | none =>
    refine ⟨t, ?_⟩
    rw [elen, kidsL_none (by rw [e1]; exact hx), e1, List.map_append, h.ev, List.append_assoc, h2]
    simp [evs]
  | some s2 =>
    have e3 : evs (f (n.cs.getD i 0) (way ++ [(n, i)]) si) = (f (n.cs.getD i 0) (way ++ [(n, i)]) si).1.map some := by rw [evs, hx]; simp
    refine ⟨t ++ t2, ?_⟩
    have : evs (⟨p, n, way⟩ :: (kidsL f n way (s ++ [p]) n.cs.length).1, (kidsL f n way (s ++ [p]) n.cs.length).2) = some ⟨p, n, way⟩ :: evs (kidsL f n way (s ++ [p]) n.cs.length) := by simp [evs]
    rw [this, ht2, e1]
    simp only [List.map_append]
    rw [← e3, ← h2, h.ev]
    simp

/-- behind a kid that told false -/
theorem DLoop.no {w W Wi Wk : World} {gw l gn : Nat} {vp vl : Value} {C Ci : Nat → Prop} {J Jx : List Ev → (Nat → Prop) → World → Prop} {pre qi : List Ev} {n : Nd} {vk vv vc vw : Value} {way : List (Nd × Nat)} {f : Int → List (Nd × Nat) → List Int → List Vis × Option (List Int)} {p : Int} {s si : List Int} {vs vsi : Value} {i : Nat}
    (h : DLoop w W Wi gw l gn vp vl C Ci J pre qi n vk vv vc vw way f p s si vs vsi i) (hi : i < n.cs.length)
    {q : List Ev} {C' : Nat → Prop} (hC : ∀ k, C' k → Ci k ∨ Wi.heap.size ≤ k) (hk : KeptC (DBl gw vsi Ci) Wi Wk)
    (hor : ((f (n.cs.getD i 0) (way ++ [(n, i)]) si).2 = none ∧ q.map Ev.plain = (f (n.cs.getD i 0) (way ++ [(n, i)]) si).1.map some ++ [none] ∧ J (pre ++ qi ++ q) C' Wk) ∨ ((∃ t, q.map Ev.plain ++ t = evs (f (n.cs.getD i 0) (way ++ [(n, i)]) si)) ∧ Jx (pre ++ qi ++ q) C' Wk)) :
    DPost J Jx w gw l vp vl pre C W vs (⟨p, n, way⟩ :: (kidsL f n way (s ++ [p]) n.cs.length).1, (kidsL f n way (s ++ [p]) n.cs.length).2) (.returned (.bool false)) Wk := by
  have hsz : W.heap.size ≤ Wi.heap.size := h.kept.2.2.2.1
  have hsub : ∀ k, C' k → C k ∨ W.heap.size ≤ k := fun k hc => by
    rcases hC k hc with x | x
    · exact h.sub k x
    · exact Or.inr (by omega)
  have hkept : KeptC (DBl gw vs C) W Wk := keptC_trans h.kept hk (fun j hj => by
    rcases hj with x | x | x
    · rcases h.sub j x with y | y
      · exact Or.inl (Or.inl y)
      · exact Or.inr y
    · exact Or.inl (Or.inr (Or.inl x))
    · rcases h.old j x with y | y
      · exact Or.inl (Or.inr (Or.inr y))
      · exact Or.inr y)
  have e1 := kidsL_succ_some h.so
  have elen : n.cs.length = i + 1 + (n.cs.length - (i + 1)) := by omega
  refine ⟨false, qi ++ q, C', rfl, hsub, hkept, Or.inr ?_⟩
  rcases hor with ⟨h1, h2, h3⟩ | ⟨⟨t, h2⟩, h3⟩
  · refine Or.inl ⟨rfl, ?_, ?_, by rw [← List.append_assoc]; exact h3⟩
    · rw [elen, kidsL_none (by rw [e1]; exact h1), e1]; exact h1
    · rw [elen, kidsL_none (by rw [e1]; exact h1), e1, List.map_append, h.ev, h2]; simp
  · obtain ⟨t2, ht2⟩ := kidsL_pre (f := f) (n := n) (way := way) (s := s ++ [p]) (n.cs.length - (i + 1)) (i + 1)
    rw [← elen] at ht2
    refine Or.inr ⟨rfl, ?_, by rw [← List.append_assoc]; exact h3⟩
    cases hx : (f (n.cs.getD i 0) (way ++ [(n, i)]) si).2 with
    | none =>
      refine ⟨t, ?_⟩
      rw [elen, kidsL_none (by rw [e1]; exact hx), e1, List.map_append, h.ev, List.append_assoc, h2]
      simp [evs]
    | some s2 =>
      have e3 : evs (f (n.cs.getD i 0) (way ++ [(n, i)]) si) = (f (n.cs.getD i 0) (way ++ [(n, i)]) si).1.map some := by rw [evs, hx]; simp
      refine ⟨t ++ t2, ?_⟩
      have : evs (⟨p, n, way⟩ :: (kidsL f n way (s ++ [p]) n.cs.length).1, (kidsL f n way (s ++ [p]) n.cs.length).2) = some ⟨p, n, way⟩ :: evs (kidsL f n way (s ++ [p]) n.cs.length) := by simp [evs]
      rw [this, ht2, e1]
      simp only [List.map_append]
      rw [← e3, ← h2, h.ev]
      simp
end Go.Proofs.YtaefmkmldfbjeaaDoor
