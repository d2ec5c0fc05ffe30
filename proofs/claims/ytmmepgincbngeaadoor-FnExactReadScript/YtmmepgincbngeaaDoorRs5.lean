/-
  Facts and contracts that the law's own text rests on, by their texts' names: EvsRow.
-/
import Derived.Test.YtmmepgincbngeaaDoorRs4
namespace Go.Proofs.YtmmepgincbngeaaDoor
open Go.RowKit
def ev7 (p : Evt × Value) : List Value := [.int .i64 p.1.kind, .int .i64 p.1.id, .string p.1.key, .string p.1.val, .int .i64 p.1.stage, p.2, .int .i64 p.1.torn]
def evs (l : List (Evt × Value)) : List Value := l.flatMap ev7
theorem evs_cons (p : Evt × Value) (l : List (Evt × Value)) : evs (p :: l) = ev7 p ++ evs l := rfl
theorem evs_append (l m : List (Evt × Value)) : evs (l ++ m) = evs l ++ evs m := by simp [evs]
theorem evs_length (l : List (Evt × Value)) : (evs l).length = l.length * 7 := by
  induction l with
  | nil => rfl
  | cons p l ih => rw [evs_cons, List.length_append, ih, List.length_cons]; simp [ev7]; omega
theorem evs_at (l : List (Evt × Value)) : ∀ (k j : Nat) (p : Evt × Value), l[k]? = some p → j < 7 → (evs l)[k * 7 + j]? = (ev7 p)[j]? := by
  induction l with
  | nil => intro k j p h; simp at h
  | cons q l ih =>
    intro k j p h hj
    rw [evs_cons]
    cases k with
    | zero =>
      simp at h
      subst h
      rw [List.getElem?_append_left (by simp [ev7]; omega), Nat.zero_mul, Nat.zero_add]
    | succ k =>
      rw [List.getElem?_append_right (by simp [ev7]; omega), ← ih k j p (by simpa using h) hj]
      congr 1
      simp [ev7]
      omega
theorem evs_set (l : List (Evt × Value)) : ∀ (k j : Nat) (p q : Evt × Value) (x : Value), l[k]? = some p → j < 7 → (ev7 p).set j x = ev7 q → (evs l).set (k * 7 + j) x = evs (l.set k q) := by
  induction l with
  | nil => intro k j p q x h; simp at h
  | cons r l ih =>
    intro k j p q x h hj he
    rw [evs_cons]
    cases k with
    | zero =>
      simp at h
      subst h
      rw [Nat.zero_mul, Nat.zero_add, List.set_append_left _ _ (by simp [ev7]; omega), he]
      rfl
    | succ k =>
      rw [List.set_cons_succ, evs_cons, ← ih k j p q x (by simpa using h) hj he, List.set_append_right _ _ (by simp [ev7]; omega)]
      congr 2
      simp [ev7]
      omega
def EvsAt (w : World) (v : Value) (es : List Evt) : Prop :=
  ∃ l : List (Evt × Value), l.map Prod.fst = es ∧ RowAt w 7 v l.length (evs l) ∧ ∀ p ∈ l, RowAt w 1 p.2 p.1.left.length (bools p.1.left)
theorem evs_below {w w' : World} {v : Value} {es : List Evt} (h : EvsAt w v es) (hb : Below w.heap.size w w') : EvsAt w' v es := by
  obtain ⟨l, h1, h2, h3⟩ := h
  exact ⟨l, h1, row_below h2 hb, fun p hp => row_below (h3 p hp) hb⟩
theorem evs_slice {w : World} {v : Value} {es : List Evt} (h : EvsAt w v es) : ∃ a cap, v = .slice a es.length cap := by
  obtain ⟨l, rfl, h2, -⟩ := h
  obtain ⟨-, a, cap, e, -⟩ := h2
  exact ⟨a, cap, by rw [List.length_map]; exact e⟩
theorem range_below {w w' : World} {b o : Nat} {l : List Value} (h : w.rangeAt b o l) (hlt : b < w.heap.size) (hb : Below w.heap.size w w') : w'.rangeAt b o l := fun j v hv => by
  rw [hb.cell (by exact hlt)]
  exact h j v hv
theorem evs_get {w : World} {a : Option Addr} {n cap : Nat} {es : List Evt} (h : EvsAt w (.slice a n cap) es) {k : Nat} {e : Evt} (hk : es[k]? = some e) :
    ∃ (b off : Nat) (cs : Array Value), a = some ⟨b, off, none⟩ ∧ b < w.heap.size ∧ cs.size = 7 ∧ w.rangeAt b (off + k * 7) cs.toList ∧ EvAt w (.agg cs) e ∧ ∃ x c, cs = #[.int .i64 e.kind, .int .i64 e.id, .string e.key, .string e.val, .int .i64 e.stage, .slice x e.left.length c, .int .i64 e.torn] ∧ RowAt w 1 (.slice x e.left.length c) e.left.length (bools e.left) := by
  obtain ⟨l, rfl, h2, h3⟩ := h
  rw [List.getElem?_map] at hk
  obtain ⟨p, hp, rfl⟩ := Option.map_eq_some_iff.1 hk
  have hlt : k < l.length := (List.getElem?_eq_some_iff.1 hp).1
  have h4 := h3 p (List.mem_of_getElem? hp)
  obtain ⟨-, a', cap', e, hr⟩ := h2
  injection e with e _ _
  subst e
  rcases hr with h0 | ⟨b, off, rfl, hb, hc⟩
  · omega
  · obtain ⟨x, c, hx⟩ : ∃ x c, p.2 = .slice x p.1.left.length c := by obtain ⟨-, x, c, e, -⟩ := h4; exact ⟨x, c, e⟩
    have hat : ∀ j v, (ev7 p)[j]? = some v → w.cell? ⟨b, off + k * 7 + j, none⟩ = some v := fun j v hv => by
      have hj : j < 7 := by have := (List.getElem?_eq_some_iff.1 hv).1; simpa [ev7] using this
      rw [Nat.add_assoc, hc (k * 7 + j) (by omega), evs_at l k j p hp hj, hv]
    rw [ev7, hx] at hat
    rw [hx] at h4
    exact ⟨b, off, _, rfl, hb, rfl, hat, ⟨x, c, rfl, h4⟩, x, c, rfl, h4⟩
def EvsOwn (w : World) (B : Nat) (v : Value) (l : List (Evt × Value)) : Prop := w.ownsRow B 35 7 v l.length (evs l) ∧ (∀ p ∈ l, w.ownsRow B 4 1 p.2 p.1.left.length (bools p.1.left)) ∧ ∀ (i j : Nat) (p q : Evt × Value) (b : Nat), l[i]? = some p → l[j]? = some q → p.2.ownBlock = some b → q.2.ownBlock = some b → i = j
theorem evsOwn_stays {w w' : World} {B : Nat} {v : Value} {l : List (Evt × Value)} (h : EvsOwn w B v l) (hb : Below w.heap.size w w') : EvsOwn w' B v l := ⟨own_stays h.1 hb, fun p hp => own_stays (h.2.1 p hp) hb, h.2.2⟩
theorem evsOwn_down {w : World} {B B' : Nat} {v : Value} {l : List (Evt × Value)} (h : EvsOwn w B v l) (hb : B' ≤ B) : EvsOwn w B' v l := ⟨own_down h.1 hb, fun p hp => own_down (h.2.1 p hp) hb, h.2.2⟩
theorem evs_of_own {w : World} {B : Nat} {v : Value} {l : List (Evt × Value)} (h : EvsOwn w B v l) : EvsAt w v (l.map Prod.fst) := ⟨l, rfl, row_of_own h.1, fun p hp => row_of_own (h.2.1 p hp)⟩
theorem Tryd.ev_bool : (35 : Nat) ≠ 4 := by decide
theorem evsOwn_set {w w' : World} {B g n cap : Nat} {l : List (Evt × Value)} {k : Nat} {p q : Evt × Value} (h : EvsOwn w B (.slice (some ⟨g, 0, none⟩) n cap) l) (hp : l[k]? = some p) (hq : q.2 = p.2) (hl : q.1.left = p.1.left)
    (h1 : w'.ownsRow B 35 7 (.slice (some ⟨g, 0, none⟩) n cap) l.length (evs (l.set k q))) (hk : Kept w w' (fun b => b = g)) : EvsOwn w' B (.slice (some ⟨g, 0, none⟩) n cap) (l.set k q) := by
  have hkl : k < l.length := (List.getElem?_eq_some_iff.1 hp).1
  have hin : ∀ r ∈ l, w'.ownsRow B 4 1 r.2 r.1.left.length (bools r.1.left) := fun r hr => own_kept (h.2.1 r hr) hk (fun b hb e => by
    subst e
    exact one_type h.1 (h.2.1 r hr) Tryd.ev_bool b rfl hb)
  refine ⟨by rw [List.length_set]; exact h1, fun r hr => ?_, fun i j r s b hi hj h2 h3 => ?_⟩
  · rcases List.mem_or_eq_of_mem_set hr with hr | rfl
    · exact hin r hr
    · rw [hq, hl]; exact hin p (List.mem_of_getElem? hp)
  · have back : ∀ (i : Nat) (r : Evt × Value), (l.set k q)[i]? = some r → ∃ r', l[i]? = some r' ∧ r'.2 = r.2 := fun i r h => by
      by_cases e : k = i
      · subst e
        rw [List.getElem?_set_self hkl] at h
        injection h with h
        exact ⟨p, hp, by rw [← h, hq]⟩
      · rw [List.getElem?_set_ne e] at h
        exact ⟨r, h, rfl⟩
    obtain ⟨r', a1, a2⟩ := back i r hi
    obtain ⟨s', b1, b2⟩ := back j s hj
    exact h.2.2 i j r' s' b a1 b1 (by rw [a2]; exact h2) (by rw [b2]; exact h3)
theorem evsOwn_flags {w w' : World} {B k : Nat} {v : Value} {l : List (Evt × Value)} {p q : Evt × Value} (h : EvsOwn w B v l) (hp : l[k]? = some p) (hq : ev7 q = ev7 p) (hown : w'.ownsRow B 4 1 p.2 q.1.left.length (bools q.1.left)) (hk : Kept w w' (fun b => p.2.ownBlock = some b)) : EvsOwn w' B v (l.set k q) := by
  have hkl : k < l.length := (List.getElem?_eq_some_iff.1 hp).1
  have hpm := List.mem_of_getElem? hp
  have hq2 : q.2 = p.2 := by simp only [ev7, List.cons.injEq] at hq; exact hq.2.2.2.2.2.1
  refine ⟨?_, fun r hr => ?_, fun i j r s b hi hj h2 h3 => ?_⟩
  · rw [List.length_set, show evs (l.set k q) = evs l from ?_]
    · exact own_kept h.1 hk (fun b hb e => one_type h.1 (h.2.1 p hpm) Tryd.ev_bool b hb e)
    · rw [← evs_set l k 0 p q (.int .i64 p.1.kind) hp (by omega) (by rw [hq]; rfl)]
      apply List.ext_getElem?
      intro i
      by_cases e : k * 7 + 0 = i
      · subst e
        rw [List.getElem?_set_self (by rw [evs_length]; omega), evs_at l k 0 p hp (by omega)]
        rfl
      · rw [List.getElem?_set_ne e]
  · obtain ⟨i, hi⟩ := List.getElem?_of_mem hr
    by_cases e : k = i
    · subst e
      rw [List.getElem?_set_self hkl] at hi
      injection hi with hi
      subst hi
      rw [hq2]
      exact hown
    · rw [List.getElem?_set_ne e] at hi
      exact own_kept (h.2.1 r (List.mem_of_getElem? hi)) hk (fun b hb e' => e (h.2.2 k i p r b hp hi e' hb))
  · have back : ∀ (i : Nat) (r : Evt × Value), (l.set k q)[i]? = some r → ∃ r', l[i]? = some r' ∧ r'.2 = r.2 := fun i r h => by
      by_cases e : k = i
      · subst e
        rw [List.getElem?_set_self hkl] at h
        injection h with h
        exact ⟨p, hp, by rw [← h, hq2]⟩
      · rw [List.getElem?_set_ne e] at h
        exact ⟨r, h, rfl⟩
    obtain ⟨r', a1, a2⟩ := back i r hi
    obtain ⟨s', b1, b2⟩ := back j s hj
    exact h.2.2 i j r' s' b a1 b1 (by rw [a2]; exact h2) (by rw [b2]; exact h3)
set_option maxHeartbeats 2000000 in
set_option maxRecDepth 100000 in
theorem eqEventS_same (es : List Evt) (hl : es.length ≤ 1048576) (hs : ∀ e ∈ es, e.left.length ≤ 1048576) (v u : Value) (w : World) (hr : EvsAt w v es) (hq : EvsAt w u es) :
    Calls Tryd.prog 12 #[v, u] w fun e w' => e = .returned (.bool true) ∧ Below w.heap.size w w' := by
  obtain ⟨a, cap, rfl⟩ := evs_slice hr
  obtain ⟨a', cap', rfl⟩ := evs_slice hq
  have HR := hide hr
  have HQ := hide hq
  have HS := hide hs
  obtain ⟨n, hn⟩ : ∃ n, n = es.length := ⟨_, rfl⟩
  rw [← hn] at HR HQ hl ⊢
  have HN := hide hn
  clear hr hq hs hn
  have d1 : ((n : Int) != (n : Int)) = false := by simp
  go_enter Tryd.func12, Tryd.ntmps12
  go_wp2
  go_loopg [5] n (fun q iv wr => ∃ (i : Nat), i ≤ n ∧ q + i = n ∧ iv = .int .i64 (i : Int) ∧ Hid (Below w.heap.size w wr))
  case atStart => exact ⟨0, Nat.zero_le _, rfl, rfl, hide (Below.refl _ _)⟩
  case round =>
    obtain ⟨i, hin, hq, rfl, HB⟩ := hrel
    have HG := hide hq
    clear hq
    by_cases hlt : i < n
    · obtain ⟨e, he⟩ : ∃ e, es[i]? = some e := ⟨_, List.getElem?_eq_getElem (by rw [← HN.out]; exact hlt)⟩
      obtain ⟨b, off, cs, rfl, hbl, hz, hr1, hev, -⟩ := evs_get (evs_below HR.out HB.out) he
      obtain ⟨b', off', ds, rfl, hbl', hz', hr2, hev', -⟩ := evs_get (evs_below HQ.out HB.out) he
      have HC := hide (fun wx (hb : Below wr.heap.size wr wx) => eqEvent_same (.agg cs) (.agg ds) e (HS.out e (List.mem_of_getElem? he)) wx (ev_below hev hb) (ev_below hev' hb))
      have HN1 : Hid ((Tryd.prog.info? 35).map (·.size) = some cs.size) := hide (by rw [hz]; exact Tryd.sizeEvI)
      have HN2 : Hid ((Tryd.prog.info? 35).map (·.size) = some ds.size) := hide (by rw [hz']; exact Tryd.sizeEvI)
      have HSw : Hid (∀ wx, Below wr.heap.size wr wx → (fun wx => wx.rangeAt b (off + i * 7) cs.toList ∧ wx.rangeAt b' (off' + i * 7) ds.toList) wx) := hide (fun wx hb => ⟨range_below hr1 hbl hb, range_below hr2 hbl' hb⟩)
      have hi0 : (0 : Int) ≤ (i : Int) := by omega
      have hi1 : (i : Int) < (n : Int) := by omega
      clear he hr1 hr2 hev hev' hz hz' hbl hbl'
      go_wp2_with fail
      obtain ⟨wd, hwd⟩ : ∃ wd, wd = wr.drew := ⟨_, rfl⟩
      have HBd : Hid (Below wr.heap.size wr wd) := hide (by rw [hwd]; exact (Below.refl wr.heap.size wr).drew)
      have hHeld := HSw.out wd HBd.out
      refine wp_region_held_drew (S := fun wx => wx.rangeAt b (off + i * 7) cs.toList ∧ wx.rangeAt b' (off' + i * 7) ds.toList) (by kernel_rfl) (by rw [← hwd]; exact hHeld) (fun _ => ?_)
      rw [← hwd]
      clear hwd
      refine takeW 0 17 ?_ rfl rfl (by kernel_rfl) (by kernel_rfl) (by kernel_rfl) (fun _ _ _ h => h) (Or.inl ⟨by rfl, ?_⟩) hHeld ?_
      rotate_left
      · (intro wx hSw; (try dsimp only at hSw); go_simp; try with_reducible rfl)
      (try simp only [List.setIfInBounds_toArray, List.set_cons_zero, List.set_cons_succ])
      refine takeW 1 18 ?_ rfl rfl (by kernel_rfl) (by kernel_rfl) (by kernel_rfl) (fun _ _ _ h => h) (Or.inl ⟨by rfl, ?_⟩) hHeld ?_
      rotate_left
      · (intro wx hSw; (try dsimp only at hSw); go_simp; try with_reducible rfl)
      (try simp only [List.setIfInBounds_toArray, List.set_cons_zero, List.set_cons_succ])
      refine takeW 2 19 ?_ rfl rfl (by kernel_rfl) (by kernel_rfl) (by kernel_rfl) (fun _ _ _ h => h) (Or.inl ⟨by rfl, ?_⟩) hHeld ?_
      rotate_left
      · (intro wx hSw; (try dsimp only at hSw); go_simp; try with_reducible rfl)
      (try simp only [List.setIfInBounds_toArray, List.set_cons_zero, List.set_cons_succ])
      refine takeW 3 20 (.agg cs) rfl rfl (by kernel_rfl) (by kernel_rfl) (by kernel_rfl) (fun _ _ _ h => h) (yields_loadL (by rfl) 35 (.tmp 19) rfl b (off + i * 7) rfl cs _ (fun _ h => h.1) Tryd.underlying35 rfl HN1.out) hHeld ?_
      (try simp only [List.setIfInBounds_toArray, List.set_cons_zero, List.set_cons_succ])
      refine takeW 4 21 ?_ rfl rfl (by kernel_rfl) (by kernel_rfl) (by kernel_rfl) (fun _ _ _ h => h) (Or.inl ⟨by rfl, ?_⟩) hHeld ?_
      rotate_left
      · (intro wx hSw; (try dsimp only at hSw); go_simp; try with_reducible rfl)
      (try simp only [List.setIfInBounds_toArray, List.set_cons_zero, List.set_cons_succ])
      refine takeW 5 22 ?_ rfl rfl (by kernel_rfl) (by kernel_rfl) (by kernel_rfl) (fun _ _ _ h => h) (Or.inl ⟨by rfl, ?_⟩) hHeld ?_
      rotate_left
      · (intro wx hSw; (try dsimp only at hSw); go_simp; try with_reducible rfl)
      (try simp only [List.setIfInBounds_toArray, List.set_cons_zero, List.set_cons_succ])
      refine takeW 6 23 ?_ rfl rfl (by kernel_rfl) (by kernel_rfl) (by kernel_rfl) (fun _ _ _ h => h) (Or.inl ⟨by rfl, ?_⟩) hHeld ?_
      rotate_left
      · (intro wx hSw; (try dsimp only at hSw); go_simp; try with_reducible rfl)
      (try simp only [List.setIfInBounds_toArray, List.set_cons_zero, List.set_cons_succ])
      refine takeW 7 24 (.agg ds) rfl rfl (by kernel_rfl) (by kernel_rfl) (by kernel_rfl) (fun _ _ _ h => h) (yields_loadL (by rfl) 35 (.tmp 23) rfl b' (off' + i * 7) rfl ds _ (fun _ h => h.2) Tryd.underlying35 rfl HN2.out) hHeld ?_
      (try simp only [List.setIfInBounds_toArray, List.set_cons_zero, List.set_cons_succ])
      refine wpAnyH_ready (rs := [8]) (by kernel_rfl) (by simp) ?_
      refine AllReadyH.cons rfl (fun K hK => ?_) AllReadyH.nil
      refine step_call2 wd ?_ 27 Tryd.f27 Tryd.func27 ?_ ?_ (.tmp 20) (.tmp 24) #[35, 35] ?_ (.agg cs) (.agg ds) ?_ ?_ _ (HC.out wd HBd.out) ?_
      · exact rfl
      · decide
      · exact Option.some_ne_none _
      · exact rfl
      · exact rfl
      · exact rfl
      rintro e w2 ⟨rfl, hb⟩
      have HB2 : Hid (Below wr.heap.size wr w2) := hide (HBd.out.trans (hb.mono HBd.out.size))
      have hS2 := HSw.out w2 HB2.out
      clear hb
      refine ⟨_, rfl, ?_⟩
      refine hK.out (Act.put _ (some 25) _) _ hS2 (fun _ => ?_)
      clear hK K
      simp only [Act.put, List.setIfInBounds_toArray, List.set_cons_zero, List.set_cons_succ]
      refine takeW 9 26 ?_ rfl rfl (by kernel_rfl) (by kernel_rfl) (by kernel_rfl) (fun _ _ _ h => h) (Or.inl ⟨by rfl, ?_⟩) hS2 ?_
      rotate_left
      · (intro wx hSw; (try dsimp only at hSw); go_simp; try with_reducible rfl)
      (try simp only [List.setIfInBounds_toArray, List.set_cons_zero, List.set_cons_succ])
      refine wpAnyH_done (by kernel_rfl) ?_ _
      clear hS2 hHeld HSw
      have HBe : Hid (Below w.heap.size w w2) := hide (HB.out.trans (HB2.out.mono HB.out.size))
      go_wp2_with fail
      go_roundg (gk - 1)
      case measure => have := HG.out; omega
      case rel => exact ⟨i + 1, by omega, by have := HG.out; omega, by go_num, HBe⟩
    · obtain rfl : i = n := by omega
      go_wp2
      go_ret
      exact ⟨rfl, HB.out⟩
def marksB (k n : Nat) : List Bool := (List.range n).map fun j => ((k + j) % 3 == 0)
theorem marksB_length (k n : Nat) : (marksB k n).length = n := by simp [marksB]
theorem marksB_snoc (k n : Nat) : marksB k (n + 1) = marksB k n ++ [((k + n) % 3 == 0)] := by simp [marksB, List.range_succ]
theorem marksB_at (k n i : Nat) (h : i < n) : (marksB k n)[i]? = some ((k + i) % 3 == 0) := by simp [marksB, h]
theorem marksB_set (k n : Nat) (l : List Bool) (h : n < l.length) : (bools (marksB k n ++ l.drop n)).set n (.bool ((k + n) % 3 == 0)) = bools (marksB k (n + 1) ++ l.drop (n + 1)) := by
  rw [bools_set, marksB_snoc, List.set_append_right _ _ (by rw [marksB_length]; exact Nat.le_refl _), marksB_length, Nat.sub_self, List.drop_eq_getElem_cons h, List.set_cons_zero, List.append_assoc]
  rfl
theorem three_mod (k : Nat) : (((k : Int) % 3) == 0) = (k % 3 == 0) := by
  by_cases h : k % 3 = 0
  · rw [h]
    have h2 : ((k : Int) % 3) = 0 := by omega
    rw [h2]
    rfl
  · have h1 : (k % 3 == 0) = false := by simp [h]
    have h2 : ((k : Int) % 3 == 0) = false := by simp; omega
    rw [h1, h2]
set_option maxHeartbeats 1000000 in
theorem markBoolS_all (l : List Bool) (hl : l.length ≤ 1048576) (v : Value) (B k0 : Nat) (hk1 : k0 ≤ 1048576000) (w : World) (ha : w.ownsRow B 4 1 v l.length (bools l)) :
    Calls Tryd.prog 29 #[v, .int .i64 (k0 : Int)] w fun e w' => e = .returned (.int .i64 ((k0 + l.length : Nat) : Int)) ∧ w'.ownsRow B 4 1 v l.length (bools (marksB k0 l.length)) ∧ Kept w w' (fun k => v.ownBlock = some k) := by
  obtain ⟨a, cap, rfl⟩ : ∃ a cap, v = .slice a l.length cap := by obtain ⟨-, a, cap, e, -⟩ := row_of_own ha; exact ⟨a, cap, e⟩
  have HA := hide ha
  clear ha
  go_enter Tryd.func29, Tryd.ntmps29
  go_wp2
  go_loopg [1, 5] l.length (fun q kv iv wr => ∃ (k : Nat), k ≤ l.length ∧ kv = .int .i64 ((k0 + k : Nat) : Int) ∧ iv = .int .i64 (k : Int) ∧ q + k = l.length ∧ Hid (wr.ownsRow B 4 1 (.slice a l.length cap) l.length (bools (marksB k0 k ++ l.drop k))) ∧ Hid (Kept w wr (fun k => (Value.slice a l.length cap).ownBlock = some k)))
  case atStart => exact ⟨0, Nat.zero_le _, rfl, rfl, rfl, HA, hide (kept_refl _ _)⟩
  case round =>
    obtain ⟨k, hk, rfl, rfl, hg, HOwn, HK⟩ := hrel
    have HG := hide hg
    clear hg
    by_cases hlt : k < l.length
    · obtain ⟨g, rfl⟩ : ∃ g, a = some ⟨g, 0, none⟩ := by
        rcases HOwn.out.2 with ⟨e, h0⟩ | ⟨g, c, cur, e, _⟩
        · omega
        · injection e with e1; exact ⟨g, e1⟩
      have hi0 : (0 : Int) ≤ (k : Int) := by omega
      have hi1 : (k : Int) < (l.length : Int) := by omega
      have hfz : wr.frozen? ⟨g, k, none⟩ = false := HOwn.out.frozenAt k
      obtain ⟨u, hu⟩ : ∃ u, (bools (marksB k0 k ++ l.drop k))[k]? = some u := ⟨_, List.getElem?_eq_getElem (by rw [bools_length, List.length_append, marksB_length, List.length_drop]; omega)⟩
      have hcell2 : wr.cell? ⟨g, k, none⟩ = some u := by rw [HOwn.out.cellAt k (by omega), hu]
      obtain ⟨t, ht⟩ : ∃ t, (((k0 + k : Nat) : Int) % 3 == 0) = t := ⟨_, rfl⟩
      have HT : Hid ((wr.setCell ⟨g, k, none⟩ (.bool t)).ownsRow B 4 1 (.slice (some ⟨g, 0, none⟩) l.length cap) l.length (bools (marksB k0 (k + 1) ++ l.drop (k + 1))) ∧ Kept w (wr.setCell ⟨g, k, none⟩ (.bool t)) (fun k => (Value.slice (some ⟨g, 0, none⟩) l.length cap).ownBlock = some k)) := hide (by
        have h1 := (HOwn.out.stored k (.bool t)).1
        rw [← ht, three_mod, marksB_set k0 k l hlt] at h1
        rw [← ht, three_mod]
        exact ⟨h1, kept_trans HK.out (kept_setCell wr g k _) (fun j _ h => by rw [h]; rfl)⟩)
      rw [Int.natCast_add] at ht
      clear hu
      go_wp2_with fail
      go_roundg (gk - 1)
      case measure => have := HG.out; omega
      case rel => exact ⟨k + 1, by omega, by go_num, by go_num, by have := HG.out; omega, hide HT.out.1, hide HT.out.2⟩
    · have hkn : k = l.length := by omega
      have HKn := hide hkn
      have HE := hide (show bools (marksB k0 k ++ l.drop k) = bools (marksB k0 l.length) by rw [hkn, List.drop_length, List.append_nil])
      clear hkn
      go_wp2_with fail
      go_ret
      exact ⟨by rw [HKn.out]; rfl, by rw [← HE.out]; exact HOwn.out, HK.out⟩
set_option maxHeartbeats 1000000 in
theorem heldBoolS_all (n : Nat) (hn : n ≤ 1048576) (v : Value) (k0 : Nat) (hk1 : k0 ≤ 1048576000) (w : World) (ha : RowAt w 1 v n (bools (marksB k0 n))) :
    Calls Tryd.prog 30 #[v, .int .i64 (k0 : Int)] w fun e w' => e = .returned (.int .i64 ((k0 + n : Nat) : Int)) ∧ Below w.heap.size w w' := by
  obtain ⟨-, a, cap, rfl, h2⟩ := ha
  have HR := hide h2
  clear h2
  go_enter Tryd.func30, Tryd.ntmps30
  go_wp2
  go_loopg [1, 5] n (fun q kv iv wr => ∃ (k : Nat), k ≤ n ∧ kv = .int .i64 ((k0 + k : Nat) : Int) ∧ iv = .int .i64 (k : Int) ∧ q + k = n ∧ Below w.heap.size w wr)
  case atStart => exact ⟨0, Nat.zero_le _, rfl, rfl, rfl, Below.refl _ _⟩
  case round =>
    obtain ⟨k, hk, rfl, rfl, hg, hb⟩ := hrel
    have HG := hide hg
    clear hg
    by_cases hlt : k < n
    · rcases HR.out with hn0 | ⟨b, off, rfl, hbl, hc⟩
      · omega
      · have hcx : wr.cell? ⟨b, off + k, none⟩ = some (.bool ((k0 + k) % 3 == 0)) := by
          rw [hb.cell (by exact hbl), hc k (by omega), bools, List.getElem?_map, marksB_at k0 n k hlt]
          rfl
        rw [← three_mod, Int.natCast_add] at hcx
        obtain ⟨t, ht⟩ : ∃ t, (((k0 : Int) + (k : Int)) % 3 == 0) = t := ⟨_, rfl⟩
        rw [ht] at hcx
        have dt : (t != t) = false := by simp
        have hk0 : (0 : Int) ≤ (k : Int) := by omega
        have hk1 : (k : Int) < (n : Int) := by omega
        clear hc
        go_wp2_with fail
        go_roundg (gk - 1)
        case measure => have := HG.out; omega
        case rel => exact ⟨k + 1, by omega, by go_num, by go_num, by have := HG.out; omega, hb⟩
    · have hkn : k = n := by omega
      have HKn := hide hkn
      clear hkn
      go_wp2_with fail
      go_ret
      exact ⟨by rw [HKn.out]; rfl, hb⟩
def mkE (K : Nat) (e : Evt) : Evt := ⟨(K : Int), ((K + 1 : Nat) : Int), ⟨(markL (K + 2)).toArray⟩, ⟨(markL (K + 3)).toArray⟩, ((K + 4 : Nat) : Int), marksB (K + 5) e.left.length, ((K + 5 + e.left.length : Nat) : Int)⟩
def marksE : Nat → List Evt → List Evt
  | _, [] => []
  | K, e :: r => mkE K e :: marksE (K + 6 + e.left.length) r
def endE : Nat → List Evt → Nat
  | K, [] => K
  | K, e :: r => endE (K + 6 + e.left.length) r
theorem marksE_length : ∀ (es : List Evt) (K : Nat), (marksE K es).length = es.length
  | [], _ => rfl
  | e :: r, K => by rw [marksE, List.length_cons, marksE_length r, List.length_cons]
theorem endE_next : ∀ (es : List Evt) (K i : Nat) {e : Evt}, es[i]? = some e → endE K (es.take (i + 1)) = endE K (es.take i) + 6 + e.left.length
  | [], K, i, e, h => by simp at h
  | x :: r, K, 0, e, h => by simp at h; subst h; rfl
  | x :: r, K, i + 1, e, h => by
    rw [List.take_succ_cons, List.take_succ_cons, endE, endE]
    exact endE_next r _ i (by simpa using h)
theorem marksE_at : ∀ (es : List Evt) (K i : Nat) {e : Evt}, es[i]? = some e → (marksE K es)[i]? = some (mkE (endE K (es.take i)) e)
  | [], K, i, e, h => by simp at h
  | x :: r, K, 0, e, h => by simp at h; subst h; rfl
  | x :: r, K, i + 1, e, h => by
    rw [marksE, List.getElem?_cons_succ, List.take_succ_cons, endE]
    exact marksE_at r _ i (by simpa using h)
theorem evsOwn_cells {w : World} {B g n cap : Nat} {l : List (Evt × Value)} {k : Nat} {p : Evt × Value} (h : EvsOwn w B (.slice (some ⟨g, 0, none⟩) n cap) l) (hp : l[k]? = some p) :
    (∀ j, j < 7 → w.cell? ⟨g, k * 7 + j, none⟩ = (ev7 p)[j]?) ∧ (∀ j, w.frozen? ⟨g, j, none⟩ = false) ∧ B ≤ g ∧ g < w.heap.size ∧ n = l.length := by
  have hn : n = l.length := by obtain ⟨a, c, e⟩ := own_slice h.1; injection e
  subst hn
  have hk : k < l.length := (List.getElem?_eq_some_iff.1 hp).1
  exact ⟨fun j hj => by rw [h.1.cellAt (k * 7 + j) (by omega), evs_at l k j p hp hj], fun j => h.1.frozenAt j, (h.1.lt g rfl).1, (h.1.lt g rfl).2, rfl⟩
theorem evsOwn_store {w : World} {B g n cap : Nat} {l : List (Evt × Value)} {k : Nat} {p : Evt × Value} (h : EvsOwn w B (.slice (some ⟨g, 0, none⟩) n cap) l) (hp : l[k]? = some p) (j : Nat) (hj : j < 7) (x : Value) (q : Evt × Value) (he : (ev7 p).set j x = ev7 q) (hq : q.2 = p.2) (hl : q.1.left = p.1.left) :
    EvsOwn (w.setCell ⟨g, k * 7 + j, none⟩ x) B (.slice (some ⟨g, 0, none⟩) n cap) (l.set k q) := by
  have hn : n = l.length := by obtain ⟨a, c, e⟩ := own_slice h.1; injection e
  subst hn
  have h1 := (h.1.stored (k * 7 + j) x).1
  rw [evs_set l k j p q x hp hj he] at h1
  exact evsOwn_set h hp hq hl h1 (kept_setCell _ _ _ _)
theorem set_get {α : Type} {l : List α} {k : Nat} {p q : α} (hp : l[k]? = some p) : (l.set k q)[k]? = some q := List.getElem?_set_self (List.getElem?_eq_some_iff.1 hp).1
set_option maxHeartbeats 4000000 in
set_option maxRecDepth 100000 in
theorem markEventS_any (l : List (Evt × Value)) (hl : l.length ≤ 1000) (hs : ∀ p ∈ l, p.1.left.length ≤ 1000) (v : Value) (B k0 : Nat) (hk0 : 0 < k0) (hk1 : k0 ≤ 1000) (w : World) (hB : B ≤ w.heap.size) (ha : EvsOwn w B v l) :
    Calls Tryd.prog 13 #[v, .int .i64 (k0 : Int)] w fun e w' => e = .returned (.int .i64 ((endE k0 (l.map Prod.fst) : Nat) : Int)) ∧ (∃ l', l'.map Prod.fst = marksE k0 (l.map Prod.fst) ∧ EvsOwn w' B v l') ∧ Below B w w' := by
  obtain ⟨a, cap, rfl⟩ := own_slice ha.1
  have HA := hide ha
  have HS := hide hs
  have HBz := hide hB
  obtain ⟨L, hL⟩ : ∃ L, L = l.length := ⟨_, rfl⟩
  rw [← hL] at HA hl ⊢
  have HL := hide hL
  clear ha hs hL hB
  go_enter Tryd.func13, Tryd.ntmps13
  go_wp2
  go_loopg [1, 5] L (fun q kv iv wr => ∃ (k K : Nat) (m : List (Evt × Value)), k ≤ L ∧ K ≤ 1000 + k * 1006 ∧ kv = .int .i64 (K : Int) ∧ iv = .int .i64 (k : Int) ∧ q + k = L ∧ Hid (0 < K ∧ K = endE k0 ((l.map Prod.fst).take k)) ∧ Hid (EvsOwn wr B (.slice a L cap) m) ∧ Hid (m.length = L ∧ (∀ j, j < k → (m[j]?).map Prod.fst = (marksE k0 (l.map Prod.fst))[j]?) ∧ ∀ j, k ≤ j → m[j]? = l[j]?) ∧ Hid (Below B w wr))
  case atStart => exact ⟨0, k0, l, Nat.zero_le _, by omega, rfl, rfl, by omega, hide ⟨hk0, rfl⟩, HA, hide ⟨HL.out.symm, fun j h => by omega, fun j _ => rfl⟩, hide (Below.refl _ _)⟩
  case round =>
    obtain ⟨k, K, m, hk, hKl, rfl, rfl, hg, HK, HOwn, HMs, HB⟩ := hrel
    have HG := hide hg
    clear hg
    by_cases hlt : k < L
    · obtain ⟨p, hp⟩ : ∃ p, l[k]? = some p := ⟨_, List.getElem?_eq_getElem (by rw [← HL.out]; exact hlt)⟩
      have hpm : m[k]? = some p := by rw [HMs.out.2.2 k (Nat.le_refl _)]; exact hp
      have hpl := HS.out p (List.mem_of_getElem? hp)
      have hkm : k < m.length := (List.getElem?_eq_some_iff.1 hpm).1
      obtain ⟨g, rfl⟩ : ∃ g, a = some ⟨g, 0, none⟩ := by
        rcases HOwn.out.1.2 with ⟨e, h0⟩ | ⟨g, c, cur, e, _⟩
        · omega
        · injection e with e1; exact ⟨g, e1⟩
      obtain ⟨e, u⟩ := p
      obtain ⟨kind, id, key, val, stage, lft, torn⟩ := e
      have hu := HOwn.out.2.1 _ (List.mem_of_getElem? hpm)
      dsimp only at hu hpl
      obtain ⟨x, c, rfl⟩ := own_slice hu
      have hsz := HB.out.size
      obtain ⟨hc, hf, hBg, hgs, -⟩ := evsOwn_cells HOwn.out hpm
      have c0 : wr.cell? ⟨g, k * 7, none⟩ = some (.int .i64 kind) := hc 0 (by omega)
      have c1 : wr.cell? ⟨g, k * 7 + 1, none⟩ = some (.int .i64 id) := hc 1 (by omega)
      have f0 := hf (k * 7)
      have f1 := hf (k * 7 + 1)
      have HO1 := hide (evsOwn_store HOwn.out hpm 0 (by omega) (.int .i64 (K : Int)) (⟨K, id, key, val, stage, lft, torn⟩, .slice x lft.length c) rfl rfl rfl)
      have hp1 := set_get (q := ((⟨K, id, key, val, stage, lft, torn⟩, .slice x lft.length c) : Evt × Value)) hpm
      have HO2 := hide (evsOwn_store HO1.out hp1 1 (by omega) (.int .i64 ((K + 1 : Nat) : Int)) (⟨K, ((K + 1 : Nat) : Int), key, val, stage, lft, torn⟩, .slice x lft.length c) rfl rfl rfl)
      have hp2 := set_get (q := ((⟨K, ((K + 1 : Nat) : Int), key, val, stage, lft, torn⟩, .slice x lft.length c) : Evt × Value)) hp1
      have HB2 : Hid (Below B w ((wr.setCell ⟨g, k * 7, none⟩ (.int .i64 (K : Int))).setCell ⟨g, k * 7 + 1, none⟩ (.int .i64 ((K + 1 : Nat) : Int)))) := hide ((HB.out.setCell hBg _).setCell hBg _)
      obtain ⟨T2, hT2⟩ : ∃ t : ByteArray, t = ⟨(markL (K + 2)).toArray⟩ := ⟨_, rfl⟩
      obtain ⟨T3, hT3⟩ : ∃ t : ByteArray, t = ⟨(markL (K + 3)).toArray⟩ := ⟨_, rfl⟩
      have HM2 : Hid (∀ wx, Calls Tryd.prog 28 #[.int .i64 ((K + 2 : Nat) : Int)] wx fun e w' => e = .returned (.string T2) ∧ Below wx.heap.size wx w') := hide (fun wx => by rw [hT2]; exact markText_any (K + 2) (by omega) (by omega) wx)
      have HM3 : Hid (∀ wx, Calls Tryd.prog 28 #[.int .i64 ((K + 3 : Nat) : Int)] wx fun e w' => e = .returned (.string T3) ∧ Below wx.heap.size wx w') := hide (fun wx => by rw [hT3]; exact markText_any (K + 3) (by omega) (by omega) wx)
      have HTt := hide (⟨hT2, hT3⟩ : _ ∧ _)
      clear hT2 hT3
      rw [show ((K + 2 : Nat) : Int) = (K : Int) + 1 + 1 from by omega] at HM2
      rw [show ((K + 3 : Nat) : Int) = (K : Int) + 1 + 1 + 1 from by omega] at HM3
      rw [Nat.add_zero] at HO1
      rw [Int.natCast_add, Int.natCast_one] at HO2 hp2 HB2
      have HP2 := hide hp2
      have HPl := hide (⟨hp, hkm, hgs⟩ : _ ∧ _ ∧ _)
      have hi0 : (0 : Int) ≤ (k : Int) := by omega
      have hi1 : (k : Int) < (L : Int) := by omega
      clear hp hpm hp1 hp2 hkm hc hf hu hgs HO1
      go_wp2_with fail
      refine (HM2.out _).mono ?_
      rintro e w2 ⟨rfl, hb⟩
      have hsz2 := hb.size
      have HO3 := hide (evsOwn_stays HO2.out hb)
      have HB3 : Hid (Below B w w2) := hide (HB2.out.trans (hb.mono (Nat.le_trans HBz.out HB2.out.size)))
      clear hb HO2 HB2 HM2 c0 c1 f0 f1
      obtain ⟨hc, hf, -, hgs, -⟩ := evsOwn_cells HO3.out HP2.out
      have c2 : w2.cell? ⟨g, k * 7 + 2, none⟩ = some (.string key) := hc 2 (by omega)
      have f2 := hf (k * 7 + 2)
      have HO4 := hide (evsOwn_store HO3.out HP2.out 2 (by omega) (.string T2) (⟨K, (K : Int) + 1, T2, val, stage, lft, torn⟩, .slice x lft.length c) rfl rfl rfl)
      have HP4 := hide (set_get (q := ((⟨K, (K : Int) + 1, T2, val, stage, lft, torn⟩, .slice x lft.length c) : Evt × Value)) HP2.out)
      have HB4 : Hid (Below B w (w2.setCell ⟨g, k * 7 + 2, none⟩ (.string T2))) := hide (HB3.out.setCell hBg _)
      clear hc hf HO3 HB3 HP2 hsz2
      go_wp2_with fail
      refine (HM3.out _).mono ?_
      rintro e w3 ⟨rfl, hb⟩
      have HO5 := hide (evsOwn_stays HO4.out hb)
      have HB5 : Hid (Below B w w3) := hide (HB4.out.trans (hb.mono (Nat.le_trans HBz.out HB4.out.size)))
      clear hb HO4 HB4 HM3 c2 f2 hgs
      obtain ⟨hc, hf, -, hgs, -⟩ := evsOwn_cells HO5.out HP4.out
      have c3 : w3.cell? ⟨g, k * 7 + 3, none⟩ = some (.string val) := hc 3 (by omega)
      have c4 : w3.cell? ⟨g, k * 7 + 4, none⟩ = some (.int .i64 stage) := hc 4 (by omega)
      have c5 : w3.cell? ⟨g, k * 7 + 5, none⟩ = some (.slice x lft.length c) := hc 5 (by omega)
      have f3 := hf (k * 7 + 3)
      have f4 := hf (k * 7 + 4)
      have HO6 := hide (evsOwn_store HO5.out HP4.out 3 (by omega) (.string T3) (⟨K, (K : Int) + 1, T2, T3, stage, lft, torn⟩, .slice x lft.length c) rfl rfl rfl)
      have HP6 := hide (set_get (q := ((⟨K, (K : Int) + 1, T2, T3, stage, lft, torn⟩, .slice x lft.length c) : Evt × Value)) HP4.out)
      have HO7 := hide (evsOwn_store HO6.out HP6.out 4 (by omega) (.int .i64 ((K : Int) + 1 + 1 + 1 + 1)) (⟨K, (K : Int) + 1, T2, T3, (K : Int) + 1 + 1 + 1 + 1, lft, torn⟩, .slice x lft.length c) rfl rfl rfl)
      have HP7 := hide (set_get (q := ((⟨K, (K : Int) + 1, T2, T3, (K : Int) + 1 + 1 + 1 + 1, lft, torn⟩, .slice x lft.length c) : Evt × Value)) HP6.out)
      have HB7 : Hid (Below B w ((w3.setCell ⟨g, k * 7 + 3, none⟩ (.string T3)).setCell ⟨g, k * 7 + 4, none⟩ (.int .i64 ((K : Int) + 1 + 1 + 1 + 1)))) := hide ((HB5.out.setCell hBg _).setCell hBg _)
      have hro := HO7.out.2.1 _ (List.mem_of_getElem? HP7.out)
      have HMb := hide (markBoolS_all lft (by omega) (.slice x lft.length c) B (K + 5) (by omega) _ hro)
      obtain ⟨ll, hll⟩ : ∃ ll, ll = lft.length := ⟨_, rfl⟩
      have HLl := hide hll
      have hlb : ll ≤ 1000 := by rw [hll]; exact hpl
      rw [show ((K + 5 : Nat) : Int) = (K : Int) + 1 + 1 + 1 + 1 + 1 from by omega, ← hll] at HMb
      rw [← hll] at c5
      clear hc hf HO5 HB5 HP4 HO6 HP6 hro hll hpl hgs
      go_wp2_with fail
      refine HMb.out.mono ?_
      rintro e w4 ⟨rfl, hown, hkp⟩
      rw [HLl.out] at hown hkp
      have HO8 := hide (evsOwn_flags (q := (⟨K, (K : Int) + 1, T2, T3, (K : Int) + 1 + 1 + 1 + 1, marksB (K + 5) lft.length, torn⟩, .slice x lft.length c)) HO7.out HP7.out rfl (by rw [marksB_length]; exact hown) hkp)
      have HP8 := hide (set_get (q := ((⟨K, (K : Int) + 1, T2, T3, (K : Int) + 1 + 1 + 1 + 1, marksB (K + 5) lft.length, torn⟩, .slice x lft.length c) : Evt × Value)) HP7.out)
      have hl7 := (HO7.out.2.1 _ (List.mem_of_getElem? HP7.out)).lt
      have HB8 : Hid (Below B w w4) := hide (HB7.out.trans (below_of_kept hkp (Nat.le_trans HBz.out HB7.out.size) (fun j hj => (hl7 j hj).1)))
      clear hown hkp c3 c4 c5 f3 f4 HO7 HP7 HB7 HMb hl7
      obtain ⟨hc, hf, -, hgs, -⟩ := evsOwn_cells HO8.out HP8.out
      have c6 : w4.cell? ⟨g, k * 7 + 6, none⟩ = some (.int .i64 torn) := hc 6 (by omega)
      have f6 := hf (k * 7 + 6)
      have HO9 := hide (evsOwn_store HO8.out HP8.out 6 (by omega) (.int .i64 ((K + 5 + ll : Nat) : Int)) (⟨K, (K : Int) + 1, T2, T3, (K : Int) + 1 + 1 + 1 + 1, marksB (K + 5) lft.length, ((K + 5 + ll : Nat) : Int)⟩, .slice x lft.length c) rfl rfl rfl)
      have HB9 : Hid (Below B w (w4.setCell ⟨g, k * 7 + 6, none⟩ (.int .i64 ((K + 5 + ll : Nat) : Int)))) := hide (HB8.out.setCell hBg _)
      have HMk : Hid (mkE K ⟨kind, id, key, val, stage, lft, torn⟩ = ⟨K, (K : Int) + 1, T2, T3, (K : Int) + 1 + 1 + 1 + 1, marksB (K + 5) lft.length, ((K + 5 + ll : Nat) : Int)⟩) := hide (by
        obtain ⟨h2, h3⟩ := HTt.out
        rw [mkE, ← h2, ← h3, HLl.out]
        congr 1 <;> omega)
      have HKn : Hid (0 < K + 5 + ll + 1 ∧ K + 5 + ll + 1 = endE k0 ((l.map Prod.fst).take (k + 1))) := hide (by
        have h := endE_next (l.map Prod.fst) k0 k (e := ⟨kind, id, key, val, stage, lft, torn⟩) (by rw [List.getElem?_map, HPl.out.1]; rfl)
        dsimp only at h
        rw [h, ← HK.out.2, ← HLl.out]
        omega)
      have HMe : Hid ((marksE k0 (l.map Prod.fst))[k]? = some (mkE K ⟨kind, id, key, val, stage, lft, torn⟩)) := hide (by
        have h := marksE_at (l.map Prod.fst) k0 k (e := ⟨kind, id, key, val, stage, lft, torn⟩) (by rw [List.getElem?_map, HPl.out.1]; rfl)
        rw [h, ← HK.out.2])
      clear hc hf HO8 HP8 HB8 hgs
      go_wp2_with fail
      go_roundg (gk - 1)
      case measure => have := HG.out; omega
      case rel =>
        refine ⟨k + 1, K + 5 + ll + 1, _, by omega, by omega, by go_num, by go_num, by have := HG.out; omega, HKn, HO9, hide ⟨?_, fun j hj => ?_, fun j hj => ?_⟩, HB9⟩
        · simp only [List.length_set]; exact HMs.out.1
        · simp only [List.set_set]
          by_cases e : k = j
          · subst e
            rw [List.getElem?_set_self HPl.out.2.1, HMe.out, HMk.out]
            rfl
          · rw [List.getElem?_set_ne e]
            exact HMs.out.2.1 j (by omega)
        · simp only [List.set_set]
          rw [List.getElem?_set_ne (by omega)]
          exact HMs.out.2.2 j (by omega)
    · have hkL : k = L := by omega
      have HE : Hid (K = endE k0 (l.map Prod.fst)) := hide (by rw [HK.out.2, hkL, HL.out, List.take_of_length_le (by rw [List.length_map]; exact Nat.le_refl _)])
      have HF : Hid (m.map Prod.fst = marksE k0 (l.map Prod.fst)) := hide (by
        apply List.ext_getElem?
        intro j
        by_cases e : j < k
        · rw [List.getElem?_map]; exact HMs.out.2.1 j e
        · rw [List.getElem?_eq_none (by rw [List.length_map, HMs.out.1]; omega), List.getElem?_eq_none (by rw [marksE_length, List.length_map, ← HL.out]; omega)])
      clear hkL
      go_wp2_with fail
      go_ret
      exact ⟨by rw [HE.out]; rfl, ⟨m, HF.out, HOwn.out⟩, HB.out⟩
set_option maxHeartbeats 4000000 in
set_option maxRecDepth 100000 in
theorem heldEventS_any (es : List Evt) (hl : es.length ≤ 1000) (hs : ∀ e ∈ es, e.left.length ≤ 1000) (v : Value) (k0 : Nat) (hk0 : 0 < k0) (hk1 : k0 ≤ 1000) (w : World) (ha : EvsAt w v (marksE k0 es)) :
    Calls Tryd.prog 14 #[v, .int .i64 (k0 : Int)] w fun e w' => e = .returned (.int .i64 ((endE k0 es : Nat) : Int)) ∧ Below w.heap.size w w' := by
  obtain ⟨a, cap, rfl⟩ := evs_slice ha
  rw [marksE_length] at ha ⊢
  have HA := hide ha
  have HS := hide hs
  obtain ⟨L, hL⟩ : ∃ L, L = es.length := ⟨_, rfl⟩
  rw [← hL] at HA hl ⊢
  have HL := hide hL
  clear ha hs hL
  go_enter Tryd.func14, Tryd.ntmps14
  go_wp2
  go_loopg [1, 5] L (fun q kv iv wr => ∃ (k K : Nat), k ≤ L ∧ K ≤ 1000 + k * 1006 ∧ kv = .int .i64 (K : Int) ∧ iv = .int .i64 (k : Int) ∧ q + k = L ∧ Hid (0 < K ∧ K = endE k0 (es.take k)) ∧ Hid (Below w.heap.size w wr))
  case atStart => exact ⟨0, k0, Nat.zero_le _, by omega, rfl, rfl, by omega, hide ⟨hk0, rfl⟩, hide (Below.refl _ _)⟩
  case round =>
    obtain ⟨k, K, hk, hKl, rfl, rfl, hg, HK, HB⟩ := hrel
    have HG := hide hg
    clear hg
    by_cases hlt : k < L
    · obtain ⟨e, he⟩ : ∃ e, es[k]? = some e := ⟨_, List.getElem?_eq_getElem (by rw [← HL.out]; exact hlt)⟩
      have hm := marksE_at es k0 k he
      rw [← HK.out.2] at hm
      have hpl := HS.out e (List.mem_of_getElem? he)
      obtain ⟨b, off, cs, rfl, hbl, -, hr, -, x, c, rfl, hrow⟩ := evs_get (evs_below HA.out HB.out) hm
      have HKn : Hid (0 < K + 5 + e.left.length + 1 ∧ K + 5 + e.left.length + 1 = endE k0 (es.take (k + 1))) := hide (by
        have h := endE_next es k0 k he
        rw [h, ← HK.out.2]
        omega)
      obtain ⟨T2, hT2⟩ : ∃ t : ByteArray, t = ⟨(markL (K + 2)).toArray⟩ := ⟨_, rfl⟩
      obtain ⟨T3, hT3⟩ : ∃ t : ByteArray, t = ⟨(markL (K + 3)).toArray⟩ := ⟨_, rfl⟩
      have HM2 : Hid (∀ wx, Calls Tryd.prog 28 #[.int .i64 ((K + 2 : Nat) : Int)] wx fun e w' => e = .returned (.string T2) ∧ Below wx.heap.size wx w') := hide (fun wx => by rw [hT2]; have := HK.out.1; exact markText_any (K + 2) (by omega) (by omega) wx)
      have HM3 : Hid (∀ wx, Calls Tryd.prog 28 #[.int .i64 ((K + 3 : Nat) : Int)] wx fun e w' => e = .returned (.string T3) ∧ Below wx.heap.size wx w') := hide (fun wx => by rw [hT3]; have := HK.out.1; exact markText_any (K + 3) (by omega) (by omega) wx)
      rw [mkE] at hr hrow
      dsimp only at hr hrow
      rw [← hT2, ← hT3, marksB_length] at hr
      rw [marksB_length] at hrow
      obtain ⟨n, hn⟩ : ∃ n, n = e.left.length := ⟨_, rfl⟩
      rw [← hn] at hr hrow HKn hpl
      have HC := hide (fun wx (hb : Below wr.heap.size wr wx) => heldBoolS_all n (by omega) (.slice x n c) (K + 5) (by omega) wx (row_below hrow hb))
      have HR : Hid (∀ wx, Below wr.heap.size wr wx → wx.cell? ⟨b, off + k * 7, none⟩ = some (.int .i64 (K : Int)) ∧ wx.cell? ⟨b, off + k * 7 + 1, none⟩ = some (.int .i64 ((K : Int) + 1)) ∧ wx.cell? ⟨b, off + k * 7 + 2, none⟩ = some (.string T2) ∧ wx.cell? ⟨b, off + k * 7 + 3, none⟩ = some (.string T3) ∧ wx.cell? ⟨b, off + k * 7 + 4, none⟩ = some (.int .i64 ((K : Int) + 1 + 1 + 1 + 1)) ∧ wx.cell? ⟨b, off + k * 7 + 5, none⟩ = some (.slice x n c) ∧ wx.cell? ⟨b, off + k * 7 + 6, none⟩ = some (.int .i64 ((K + 5 + n : Nat) : Int))) := hide (fun wx hb => by
        have h := range_below hr hbl hb
        refine ⟨h 0 _ rfl, (h 1 _ rfl).trans ?_, h 2 _ rfl, h 3 _ rfl, (h 4 _ rfl).trans ?_, h 5 _ rfl, h 6 _ rfl⟩
        · rfl
        · congr 2)
      rw [show ((K + 2 : Nat) : Int) = (K : Int) + 1 + 1 from by omega] at HM2
      rw [show ((K + 3 : Nat) : Int) = (K : Int) + 1 + 1 + 1 from by omega] at HM3
      rw [show ((K + 5 : Nat) : Int) = (K : Int) + 1 + 1 + 1 + 1 + 1 from by omega] at HC
      have HK5 : Hid (∀ m : Nat, ((K + 5 + m : Nat) : Int) = (K : Int) + 5 + (m : Int)) := hide (fun m => by omega)
      have hi0 : (0 : Int) ≤ (k : Int) := by omega
      have hi1 : (k : Int) < (L : Int) := by omega
      have d0 : ((K : Int) != (K : Int)) = false := by simp
      have d1 : ((K : Int) + 1 != (K : Int) + 1) = false := by simp
      have hBw := HB.out.size
      obtain ⟨c0, c1, c2, c3, c4, c5, c6⟩ := HR.out wr (Below.refl _ _)
      clear he hm hT2 hT3 hr hrow hn
      go_wp2_with fail
      clear c0 c1 c3 c4 c5 c6
      go_region_held3 (fun w' => w'.cell? ⟨b, off + k * 7 + 2, none⟩ = some (.string T2)) (first | go_keep | exact hc2) ((go_at_call 28; refine (HM2.out _).mono ?_; rintro e w2 ⟨rfl, hbw⟩; have hc2 : w2.cell? ⟨b, off + k * 7 + 2, none⟩ = some (.string T2) := (hbw.cell (by exact hbl)).trans c2))
      have hb2 : Below wr.heap.size wr w2 := (Below.refl _ _).drew.trans hbw
      have hbl2 : b < w2.heap.size := Nat.lt_of_lt_of_le hbl hb2.size
      have c3 := (HR.out w2 hb2).2.2.2.1
      clear c2 hc2 hbw HM2
      go_wp2_with fail
      go_region_held3 (fun w' => w'.cell? ⟨b, off + k * 7 + 3, none⟩ = some (.string T3)) (first | go_keep | exact hc3) ((go_at_call 28; refine (HM3.out _).mono ?_; rintro e w3 ⟨rfl, hbw⟩; have hc3 : w3.cell? ⟨b, off + k * 7 + 3, none⟩ = some (.string T3) := (hbw.cell (by exact hbl2)).trans c3))
      have hb3 : Below wr.heap.size wr w3 := hb2.trans (((Below.refl _ _).drew.trans hbw).mono hb2.size)
      obtain ⟨-, -, -, -, c4, c5, -⟩ := HR.out w3 hb3
      have d4 : ((K : Int) + 1 + 1 + 1 + 1 != (K : Int) + 1 + 1 + 1 + 1) = false := by simp
      clear c3 hc3 hbw HM3 hb2
      go_wp2_with fail
      refine (HC.out w3 hb3).mono ?_
      rintro e w4 ⟨rfl, hb⟩
      have hb4 : Below wr.heap.size wr w4 := hb3.trans (hb.mono hb3.size)
      obtain ⟨-, -, -, -, -, -, c6⟩ := HR.out w4 hb4
      have dneg : decide (((K + 5 + n : Nat) : Int) < 0) = false := decide_eq_false (by omega)
      have d6 : (((K + 5 + n : Nat) : Int) != ((K + 5 + n : Nat) : Int)) = false := by simp
      have HB4 : Hid (Below w.heap.size w w4) := hide (HB.out.trans (hb4.mono hBw))
      clear c4 c5 hb hb3 hb4 HC HR
      go_wp2_with fail
      go_roundg (gk - 1)
      case measure => have := HG.out; omega
      case rel => exact ⟨k + 1, K + 5 + n + 1, by omega, by omega, by go_num, by go_num, by have := HG.out; omega, HKn, HB4⟩
    · have HE : Hid (K = endE k0 es) := hide (by rw [HK.out.2, show k = es.length from by have := HL.out; omega, List.take_length])
      go_wp2_with fail
      go_ret
      exact ⟨by rw [HE.out]; rfl, HB.out⟩
end Go.Proofs.YtmmepgincbngeaaDoor
