/-
  Facts and contracts that the law's own text rests on, by their texts' names: Plain16, Plain23, Plain24, RangeSep.
-/
import Derived.Test.YtdbpbhemnnffeaaGreatDoorXw3
import Derived.Below
import Derived.RangeFuncBound
import Derived.RangeFuncBox
import Derived.RangeFuncCalls
import Derived.RangeFuncLeaves
import Derived.RangeFuncNested
namespace Go.Proofs.YtdbpbhemnnffeaaGreatDoor
open Go.RowKit
structure Nd where
  lf : Bool
  ks : List ByteArray
  vs : List ByteArray
  cs : List Int
def Nd.ok (n : Nd) : Bool := nodeOkB n.lf n.ks n.vs n.cs
def Nd.none : Nd := ⟨false, [], [], []⟩
def IsIn (s : ByteArray) (n : Nd) : Prop := n.ok = true ∧ nodeB n.lf n.ks n.vs n.cs = s
def IsNd (t : ByteArray) (n : Nd) : Prop := n.ok = true ∧ nodeT n.lf n.ks n.vs n.cs = t
theorem nodeT_list (lf : Bool) (ks vs : List ByteArray) (cs : List Int) : (nodeT lf ks vs cs).data.toList = sealL (nodeB lf ks vs cs).data.toList := by rw [nodeT]
theorem isNd_unsealed {t : ByteArray} (h : isSealed t.data.toList = false) : ∀ n, ¬ IsNd t n := fun n hn => by
  have h1 := (nodeB_size hn.1).1
  have h2 := sealL_is (nodeB n.lf n.ks n.vs n.cs).data.toList (by rw [ba_len]; omega)
  rw [← nodeT_list, hn.2, h] at h2
  cases h2
theorem isNd_sealed {t : ByteArray} (h : isSealed t.data.toList = true) (n : Nd) : IsNd t n ↔ IsIn (t.extract 0 (t.size - 4)) n := by
  have h' := h
  rw [isSealed, decide_eq_true_eq] at h'
  obtain ⟨h4, -, hs⟩ := h'
  rw [ba_len] at h4 hs
  have he : (t.extract 0 (t.size - 4)).data.toList = t.data.toList.take (t.size - 4) := by rw [Lib.extract_data, List.drop_zero, Nat.sub_zero]
  have ht : t.data.toList = sealL (t.extract 0 (t.size - 4)).data.toList := by
    rw [he, sealL, ← hs, List.take_append_drop]
  constructor
  · rintro ⟨h1, h2⟩
    refine ⟨h1, ?_⟩
    have h3 := nodeT_list n.lf n.ks n.vs n.cs
    rw [h2] at h3
    have h5 : (nodeB n.lf n.ks n.vs n.cs).size = t.size - 4 := by
      have := congrArg List.length h3
      rw [sealL_length, ba_len, ba_len] at this
      omega
    apply ByteArray.ext
    apply Array.toList_inj.1
    rw [he, h3, sealL, List.take_left' (by rw [ba_len, h5])]
  · rintro ⟨h1, h2⟩
    refine ⟨h1, ?_⟩
    apply ByteArray.ext
    apply Array.toList_inj.1
    rw [nodeT_list, h2, ← ht]
def Nd.even (n : Nd) : Prop := (n.lf = true → n.vs.length = n.ks.length ∧ n.cs = []) ∧ (n.lf = false → n.cs.length = n.ks.length ∧ n.vs = [])
theorem even_ok {n : Nd} (h : n.ok = true) : n.even := by
  obtain ⟨-, -, h3, h4⟩ := cnt_yes (node_yes h).1
  exact ⟨fun e => ⟨(h3 e).1, List.length_eq_zero_iff.1 (h3 e).2⟩, fun e => ⟨(h4 e).1, List.length_eq_zero_iff.1 (h4 e).2⟩⟩
theorem getD_app {α : Type} (l m : List α) (k : Nat) (d : α) (h : k < l.length) : (l ++ m).getD k d = l.getD k d := by
  simp only [List.getD_eq_getElem?_getD, List.getElem?_append_left h]
theorem getD_here {α : Type} (l m : List α) (x d : α) : (l ++ x :: m).getD l.length d = x := by
  simp [List.getD_eq_getElem?_getD]
theorem sideT_app (lf : Bool) (vs us : List ByteArray) (cs ds : List Int) (k : Nat) (h1 : lf = true → k < vs.length) (h2 : lf = false → k < cs.length) : sideT lf (vs ++ us) (cs ++ ds) k = sideT lf vs cs k := by
  cases lf with
  | true => rw [sideT, sideT, if_pos rfl, if_pos rfl, getD_app _ _ _ _ (h1 rfl)]
  | false => rw [sideT, sideT, if_neg (by decide), if_neg (by decide), getD_app _ _ _ _ (h2 rfl)]
theorem nodeP_app (lf : Bool) (cnt : Nat) (ks ls vs us : List ByteArray) (cs ds : List Int) : ∀ k, k ≤ ks.length → (lf = true → k ≤ vs.length) → (lf = false → k ≤ cs.length) → nodeP lf cnt (ks ++ ls) (vs ++ us) (cs ++ ds) k = nodeP lf cnt ks vs cs k
  | 0, _, _, _ => rfl
  | k + 1, h, h1, h2 => by
    rw [nodeP, nodeP, nodeP_app lf cnt ks ls vs us cs ds k (by omega) (fun e => by have := h1 e; omega) (fun e => by have := h2 e; omega), getD_app _ _ _ _ (by omega), sideT_app lf vs us cs ds k (fun e => by have := h1 e; omega) (fun e => by have := h2 e; omega)]
def Nd.pre (n : Nd) (cnt : Nat) : ByteArray := nodeP n.lf cnt n.ks n.vs n.cs n.ks.length
def Nd.snocV (n : Nd) (x y : ByteArray) : Nd := ⟨n.lf, n.ks ++ [x], n.vs ++ [y], n.cs⟩
def Nd.snocC (n : Nd) (x : ByteArray) (z : Int) : Nd := ⟨n.lf, n.ks ++ [x], n.vs, n.cs ++ [z]⟩
theorem even_snocV {n : Nd} (h : n.even) (hl : n.lf = true) (x y : ByteArray) : (n.snocV x y).even :=
  ⟨fun _ => by simp [Nd.snocV, (h.1 hl).1, (h.1 hl).2], fun e => by rw [show (n.snocV x y).lf = n.lf from rfl, hl] at e; cases e⟩
theorem even_snocC {n : Nd} (h : n.even) (hl : n.lf = false) (x : ByteArray) (z : Int) : (n.snocC x z).even :=
  ⟨fun e => by rw [show (n.snocC x z).lf = n.lf from rfl, hl] at e; (cases e), fun _ => by simp [Nd.snocC, (h.2 hl).1, (h.2 hl).2]⟩
theorem pre_snocV {n : Nd} (h : n.even) (hl : n.lf = true) (cnt : Nat) (x y : ByteArray) : (n.snocV x y).pre cnt = n.pre cnt ++ shortB x ++ shortB y := by
  have h1 := (h.1 hl).1
  have ha := nodeP_app n.lf cnt n.ks [x] n.vs [y] n.cs [] n.ks.length (Nat.le_refl _) (fun _ => by omega) (fun e => by rw [hl] at e; cases e)
  rw [List.append_nil] at ha
  unfold Nd.pre Nd.snocV
  rw [List.length_append, List.length_singleton, nodeP, ha, getD_here, sideT, if_pos hl, ← h1, getD_here]
theorem pre_snocC {n : Nd} (h : n.even) (hl : n.lf = false) (cnt : Nat) (x : ByteArray) (z : Nat) : (n.snocC x (z : Int)).pre cnt = n.pre cnt ++ shortB x ++ ⟨(vtext z).toArray⟩ := by
  have h1 := (h.2 hl).1
  have ha := nodeP_app n.lf cnt n.ks [x] n.vs [] n.cs [(z : Int)] n.ks.length (Nat.le_refl _) (fun e => by rw [hl] at e; cases e) (fun _ => by omega)
  rw [List.append_nil] at ha
  unfold Nd.pre Nd.snocC
  rw [List.length_append, List.length_singleton, nodeP, ha, getD_here, sideT, if_neg (by rw [hl]; decide), ← h1, getD_here, Int.toNat_natCast]
def Goes (n m : Nd) : Prop := m.lf = n.lf ∧ (∃ l, m.ks = n.ks ++ l) ∧ (∃ l, m.vs = n.vs ++ l) ∧ ∃ l, m.cs = n.cs ++ l
theorem pre_goes {n m : Nd} (h : Goes n m) (he : n.even) (cnt : Nat) : ∀ d, ∃ X, nodeP m.lf cnt m.ks m.vs m.cs (n.ks.length + d) = n.pre cnt ++ X
  | 0 => by
    obtain ⟨h0, ⟨l, h1⟩, ⟨u, h2⟩, ⟨c, h3⟩⟩ := h
    refine ⟨⟨#[]⟩, ?_⟩
    rw [h0, h1, h2, h3, Nat.add_zero, nodeP_app n.lf cnt n.ks l n.vs u n.cs c n.ks.length (Nat.le_refl _) (fun e => by rw [(he.1 e).1]; omega) (fun e => by rw [(he.2 e).1]; omega)]
    exact (ByteArray.append_empty).symm
  | d + 1 => by
    obtain ⟨X, hX⟩ := pre_goes h he cnt d
    rw [← Nat.add_assoc, nodeP, hX, ByteArray.append_assoc, ByteArray.append_assoc]
    exact ⟨_, rfl⟩
def NTry (s : ByteArray) (cnt : Nat) (n : Nd) (p : Nat) : Prop := ∀ m, IsIn s m → m.ks.length = cnt ∧ Goes n m ∧ p = (n.pre cnt).size
theorem isIn_head {s : ByteArray} {m : Nd} (h : IsIn s m) : 2 ≤ s.size ∧ byt s 0 = (if m.lf = true then 108 else 98) ∧ rdV s 1 = some (m.ks.length, (Nd.pre ⟨m.lf, [], [], []⟩ m.ks.length).size) := by
  have h2 := (nodeB_size h.1).2
  rw [h.2] at h2
  obtain ⟨c1, c2, -, -⟩ := cnt_yes (node_yes h.1).1
  have hg : Goes ⟨m.lf, [], [], []⟩ m := ⟨rfl, ⟨_, rfl⟩, ⟨_, rfl⟩, ⟨_, rfl⟩⟩
  obtain ⟨X, hX⟩ := pre_goes hg ⟨fun _ => ⟨rfl, rfl⟩, fun _ => ⟨rfl, rfl⟩⟩ m.ks.length m.ks.length
  have hs : s = headB m.lf ++ ⟨(vtext m.ks.length).toArray⟩ ++ X := by
    rw [← h.2, nodeB]
    rw [show (⟨m.lf, [], [], []⟩ : Nd).ks.length + m.ks.length = m.ks.length from Nat.zero_add _] at hX
    rw [hX]; rfl
  refine ⟨h2, ?_, ?_⟩
  · have h0 := extract_cat ⟨#[]⟩ (headB m.lf) (⟨(vtext m.ks.length).toArray⟩ ++ X)
    have hs' : s = (⟨#[]⟩ : ByteArray) ++ headB m.lf ++ (⟨(vtext m.ks.length).toArray⟩ ++ X) := by
      rw [hs]
      rw [show (⟨#[]⟩ : ByteArray) ++ headB m.lf = headB m.lf from ByteArray.empty_append, ByteArray.append_assoc]
    rw [← hs', headB_size] at h0
    have hb := byt_eq s 0 (by omega)
    have h3 : (s.extract 0 1)[0]'(by rw [ByteArray.size_extract]; omega) = (headB m.lf)[0]'(by rw [headB_size]; omega) := by
      congr 1
    rw [ByteArray.getElem_extract] at h3
    rw [← hb]
    simp only [Nat.zero_add] at h3
    rw [h3]
    cases m.lf <;> rfl
  · have := rdV_at s (headB m.lf) X m.ks.length (by omega) hs
    rw [headB_size] at this
    rw [this]
    rfl
theorem nt_start {s : ByteArray} {cnt q : Nat} {lf : Bool} (hl : lf = decide (byt s 0 = 108)) (hr : rdV s 1 = some (cnt, q)) : NTry s cnt ⟨lf, [], [], []⟩ q := fun m hm => by
  obtain ⟨h1, h2, h3⟩ := isIn_head hm
  rw [hr] at h3
  simp only [Option.some.injEq, Prod.mk.injEq] at h3
  obtain ⟨rfl, rfl⟩ := h3
  have hml : m.lf = lf := by
    rw [hl, h2]
    cases m.lf <;> rfl
  exact ⟨rfl, ⟨hml, ⟨_, rfl⟩, ⟨_, rfl⟩, ⟨_, rfl⟩⟩, by rw [hml]⟩
theorem nt_novar {s : ByteArray} (hr : rdV s 1 = none) : ∀ m, ¬ IsIn s m := fun m hm => by
  have h3 := (isIn_head hm).2.2
  rw [hr] at h3
  cases h3
theorem nt_nohead {s : ByteArray} (h1 : byt s 0 ≠ 108) (h2 : byt s 0 ≠ 98) : ∀ m, ¬ IsIn s m := fun m hm => by
  have h3 := (isIn_head hm).2.1
  split at h3
  · exact h1 h3
  · exact h2 h3
theorem nt_next {s : ByteArray} {cnt : Nat} {n m : Nd} {p : Nat} (h : NTry s cnt n p) (he : n.even) (hk : n.ks.length < cnt) (hm : IsIn s m) :
    ∃ x, rdS s p = some (x, (n.pre cnt ++ shortB x).size) ∧
      ((n.lf = true ∧ ∃ y, rdS s (n.pre cnt ++ shortB x).size = some (y, ((n.snocV x y).pre cnt).size) ∧ Goes (n.snocV x y) m) ∨
       (n.lf = false ∧ ∃ z : Nat, rdV s (n.pre cnt ++ shortB x).size = some (z, ((n.snocC x z).pre cnt).size) ∧ Goes (n.snocC x z) m)) := by
  obtain ⟨hc, hg, rfl⟩ := h m hm
  have hg' := hg
  obtain ⟨h0, ⟨l, h1⟩, ⟨u, h2⟩, ⟨c, h3⟩⟩ := hg
  obtain ⟨o1, o2, o3, o4⟩ := node_yes hm.1
  have hme := even_ok hm.1
  cases l with
  | nil => rw [List.append_nil] at h1; rw [h1] at hc; omega
  | cons x l =>
    have hx24 : x.size ≤ 20000 := by
      have := key_short (o2 n.ks.length (by rw [h1]; simp))
      rw [h1, getD_here] at this
      omega
    refine ⟨x, ?_⟩
    cases hl : n.lf with
    | true =>
      have hv := (hme.1 (by rw [h0, hl])).1
      cases u with
      | nil => rw [h1, h2, List.append_nil, (he.1 hl).1] at hv; simp at hv
      | cons y u =>
        have hy : y.size ≤ 20000 := by
          have := o3 n.vs.length (by rw [h2]; simp)
          rw [h2, getD_here] at this
          omega
        have hgs : Goes (n.snocV x y) m := ⟨h0, ⟨l, by rw [h1]; simp [Nd.snocV]⟩, ⟨u, by rw [h2]; simp [Nd.snocV]⟩, ⟨c, h3⟩⟩
        obtain ⟨X, hX⟩ := pre_goes hgs (even_snocV he hl x y) cnt (cnt - (n.snocV x y).ks.length)
        have hlen : (n.snocV x y).ks.length + (cnt - (n.snocV x y).ks.length) = cnt := by simp [Nd.snocV]; omega
        rw [hlen] at hX
        have hs : s = (n.snocV x y).pre cnt ++ X := by rw [← hm.2, nodeB, hc]; exact hX
        rw [pre_snocV he hl] at hs
        refine ⟨rdS_at s (n.pre cnt) x (shortB y ++ X) hx24 (by rw [hs]; simp only [ByteArray.append_assoc]), Or.inl ⟨rfl, y, ?_, hgs⟩⟩
        rw [pre_snocV he hl]
        exact rdS_at s (n.pre cnt ++ shortB x) y X hy hs
    | false =>
      have hv := (hme.2 (by rw [h0, hl])).1
      cases c with
      | nil => rw [h1, h3, List.append_nil, (he.2 hl).1] at hv; simp at hv
      | cons z c =>
        have hz := kid_page (o4 n.cs.length (by rw [h3]; simp))
        rw [h3, getD_here] at hz
        obtain ⟨k, rfl⟩ := Int.eq_ofNat_of_zero_le (show 0 ≤ z by omega)
        have hgs : Goes (n.snocC x k) m := ⟨h0, ⟨l, by rw [h1]; simp [Nd.snocC]⟩, ⟨u, h2⟩, ⟨c, by rw [h3]; simp [Nd.snocC]⟩⟩
        obtain ⟨X, hX⟩ := pre_goes hgs (even_snocC he hl x k) cnt (cnt - (n.snocC x k).ks.length)
        have hlen : (n.snocC x k).ks.length + (cnt - (n.snocC x k).ks.length) = cnt := by simp [Nd.snocC]; omega
        rw [hlen] at hX
        have hs : s = (n.snocC x k).pre cnt ++ X := by rw [← hm.2, nodeB, hc]; exact hX
        rw [pre_snocC he hl] at hs
        refine ⟨rdS_at s (n.pre cnt) x (⟨(vtext k).toArray⟩ ++ X) hx24 (by rw [hs]; simp only [ByteArray.append_assoc]), Or.inr ⟨rfl, k, ?_, hgs⟩⟩
        rw [pre_snocC he hl]
        exact rdV_at s (n.pre cnt ++ shortB x) X k (by omega) hs
theorem nt_nokey {s : ByteArray} {cnt : Nat} {n : Nd} {p : Nat} (h : NTry s cnt n p) (he : n.even) (hk : n.ks.length < cnt) (hr : rdS s p = none) : ∀ m, ¬ IsIn s m := fun m hm => by
  obtain ⟨x, h1, -⟩ := nt_next h he hk hm
  rw [hr] at h1
  cases h1
theorem nt_noval {s : ByteArray} {cnt : Nat} {n : Nd} {p q : Nat} {x : ByteArray} (h : NTry s cnt n p) (he : n.even) (hk : n.ks.length < cnt) (hl : n.lf = true) (hr : rdS s p = some (x, q)) (hr2 : rdS s q = none) : ∀ m, ¬ IsIn s m := fun m hm => by
  obtain ⟨x', h1, ⟨-, y, h2, -⟩ | ⟨h2, -⟩⟩ := nt_next h he hk hm
  · rw [hr] at h1
    simp only [Option.some.injEq, Prod.mk.injEq] at h1
    rw [← h1.2, hr2] at h2
    cases h2
  · rw [hl] at h2; cases h2
theorem nt_nokid {s : ByteArray} {cnt : Nat} {n : Nd} {p q : Nat} {x : ByteArray} (h : NTry s cnt n p) (he : n.even) (hk : n.ks.length < cnt) (hl : n.lf = false) (hr : rdS s p = some (x, q)) (hr2 : rdV s q = none) : ∀ m, ¬ IsIn s m := fun m hm => by
  obtain ⟨x', h1, ⟨h2, -⟩ | ⟨-, z, h2, -⟩⟩ := nt_next h he hk hm
  · rw [hl] at h2; cases h2
  · rw [hr] at h1
    simp only [Option.some.injEq, Prod.mk.injEq] at h1
    rw [← h1.2, hr2] at h2
    cases h2
theorem nt_val {s : ByteArray} {cnt : Nat} {n : Nd} {p q r : Nat} {x y : ByteArray} (h : NTry s cnt n p) (he : n.even) (hk : n.ks.length < cnt) (hl : n.lf = true) (hr : rdS s p = some (x, q)) (hr2 : rdS s q = some (y, r)) : NTry s cnt (n.snocV x y) r := fun m hm => by
  obtain ⟨x', h1, ⟨-, y', h2, h3⟩ | ⟨h2, -⟩⟩ := nt_next h he hk hm
  · rw [hr] at h1
    simp only [Option.some.injEq, Prod.mk.injEq] at h1
    obtain ⟨rfl, h1⟩ := h1
    rw [← h1, hr2] at h2
    simp only [Option.some.injEq, Prod.mk.injEq] at h2
    obtain ⟨rfl, h2⟩ := h2
    exact ⟨(h m hm).1, h3, h2⟩
  · rw [hl] at h2; cases h2
theorem nt_kid {s : ByteArray} {cnt : Nat} {n : Nd} {p q r z : Nat} {x : ByteArray} (h : NTry s cnt n p) (he : n.even) (hk : n.ks.length < cnt) (hl : n.lf = false) (hr : rdS s p = some (x, q)) (hr2 : rdV s q = some (z, r)) : NTry s cnt (n.snocC x z) r := fun m hm => by
  obtain ⟨x', h1, ⟨h2, -⟩ | ⟨-, z', h2, h3⟩⟩ := nt_next h he hk hm
  · rw [hl] at h2; cases h2
  · rw [hr] at h1
    simp only [Option.some.injEq, Prod.mk.injEq] at h1
    obtain ⟨rfl, h1⟩ := h1
    rw [← h1, hr2] at h2
    simp only [Option.some.injEq, Prod.mk.injEq] at h2
    obtain ⟨rfl, h2⟩ := h2
    exact ⟨(h m hm).1, h3, h2⟩
theorem nt_end {s : ByteArray} {cnt : Nat} {n : Nd} {p : Nat} (h : NTry s cnt n p) (he : n.even) (hk : cnt ≤ n.ks.length) : ∀ m, IsIn s m → m = n ∧ p = s.size := fun m hm => by
  obtain ⟨hc, ⟨h0, ⟨l, h1⟩, ⟨u, h2⟩, ⟨c, h3⟩⟩, rfl⟩ := h m hm
  have hme := even_ok hm.1
  have hl : l = [] := List.eq_nil_of_length_eq_zero (by rw [h1, List.length_append] at hc; omega)
  subst hl
  rw [List.append_nil] at h1
  have hu : u = [] := List.eq_nil_of_length_eq_zero (by
    cases hl : n.lf with
    | true => have a := (hme.1 (by rw [h0, hl])).1; have b := (he.1 hl).1; rw [h2, h1, List.length_append] at a; omega
    | false => have a := (hme.2 (by rw [h0, hl])).2; rw [h2] at a; simp at a; rw [a.2]; rfl)
  have hcc : c = [] := List.eq_nil_of_length_eq_zero (by
    cases hl : n.lf with
    | true => have a := (hme.1 (by rw [h0, hl])).2; rw [h3] at a; simp at a; rw [a.2]; rfl
    | false => have a := (hme.2 (by rw [h0, hl])).1; have b := (he.2 hl).1; rw [h3, h1, List.length_append] at a; omega)
  subst hu hcc
  rw [List.append_nil] at h2 h3
  obtain ⟨mlf, mks, mvs, mcs⟩ := m
  obtain ⟨nlf, nks, nvs, ncs⟩ := n
  simp only at h0 h1 h2 h3 hc
  subst h0 h1 h2 h3
  refine ⟨rfl, ?_⟩
  rw [← hm.2, nodeB, ← hc, Nd.pre]
theorem nt_cnt {s : ByteArray} {cnt : Nat} {n : Nd} {p : Nat} (h : NTry s cnt n p) (hk : 4 < cnt) : ∀ m, ¬ IsIn s m := fun m hm => by
  have h1 := (h m hm).1
  have h2 := (cnt_yes (node_yes hm.1).1).2.1
  omega
def NHas (s : ByteArray) (cnt : Nat) (n : Nd) (p : Nat) : Prop := p ≤ s.size ∧ n.pre cnt = s.extract 0 p
theorem nh_start {s : ByteArray} {cnt q : Nat} {lf : Bool} (hl : byt s 0 = if lf = true then 108 else 98) (hr : rdV s 1 = some (cnt, q)) : NHas s cnt ⟨lf, [], [], []⟩ q := by
  obtain ⟨h1, h2, h3, h4⟩ := rdV_back hr
  refine ⟨h2, ?_⟩
  rw [extract_two s 0 1 q (by omega) (by omega), h4]
  have : s.extract 0 1 = headB lf := by
    have h := extract_bytes s 0 1 (by omega)
    apply ByteArray.ext
    apply Array.toList_inj.1
    rw [h]
    have e : bytesTo (fun i => byt s (0 + i)) 1 = [UInt8.ofNat (byt s 0)] := rfl
    rw [e, hl]
    cases lf <;> rfl
  rw [this]
  rfl
theorem nh_val {s : ByteArray} {cnt : Nat} {n : Nd} {p q r : Nat} {x y : ByteArray} (h : NHas s cnt n p) (he : n.even) (hl : n.lf = true) (hr : rdS s p = some (x, q)) (hr2 : rdS s q = some (y, r)) : NHas s cnt (n.snocV x y) r := by
  obtain ⟨a1, a2, a3, a4⟩ := rdS_back hr
  obtain ⟨b1, b2, b3, b4⟩ := rdS_back hr2
  refine ⟨b2, ?_⟩
  rw [pre_snocV he hl, h.2, ← a4, ← b4, ← extract_two s 0 p q (by omega) (by omega), ← extract_two s 0 q r (by omega) (by omega)]
theorem nh_kid {s : ByteArray} {cnt : Nat} {n : Nd} {p q r z : Nat} {x : ByteArray} (h : NHas s cnt n p) (he : n.even) (hl : n.lf = false) (hr : rdS s p = some (x, q)) (hr2 : rdV s q = some (z, r)) : NHas s cnt (n.snocC x z) r := by
  obtain ⟨a1, a2, a3, a4⟩ := rdS_back hr
  obtain ⟨b1, b2, b3, b4⟩ := rdV_back hr2
  refine ⟨b2, ?_⟩
  rw [pre_snocC he hl, h.2, ← a4, ← b4, ← extract_two s 0 p q (by omega) (by omega), ← extract_two s 0 q r (by omega) (by omega)]
theorem extract_all (t : ByteArray) (p : Nat) (h : t.size ≤ p) : t.extract 0 p = t := by
  apply ByteArray.ext
  apply Array.toList_inj.1
  rw [Lib.extract_data, List.drop_zero, List.take_of_length_le (by rw [ba_len]; omega)]
theorem nh_end {s : ByteArray} {n : Nd} {p : Nat} (h : NHas s n.ks.length n p) (hp : p = s.size) (ho : n.ok = true) : IsIn s n := by
  refine ⟨ho, ?_⟩
  have := h.2
  rw [hp, extract_all s s.size (Nat.le_refl _)] at this
  exact this
def ReadN (t : ByteArray) (n : Nd) (ok : Bool) : Prop := (ok = true ∧ IsNd t n ∧ ∀ m, IsNd t m → m = n) ∨ (ok = false ∧ n = Nd.none ∧ ∀ m, ¬ IsNd t m)
open Classical in
noncomputable def rdN (t : ByteArray) : Nd × Bool := if h : ∃ n, IsNd t n then (Classical.choose h, true) else (Nd.none, false)
theorem rdN_of {t : ByteArray} {n : Nd} {ok : Bool} (h : ReadN t n ok) : rdN t = (n, ok) := by
  unfold rdN
  rcases h with ⟨rfl, h1, h2⟩ | ⟨rfl, rfl, h2⟩
  · have hx : ∃ n, IsNd t n := ⟨n, h1⟩
    rw [dif_pos hx, h2 _ (Classical.choose_spec hx)]
  · rw [dif_neg (fun ⟨m, hm⟩ => h2 m hm)]
theorem rdN_ok {t : ByteArray} {n : Nd} (h : rdN t = (n, true)) : n.ok = true := by
  unfold rdN at h
  split at h
  · rename_i hx
    injection h with h1 h2
    rw [← h1]
    exact (Classical.choose_spec hx).1
  · injection h with h1 h2
    cases h2
structure Vis where
  page : Int
  nd : Nd
  way : List (Nd × Nat)
def kidsL (f : Int → List (Nd × Nat) → List Int → List Vis × Option (List Int)) (n : Nd) (way : List (Nd × Nat)) (seen : List Int) : Nat → List Vis × Option (List Int)
  | 0 => ([], some seen)
  | i + 1 =>
    match kidsL f n way seen i with
    | (vs, none) => (vs, none)
    | (vs, some s) => (vs ++ (f (n.cs.getD i 0) (way ++ [(n, i)]) s).1, (f (n.cs.getD i 0) (way ++ [(n, i)]) s).2)
def downL (R : Int → Nd × Bool) : Nat → Int → List (Nd × Nat) → List Int → List Vis × Option (List Int)
  | 0, _, _, _ => ([], none)
  | k + 1, p, way, seen =>
    if (R p).2 = false ∨ p ∈ seen then ([], none)
    else (⟨p, (R p).1, way⟩ :: (kidsL (downL R k) (R p).1 way (seen ++ [p]) (R p).1.cs.length).1, (kidsL (downL R k) (R p).1 way (seen ++ [p]) (R p).1.cs.length).2)
theorem kidsL_succ_some {f : Int → List (Nd × Nat) → List Int → List Vis × Option (List Int)} {n : Nd} {way : List (Nd × Nat)} {seen s : List Int} {i : Nat} (h : (kidsL f n way seen i).2 = some s) :
    kidsL f n way seen (i + 1) = ((kidsL f n way seen i).1 ++ (f (n.cs.getD i 0) (way ++ [(n, i)]) s).1, (f (n.cs.getD i 0) (way ++ [(n, i)]) s).2) := by
  rw [kidsL]
  generalize kidsL f n way seen i = r at h ⊢
  obtain ⟨vs, o⟩ := r
  simp only at h
  subst h
  rfl
theorem kidsL_succ_none {f : Int → List (Nd × Nat) → List Int → List Vis × Option (List Int)} {n : Nd} {way : List (Nd × Nat)} {seen : List Int} {i : Nat} (h : (kidsL f n way seen i).2 = none) :
    kidsL f n way seen (i + 1) = kidsL f n way seen i := by
  rw [kidsL]
  generalize kidsL f n way seen i = r at h ⊢
  obtain ⟨vs, o⟩ := r
  simp only at h
  subst h
  rfl
theorem kidsL_none {f : Int → List (Nd × Nat) → List Int → List Vis × Option (List Int)} {n : Nd} {way : List (Nd × Nat)} {seen : List Int} {i : Nat} (h : (kidsL f n way seen i).2 = none) : ∀ d, kidsL f n way seen (i + d) = kidsL f n way seen i
  | 0 => rfl
  | d + 1 => by
    have h2 := kidsL_none h d
    rw [Nat.add_succ, kidsL_succ_none (by rw [h2]; exact h), h2]
structure Al where
  pairs : List (ByteArray × ByteArray)
  pages : List Int
  depths : List Int
  bad : Bool
  loose : Bool
def Al.none : Al := ⟨[], [], [], false, false⟩
def lessB (x y : ByteArray) : Bool := Op.bytesLess x.toList y.toList
def leastB (n : Nd) (i : Nat) (low : ByteArray) : ByteArray := if lessB low (n.ks.getD i ⟨#[]⟩) = true then n.ks.getD i ⟨#[]⟩ else low
def nearB (n : Nd) (i : Nat) (high : ByteArray) (has : Bool) : Bool := decide (i + 1 < n.ks.length) && (!has || lessB (n.ks.getD (i + 1) ⟨#[]⟩) high)
def nextB (n : Nd) (i : Nat) (high : ByteArray) (has : Bool) : ByteArray := if nearB n i high has = true then n.ks.getD (i + 1) ⟨#[]⟩ else high
def moreB (n : Nd) (i : Nat) (high : ByteArray) (has : Bool) : Bool := if nearB n i high has = true then true else has
def outB (k low high : ByteArray) (has : Bool) : Bool := lessB k low || (has && !lessB k high)
def stepS (f : Int → Nat → ByteArray → ByteArray → Bool → Al → Al) (n : Nd) (deep : Nat) (low high : ByteArray) (has : Bool) (i : Nat) (a : Al) : Al :=
  if n.lf = true then { a with loose := a.loose || outB (n.ks.getD i ⟨#[]⟩) low high has, pairs := a.pairs ++ [(n.ks.getD i ⟨#[]⟩, n.vs.getD i ⟨#[]⟩)] }
  else f (n.cs.getD i 0) (deep + 1) (leastB n i low) (nextB n i high has) (moreB n i high has) a
def loopS (f : Int → Nat → ByteArray → ByteArray → Bool → Al → Al) (n : Nd) (deep : Nat) (low high : ByteArray) (has : Bool) (a : Al) : Nat → Al
  | 0 => a
  | i + 1 => stepS f n deep low high has i (loopS f n deep low high has a i)
def walkS (R : Int → Nd × Bool) : Nat → Int → Nat → ByteArray → ByteArray → Bool → Al → Al
  | 0, _, _, _, _, _, a => { a with bad := true }
  | k + 1, p, deep, low, high, has, a =>
    if (R p).2 = false ∨ p ∈ a.pages ∨ a.bad = true then { a with bad := true }
    else if (R p).1.lf = true then { (loopS (walkS R k) (R p).1 deep low high has { a with pages := a.pages ++ [p] } (R p).1.ks.length) with depths := (loopS (walkS R k) (R p).1 deep low high has { a with pages := a.pages ++ [p] } (R p).1.ks.length).depths ++ [(deep : Int)] }
    else loopS (walkS R k) (R p).1 deep low high has { a with pages := a.pages ++ [p] } (R p).1.ks.length
theorem walkS_bad (R : Int → Nd × Bool) (k : Nat) (p : Int) (deep : Nat) (low high : ByteArray) (has : Bool) (a : Al) (h : a.bad = true) : walkS R k p deep low high has a = a := by
  cases a
  simp only at h
  subst h
  cases k with
  | zero => rfl
  | succ k => rw [walkS, if_pos (Or.inr (Or.inr rfl))]
def pairsN (n : Nd) : List (ByteArray × ByteArray) := (List.range n.vs.length).map fun i => (n.ks.getD i ⟨#[]⟩, n.vs.getD i ⟨#[]⟩)
def pairsV (l : List Vis) : List (ByteArray × ByteArray) := l.flatMap fun v => pairsN v.nd
def pagesV (l : List Vis) : List Int := l.map Vis.page
def Right (R : Int → Nd × Bool) : Prop := ∀ p, (R p).2 = true → (R p).1.ok = true
theorem loopS_leaf (f : Int → Nat → ByteArray → ByteArray → Bool → Al → Al) (n : Nd) (hl : n.lf = true) (deep : Nat) (low high : ByteArray) (has : Bool) (a : Al) : ∀ i,
    (loopS f n deep low high has a i).bad = a.bad ∧ (loopS f n deep low high has a i).pages = a.pages ∧ (loopS f n deep low high has a i).depths = a.depths ∧
    (loopS f n deep low high has a i).pairs = a.pairs ++ (List.range i).map (fun i => (n.ks.getD i ⟨#[]⟩, n.vs.getD i ⟨#[]⟩))
  | 0 => by simp [loopS]
  | i + 1 => by
    obtain ⟨h1, h2, h3, h4⟩ := loopS_leaf f n hl deep low high has a i
    rw [loopS, stepS, if_pos hl]
    refine ⟨h1, h2, h3, ?_⟩
    simp only
    rw [h4, List.range_succ, List.map_append, List.append_assoc]
    rfl
theorem both_walk (R : Int → Nd × Bool) (hR : Right R) : ∀ (k : Nat) (p : Int) (way : List (Nd × Nat)) (deep : Nat) (low high : ByteArray) (has : Bool) (a : Al), a.bad = false →
    ((downL R k p way a.pages).2 = none → (walkS R k p deep low high has a).bad = true) ∧
    (∀ s, (downL R k p way a.pages).2 = some s → (walkS R k p deep low high has a).bad = false ∧ (walkS R k p deep low high has a).pages = s ∧ s = a.pages ++ pagesV (downL R k p way a.pages).1 ∧ (walkS R k p deep low high has a).pairs = a.pairs ++ pairsV (downL R k p way a.pages).1)
  | 0, p, way, deep, low, high, has, a, h => by
    refine ⟨fun _ => rfl, fun s hs => ?_⟩
    rw [downL] at hs
    cases hs
  | k + 1, p, way, deep, low, high, has, a, h => by
    by_cases hb : (R p).2 = false ∨ p ∈ a.pages
    · rw [downL, if_pos hb, walkS, if_pos (by rcases hb with hb | hb; exact Or.inl hb; exact Or.inr (Or.inl hb))]
      exact ⟨fun _ => rfl, fun s hs => by cases hs⟩
    · rw [downL, if_neg hb, walkS, if_neg (fun hh => by rcases hh with hh | hh | hh; exact hb (Or.inl hh); exact hb (Or.inr hh); rw [h] at hh; cases hh)]
      have hok : (R p).1.ok = true := hR p (by cases hc : (R p).2; exact absurd (Or.inl hc) hb; rfl)
      obtain ⟨n, hn⟩ : ∃ n, n = (R p).1 := ⟨_, rfl⟩
      rw [← hn] at hok ⊢
      obtain ⟨he1, he2⟩ := even_ok hok
      cases hlf : n.lf with
      | true =>
        obtain ⟨e1, e2⟩ := he1 hlf
        rw [if_pos rfl, e2, List.length_nil, kidsL]
        obtain ⟨h1, h2, h3, h4⟩ := loopS_leaf (walkS R k) n hlf deep low high has { a with pages := a.pages ++ [p] } n.ks.length
        refine ⟨fun hh => (by cases hh), fun s hs => ?_⟩
        injection hs with hs
        refine ⟨h1.trans h, h2.trans hs, ?_, ?_⟩
        · rw [← hs]
          rfl
        · simp only
          rw [h4, pairsV]
          simp only [List.flatMap_cons, List.flatMap_nil, List.append_nil, pairsN, e1]
      | false =>
        obtain ⟨e1, e2⟩ := he2 hlf
        rw [if_neg (by decide)]
        obtain ⟨b, hbb⟩ : ∃ b : Al, b = { a with pages := a.pages ++ [p] } := ⟨_, rfl⟩
        have hb1 : b.bad = false := by rw [hbb]; exact h
        have hb2 : b.pages = a.pages ++ [p] := by rw [hbb]
        have hb3 : b.pairs = a.pairs := by rw [hbb]
        rw [← hbb, ← hb2]
        have key : ∀ i, ((kidsL (downL R k) n way b.pages i).2 = none → (loopS (walkS R k) n deep low high has b i).bad = true) ∧
            (∀ s, (kidsL (downL R k) n way b.pages i).2 = some s → (loopS (walkS R k) n deep low high has b i).bad = false ∧ (loopS (walkS R k) n deep low high has b i).pages = s ∧ s = b.pages ++ pagesV (kidsL (downL R k) n way b.pages i).1 ∧ (loopS (walkS R k) n deep low high has b i).pairs = b.pairs ++ pairsV (kidsL (downL R k) n way b.pages i).1) := by
          intro i
          induction i with
          | zero =>
            refine ⟨fun hh => (by cases hh), fun s hs => ?_⟩
            injection hs with hs
            refine ⟨hb1, hs, ?_, ?_⟩
            · rw [← hs]; simp [kidsL, pagesV]
            · simp [kidsL, pairsV, loopS]
          | succ i ih =>
            rw [loopS, stepS, if_neg (by rw [hlf]; decide)]
            cases hk : (kidsL (downL R k) n way b.pages i).2 with
            | none =>
              rw [kidsL_succ_none hk]
              have hbad := ih.1 hk
              rw [walkS_bad _ _ _ _ _ _ _ _ hbad]
              exact ⟨fun _ => hbad, fun s hs => by rw [hk] at hs; cases hs⟩
            | some s0 =>
              obtain ⟨i1, i2, i3, i4⟩ := ih.2 s0 hk
              rw [kidsL_succ_some hk]
              have hrec := both_walk R hR k (n.cs.getD i 0) (way ++ [(n, i)]) (deep + 1) (leastB n i low) (nextB n i high has) (moreB n i high has) (loopS (walkS R k) n deep low high has b i) i1
              rw [i2] at hrec
              refine ⟨hrec.1, fun s hs => ?_⟩
              obtain ⟨r1, r2, r3, r4⟩ := hrec.2 s hs
              refine ⟨r1, r2, ?_, ?_⟩
              · refine r3.trans ((congrArg (fun l => l ++ pagesV _) i3).trans ?_)
                simp only [pagesV, List.map_append, List.append_assoc]
              · rw [r4, i4]
                simp only [pairsV, List.flatMap_append, List.append_assoc]
        obtain ⟨k1, k2⟩ := key n.ks.length
        rw [e1]
        refine ⟨k1, fun s hs => ?_⟩
        obtain ⟨r1, r2, r3, r4⟩ := k2 s hs
        refine ⟨r1, r2, ?_, ?_⟩
        · rw [r3, hb2]
          simp only [pagesV, List.map_cons, List.append_assoc, List.singleton_append]
        · rw [r4, hb3]
          simp only [pairsV, List.flatMap_cons, pairsN, e2, List.length_nil, List.range_zero, List.map_nil, List.nil_append]
def seenI (R : Int → Nd × Bool) (root : Int) : List Vis × Bool := if root = 0 then ([], true) else ((downL R 8 root [] []).1, (downL R 8 root [] []).2.isSome)
def seenS (R : Int → Nd × Bool) (root : Int) : Al := if root = 0 then Al.none else walkS R 8 root 0 ⟨#[]⟩ ⟨#[]⟩ false Al.none
def allI (R : Int → Nd × Bool) (root : Int) : List (ByteArray × ByteArray) × Bool := if (seenI R root).2 = true then (pairsV (seenI R root).1, true) else ([], false)
def allS (R : Int → Nd × Bool) (root : Int) : List (ByteArray × ByteArray) × Bool := if (seenS R root).bad = true then ([], false) else ((seenS R root).pairs, true)
theorem both_seen (R : Int → Nd × Bool) (hR : Right R) (root : Int) : (seenS R root).bad = !(seenI R root).2 ∧ ((seenI R root).2 = true → (seenS R root).pages = pagesV (seenI R root).1 ∧ (seenS R root).pairs = pairsV (seenI R root).1) := by
  unfold seenS seenI
  by_cases h : root = 0
  · rw [if_pos h, if_pos h]
    exact ⟨rfl, fun _ => ⟨rfl, rfl⟩⟩
  · rw [if_neg h, if_neg h]
    obtain ⟨h1, h2⟩ := both_walk R hR 8 root [] 0 ⟨#[]⟩ ⟨#[]⟩ false Al.none rfl
    simp only [Al.none] at h1 h2 ⊢
    cases hd : (downL R 8 root [] []).2 with
    | none => exact ⟨h1 hd, fun hh => by cases hh⟩
    | some s =>
      obtain ⟨r1, r2, r3, r4⟩ := h2 s hd
      refine ⟨r1, fun _ => ⟨?_, ?_⟩⟩
      · rw [r2, r3]; rfl
      · rw [r4]; rfl
theorem both_all (R : Int → Nd × Bool) (hR : Right R) (root : Int) : allI R root = allS R root := by
  obtain ⟨h1, h2⟩ := both_seen R hR root
  unfold allI allS
  cases hi : (seenI R root).2 with
  | true => rw [hi] at h1 h2; rw [if_pos rfl, if_neg (by rw [h1]; decide), (h2 rfl).2]
  | false => rw [hi] at h1; rw [if_neg (by decide), if_pos (by rw [h1]; rfl)]
open Go Go.RowKit
def KeptC (C : Nat → Prop) (W W' : World) : Prop := W'.os = W.os ∧ W'.tape = W.tape ∧ W'.output = W.output ∧ W.heap.size ≤ W'.heap.size ∧ ∀ k, k < W.heap.size → ¬ C k → W'.heap[k]? = W.heap[k]?
theorem keptC_refl (C : Nat → Prop) (W : World) : KeptC C W W := ⟨rfl, rfl, rfl, Nat.le_refl _, fun _ _ _ => rfl⟩
theorem keptC_trans {C C' : Nat → Prop} {A B D : World} (h : KeptC C A B) (k : KeptC C' B D) (hC : ∀ j, C' j → C j ∨ A.heap.size ≤ j) : KeptC C A D :=
  ⟨k.1.trans h.1, k.2.1.trans h.2.1, k.2.2.1.trans h.2.2.1, Nat.le_trans h.2.2.2.1 k.2.2.2.1, fun j hj hn => (k.2.2.2.2 j (Nat.lt_of_lt_of_le hj h.2.2.2.1) (fun hc => by rcases hC j hc with h1 | h1; exact hn h1; omega)).trans (h.2.2.2.2 j hj hn)⟩
theorem keptC_mono {C C' : Nat → Prop} {A B : World} (h : KeptC C A B) (hC : ∀ j, j < A.heap.size → C j → C' j) : KeptC C' A B :=
  ⟨h.1, h.2.1, h.2.2.1, h.2.2.2.1, fun j hj hn => h.2.2.2.2 j hj (fun hc => hn (hC j hj hc))⟩
theorem keptC_below {C : Nat → Prop} {A B : World} {n0 : Nat} (h : KeptC C A B) (hC : ∀ k, C k → n0 ≤ k) (hn : n0 ≤ A.heap.size) : Below n0 A B :=
  ⟨h.1, h.2.1, h.2.2.1, h.2.2.2.1, fun k hk => h.2.2.2.2 k (by omega) (fun hc => by have := hC k hc; omega)⟩
theorem keptC_of_below {C : Nat → Prop} {A B : World} (h : Below A.heap.size A B) : KeptC C A B :=
  ⟨h.os, h.tape, h.output, h.size, fun k hk _ => h.block k hk⟩
theorem keptC_alloc (C : Nat → Prop) (W : World) (o : Obj) : KeptC C W (W.alloc o) := keptC_of_below ((Below.refl _ W).alloc (Nat.le_refl _) _)
theorem keptC_putObj {C : Nat → Prop} (W : World) {l : Nat} (o : Obj) (hl : C l) : KeptC C W (W.putObj l o) :=
  ⟨rfl, rfl, rfl, by simp, fun k _ hn => World.putObj_heap_other (fun e => hn (e ▸ hl))⟩
theorem keptC_setCell {C : Nat → Prop} (W : World) {b : Nat} (j : Nat) (v : Value) (hl : C b) : KeptC C W (W.setCell ⟨b, j, none⟩ v) :=
  ⟨rfl, rfl, rfl, (KeepsWalks.setCell W _ v).size, fun k _ hn => Below.heap_setCell _ _ _ k (fun e => hn (by rw [e]; exact hl))⟩
def sepPost {α : Type} (I : List α → (Nat → Prop) → World → Prop) (Ix : Code → List α → (Nat → Prop) → World → Prop) (xs : List α) (C : Nat → Prop) (W : World) : Exit → Act → World → Prop
  | .normal, _, W' => ∃ C', KeptC C W W' ∧ (∀ k, C' k → C k ∨ W.heap.size ≤ k) ∧ I xs C' W'
  | .ret, _, W' => ∃ C', KeptC C W W' ∧ (∀ k, C' k → C k ∨ W.heap.size ≤ k) ∧ Ix .ret xs C' W'
  | .exit _, _, _ => False
  | .goto _, _, _ => False
  | .panic _, _, _ => False
  | .outgrown, _, _ => False
end Go.Proofs.YtdbpbhemnnffeaaGreatDoor
