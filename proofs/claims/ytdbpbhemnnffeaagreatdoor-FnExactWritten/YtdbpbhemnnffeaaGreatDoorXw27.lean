/-
  Facts and contracts that the law's own text rests on, by their texts' names: RoundAny, AllImpl, AllPlain2, Plain17, PlaceFacts.
-/
import Derived.ControlIn
import Derived.Orders
import Derived.OrdersHeld
import Derived.OrdersIn
import Derived.OwnWalkIn
import Derived.Test.YtdbpbhemnnffeaaGreatDoorXw4
import Derived.Test.YtdbpbhemnnffeaaGreatDoorXw26
namespace Go.Proofs.YtdbpbhemnnffeaaGreatDoor
open Go
theorem uponIn_of_upon {l n : Nat} {P : Program} {o : Oper} {a : Act} {K K' : Act → World → Prop} {Q : Exit → Act → World → Prop} (hK : ∀ a w, K a w → K' a w) : ∀ r : Result Next, o.upon P a K Q r → o.uponIn (Fence.wide.inRound l) n P a K' Q r := by
  intro r h
  cases r with
  | ok v w =>
    cases v with
    | value v => exact hK _ _ h
    | skip => exact hK _ _ h
    | defer d => exact hK _ _ h
    | enter f args =>
      refine ⟨fun e => by simp [Fence.wide] at e, CallsIn.inRound l (callsIn_wide.2 (Calls.mono h ?_))⟩
      intro e w' h'
      cases e with
      | returned v => exact hK _ _ h'
      | panicked c => exact h'
      | outgrown => exact h'
    | row row args =>
      refine ⟨fun e => by simp [Fence.wide] at e, fun c cs _ => ?_⟩
      obtain ⟨v, w', r, st⟩ := h c cs
      exact ⟨v, w', hK _ _ r, stepsIn_wide.2 st⟩
    | round l f tmps assign body => exact h.elim
    | _ => exact h.elim
  | halt hh w =>
    cases hh with
    | panic v => exact h
    | _ => exact h.elim
theorem wpAnyIn_of_wpAny {l n : Nat} {P : Program} {md : Region.Mode} {ops : Array Oper} {Q : Exit → Act → World → Prop} (hno : ¬ LetsOut Q) (hnd : ∀ (i : Nat) (o : Oper), ops[i]? = some o → ∀ c, o.op ≠ .defer c) :
    ∀ (fuel : Nat) (listed : Array Bool) (a : Act) (w : World), wpAny P md ops Q fuel listed a w → wpAnyIn (Fence.wide.inRound l) n P md ops Q fuel listed a w
  | 0, listed, a, w, h => h
  | fuel + 1, listed, a, w, h => by
    refine ⟨h.1, fun i hi => ?_⟩
    have h2 := h.2 i hi
    unfold wpOp at h2
    unfold wpOpIn
    cases ho : ops[i]? with
    | none => rw [ho] at h2; exact wpAnyIn_of_wpAny hno hnd fuel _ _ _ h2
    | some o =>
      rw [ho] at h2
      simp only at h2 ⊢
      split at h2
      · rename_i hw
        rw [if_pos hw]
        rcases h2 with h2 | h2
        · refine ⟨fun _ _ => trivial, ?_⟩
          rw [Oper.semAt_plain _ _ _ (hnd i o ho)]
          exact uponIn_of_upon (fun a w h => wpAnyIn_of_wpAny hno hnd fuel _ a w h) _ h2
        · exact (hno h2.2).elim
      · rename_i hw
        rw [if_neg hw]
        exact ⟨fun _ _ => trivial, wpAnyIn_of_wpAny hno hnd fuel _ _ _ h2⟩
theorem region_round {l n id : Nat} {P : Program} {ops : Array Oper} {Q : Exit → Act → World → Prop} {S : World → Prop} {a : Act} {w : World} (hm : P.follows .mixedOrders = true) (hno : ¬ LetsOut Q) (hnd : ∀ (i : Nat) (o : Oper), ops[i]? = some o → ∀ c, o.op ≠ .defer c) (hS : S w.drew)
    (h : S w.drew → wpAnyH P .any ops Q S ops.size (Array.replicate ops.size false) a w.drew) : (Code.region id ops true).wpIn (Fence.wide.inRound l) n P Q a w :=
  wpIn_region_any hm (wpAnyIn_of_wpAny hno hnd _ _ _ _ (wpAny_of_held _ _ _ _ (h hS)))
open Go.RowKit Go.Shelf
attribute [local go_sem] Oper.semAt_some
def APs (w W : World) (vr : Value) (L : List (ByteArray × ByteArray)) : Prop :=
  (∃ v, W.heap[w.heap.size + 1]? = some (.cells #[v] 56 (0, 0))) ∧ W.heap[w.heap.size + 2]? = some (.cells #[.bool false] 4 (0, 0)) ∧ W.heap[w.heap.size + 4]? = some (.cells #[vr] 56 (0, 0)) ∧ W.ownsRow w.heap.size 101 2 vr L.length (prs L)
def APC (w : World) (vr : Value) (k : Nat) : Prop := k = w.heap.size + 1 ∨ k = w.heap.size + 2 ∨ k = w.heap.size + 4 ∨ vr.ownBlock = some k
def API (w : World) (pre : List Ev) (C : Nat → Prop) (W : World) : Prop := (∀ x ∈ pre, x.ok = true) ∧ ∃ vr, (∀ k, APC w vr k → C k) ∧ (∀ k, C k → w.heap.size ≤ k ∧ k < W.heap.size) ∧ APs w W vr (pairsV (pre.map Ev.vis))
def APX (w : World) (c : Code) (pre : List Ev) (C : Nat → Prop) (W : World) : Prop :=
  c = .ret ∧ (∃ pr x, pre = pr ++ [x] ∧ x.ok = false) ∧ ∃ v, W.heap[w.heap.size + 1]? = some (.cells #[v] 56 (0, 0)) ∧ W.heap[w.heap.size + 2]? = some (.cells #[.bool false] 4 (0, 0)) ∧ W.ownsRow w.heap.size 101 2 v 0 [] ∧ (∀ k, (k = w.heap.size + 1 ∨ k = w.heap.size + 2 ∨ v.ownBlock = some k) → C k)
theorem apc_lt {w W : World} {vr : Value} {L : List (ByteArray × ByteArray)} (h : APs w W vr L) : ∀ k, APC w vr k → w.heap.size ≤ k ∧ k < W.heap.size := by
  obtain ⟨⟨v, h1⟩, h2, h3, h4⟩ := h
  rintro k (rfl | rfl | rfl | hk)
  · exact ⟨by omega, (Array.getElem?_eq_some_iff.1 h1).1⟩
  · exact ⟨by omega, (Array.getElem?_eq_some_iff.1 h2).1⟩
  · exact ⟨by omega, (Array.getElem?_eq_some_iff.1 h3).1⟩
  · exact h4.lt k hk
theorem aps_kept {w A B : World} {vr : Value} {L : List (ByteArray × ByteArray)} (h : APs w A vr L) (hk : KeptC (fun k => ¬ APC w vr k) A B) : APs w B vr L := by
  have hlt := apc_lt h
  obtain ⟨⟨v, h1⟩, h2, h3, h4⟩ := h
  have key : ∀ k, APC w vr k → B.heap[k]? = A.heap[k]? := fun k hc => hk.2.2.2.2 k (hlt k hc).2 (fun hn => hn hc)
  exact ⟨⟨v, (key _ (Or.inl rfl)).trans h1⟩, (key _ (Or.inr (Or.inl rfl))).trans h2, (key _ (Or.inr (Or.inr (Or.inl rfl)))).trans h3, own_kept h4 hk (fun k e hn => hn (Or.inr (Or.inr (Or.inr e))))⟩
theorem api_kept {w : World} (pre : List Ev) (C : Nat → Prop) (A B : World) (h : API w pre C A) (hk : KeptC (fun k => ¬ C k) A B) : API w pre C B := by
  obtain ⟨h1, vr, hc, hn, h2⟩ := h
  exact ⟨h1, vr, hc, fun k h => ⟨(hn k h).1, Nat.lt_of_lt_of_le (hn k h).2 hk.2.2.2.1⟩, aps_kept h2 (keptC_mono hk (fun j _ h hx => h (hc j hx)))⟩
theorem api_lt {w : World} (pre : List Ev) (C : Nat → Prop) (A : World) (h : API w pre C A) : ∀ k, C k → w.heap.size ≤ k ∧ k < A.heap.size := by
  obtain ⟨h1, vr, hc, hn, h2⟩ := h
  exact hn
theorem apx_kept {w : World} (c : Code) (pre : List Ev) (C : Nat → Prop) (A B : World) (h : APX w c pre C A) (hk : KeptC (fun k => ¬ C k) A B) : APX w c pre C B := by
  obtain ⟨h0, h1, v, h2, h3, h4, h5⟩ := h
  have key : ∀ k, (k = w.heap.size + 1 ∨ k = w.heap.size + 2 ∨ v.ownBlock = some k) → k < A.heap.size → B.heap[k]? = A.heap[k]? := fun k hc hlt => hk.2.2.2.2 k hlt (fun hn => hn (h5 k hc))
  exact ⟨h0, h1, v, (key _ (Or.inl rfl) (Array.getElem?_eq_some_iff.1 h2).1).trans h2, (key _ (Or.inr (Or.inl rfl)) (Array.getElem?_eq_some_iff.1 h3).1).trans h3, own_kept h4 hk (fun k e hn => hn (h5 k (Or.inr (Or.inr e)))), h5⟩
theorem comes_len (R : Int → Nd × Bool) (root : Int) {pre : List Ev} {t : List (Option Vis)} (h : pre.map Ev.plain ++ t = comes R root) : pre.length ≤ (comes R root).length := by
  rw [← h]
  simp
theorem kids_vis {R : Int → Nd × Bool} {f : Int → List (Nd × Nat) → List Int → List Vis × Option (List Int)} (hf : ∀ p way s, ∀ v ∈ (f p way s).1, R v.page = (v.nd, true)) (n : Nd) (way : List (Nd × Nat)) (s : List Int) : ∀ i, ∀ v ∈ (kidsL f n way s i).1, R v.page = (v.nd, true)
  | 0, v, h => by simp [kidsL] at h
  | i + 1, v, h => by
    rw [kidsL] at h
    split at h
    · next e => exact kids_vis hf n way s i v (by rw [e]; exact h)
    · next vs s1 e =>
      rcases List.mem_append.1 h with h | h
      · exact kids_vis hf n way s i v (by rw [e]; exact h)
      · exact hf _ _ _ v h
theorem down_vis (R : Int → Nd × Bool) : ∀ (k : Nat) (p : Int) (way : List (Nd × Nat)) (s : List Int), ∀ v ∈ (downL R k p way s).1, R v.page = (v.nd, true)
  | 0, p, way, s, v, h => by simp [downL] at h
  | k + 1, p, way, s, v, h => by
    rw [downL] at h
    split at h
    · cases h
    · next hn =>
      rcases List.mem_cons.1 h with rfl | h
      · have h2 : (R p).2 = true := by
          cases hc : (R p).2 with
          | true => rfl
          | false => exact absurd (Or.inl hc) hn
        show R p = ((R p).1, true)
        rw [← h2]
      · exact kids_vis (down_vis R k) _ _ _ _ v h
theorem kids_cnt {f : Int → List (Nd × Nat) → List Int → List Vis × Option (List Int)} {c : Nat} (hf : ∀ p way s, (f p way s).1.length ≤ c) (n : Nd) (way : List (Nd × Nat)) (s : List Int) : ∀ i, (kidsL f n way s i).1.length ≤ i * c
  | 0 => by simp [kidsL]
  | i + 1 => by
    have ih := kids_cnt hf n way s i
    rw [kidsL]
    split
    · next vs e =>
      rw [e] at ih
      have ih : vs.length ≤ i * c := ih
      have := Nat.add_mul i 1 c
      show vs.length ≤ _
      omega
    · next vs s1 e =>
      rw [e] at ih
      have h2 := hf (n.cs.getD i 0) (way ++ [(n, i)]) s1
      have := Nat.add_mul i 1 c
      show (vs ++ _).length ≤ _
      rw [List.length_append]
      have ih : vs.length ≤ i * c := ih
      omega
theorem down_cnt (R : Int → Nd × Bool) (hR : ∀ p, (R p).2 = true → (R p).1.cs.length ≤ 4) : ∀ (k : Nat) (p : Int) (way : List (Nd × Nat)) (s : List Int), (downL R k p way s).1.length ≤ cntK k
  | 0, p, way, s => by simp [downL]
  | k + 1, p, way, s => by
    rw [downL]
    split
    · exact Nat.zero_le _
    · next hn =>
      have h2 : (R p).2 = true := by
        cases hc : (R p).2 with
        | true => rfl
        | false => exact absurd (Or.inl hc) hn
      have h4 := hR p h2
      have hk := kids_cnt (down_cnt R hR k) (R p).1 way (s ++ [p]) (R p).1.cs.length
      have hm : (R p).1.cs.length * cntK k ≤ 4 * cntK k := Nat.mul_le_mul_right _ h4
      show (_ :: _).length ≤ _
      rw [List.length_cons, cntK]
      omega
theorem comes_vis (R : Int → Nd × Bool) (root : Int) {pre : List Ev} {x : Ev} (hx : x.ok = true) {t : List (Option Vis)} (ht : (pre ++ [x]).map Ev.plain ++ t = comes R root) : R x.vis.page = (x.vis.nd, true) := by
  have hm : some x.vis ∈ comes R root := by
    rw [← ht]
    have : x.plain = some x.vis := by rw [Ev.plain, if_pos hx]
    simp [this]
  unfold comes at hm
  split at hm
  · cases hm
  · rw [evs] at hm
    rcases List.mem_append.1 hm with hm | hm
    · obtain ⟨v, hv, e⟩ := List.mem_map.1 hm
      injection e with e
      subst e
      exact down_vis R 8 root [] [] _ hv
    · split at hm
      · simp at hm
      · cases hm
theorem cntK8A : cntK 8 ≤ 22000 := by decide
theorem comes_cnt (R : Int → Nd × Bool) (hR : ∀ p, (R p).2 = true → (R p).1.cs.length ≤ 4) (root : Int) {pre : List Ev} {t : List (Option Vis)} (ht : pre.map Ev.plain ++ t = comes R root) : pre.length ≤ 22001 := by
  have h1 := comes_len R root ht
  have h2 : (comes R root).length ≤ 22001 := by
    unfold comes
    split
    · exact Nat.zero_le _
    · rw [evs, List.length_append, List.length_map]
      have := down_cnt R hR 8 root [] []
      have := cntK8A
      split
      · show _ + 1 ≤ _; omega
      · show _ + 0 ≤ _; omega
  omega
theorem pairsV_snoc (l : List Vis) (v : Vis) : pairsV (l ++ [v]) = pairsV l ++ pairsN v.nd := by simp [pairsV]
theorem pairsV_len {l : List Vis} (h : ∀ v ∈ l, v.nd.vs.length ≤ 4) : (pairsV l).length ≤ 4 * l.length := by
  induction l with
  | nil => simp [pairsV]
  | cons v l ih =>
    have h1 := h v (by simp)
    have h2 := ih (fun u hu => h u (by simp [hu]))
    have h3 : pairsV (v :: l) = pairsN v.nd ++ pairsV l := by simp [pairsV]
    have h4 : (pairsN v.nd).length ≤ 4 := by simp [pairsN]; exact h1
    rw [h3, List.length_append, List.length_cons]
    omega
theorem ok_cnt {n : Nd} (h : n.ok = true) : n.vs.length ≤ n.ks.length ∧ n.vs.length ≤ 4 ∧ n.cs.length ≤ 4 := by
  obtain ⟨h1, h2, h3, h4⟩ := cnt_yes (node_yes h).1
  cases hl : n.lf with
  | true => have := h3 hl; omega
  | false => have := h4 hl; omega
theorem pairs_step (n : Nd) (i : Nat) (h : i < n.vs.length) : (pairsN n).take i ++ [(n.ks.getD i ⟨#[]⟩, n.vs.getD i ⟨#[]⟩)] = (pairsN n).take (i + 1) := by
  have hl : i < (pairsN n).length := by simp [pairsN]; exact h
  rw [List.take_succ_eq_append_getElem hl]
  simp [pairsN]
theorem pairsN_len (n : Nd) : (pairsN n).length = n.vs.length := by simp [pairsN]
open Go.RowKit
theorem less_total : ∀ (s t : List UInt8), Op.bytesLess s t = false → (s == t) = false → Op.bytesLess t s = true
  | [], [], _, h => by simp at h
  | [], _ :: _, h, _ => by simp [Op.bytesLess] at h
  | _ :: _, [], _, _ => by simp [Op.bytesLess]
  | x :: s, y :: t, h, hq => by
    rw [Op.bytesLess] at h ⊢
    by_cases he : x = y
    · subst he
      have hq' : (s == t) = false := by
        rw [beq_eq_false_iff_ne] at hq ⊢
        intro e; exact hq (by rw [e])
      simp at h ⊢
      exact less_total s t h hq'
    · have h1 : ¬ x < y := by intro hl; simp [hl] at h
      have h2 : y < x := by
        rcases UInt8.lt_or_lt_of_ne he with h | h
        · exact absurd h h1
        · exact h
      simp [h2]
open Go.RowKit
theorem less_irrefl : ∀ s : List UInt8, Op.bytesLess s s = false
  | [] => rfl
  | x :: s => by rw [Op.bytesLess]; simp [less_irrefl s]
theorem less_trans : ∀ (s t u : List UInt8), Op.bytesLess s t = true → Op.bytesLess t u = true → Op.bytesLess s u = true
  | [], [], _, h, _ => by simp [Op.bytesLess] at h
  | [], _ :: _, [], _, k => by simp [Op.bytesLess] at k
  | [], _ :: _, _ :: _, _, _ => by simp [Op.bytesLess]
  | _ :: _, [], _, h, _ => by simp [Op.bytesLess] at h
  | _ :: _, _ :: _, [], _, k => by simp [Op.bytesLess] at k
  | x :: s, y :: t, z :: u, h, k => by
    simp only [Op.bytesLess, Bool.or_eq_true, Bool.and_eq_true, decide_eq_true_eq, beq_iff_eq] at h k ⊢
    rcases h with h | ⟨rfl, h⟩
    · rcases k with k | ⟨rfl, k⟩
      · exact Or.inl (UInt8.lt_trans h k)
      · exact Or.inl h
    · rcases k with k | ⟨rfl, k⟩
      · exact Or.inl k
      · exact Or.inr ⟨rfl, less_trans s t u h k⟩
theorem less_not {s t : List UInt8} (h : Op.bytesLess s t = true) : (Op.bytesLess t s || t == s) = false := by
  rw [Bool.or_eq_false_iff]
  constructor
  · cases hb : Op.bytesLess t s with
    | false => rfl
    | true => have := less_trans _ _ _ h hb; rw [less_irrefl] at this; cases this
  · rw [beq_eq_false_iff_ne]
    rintro rfl
    rw [less_irrefl] at h; cases h
end Go.Proofs.YtdbpbhemnnffeaaGreatDoor
