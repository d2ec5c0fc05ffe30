/-
  Plain facts on nodes: when a node is right, its bytes, and reading them one by one. No program.
-/
import Derived.Test.YtmmepgincbngeaaPlain8
import Derived.Test.YtmmepgincbngeaaPlain13
namespace Go.Proofs.Ytmmepgincbngeaa
open Go.RowKit

/-- key i: short, and above the one ahead of it -/
def keyB (ks : List ByteArray) (i : Nat) : Bool := decide ((ks.getD i ⟨#[]⟩).size ≤ 24) && (decide (i = 0) || Op.bytesLess (ks.getD (i - 1) ⟨#[]⟩).toList (ks.getD i ⟨#[]⟩).toList)

/-- kid i: a page, and none that is ahead of it -/
def kidB (cs : List Int) (i : Nat) : Bool := decide (2 ≤ cs.getD i 0 ∧ cs.getD i 0 ≤ 39) && decide (∀ j, j < i → cs.getD j 0 ≠ cs.getD i 0)

/-- how many there are -/
def cntB (lf : Bool) (nk nv nc : Nat) : Bool := decide (1 ≤ nk ∧ nk ≤ 4) && (if lf = true then decide (nv = nk ∧ nc = 0) else decide (nc = nk ∧ nv = 0))

/-- when a node is right -/
def nodeOkB (lf : Bool) (ks vs : List ByteArray) (cs : List Int) : Bool :=
  cntB lf ks.length vs.length cs.length && decide (∀ i, i < ks.length → keyB ks i = true) && decide (∀ i, i < vs.length → (vs.getD i ⟨#[]⟩).size ≤ 24) && decide (∀ i, i < cs.length → kidB cs i = true)

theorem node_cnt {lf : Bool} {ks vs : List ByteArray} {cs : List Int} (h : cntB lf ks.length vs.length cs.length = false) : nodeOkB lf ks vs cs = false := by
  rw [nodeOkB, h]; rfl

theorem node_key {lf : Bool} {ks vs : List ByteArray} {cs : List Int} {i : Nat} (hi : i < ks.length) (h : keyB ks i = false) : nodeOkB lf ks vs cs = false := by
  have : decide (∀ i, i < ks.length → keyB ks i = true) = false := decide_eq_false (fun hh => by rw [hh i hi] at h; cases h)
  rw [nodeOkB, this]; simp

theorem node_val {lf : Bool} {ks vs : List ByteArray} {cs : List Int} {i : Nat} (hi : i < vs.length) (h : 24 < (vs.getD i ⟨#[]⟩).size) : nodeOkB lf ks vs cs = false := by
  have : decide (∀ i, i < vs.length → (vs.getD i ⟨#[]⟩).size ≤ 24) = false := decide_eq_false (fun hh => by have := hh i hi; omega)
  rw [nodeOkB, this]; simp

theorem node_kid {lf : Bool} {ks vs : List ByteArray} {cs : List Int} {i : Nat} (hi : i < cs.length) (h : kidB cs i = false) : nodeOkB lf ks vs cs = false := by
  have : decide (∀ i, i < cs.length → kidB cs i = true) = false := decide_eq_false (fun hh => by rw [hh i hi] at h; cases h)
  rw [nodeOkB, this]; simp

theorem node_all {lf : Bool} {ks vs : List ByteArray} {cs : List Int} (h0 : cntB lf ks.length vs.length cs.length = true) (h1 : ∀ i, i < ks.length → keyB ks i = true) (h2 : ∀ i, i < vs.length → (vs.getD i ⟨#[]⟩).size ≤ 24) (h3 : ∀ i, i < cs.length → kidB cs i = true) : nodeOkB lf ks vs cs = true := by
  rw [nodeOkB, h0, decide_eq_true h1, decide_eq_true h2, decide_eq_true h3]; rfl

theorem node_yes {lf : Bool} {ks vs : List ByteArray} {cs : List Int} (h : nodeOkB lf ks vs cs = true) : cntB lf ks.length vs.length cs.length = true ∧ (∀ i, i < ks.length → keyB ks i = true) ∧ (∀ i, i < vs.length → (vs.getD i ⟨#[]⟩).size ≤ 24) ∧ ∀ i, i < cs.length → kidB cs i = true := by
  rw [nodeOkB] at h
  simp only [Bool.and_eq_true, decide_eq_true_eq] at h
  exact ⟨h.1.1.1, h.1.1.2, h.1.2, h.2⟩

theorem cnt_yes {lf : Bool} {nk nv nc : Nat} (h : cntB lf nk nv nc = true) : 1 ≤ nk ∧ nk ≤ 4 ∧ (lf = true → nv = nk ∧ nc = 0) ∧ (lf = false → nc = nk ∧ nv = 0) := by
  unfold cntB at h
  rw [Bool.and_eq_true, decide_eq_true_eq] at h
  refine ⟨h.1.1, h.1.2, fun e => ?_, fun e => ?_⟩
  · have := h.2; rw [if_pos e, decide_eq_true_eq] at this; exact this
  · have := h.2; rw [if_neg (by rw [e]; decide), decide_eq_true_eq] at this; exact this

/-- the first byte -/
def headB (lf : Bool) : ByteArray := if lf = true then ⟨#[108]⟩ else ⟨#[98]⟩

/-- what stands behind key i -/
def sideT (lf : Bool) (vs : List ByteArray) (cs : List Int) (i : Nat) : ByteArray := if lf = true then shortB (vs.getD i ⟨#[]⟩) else ⟨(vtext (cs.getD i 0).toNat).toArray⟩

/-- the bytes up to the k-th pair; cnt: how many are told -/
def nodeP (lf : Bool) (cnt : Nat) (ks vs : List ByteArray) (cs : List Int) : Nat → ByteArray
  | 0 => headB lf ++ ⟨(vtext cnt).toArray⟩
  | k + 1 => nodeP lf cnt ks vs cs k ++ shortB (ks.getD k ⟨#[]⟩) ++ sideT lf vs cs k

/-- a node in bytes, ahead of its sum -/
def nodeB (lf : Bool) (ks vs : List ByteArray) (cs : List Int) : ByteArray := nodeP lf ks.length ks vs cs ks.length

theorem shortB_size2 (s : ByteArray) : (shortB s).size ≤ s.size + 5 := by
  have h := (vtext_length s.size).2
  rw [shortB, ByteArray.size_append, vtB_size]
  omega

theorem key_short {ks : List ByteArray} {i : Nat} (h : keyB ks i = true) : (ks.getD i ⟨#[]⟩).size ≤ 24 := by
  rw [keyB, Bool.and_eq_true, decide_eq_true_eq] at h
  exact h.1

theorem kid_page {cs : List Int} {i : Nat} (h : kidB cs i = true) : 2 ≤ cs.getD i 0 ∧ cs.getD i 0 ≤ 39 := by
  rw [kidB, Bool.and_eq_true, decide_eq_true_eq] at h
  exact h.1

theorem headB_size (lf : Bool) : (headB lf).size = 1 := by cases lf <;> rfl

theorem sideT_size {lf : Bool} {ks vs : List ByteArray} {cs : List Int} (h : nodeOkB lf ks vs cs = true) {i : Nat} (hi : i < ks.length) : (sideT lf vs cs i).size ≤ 29 := by
  obtain ⟨h0, h1, h2, h3⟩ := node_yes h
  obtain ⟨c1, c2, c3, c4⟩ := cnt_yes h0
  unfold sideT
  split
  · next e =>
    have := shortB_size2 (vs.getD i ⟨#[]⟩)
    have := h2 i (by have := (c3 e).1; omega)
    omega
  · rw [vtB_size]
    have := (vtext_length (cs.getD i 0).toNat).2
    omega

theorem nodeP_size {lf : Bool} {ks vs : List ByteArray} {cs : List Int} (h : nodeOkB lf ks vs cs = true) : ∀ k, k ≤ ks.length → (nodeP lf ks.length ks vs cs k).size ≤ 6 + 58 * k
  | 0, _ => by
    rw [nodeP, ByteArray.size_append, headB_size, vtB_size]
    have := (vtext_length ks.length).2
    omega
  | k + 1, hk => by
    have ih := nodeP_size h k (by omega)
    have h1 := sideT_size h (show k < ks.length by omega)
    have h2 := shortB_size2 (ks.getD k ⟨#[]⟩)
    have h3 := key_short ((node_yes h).2.1 k (by omega))
    rw [nodeP, ByteArray.size_append, ByteArray.size_append]
    omega

theorem nodeB_size {lf : Bool} {ks vs : List ByteArray} {cs : List Int} (h : nodeOkB lf ks vs cs = true) : (nodeB lf ks vs cs).size ≤ 238 ∧ 2 ≤ (nodeB lf ks vs cs).size := by
  have h1 := nodeP_size h ks.length (Nat.le_refl _)
  obtain ⟨c1, c2, -, -⟩ := cnt_yes (node_yes h).1
  refine ⟨by unfold nodeB; omega, ?_⟩
  have mono : ∀ k, 2 ≤ (nodeP lf ks.length ks vs cs k).size := by
    intro k
    induction k with
    | zero =>
      rw [nodeP, ByteArray.size_append, headB_size, vtB_size]
      have := (vtext_length ks.length).1
      omega
    | succ k ih => rw [nodeP, ByteArray.size_append, ByteArray.size_append]; omega
  exact mono _

/-- a node in bytes, sealed -/
def nodeT (lf : Bool) (ks vs : List ByteArray) (cs : List Int) : ByteArray := ⟨(sealL (nodeB lf ks vs cs).data.toList).toArray⟩

def nodeO (lf : Bool) (ks vs : List ByteArray) (cs : List Int) : ByteArray := if nodeOkB lf ks vs cs = true then nodeT lf ks vs cs else ⟨#[]⟩

/-- the place of a key -/
def placeK (ks : List ByteArray) (key : ByteArray) : Nat → Int
  | 0 => -1
  | k + 1 => if (Op.bytesLess (ks.getD k ⟨#[]⟩).toList key.toList || (ks.getD k ⟨#[]⟩).toList == key.toList) = true then (k : Int) else placeK ks key k
end Go.Proofs.Ytmmepgincbngeaa
