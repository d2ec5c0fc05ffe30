/-
  Plain: pairs that ascend, put into and dropped. No program.
-/
import Derived.Test.YtmmepgincbngeaaSpecModel
import Derived.Test.YtmmepgincbngeaaPlaceFacts
namespace Go.Proofs.Ytmmepgincbngeaa
open Go.RowKit

/-- pairs that ascend -/
def AscM (l : List (ByteArray × ByteArray)) : Prop := l.Pairwise fun p q => Op.bytesLess p.1.toList q.1.toList = true

/-- behind a key -/
def aftB (key : ByteArray) (p : ByteArray × ByteArray) : Bool := !Op.bytesLess p.1.toList key.toList && !p.1.toList == key.toList

theorem aft_less {key : ByteArray} {p : ByteArray × ByteArray} (h : aftB key p = true) : Op.bytesLess key.toList p.1.toList = true := by
  unfold aftB at h
  rw [Bool.and_eq_true, Bool.not_eq_true', Bool.not_eq_true'] at h
  exact less_total _ _ h.1 h.2

theorem modelP_eq (l : List (ByteArray × ByteArray)) (key val : ByteArray) : modelP l key val = l.filter (fun p => Op.bytesLess p.1.toList key.toList) ++ [(key, val)] ++ l.filter (aftB key) := rfl

theorem modelP_asc {l : List (ByteArray × ByteArray)} (h : AscM l) (key val : ByteArray) : AscM (modelP l key val) := by
  rw [modelP_eq]
  unfold AscM at h ⊢
  rw [List.append_assoc]
  refine List.pairwise_append.2 ⟨h.filter _, List.pairwise_append.2 ⟨List.pairwise_singleton _ _, h.filter _, fun p hp q hq => ?_⟩, fun p hp q hq => ?_⟩
  · obtain rfl := List.mem_singleton.1 hp
    exact aft_less (List.mem_filter.1 hq).2
  · have h1 : Op.bytesLess p.1.toList key.toList = true := (List.mem_filter.1 hp).2
    rcases List.mem_append.1 hq with hq | hq
    · obtain rfl := List.mem_singleton.1 hq
      exact h1
    · exact less_trans _ _ _ h1 (aft_less (List.mem_filter.1 hq).2)

theorem modelP_len (l : List (ByteArray × ByteArray)) (key val : ByteArray) : (modelP l key val).length ≤ l.length + 1 := by
  have : ∀ l : List (ByteArray × ByteArray), (l.filter (fun p => Op.bytesLess p.1.toList key.toList)).length + (l.filter (aftB key)).length ≤ l.length := fun l => by
    induction l with
    | nil => simp
    | cons p l ih =>
      rw [List.filter_cons, List.filter_cons]
      cases h : Op.bytesLess p.1.toList key.toList with
      | true =>
        have h2 : aftB key p = false := by unfold aftB; rw [h]; rfl
        rw [h2]
        simp
        omega
      | false =>
        cases h2 : aftB key p with
        | true => simp; omega
        | false => simp; omega
  rw [modelP_eq]
  simp only [List.length_append, List.length_singleton]
  have := this l
  omega

theorem modelD_len (l : List (ByteArray × ByteArray)) (key : ByteArray) : (modelD l key).length ≤ l.length := List.length_filter_le _ _

theorem modelP_mem {l : List (ByteArray × ByteArray)} {key val : ByteArray} {p : ByteArray × ByteArray} (h : p ∈ modelP l key val) : p ∈ l ∨ p = (key, val) := by
  rw [modelP_eq] at h
  rcases List.mem_append.1 h with h | h
  · rcases List.mem_append.1 h with h | h
    · exact Or.inl (List.mem_filter.1 h).1
    · exact Or.inr (List.mem_singleton.1 h)
  · exact Or.inl (List.mem_filter.1 h).1

/-- what is put is there once -/
theorem modelP_once (l : List (ByteArray × ByteArray)) (key val : ByteArray) : ((modelP l key val).filter (fun p => p.1.toList == key.toList)).length = 1 := by
  rw [modelP_eq, List.filter_append, List.filter_append]
  have h1 : (l.filter (fun p => Op.bytesLess p.1.toList key.toList)).filter (fun p => p.1.toList == key.toList) = [] := by
    refine List.filter_eq_nil_iff.2 fun p hp he => ?_
    have h := (List.mem_filter.1 hp).2
    rw [eq_of_beq he, less_irrefl] at h
    cases h
  have h2 : (l.filter (aftB key)).filter (fun p => p.1.toList == key.toList) = [] := by
    refine List.filter_eq_nil_iff.2 fun p hp he => ?_
    have h := aft_less (List.mem_filter.1 hp).2
    rw [eq_of_beq he, less_irrefl] at h
    cases h
  rw [h1, h2]
  simp

/-- put and dropped it is as dropped -/
theorem modelD_put {l : List (ByteArray × ByteArray)} (h : AscM l) (key val : ByteArray) : modelD (modelP l key val) key = modelD l key := by
  unfold modelD
  rw [modelP_eq, List.filter_append, List.filter_append]
  have h0 : [(key, val)].filter (fun p => !(p.1.toList == key.toList)) = [] := by simp
  rw [h0, List.append_nil]
  unfold AscM at h
  induction l with
  | nil => rfl
  | cons p l ih =>
    obtain ⟨h1, h2⟩ := List.pairwise_cons.1 h
    have ih := ih h2
    cases hb : Op.bytesLess p.1.toList key.toList with
    | true =>
      have ha : aftB key p = false := by unfold aftB; rw [hb]; rfl
      have hn : (!(p.1.toList == key.toList)) = true := by
        cases he : p.1.toList == key.toList with
        | false => rfl
        | true => rw [eq_of_beq he, less_irrefl] at hb; cases hb
      rw [List.filter_cons_of_pos (by exact hb), List.filter_cons_of_neg (l := l) (by rw [ha]; decide), List.filter_cons_of_pos (by exact hn), List.filter_cons_of_pos (l := l) (by exact hn), List.cons_append, ih]
    | false =>
      -- from here on none is less
      have hall : ∀ q ∈ l, Op.bytesLess q.1.toList key.toList = false := fun q hq => by
        cases hc : Op.bytesLess q.1.toList key.toList with
        | false => rfl
        | true => rw [less_trans _ _ _ (h1 q hq) hc] at hb; cases hb
      have hnil : (p :: l).filter (fun p => Op.bytesLess p.1.toList key.toList) = [] := List.filter_eq_nil_iff.2 fun q hq => by
        rcases List.mem_cons.1 hq with rfl | hq
        · rw [hb]; decide
        · rw [hall q hq]; decide
      rw [hnil, List.filter_nil, List.nil_append, List.filter_filter]
      refine List.filter_congr fun q hq => ?_
      have hq0 : Op.bytesLess q.1.toList key.toList = false := by
        rcases List.mem_cons.1 hq with rfl | hq
        · exact hb
        · exact hall q hq
      unfold aftB
      rw [hq0]
      simp

end Go.Proofs.Ytmmepgincbngeaa
