/-
  Plain facts on the keys that are drawn: sixteen, each the next of the one before. No program.
-/
import Derived.Test.YtmmepgincbngeaaPlain16
namespace Go.Proofs.Ytmmepgincbngeaa
open Go.RowKit

/-- the sixteen keys that are drawn from -/
def bases : List ByteArray := [⟨#[97]⟩, ⟨#[98]⟩, ⟨#[99]⟩, ⟨#[100]⟩, ⟨#[101]⟩, ⟨#[102]⟩, ⟨#[103]⟩, ⟨#[104]⟩, ⟨#[107]⟩, ⟨#[109]⟩, ⟨#[112]⟩, ⟨#[113]⟩, ⟨#[115]⟩, ⟨#[120]⟩, ⟨#[122]⟩, ⟨#[]⟩]

def ones (j : Nat) : ByteArray := ⟨(List.replicate j 49).toArray⟩

/-- a key that may be drawn at place m -/
def KeyAt (m : Nat) (k : ByteArray) : Prop := ∃ c ∈ bases, ∃ j, j ≤ m ∧ k = c ++ ones j

/-- the next key -/
def Nxt (l k : ByteArray) : Prop := (k ∈ bases ∧ Op.bytesLess l.toList k.toList = true) ∨ k = l ++ ⟨#[49]⟩

def KeysF (ks : List ByteArray) : Prop := (∀ i, i < ks.length → KeyAt i (ks.getD i ⟨#[]⟩)) ∧ ∀ i, i + 1 < ks.length → Nxt (ks.getD i ⟨#[]⟩) (ks.getD (i + 1) ⟨#[]⟩)

/-- the last key -/
def lastK (ks : List ByteArray) : ByteArray := ks.getD (ks.length - 1) ⟨#[]⟩

theorem bases_size {c : ByteArray} (h : c ∈ bases) : c.size ≤ 1 := by
  simp only [bases, List.mem_cons, List.not_mem_nil, or_false] at h
  rcases h with rfl | rfl | rfl | rfl | rfl | rfl | rfl | rfl | rfl | rfl | rfl | rfl | rfl | rfl | rfl | rfl <;> decide

theorem ones_size (j : Nat) : (ones j).size = j := by simp [ones, ByteArray.size]

theorem keyAt_size {m : Nat} {k : ByteArray} (h : KeyAt m k) : k.size ≤ m + 1 := by
  obtain ⟨c, hc, j, hj, rfl⟩ := h
  have := bases_size hc
  rw [ByteArray.size_append, ones_size]
  omega

theorem keyAt_base {m : Nat} {k : ByteArray} (h : k ∈ bases) : KeyAt m k := ⟨k, h, 0, Nat.zero_le _, (ByteArray.append_empty).symm⟩

theorem ones_snoc (j : Nat) : ones j ++ ⟨#[49]⟩ = ones (j + 1) := by
  apply ByteArray.ext
  apply Array.toList_inj.1
  rw [ByteArray.data_append, Array.toList_append, ones, ones, List.replicate_succ']

theorem keyAt_next {m : Nat} {l k : ByteArray} (h : KeyAt m l) (hn : Nxt l k) : KeyAt (m + 1) k := by
  rcases hn with ⟨hn, -⟩ | rfl
  · exact keyAt_base hn
  · obtain ⟨c, hc, j, hj, rfl⟩ := h
    exact ⟨c, hc, j + 1, by omega, by rw [ByteArray.append_assoc, ones_snoc]⟩

theorem keysF_snoc {ks : List ByteArray} {x : ByteArray} (h : KeysF ks) (h0 : ks.length = 0 → x ∈ bases) (h1 : 0 < ks.length → Nxt (lastK ks) x) : KeysF (ks ++ [x]) ∧ lastK (ks ++ [x]) = x := by
  have hx : (ks ++ [x]).getD ks.length ⟨#[]⟩ = x := getD_here ks [] x _
  have hl : lastK (ks ++ [x]) = x := by rw [lastK, List.length_append, List.length_singleton, Nat.add_sub_cancel]; exact hx
  refine ⟨⟨fun i hi => ?_, fun i hi => ?_⟩, hl⟩
  · rw [List.length_append, List.length_singleton] at hi
    by_cases he : i = ks.length
    · rw [he, hx]
      by_cases hz : ks.length = 0
      · exact keyAt_base (h0 hz)
      · have := keyAt_next (h.1 (ks.length - 1) (by omega)) (h1 (by omega))
        rw [Nat.sub_add_cancel (by omega)] at this
        exact this
    · rw [getD_app _ _ _ _ (by omega)]
      exact h.1 i (by omega)
  · rw [List.length_append, List.length_singleton] at hi
    by_cases he : i + 1 = ks.length
    · rw [he, hx, getD_app _ _ _ _ (by omega)]
      have := h1 (by omega)
      rw [lastK, show ks.length - 1 = i from by omega] at this
      exact this
    · rw [getD_app _ _ _ _ (by omega), getD_app _ _ _ _ (by omega)]
      exact h.2 i (by omega)

theorem less_total : ∀ (s t : List UInt8), Op.bytesLess s t = false → (s == t) = false → Op.bytesLess t s = true
  | [], [], _, h => by simp at h
  | [], _ :: _, h, _ => by simp [Op.bytesLess] at h
  | _ :: _, [], _, _ => by simp [Op.bytesLess]
  | x :: s, y :: t, h, hq => by
    rw [Op.bytesLess] at h ⊢
    by_cases he : x = y
    · subst he
      have hq' : (s == t) = false := by
        rw [beq_eq_false_iff_ne] at hq ⊢
        intro e; exact hq (by rw [e])
      simp at h ⊢
      exact less_total s t h hq'
    · have h1 : ¬ x < y := by intro hl; simp [hl] at h
      have h2 : y < x := by
        rcases UInt8.lt_or_lt_of_ne he with h | h
        · exact absurd h h1
        · exact h
      simp [h2]

/-- what is drawn -/
def DrawnN (n : Nd) : Prop := 1 ≤ n.ks.length ∧ n.ks.length ≤ 4 ∧ n.even ∧ KeysF n.ks ∧ ∀ v ∈ n.vs, v.size ≤ 3

def vals3 : List ByteArray := [⟨#[]⟩, ⟨#[118]⟩, ⟨#[118, 97, 108]⟩]

theorem vals3_size {c : ByteArray} (h : c ∈ vals3) : c.size ≤ 3 := by
  simp only [vals3, List.mem_cons, List.not_mem_nil, or_false] at h
  rcases h with rfl | rfl | rfl <;> decide
end Go.Proofs.Ytmmepgincbngeaa
