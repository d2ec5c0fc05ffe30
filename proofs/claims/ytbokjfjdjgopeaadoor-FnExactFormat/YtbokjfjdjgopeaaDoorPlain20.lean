/-
  A meta's text, number by number: the beginnings of its numbers.
-/
import Derived.Test.YtbokjfjdjgopeaaDoorPlain19
namespace Go.Proofs.YtbokjfjdjgopeaaDoor

/-- what MetaText tells -/
def Mt.textO (m : Mt) : ByteArray := if m.good = true then m.text else ⟨#[]⟩

/-- the numbers ahead of the k-th free -/
def Mt.pre (m : Mt) (k : Nat) : List Int := m.tx :: m.root :: m.next :: (m.fs.length : Int) :: freeNums (m.fs.take k)

theorem pre_zero (m : Mt) : m.pre 0 = [m.tx, m.root, m.next, (m.fs.length : Int)] := by simp [Mt.pre, freeNums]

theorem pre_end (m : Mt) : m.pre m.fs.length = m.nums := by simp [Mt.pre, Mt.nums]

theorem pre_next {m : Mt} {k : Nat} {ftx : Int} {ps : List Int} (h : m.fs[k]? = some (ftx, ps)) : m.pre (k + 1) = m.pre k ++ [ftx, (ps.length : Int)] ++ ps := by
  obtain ⟨hk, e⟩ := List.getElem?_eq_some_iff.1 h
  rw [Mt.pre, Mt.pre, List.take_succ_eq_append_getElem hk, freeNums_snoc, e]
  simp

theorem freeNums_take (fs : List (Int × List Int)) (k : Nat) : (freeNums (fs.take k)).length ≤ (freeNums fs).length := by
  conv => rhs; rw [← List.take_append_drop k fs, freeNums_append, List.length_append]
  omega

theorem pre_len {m : Mt} (h : m.ok = true) (k : Nat) : (m.pre k).length ≤ 844 := by
  have h1 := nums_len h
  have h2 := freeNums_take m.fs k
  rw [Mt.nums] at h1
  simp [Mt.pre] at h1 ⊢
  omega

theorem numsB_small {l : List Int} {n : Nat} (h : l.length ≤ n) : (numsB l).size ≤ 5 * n := by
  rw [numsB_size]
  have := (numsL_size l).2
  omega

theorem text_size (m : Mt) : m.text.size = (numsL m.nums).length + 4 := by
  rw [← ba_len, Mt.text]
  simp [sealL_length]

theorem text_seal (m : Mt) : (⟨(sealL (numsB m.nums).data.toList).toArray⟩ : ByteArray) = m.text := by rw [numsB_list]; rfl

theorem good_yes {m : Mt} (h : m.ok = true) (h2 : m.text.size ≤ 240) : m.good = true ∧ m.textO = m.text := by
  have : m.good = true := by rw [Mt.good, h, Bool.true_and, decide_eq_true_eq, ← text_size]; exact h2
  exact ⟨this, by rw [Mt.textO, if_pos this]⟩

theorem good_no {m : Mt} (h : m.ok = false ∨ 240 < m.text.size) : m.good = false ∧ m.textO = ⟨#[]⟩ := by
  have : m.good = false := by
    rcases h with h | h
    · rw [Mt.good, h, Bool.false_and]
    · rw [Mt.good, Bool.and_eq_false_iff, decide_eq_false_iff_not, ← text_size]; exact Or.inr (by omega)
  exact ⟨this, by rw [Mt.textO, if_neg (by rw [this]; decide)]⟩

theorem nums_of {m : Mt} (h : m.ok = true) {k : Nat} {ftx : Int} {ps : List Int} (hf : m.fs[k]? = some (ftx, ps)) : 0 ≤ ftx ∧ ftx ≤ 100000 ∧ ps.length ≤ 40 ∧ ∀ p ∈ ps, 0 ≤ p ∧ p ≤ 100000 := by
  obtain ⟨⟨h1, h2, h3, h4, h5, h6⟩, h7⟩ := ok_parts h
  obtain ⟨g1, g2, g3, g4, g5⟩ := h7 _ (List.mem_of_getElem? hf)
  exact ⟨by omega, by omega, g4, fun p hp => by have := g5 p hp; omega⟩
end Go.Proofs.YtbokjfjdjgopeaaDoor
