/-
  Metas held to the rule step by step: what is known ahead of the k-th free (MSt), and within one ahead of its j-th page (PSt).
-/
import Derived.Test.YthcakofocbileaaPlain18
namespace Go.Proofs.Ythcakofocbileaa

def MSt (tx root next : Int) (fs : List (Int × List Int)) (k : Nat) (seen : List Int) (last : Int) : Prop :=
  seen.length ≤ 1 + 40 * k ∧ freesB tx next seen last (fs.drop k) = freesB tx next [root] 0 fs ∧ 0 ≤ last ∧ (k = 0 → last = 0) ∧ (∀ f, 0 < k → fs[k - 1]? = some f → f.1 = last) ∧ root ∈ seen ∧ ∀ x ∈ seen, x = root ∨ (2 ≤ x ∧ x < next)

def PSt (next : Int) (seen0 ps : List Int) (j : Nat) (seen : List Int) (prev : Int) : Prop :=
  seen.length = seen0.length + j ∧ pgsB next seen prev (ps.drop j) = pgsB next seen0 1 ps ∧ (j = 0 → prev = 1) ∧ (∀ x, 0 < j → ps[j - 1]? = some x → x = prev) ∧ (0 < j → prev ∈ seen) ∧ (∀ x, x ∈ seen0 → x ∈ seen) ∧ ∀ x ∈ seen, x ∈ seen0 ∨ (2 ≤ x ∧ x < next)

theorem mst_start (tx root next : Int) (fs : List (Int × List Int)) : MSt tx root next fs 0 [root] 0 :=
  ⟨by simp, by simp, Int.le_refl _, fun _ => rfl, fun f h => by omega, by simp, fun x hx => Or.inl (by simpa using hx)⟩

theorem drop_at {α : Type} {l : List α} {k : Nat} {x : α} (h : l[k]? = some x) : l.drop k = x :: l.drop (k + 1) := by
  obtain ⟨hk, e⟩ := List.getElem?_eq_some_iff.1 h
  rw [List.drop_eq_getElem_cons hk, e]

theorem mst_end {tx root next : Int} {fs : List (Int × List Int)} {k : Nat} {seen : List Int} {last : Int} (h : MSt tx root next fs k seen last) (hk : fs.length ≤ k) : freesB tx next [root] 0 fs = true := by
  rw [← h.2.1, List.drop_eq_nil_of_le hk, freesB]

theorem mst_bad {tx root next : Int} {fs : List (Int × List Int)} {k : Nat} {seen : List Int} {last ftx : Int} {ps : List Int} (h : MSt tx root next fs k seen last) (hf : fs[k]? = some (ftx, ps)) (hb : ¬ (last < ftx ∧ ftx ≤ tx ∧ 1 ≤ ps.length ∧ ps.length ≤ 40)) : freesB tx next [root] 0 fs = false := by
  rw [← h.2.1, drop_at hf, freesB, if_neg hb]

theorem mst_none {tx root next : Int} {fs : List (Int × List Int)} {k : Nat} {seen : List Int} {last ftx : Int} {ps : List Int} (h : MSt tx root next fs k seen last) (hf : fs[k]? = some (ftx, ps)) (hb : pgsB next seen 1 ps = none) : freesB tx next [root] 0 fs = false := by
  rw [← h.2.1, drop_at hf, freesB]
  split
  · rw [hb]
  · rfl

theorem mst_next {tx root next : Int} {fs : List (Int × List Int)} {k : Nat} {seen s : List Int} {last ftx : Int} {ps : List Int} (h : MSt tx root next fs k seen last) (hf : fs[k]? = some (ftx, ps)) (hb : last < ftx ∧ ftx ≤ tx ∧ 1 ≤ ps.length ∧ ps.length ≤ 40)
    {prev : Int} (hp : PSt next seen ps ps.length s prev) : MSt tx root next fs (k + 1) s ftx := by
  obtain ⟨p1, p2, p3, p4, p5, p6, p7⟩ := hp
  rw [List.drop_length, pgsB] at p2
  refine ⟨by have := h.1; omega, ?_, by have := h.2.2.1; omega, fun e => by omega, fun f _ e => ?_, p6 _ h.2.2.2.2.2.1, fun x hx => ?_⟩
  · rw [← h.2.1, drop_at hf, freesB, if_pos hb]
    simp only [← p2]
  · rw [Nat.add_sub_cancel, hf] at e
    injection e with e
    rw [← e]
  · rcases p7 x hx with h1 | h1
    · exact h.2.2.2.2.2.2 x h1
    · exact Or.inr h1

theorem pst_start (next : Int) (seen ps : List Int) : PSt next seen ps 0 seen 1 := ⟨rfl, by simp, fun _ => rfl, fun x h => by omega, fun h => by omega, fun x h => h, fun x h => Or.inl h⟩

theorem pst_bad {next : Int} {seen0 ps : List Int} {j : Nat} {seen : List Int} {prev p : Int} (h : PSt next seen0 ps j seen prev) (hf : ps[j]? = some p) (hb : ¬ (2 ≤ p ∧ p < next ∧ prev < p ∧ p ∉ seen)) : pgsB next seen0 1 ps = none := by
  rw [← h.2.1, drop_at hf, pgsB, if_neg hb]

theorem pst_next {next : Int} {seen0 ps : List Int} {j : Nat} {seen : List Int} {prev p : Int} (h : PSt next seen0 ps j seen prev) (hf : ps[j]? = some p) (hb : 2 ≤ p ∧ p < next ∧ prev < p ∧ p ∉ seen) : PSt next seen0 ps (j + 1) (seen ++ [p]) p := by
  refine ⟨by rw [List.length_append]; have := h.1; simp; omega, ?_, fun e => by omega, fun x _ e => ?_, fun _ => by simp, fun x hx => List.mem_append_left _ (h.2.2.2.2.2.1 x hx), fun x hx => ?_⟩
  · rw [← h.2.1, drop_at hf, pgsB, if_pos hb]
  · rw [Nat.add_sub_cancel, hf] at e
    injection e with e
    exact e.symm
  · rcases List.mem_append.1 hx with h1 | h1
    · exact h.2.2.2.2.2.2 x h1
    · rw [List.mem_singleton] at h1
      subst h1
      exact Or.inr ⟨hb.1, hb.2.1⟩

theorem ok_head {m : Mt} (h : headOkB m.tx m.root m.next m.fs.length = false) : m.ok = false := by rw [Mt.ok, h]; rfl

theorem ok_frees {m : Mt} (h : headOkB m.tx m.root m.next m.fs.length = true) : m.ok = freesB m.tx m.next [m.root] 0 m.fs := by rw [Mt.ok, h]; rfl
end Go.Proofs.Ythcakofocbileaa
