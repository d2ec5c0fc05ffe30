/-
  Plain facts on fields and values, without any program: when a schema is right, when a value is of a kind, the place of a name.
-/
import Derived.Test.YtjldcbnoomcloaaPlain2
namespace Go.Proofs.Ytjldcbnoomcloaa
open Go.RowKit

/-- a word of small letters -/
def wordB (s : ByteArray) (most : Nat) : Bool := decide (∀ i, i < s.size → 97 ≤ byt s i ∧ byt s i ≤ 122) && decide (1 ≤ s.size ∧ s.size ≤ most)

theorem word_bad {s : ByteArray} {most k : Nat} (hk : k < s.size) (h : ¬ (97 ≤ byt s k ∧ byt s k ≤ 122)) : wordB s most = false := by
  rw [wordB, decide_eq_false (fun hh => h (hh k hk))]; rfl

theorem word_all {s : ByteArray} {most : Nat} (h : ∀ i, i < s.size → 97 ≤ byt s i ∧ byt s i ≤ 122) : wordB s most = decide (1 ≤ s.size ∧ s.size ≤ most) := by
  rw [wordB, decide_eq_true h]; rfl

/-- a field that may be in a schema -/
def fieldB (f : ByteArray × Int) : Bool := wordB f.1 4 && decide (1 ≤ f.2 ∧ f.2 ≤ 2)

/-- when a schema is right -/
def schemaOkB (fs : List (ByteArray × Int)) : Bool := fs.all fieldB && decide (∀ i, i < fs.length → ∀ k, k < i → (fs.getD k (⟨#[]⟩, 0)).1 ≠ (fs.getD i (⟨#[]⟩, 0)).1) && decide (1 ≤ fs.length ∧ fs.length ≤ 3)

theorem schema_field {fs : List (ByteArray × Int)} {k : Nat} (hk : k < fs.length) (h : fieldB fs[k] = false) : schemaOkB fs = false := by
  have : fs.all fieldB = false := by
    rw [List.all_eq_false]
    exact ⟨fs[k], List.getElem_mem hk, by rw [h]; decide⟩
  rw [schemaOkB, this]; rfl

theorem schema_twice {fs : List (ByteArray × Int)} {i k : Nat} (hi : i < fs.length) (hk : k < i) (h : (fs[k]'(by omega)).1 = fs[i].1) : schemaOkB fs = false := by
  have : decide (∀ i, i < fs.length → ∀ k, k < i → (fs.getD k (⟨#[]⟩, 0)).1 ≠ (fs.getD i (⟨#[]⟩, 0)).1) = false := decide_eq_false (fun hh => hh i hi k hk (by simp [List.getD, hi, show k < fs.length by omega]; exact h))
  rw [schemaOkB, this]; simp

theorem schema_all {fs : List (ByteArray × Int)} (h1 : ∀ i (h : i < fs.length), fieldB fs[i] = true) (h2 : ∀ i (h : i < fs.length), ∀ k (hk : k < i), (fs[k]'(by omega)).1 ≠ fs[i].1) : schemaOkB fs = decide (1 ≤ fs.length ∧ fs.length ≤ 3) := by
  have e1 : fs.all fieldB = true := by
    rw [List.all_eq_true]
    intro s hs
    obtain ⟨i, hi, rfl⟩ := List.getElem_of_mem hs
    exact h1 i hi
  have e2 : decide (∀ i, i < fs.length → ∀ k, k < i → (fs.getD k (⟨#[]⟩, 0)).1 ≠ (fs.getD i (⟨#[]⟩, 0)).1) = true := decide_eq_true (fun i hi k hk => by
    have := h2 i hi k hk
    simpa [List.getD, hi, show k < fs.length by omega] using this)
  rw [schemaOkB, e1, e2]; rfl

/-- when a value is of a kind -/
def valueB (kind num : Int) (t : ByteArray) : Bool :=
  if kind = 1 then decide (0 ≤ num ∧ num ≤ 999999) && decide (t = ⟨#[]⟩)
  else decide (∀ i, i < t.size → byt t i ≠ 0) && decide (kind = 2 ∧ num = 0 ∧ t.size ≤ 6)

/-- the place of a name, counted from k on -/
def placeL (name : ByteArray) : Nat → List (ByteArray × Int) → Int
  | _, [] => -1
  | k, f :: l => if f.1 = name then (k : Int) else placeL name (k + 1) l

theorem place_hit {name : ByteArray} {fs : List (ByteArray × Int)} {k : Nat} (hk : k < fs.length) (h : fs[k].1 = name) : placeL name k (fs.drop k) = (k : Int) := by
  rw [List.drop_eq_getElem_cons hk, placeL, if_pos h]

theorem place_miss {name : ByteArray} {fs : List (ByteArray × Int)} {k : Nat} (hk : k < fs.length) (h : fs[k].1 ≠ name) : placeL name k (fs.drop k) = placeL name (k + 1) (fs.drop (k + 1)) := by
  rw [List.drop_eq_getElem_cons hk, placeL, if_neg h]

theorem place_end {name : ByteArray} {fs : List (ByteArray × Int)} {k : Nat} (hk : fs.length ≤ k) : placeL name k (fs.drop k) = -1 := by
  rw [List.drop_eq_nil_of_le hk, placeL]
end Go.Proofs.Ytjldcbnoomcloaa
