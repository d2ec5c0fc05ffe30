/-
  Plain facts on disks, without any program: a new disk, a put that is taken, what falls.
-/
import Derived.Test.YthcakofocbileaaPlain9
namespace Go.Proofs.Ythcakofocbileaa
open Go.RowKit

/-- the pages of a new disk -/
def newP (n : Int) : List ByteArray := if 4 ≤ n ∧ n ≤ 40 then List.replicate n.toNat ⟨#[]⟩ else []

/-- whether a put is taken -/
def writeOk (ps : List ByteArray) (ls : List (Int × ByteArray)) (page : Int) (text : ByteArray) : Bool := diskOkB ps ls && decide (0 ≤ page ∧ page ≤ (ps.length : Int) - 1) && decide (text.size ≤ 240) && decide (ls.length ≠ 200)

/-- what is late behind it -/
def writeL (ps : List ByteArray) (ls : List (Int × ByteArray)) (page : Int) (text : ByteArray) : List (Int × ByteArray) := if writeOk ps ls page text = true then ls ++ [(page, text)] else ls

theorem writeL_le {ps : List ByteArray} {ls : List (Int × ByteArray)} {page : Int} {text : ByteArray} (h : ls.length ≤ 1048576) : (writeL ps ls page text).length ≤ 1048576 := by
  rw [writeL]
  split
  · next hw =>
    rw [writeOk] at hw
    simp only [Bool.and_eq_true] at hw
    have := (diskOk_yes hw.1.1.1).2.2.2.2
    simp
    omega
  · exact h

/-- the text that is kept of the one at the place k -/
def fallT (torn : Int) (k : Nat) (t : ByteArray) : ByteArray := if (k : Int) = torn then t.extract 0 (t.size / 2) else t

/-- the pages behind the first k of what was late -/
def fallK (left : List Bool) (torn : Int) (ps : List ByteArray) (ls : List (Int × ByteArray)) : Nat → List ByteArray
  | 0 => ps
  | k + 1 => match ls[k]? with
    | some p => if left.getD k false = true then putD (fallK left torn ps ls k) (p.1, fallT torn k p.2) else fallK left torn ps ls k
    | none => fallK left torn ps ls k

theorem fallK_length (left : List Bool) (torn : Int) (ps : List ByteArray) (ls : List (Int × ByteArray)) (k : Nat) : (fallK left torn ps ls k).length = ps.length := by
  induction k with
  | zero => rfl
  | succ k ih =>
    rw [fallK]
    split
    · split
      · rw [putD_length, ih]
      · exact ih
    · exact ih

theorem fallK_put {left : List Bool} {torn : Int} {ps : List ByteArray} {ls : List (Int × ByteArray)} {k : Nat} {q : Int} {t : ByteArray} (h : ls[k]? = some (q, t)) (hl : left.getD k false = true) : fallK left torn ps ls (k + 1) = putD (fallK left torn ps ls k) (q, fallT torn k t) := by
  rw [fallK, h]
  exact if_pos hl

theorem fallK_lost {left : List Bool} {torn : Int} {ps : List ByteArray} {ls : List (Int × ByteArray)} {k : Nat} (hl : left.getD k false = false) : fallK left torn ps ls (k + 1) = fallK left torn ps ls k := by
  rw [fallK]
  split
  · exact if_neg (by rw [hl]; decide)
  · rfl

/-- what falls: the pages, and what is late -/
def fallP (left : List Bool) (torn : Int) (ps : List ByteArray) (ls : List (Int × ByteArray)) : List ByteArray := if diskOkB ps ls = true then fallK left torn ps ls ls.length else ps
def fallL (ps : List ByteArray) (ls : List (Int × ByteArray)) : List (Int × ByteArray) := if diskOkB ps ls = true then [] else ls

end Go.Proofs.Ythcakofocbileaa
