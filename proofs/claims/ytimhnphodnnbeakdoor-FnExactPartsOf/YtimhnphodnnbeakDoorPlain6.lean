/-
  Plain facts on the parts of a line, without any program.
-/
import Derived.Test.YtimhnphodnnbeakDoorPlain3
import Derived.Lib.Strings
import Derived.Lib.Fields
namespace Go.Proofs.YtimhnphodnnbeakDoor
open Go.RowKit

def strV (l : List UInt8) : Value := .string ⟨l.toArray⟩
def strVs (L : List (List UInt8)) : List Value := L.map strV
theorem strVs_length (L : List (List UInt8)) : (strVs L).length = L.length := by simp [strVs]

/-- all bytes from 32 to 126 -/
def plainB (s : ByteArray) : Bool := s.data.toList.all fun b => decide (32 ≤ b.toNat ∧ b.toNat ≤ 126)

theorem plainB_yes (s : ByteArray) (h : ∀ i, i < s.size → 32 ≤ byt s i ∧ byt s i ≤ 126) : plainB s = true := by
  rw [plainB, List.all_eq_true]
  intro b hb
  obtain ⟨i, hi, rfl⟩ := List.mem_iff_getElem.1 hb
  have hi' : i < s.size := by rw [Array.length_toList] at hi; exact hi
  have := h i hi'
  rw [← byt_eq s i hi'] at this
  have e : s.data.toList[i] = s[i] := by simp; rfl
  rw [e]
  exact decide_eq_true this

theorem plainB_at (s : ByteArray) (h : plainB s = true) (i : Nat) (hi : i < s.size) : 32 ≤ byt s i ∧ byt s i ≤ 126 := by
  rw [plainB, List.all_eq_true] at h
  have hm : s[i] ∈ s.data.toList := by
    have : s.data[i]'hi ∈ s.data := Array.getElem_mem _
    exact Array.mem_toList_iff.2 this
  have := of_decide_eq_true (h _ hm)
  rw [byt_eq s i hi] at this
  exact this

theorem plainB_no (s : ByteArray) (i : Nat) (hi : i < s.size) (h : ¬ (32 ≤ byt s i ∧ byt s i ≤ 126)) : plainB s = false := by
  rw [← Bool.not_eq_true]
  exact fun e => h (plainB_at s e i hi)

/-- what PartsOf answers -/
def partsOut (s : ByteArray) : List (List UInt8) × Bool :=
  if s.size ≤ 600 ∧ plainB s = true ∧ (Lib.fields s.data.toList).length ≤ 10 then (Lib.fields s.data.toList, true) else ([], false)

theorem drop_byt (s : ByteArray) (k : Nat) (h : k < s.size) : s.data.toList.drop k = UInt8.ofNat (byt s k) :: s.data.toList.drop (k + 1) := by
  have hl : k < s.data.toList.length := by rw [Array.length_toList]; exact h
  rw [List.drop_eq_getElem_cons hl]
  congr 1
  rw [← byt_eq s k h]
  simp
  rfl

def cutL (s : ByteArray) (b k : Nat) : List UInt8 := (s.extract b k).data.toList

theorem cutL_eq (s : ByteArray) (b k : Nat) : cutL s b k = (s.data.toList.drop b).take (k - b) := Lib.extract_data s b k

theorem cutL_same (s : ByteArray) (b : Nat) : cutL s b b = [] := by rw [cutL_eq]; simp

theorem cutL_snoc (s : ByteArray) (b k : Nat) (hb : b ≤ k) (h : k < s.size) : cutL s b (k + 1) = cutL s b k ++ [UInt8.ofNat (byt s k)] := by
  rw [cutL_eq, cutL_eq]
  have hl : s.data.toList.length = s.size := by rw [Array.length_toList]; rfl
  rw [show k + 1 - b = (k - b) + 1 from by omega, List.take_succ_eq_append_getElem (by rw [List.length_drop]; omega)]
  congr 2
  rw [← byt_eq s k h, List.getElem_drop]
  simp [show b + (k - b) = k from by omega]
  rfl

theorem cutL_length (s : ByteArray) (b k : Nat) (hb : b ≤ k) (h : k ≤ s.size) : (cutL s b k).length = k - b := by
  have hl : s.data.toList.length = s.size := by rw [Array.length_toList]; rfl
  rw [cutL_eq, List.length_take, List.length_drop]; omega

theorem strV_cut (s : ByteArray) (b k : Nat) : strV (cutL s b k) = .string (s.extract b k) := by
  unfold strV cutL
  rw [Array.toArray_toList]

theorem isSp_plain (y : Nat) (h1 : 32 ≤ y) (h2 : y ≤ 126) : Lib.isSp (UInt8.ofNat y) = decide (y = 32) := by
  have key : ∀ y : Fin 127, 32 ≤ y.val → Lib.isSp (UInt8.ofNat y.val) = decide (y.val = 32) := by decide +kernel
  exact key ⟨y, by omega⟩ h1

/-- what is still to come at place k, the word having begun at b -/
def toCome (s : ByteArray) (b k : Nat) : List (List UInt8) := Lib.fieldsGo (cutL s b k) (s.data.toList.drop k)

theorem toCome_start (s : ByteArray) : toCome s 0 0 = Lib.fields s.data.toList := by
  rw [toCome, cutL_same, Lib.fields]; rfl

theorem toCome_letter (s : ByteArray) (b k : Nat) (hb : b ≤ k) (h : k < s.size) (h1 : 32 ≤ byt s k) (h2 : byt s k ≤ 126) (h3 : byt s k ≠ 32) : toCome s b k = toCome s b (k + 1) := by
  rw [toCome, drop_byt s k h, Lib.fieldsGo, isSp_plain _ h1 h2, if_neg (by simpa using h3), toCome, cutL_snoc s b k hb h]

theorem toCome_blank (s : ByteArray) (b k : Nat) (hb : b < k) (h : k < s.size) (h1 : byt s k = 32) : toCome s b k = cutL s b k :: toCome s (k + 1) (k + 1) := by
  have hne : (cutL s b k).isEmpty = false := by
    rw [← Bool.not_eq_true, List.isEmpty_iff, ← List.length_eq_zero_iff, cutL_length s b k (by omega) (by omega)]; omega
  rw [toCome, drop_byt s k h, Lib.fieldsGo, isSp_plain _ (by omega) (by omega), if_pos (by simpa using h1), hne, toCome, cutL_same]
  rfl

theorem toCome_blank0 (s : ByteArray) (k : Nat) (h : k < s.size) (h1 : byt s k = 32) : toCome s k k = toCome s (k + 1) (k + 1) := by
  rw [toCome, drop_byt s k h, Lib.fieldsGo, isSp_plain _ (by omega) (by omega), if_pos (by simpa using h1), cutL_same, toCome, cutL_same]
  rfl

theorem toCome_end (s : ByteArray) (b : Nat) (hb : b < s.size) : toCome s b s.size = [cutL s b s.size] := by
  have hne : (cutL s b s.size).isEmpty = false := by
    rw [← Bool.not_eq_true, List.isEmpty_iff, ← List.length_eq_zero_iff, cutL_length s b s.size (by omega) (by omega)]; omega
  have hd : s.data.toList.drop s.size = [] := List.drop_of_length_le (by rw [Array.length_toList]; exact Nat.le_refl _)
  rw [toCome, hd, Lib.fieldsGo, hne]; rfl

theorem toCome_end0 (s : ByteArray) : toCome s s.size s.size = [] := by
  have hd : s.data.toList.drop s.size = [] := List.drop_of_length_le (by rw [Array.length_toList]; exact Nat.le_refl _)
  rw [toCome, hd, cutL_same, Lib.fieldsGo]; rfl
end Go.Proofs.YtimhnphodnnbeakDoor
