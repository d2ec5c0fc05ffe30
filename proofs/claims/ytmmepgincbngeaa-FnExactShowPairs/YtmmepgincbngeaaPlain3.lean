/-
  Plain facts on hexadecimal figures, without any program.
-/
import Derived.Test.YtmmepgincbngeaaPlain2
namespace Go.Proofs.Ytmmepgincbngeaa
open Go.RowKit

/-- the figure of x (0 .. 15), as a byte's number -/
def fig (x : Nat) : Nat := if x < 10 then 48 + x else 87 + x

theorem fig_lt (x : Nat) (h : x < 16) : fig x < 256 := by unfold fig; split <;> omega

/-- the two figures of each byte -/
def hexOf (l : List UInt8) : List UInt8 := l.flatMap fun c => [UInt8.ofNat (fig (c.toNat / 16)), UInt8.ofNat (fig (c.toNat % 16))]

theorem hexOf_length (l : List UInt8) : (hexOf l).length = 2 * l.length := by
  induction l with
  | nil => rfl
  | cons a l ih => simp [hexOf] at ih ⊢; omega

theorem take_byt (s : ByteArray) (k : Nat) (h : k < s.size) : s.data.toList.take (k + 1) = s.data.toList.take k ++ [UInt8.ofNat (byt s k)] := by
  have hl : k < s.data.toList.length := by rw [Array.length_toList]; exact h
  rw [List.take_succ_eq_append_getElem hl]
  congr 2
  rw [← byt_eq s k h]
  simp
  rfl

theorem hexOf_snoc (s : ByteArray) (k : Nat) (h : k < s.size) :
    hexOf (s.data.toList.take (k + 1)) = hexOf (s.data.toList.take k) ++ [UInt8.ofNat (fig (byt s k / 16)), UInt8.ofNat (fig (byt s k % 16))] := by
  rw [take_byt s k h]
  have := byt_lt s k
  simp [hexOf, List.flatMap_append, UInt8.toNat_ofNat', Nat.mod_eq_of_lt this]

theorem cells_two (l : List UInt8) (a b : Nat) (ha : a < 256) (hb : b < 256) : Lib.byteCells l ++ [Value.int .u8 (a : Int), Value.int .u8 (b : Int)] = Lib.byteCells (l ++ [UInt8.ofNat a, UInt8.ofNat b]) := by
  simp [Lib.byteCells]; omega

theorem wrap_nat (y : Nat) (h : y < 256) : IntKind.i64.wrap (y : Int) = (y : Int) := IntWalk.i64_in _ ⟨by omega, by omega⟩
theorem and15 (y : Nat) (h : y < 256) : bits BinOp.and IntKind.u8 (y : Int) 15 = (y : Int) % 16 := by
  have key : ∀ y : Fin 256, bits BinOp.and IntKind.u8 ((y.val : Nat) : Int) 15 = ((y.val : Nat) : Int) % 16 := by decide +kernel
  exact key ⟨y, h⟩

theorem figs_at (x : Nat) (h : x < 16) (h' : x < (⟨#[48, 49, 50, 51, 52, 53, 54, 55, 56, 57, 97, 98, 99, 100, 101, 102]⟩ : ByteArray).size) :
    ((⟨#[48, 49, 50, 51, 52, 53, 54, 55, 56, 57, 97, 98, 99, 100, 101, 102]⟩ : ByteArray)[x]'h').toNat = fig x := by
  have key : ∀ x : Fin 16, ((⟨#[48, 49, 50, 51, 52, 53, 54, 55, 56, 57, 97, 98, 99, 100, 101, 102]⟩ : ByteArray)[x.val]'(by have := x.isLt; exact this)).toNat = fig x.val := by decide +kernel
  exact key ⟨x, h⟩

theorem figs_int (i : Int) (x : Nat) (hx : x < 16) (e : i = (x : Int)) (h' : i.toNat < (⟨#[48, 49, 50, 51, 52, 53, 54, 55, 56, 57, 97, 98, 99, 100, 101, 102]⟩ : ByteArray).size) :
    ((⟨#[48, 49, 50, 51, 52, 53, 54, 55, 56, 57, 97, 98, 99, 100, 101, 102]⟩ : ByteArray)[i.toNat]'h').toNat = fig x := by
  subst e
  exact figs_at x hx _
end Go.Proofs.Ytmmepgincbngeaa
