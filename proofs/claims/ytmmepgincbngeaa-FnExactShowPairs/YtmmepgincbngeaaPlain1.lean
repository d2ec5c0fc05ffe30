/-
  Plain facts on the bytes of a number (VarText), without any program: what the loops of the Go text gather, as lists of bytes. No condition.
-/
import Derived.WalkKit
import Derived.Lib.UnsafeStr
namespace Go.Proofs.Ytmmepgincbngeaa
open Go.RowKit

theorem hide {p : Prop} (h : p) : Hid p := h

/-- The bytes of n, seven bits a byte, the lowest first; f: how many bytes may still come ahead of the last. -/
def venc : Nat → Nat → List UInt8
  | 0, n => [UInt8.ofNat n]
  | f + 1, n => if n < 128 then [UInt8.ofNat n] else UInt8.ofNat (n % 128 + 128) :: venc f (n / 128)

def vtext (n : Nat) : List UInt8 := venc 4 n

theorem venc_last (f n : Nat) (h : n < 128) : venc f n = [UInt8.ofNat n] := by
  cases f with
  | zero => rfl
  | succ f => simp [venc, h]

theorem venc_step (f n : Nat) (h : 128 ≤ n) (hf : n < 128 ^ (f + 1)) :
    ∃ g, f = g + 1 ∧ n / 128 < 128 ^ (g + 1) ∧ venc f n = UInt8.ofNat (n % 128 + 128) :: venc g (n / 128) := by
  cases f with
  | zero => simp at hf; omega
  | succ g =>
    refine ⟨g, rfl, ?_, ?_⟩
    · rw [Nat.pow_succ] at hf
      exact Nat.div_lt_of_lt_mul (by rw [Nat.mul_comm]; exact hf)
    · simp [venc, Nat.not_lt.2 h]

theorem venc_length (f n : Nat) : 1 ≤ (venc f n).length ∧ (venc f n).length ≤ f + 1 := by
  induction f generalizing n with
  | zero => simp [venc]
  | succ f ih =>
    unfold venc
    split
    · simp
    · have := ih (n / 128)
      simp; omega

theorem vtext_length (n : Nat) : 1 ≤ (vtext n).length ∧ (vtext n).length ≤ 5 := venc_length 4 n

theorem toNat_ofNat8 (k : Nat) (h : k < 256) : (UInt8.ofNat k).toNat = k := by
  simp [UInt8.toNat_ofNat']; omega

theorem cells_snoc (l : List UInt8) (k : Nat) (h : k < 256) : Lib.byteCells l ++ [Value.int .u8 (k : Int)] = Lib.byteCells (l ++ [UInt8.ofNat k]) := by
  simp [Lib.byteCells]; omega

theorem pow5 (n : Nat) (h : n ≤ 1000000000) : n < 128 ^ (4 + 1) := by
  simp; omega

end Go.Proofs.Ytmmepgincbngeaa
