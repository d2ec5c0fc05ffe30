/-
  Plain facts on reading a number back (ReadVar): what is gathered byte by byte; when the bytes that were read are the bytes of the number. No program.
-/
import Derived.Test.YtmmepgincbngeaaPlain1
namespace Go.Proofs.Ytmmepgincbngeaa
open Go.RowKit

/-- byte i of s, as a number; 0 behind its end -/
def byt (s : ByteArray) (i : Nat) : Nat := if h : i < s.size then s[i].toNat else 0

theorem byt_lt (s : ByteArray) (i : Nat) : byt s i < 256 := by
  unfold byt
  split
  · exact UInt8.toNat_lt _
  · omega

theorem byt_eq (s : ByteArray) (i : Nat) (h : i < s.size) : s[i].toNat = byt s i := by simp [byt, h]

def accN (b : Nat → Nat) : Nat → Nat
  | 0 => 0
  | j + 1 => accN b j + b j % 128 * 128 ^ j

theorem accN_lt (b : Nat → Nat) (j : Nat) : accN b j < 128 ^ j := by
  induction j with
  | zero => simp [accN]
  | succ j ih =>
    have h1 : b j % 128 * 128 ^ j ≤ 127 * 128 ^ j := Nat.mul_le_mul_right _ (by omega)
    simp only [accN, Nat.pow_succ]
    omega

theorem accN_shift (b : Nat → Nat) (j : Nat) : accN b (j + 1) = b 0 % 128 + 128 * accN (fun i => b (i + 1)) j := by
  induction j with
  | zero => simp [accN]
  | succ j ih =>
    rw [accN, ih]
    simp only [accN, Nat.mul_add, Nat.pow_succ]
    have : b (j + 1) % 128 * (128 ^ j * 128) = 128 * (b (j + 1) % 128 * 128 ^ j) := by
      rw [← Nat.mul_assoc, Nat.mul_comm]
    omega

/-- the result: from round j on, f rounds at most; len: how many bytes there are -/
def rvGo (b : Nat → Nat) (len : Nat) : Nat → Nat → Option (Nat × Nat)
  | 0, _ => none
  | f + 1, j => if j < len then (if b j < 128 then (if accN b (j + 1) ≤ 1000000000 ∧ (b j ≠ 0 ∨ j = 0) then some (accN b (j + 1), j + 1) else none) else rvGo b len f (j + 1)) else none

def bytesTo (b : Nat → Nat) : Nat → List UInt8
  | 0 => []
  | j + 1 => UInt8.ofNat (b 0) :: bytesTo (fun i => b (i + 1)) j

theorem bytesTo_length (b : Nat → Nat) (j : Nat) : (bytesTo b j).length = j := by
  induction j generalizing b with
  | zero => rfl
  | succ j ih => simp [bytesTo, ih]

theorem bytesTo_snoc (b : Nat → Nat) (j : Nat) : bytesTo b (j + 1) = bytesTo b j ++ [UInt8.ofNat (b j)] := by
  induction j generalizing b with
  | zero => rfl
  | succ j ih => rw [bytesTo, ih]; rfl

theorem accN_pos (b : Nat → Nat) (j : Nat) (hl : b j < 128) (h : b j ≠ 0) : 1 ≤ accN b (j + 1) := by
  have : 1 ≤ b j % 128 * 128 ^ j := Nat.mul_pos (by omega) (Nat.pow_pos (by omega))
  simp only [accN]
  omega

theorem venc_bytes (f j : Nat) (b : Nat → Nat) (hjf : j ≤ f) (hb : ∀ i, b i < 256) (hi : ∀ i, i < j → 128 ≤ b i) (hl : b j < 128) (h : b j ≠ 0 ∨ j = 0) :
    venc f (accN b (j + 1)) = bytesTo b (j + 1) := by
  induction j generalizing b f with
  | zero =>
    have e : accN b (0 + 1) = b 0 := by simp [accN]; omega
    rw [e, venc_last _ _ hl]; rfl
  | succ j ih =>
    cases f with
    | zero => omega
    | succ f =>
      have hp := accN_pos (fun i => b (i + 1)) j hl (by omega)
      have h0 := hi 0 (by omega)
      have hb0 := hb 0
      rw [accN_shift, venc, if_neg (by omega)]
      have e1 : (b 0 % 128 + 128 * accN (fun i => b (i + 1)) (j + 1)) % 128 + 128 = b 0 := by omega
      have e2 : (b 0 % 128 + 128 * accN (fun i => b (i + 1)) (j + 1)) / 128 = accN (fun i => b (i + 1)) (j + 1) := by omega
      rw [e1, e2, ih f (fun i => b (i + 1)) (by omega) (fun i => hb _) (fun i h => hi _ (by omega)) hl (by omega)]
      rfl

theorem venc_short (f n j : Nat) (hj : 1 ≤ j) (h : n < 128 ^ j) : (venc f n).length ≤ j := by
  induction j generalizing f n with
  | zero => omega
  | succ j ih =>
    cases f with
    | zero => simp [venc]
    | succ f =>
      unfold venc
      split
      · simp
      · rename_i hn
        have hq : n / 128 < 128 ^ j := by
          rw [Nat.pow_succ] at h
          exact Nat.div_lt_of_lt_mul (by rw [Nat.mul_comm]; exact h)
        have hj1 : 1 ≤ j := by
          cases j with
          | zero => simp at hq; omega
          | succ j => omega
        have := ih f (n / 128) hj1 hq
        simp; omega

/-- the bytes that were read are the number's own just when the last one is not 0, or there is one alone -/
theorem vtext_iff (j : Nat) (b : Nat → Nat) (hj : j ≤ 4) (hb : ∀ i, b i < 256) (hi : ∀ i, i < j → 128 ≤ b i) (hl : b j < 128) :
    vtext (accN b (j + 1)) = bytesTo b (j + 1) ↔ (b j ≠ 0 ∨ j = 0) := by
  constructor
  · intro e
    by_cases h : b j ≠ 0 ∨ j = 0
    · exact h
    · exfalso
      have h0 : b j = 0 := by omega
      have hj1 : 1 ≤ j := by omega
      have e1 : accN b (j + 1) = accN b j := by simp [accN, h0]
      have h2 := venc_short 4 (accN b (j + 1)) j hj1 (by rw [e1]; exact accN_lt b j)
      have h3 := congrArg List.length e
      rw [bytesTo_length] at h3
      unfold vtext at h3
      omega
  · exact venc_bytes 4 j b hj hb hi hl

theorem pow_7 (j : Nat) : (2 : Int) ^ (7 * j) = ((128 ^ j : Nat) : Int) := by
  rw [Int.pow_mul]; norm_cast

theorem digit_le (y j : Nat) (hj : j < 5) : y % 128 * 128 ^ j ≤ 34091302912 := by
  have h1 : 128 ^ j ≤ 128 ^ 4 := Nat.pow_le_pow_right (by omega) (by omega)
  have h2 : y % 128 * 128 ^ j ≤ 127 * 128 ^ 4 := Nat.mul_le_mul (by omega) h1
  simpa using h2

theorem rvGo_next (b : Nat → Nat) (len j : Nat) (hj : j < 5) (hl : j < len) (h : 128 ≤ b j) : rvGo b len (5 - (j + 1)) (j + 1) = rvGo b len (5 - j) j := by
  have e : 5 - j = (5 - (j + 1)) + 1 := by omega
  rw [e, rvGo, if_pos hl, if_neg (by omega)]

theorem rvGo_end (b : Nat → Nat) (len j : Nat) (h : j = 5 ∨ len ≤ j) : rvGo b len (5 - j) j = none := by
  cases e : 5 - j with
  | zero => rfl
  | succ f => rw [rvGo, if_neg (by omega)]

theorem rvGo_hit (b : Nat → Nat) (len j : Nat) (hj : j < 5) (hl : j < len) (h : b j < 128) (h1 : accN b (j + 1) ≤ 1000000000) (h2 : b j ≠ 0 ∨ j = 0) : rvGo b len (5 - j) j = some (accN b (j + 1), j + 1) := by
  have e : 5 - j = (5 - (j + 1)) + 1 := by omega
  rw [e, rvGo, if_pos hl, if_pos h, if_pos ⟨h1, h2⟩]

theorem rvGo_miss (b : Nat → Nat) (len j : Nat) (hj : j < 5) (hl : j < len) (h : b j < 128) (h1 : ¬ (accN b (j + 1) ≤ 1000000000 ∧ (b j ≠ 0 ∨ j = 0))) : rvGo b len (5 - j) j = none := by
  have e : 5 - j = (5 - (j + 1)) + 1 := by omega
  rw [e, rvGo, if_pos hl, if_pos h, if_neg h1]

theorem pow_le5 (j : Nat) (hj : j ≤ 5) : 128 ^ j ≤ 34359738368 := by
  have h1 : 128 ^ j ≤ 128 ^ 5 := Nat.pow_le_pow_right (by omega) (by omega)
  simpa using h1

theorem wrap64_small (n : Int) (h0 : 0 ≤ n) (h1 : n ≤ 9223372036854775807) : wrap64 n = n := IntWalk.wrap64_in n ⟨by omega, by omega⟩

theorem digit_wrap2 (y j X Z : Nat) (hj : j < 5) (h : X = y % 128 * 128 ^ j) (hZ : Z = 128 ^ j) : wrap64 ((y : Int) % 128 * (Z : Int)) = (X : Int) := by
  have e : ((y : Int) % 128 * (Z : Int)) = (X : Int) := by
    rw [hZ, h]; norm_cast
  have := digit_le y j hj
  rw [e, wrap64_small _ (by omega) (by omega)]

theorem digit_wrap (y j X : Nat) (hj : j < 5) (h : X = y % 128 * 128 ^ j) : wrap64 ((y : Int) % 128 * 2 ^ (7 * j)) = (X : Int) := by
  have e : ((y : Int) % 128 * 2 ^ (7 * j)) = (X : Int) := by
    rw [pow_7, h]; norm_cast
  have := digit_le y j hj
  rw [e, wrap64_small _ (by omega) (by omega)]

/-- the bytes of s from p on are 'bytesTo' -/
theorem extract_bytes (s : ByteArray) (p n : Nat) (h : p + n ≤ s.size) : (s.extract p (p + n)).data.toList = bytesTo (fun i => byt s (p + i)) n := by
  induction n with
  | zero => simp [bytesTo]
  | succ n ih =>
    rw [bytesTo_snoc, ← ih (by omega)]
    have hsz : s.data.toList.length = s.size := by rw [Array.length_toList]; rfl
    have h1 : p + n < s.data.toList.length := by omega
    rw [ByteArray.data_extract, ByteArray.data_extract, Array.toList_extract, Array.toList_extract]
    have e : s.data.toList[p + n] = UInt8.ofNat (byt s (p + n)) := by
      rw [← byt_eq s (p + n) (by omega)]
      simp
      rfl
    simp only [List.extract_eq_take_drop]
    have e2 : p + (n + 1) - p = n + 1 := by omega
    have e3 : p + n - p = n := by omega
    rw [e2, e3, List.take_succ_eq_append_getElem (by rw [List.length_drop]; omega)]
    congr 1
    simp [← e]

end Go.Proofs.Ytmmepgincbngeaa
