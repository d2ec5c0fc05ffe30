/-
  Plain facts on decimal figures, without any program.
-/
import Derived.Test.YtmmepgincbngeaaPlain3
namespace Go.Proofs.Ytmmepgincbngeaa
open Go.RowKit

/-- the figures of m, the highest first; none for 0; f: how many at most -/
def decF : Nat → Nat → List UInt8
  | 0, _ => []
  | f + 1, m => if m = 0 then [] else decF f (m / 10) ++ [UInt8.ofNat (48 + m % 10)]

theorem decF_zero (f : Nat) : decF f 0 = [] := by
  cases f <;> simp [decF]

theorem decF_step (f m : Nat) (h : m ≠ 0) (hf : m < 10 ^ f) : ∃ g, f = g + 1 ∧ m / 10 < 10 ^ g ∧ decF f m = decF g (m / 10) ++ [UInt8.ofNat (48 + m % 10)] := by
  cases f with
  | zero => simp at hf; omega
  | succ g =>
    refine ⟨g, rfl, ?_, ?_⟩
    · rw [Nat.pow_succ] at hf
      exact Nat.div_lt_of_lt_mul (by rw [Nat.mul_comm]; exact hf)
    · rw [decF, if_neg h]

theorem decF_length (f m : Nat) : (decF f m).length ≤ f := by
  induction f generalizing m with
  | zero => simp [decF]
  | succ f ih =>
    unfold decF
    split
    · simp
    · have := ih (m / 10)
      simp; omega

/-- the figures of m, '0' for 0 -/
def decN (m : Nat) : List UInt8 := if m = 0 then [48] else decF 20 m

theorem pow20 (m : Nat) (h : m ≤ 9223372036854775808) : m < 10 ^ 20 := by
  have : (10 : Nat) ^ 20 = 100000000000000000000 := by decide
  omega

theorem str_cons (c : UInt8) (L : List UInt8) : (⟨#[c]⟩ ++ ⟨L.toArray⟩ : ByteArray) = ⟨(c :: L).toArray⟩ := by
  apply ByteArray.ext
  simp [ByteArray.data_append]

def isD (y : Nat) : Prop := 48 ≤ y ∧ y ≤ 57

/-- what the first k figures tell -/
def valD (s : ByteArray) : Nat → Nat
  | 0 => 0
  | k + 1 => 10 * valD s k + (byt s k - 48)

/-- a number as Decimal writes it, at most 1000000000 -/
def okD (s : ByteArray) : Prop := 1 ≤ s.size ∧ (∀ i, i < s.size → isD (byt s i)) ∧ (s.size = 1 ∨ byt s 0 ≠ 48) ∧ valD s s.size ≤ 1000000000

theorem valD_mono (s : ByteArray) (k j : Nat) (h : k ≤ j) : valD s k ≤ valD s j := by
  induction j with
  | zero => obtain rfl : k = 0 := by omega
            exact Nat.le_refl _
  | succ j ih =>
    by_cases e : k = j + 1
    · rw [e]; exact Nat.le_refl _
    · have := ih (by omega)
      simp only [valD]; omega

theorem valD_pos (s : ByteArray) (k : Nat) (h0 : isD (byt s 0)) (h : byt s 0 ≠ 48) : 10 ^ k ≤ valD s (k + 1) := by
  induction k with
  | zero => simp only [valD, isD] at *; omega
  | succ k ih =>
    rw [valD, Nat.pow_succ]
    omega

theorem valD_small (s : ByteArray) (k : Nat) (h0 : byt s 0 = 48) (h : ∀ i, i < k + 1 → isD (byt s i)) : valD s (k + 1) < 10 ^ k := by
  induction k with
  | zero => simp only [valD]; omega
  | succ k ih =>
    have h1 := ih (fun i hi => h i (by omega))
    have h2 := h (k + 1) (by omega)
    rw [valD, Nat.pow_succ]
    simp only [isD] at h2
    omega

theorem valD_lt (s : ByteArray) (k : Nat) (h : ∀ i, i < k → isD (byt s i)) : valD s k < 10 ^ k := by
  induction k with
  | zero => simp [valD]
  | succ k ih =>
    have h1 := ih (fun i hi => h i (by omega))
    have h2 := h k (by omega)
    rw [valD, Nat.pow_succ]
    simp only [isD] at h2
    omega

theorem decF_short (f m j : Nat) (h : m < 10 ^ j) : (decF f m).length ≤ j := by
  induction j generalizing f m with
  | zero => obtain rfl : m = 0 := by simp at h; omega
            rw [decF_zero]; simp
  | succ j ih =>
    cases f with
    | zero => simp [decF]
    | succ f =>
      unfold decF
      split
      · simp
      · have := ih f (m / 10) (by rw [Nat.pow_succ] at h; exact Nat.div_lt_of_lt_mul (by rw [Nat.mul_comm]; exact h))
        simp; omega

theorem decF_take (s : ByteArray) (k f : Nat) (hf : k ≤ f) (hk : k ≤ s.size) (hd : ∀ i, i < k → isD (byt s i)) (h0 : byt s 0 ≠ 48) : decF f (valD s k) = s.data.toList.take k := by
  induction k generalizing f with
  | zero => rw [valD, decF_zero]; simp
  | succ k ih =>
    cases f with
    | zero => omega
    | succ f =>
      have hp := valD_pos s k (hd 0 (by omega)) h0
      have hpp : 0 < 10 ^ k := Nat.pow_pos (by omega)
      have hk' := hd k (by omega)
      simp only [isD] at hk'
      have e1 : valD s (k + 1) / 10 = valD s k := by rw [valD]; omega
      have e2 : 48 + valD s (k + 1) % 10 = byt s k := by rw [valD]; omega
      rw [decF, if_neg (by omega), e1, e2, ih f (by omega) (by omega) (fun i hi => hd i (by omega)), take_byt s k (by omega)]

theorem take_all (s : ByteArray) : s.data.toList.take s.size = s.data.toList := List.take_of_length_le (by rw [Array.length_toList]; exact Nat.le_refl _)

theorem len_data (s : ByteArray) : s.data.toList.length = s.size := by rw [Array.length_toList]; rfl

/-- all figures, at most ten: they are the number's own just when there is one, and the first is not 0 unless it is alone -/
theorem decN_iff (s : ByteArray) (hs : s.size ≤ 10) (hd : ∀ i, i < s.size → isD (byt s i)) : decN (valD s s.size) = s.data.toList ↔ (1 ≤ s.size ∧ (s.size = 1 ∨ byt s 0 ≠ 48)) := by
  constructor
  · intro e
    have hl := congrArg List.length e
    rw [len_data] at hl
    by_cases hz : s.size = 0
    · rw [hz] at hl; simp [valD, decN] at hl
    · refine ⟨by omega, ?_⟩
      by_cases h1 : s.size = 1
      · exact Or.inl h1
      · refine Or.inr (fun h0 => ?_)
        obtain ⟨k, hk⟩ : ∃ k, s.size = k + 1 := ⟨s.size - 1, by omega⟩
        have hsm := valD_small s k h0 (fun i hi => hd i (by omega))
        rw [← hk] at hsm
        unfold decN at hl
        split at hl
        · simp at hl; omega
        · have := decF_short 20 _ k hsm
          omega
  · rintro ⟨h1, h2⟩
    by_cases h0 : byt s 0 = 48
    · have hs1 : s.size = 1 := by omega
      have hv : valD s s.size = 0 := by rw [hs1]; simp [valD, h0]
      have ht := take_byt s 0 (by omega)
      have ha := take_all s
      rw [hs1] at ha
      rw [hv, ← ha, ht, h0]
      simp [decN]
    · have hp := valD_pos s (s.size - 1) (hd 0 (by omega)) h0
      have hpp : 0 < 10 ^ (s.size - 1) := Nat.pow_pos (by omega)
      rw [show s.size - 1 + 1 = s.size from by omega] at hp
      rw [decN, if_neg (by omega), decF_take s s.size 20 (by omega) (Nat.le_refl _) hd h0, take_all]

theorem okD_small (s : ByteArray) (h : okD s) : s.size ≤ 10 := by
  obtain ⟨h1, h2, h3, h4⟩ := h
  rcases h3 with h3 | h3
  · omega
  · by_cases hs : s.size ≤ 10
    · exact hs
    · exfalso
      have hp := valD_pos s 10 (h2 0 (by omega)) h3
      have hm := valD_mono s (10 + 1) s.size (by omega)
      have : (10 : Nat) ^ 10 = 10000000000 := by decide
      omega
end Go.Proofs.Ytmmepgincbngeaa
