/-
  Plain facts on keys: the lesser value has the lesser key; the same ones have the same. No program.
-/
import Derived.Test.YtjldcbnoomcloaaThingSpec2
namespace Go.Proofs.Ytjldcbnoomcloaa
open Go.RowKit

theorem u8_lt {a b : Nat} (ha : a < 256) (hb : b < 256) : decide (UInt8.ofNat a < UInt8.ofNat b) = decide (a < b) := by
  apply decide_eq_decide.2
  rw [UInt8.lt_iff_toNat_lt, toNat_ofNat8 a ha, toNat_ofNat8 b hb]

theorem u8_eq {a b : Nat} (ha : a < 256) (hb : b < 256) : (UInt8.ofNat a == UInt8.ofNat b) = decide (a = b) := by
  by_cases h : a = b
  · subst h; simp
  · rw [decide_eq_false h, beq_eq_false_iff_ne]
    intro e
    apply h
    have := congrArg UInt8.toNat e
    rwa [toNat_ofNat8 a ha, toNat_ofNat8 b hb] at this

theorem less_three {a1 a2 a3 b1 b2 b3 : Nat} (h1 : a1 < 256) (h2 : a2 < 256) (h3 : a3 < 256) (k1 : b1 < 256) (k2 : b2 < 256) (k3 : b3 < 256) :
    Op.bytesLess [UInt8.ofNat a1, UInt8.ofNat a2, UInt8.ofNat a3] [UInt8.ofNat b1, UInt8.ofNat b2, UInt8.ofNat b3] = decide (a1 * 65536 + a2 * 256 + a3 < b1 * 65536 + b2 * 256 + b3) := by
  simp only [Op.bytesLess, u8_lt h1 k1, u8_lt h2 k2, u8_lt h3 k3, u8_eq h1 k1, u8_eq h2 k2, u8_eq h3 k3, Bool.and_false, Bool.or_false]
  rw [Bool.eq_iff_iff]
  simp only [Bool.or_eq_true, Bool.and_eq_true, decide_eq_true_eq]
  omega

theorem three (n : Nat) : n / 65536 * 65536 + n / 256 % 256 * 256 + n % 256 = n := by
  have h1 : n / 65536 = n / 256 / 256 := by rw [Nat.div_div_eq_div_mul]
  rw [h1]
  omega

/-- the bytes of a number's key -/
theorem less_num {n m : Nat} (hn : n ≤ 999999) (hm : m ≤ 999999) :
    Op.bytesLess [UInt8.ofNat (n / 65536), UInt8.ofNat (n / 256 % 256), UInt8.ofNat (n % 256)] [UInt8.ofNat (m / 65536), UInt8.ofNat (m / 256 % 256), UInt8.ofNat (m % 256)] = decide (n < m) := by
  rw [less_three (by omega) (by omega) (by omega) (by omega) (by omega) (by omega)]
  apply decide_eq_decide.2
  rw [three n, three m]

set_option maxRecDepth 10000 in
theorem same_num {n m : Nat} (hn : n ≤ 999999) (hm : m ≤ 999999) (h : [UInt8.ofNat (n / 65536), UInt8.ofNat (n / 256 % 256), UInt8.ofNat (n % 256)] = [UInt8.ofNat (m / 65536), UInt8.ofNat (m / 256 % 256), UInt8.ofNat (m % 256)]) : n = m := by
  simp only [List.cons.injEq, and_true] at h
  obtain ⟨h1, h2, h3⟩ := h
  have g1 := congrArg UInt8.toNat h1
  have g2 := congrArg UInt8.toNat h2
  have g3 := congrArg UInt8.toNat h3
  rw [toNat_ofNat8 _ (by omega), toNat_ofNat8 _ (by omega)] at g1 g2 g3
  rw [← three n, ← three m, g1, g2, g3]

theorem less_text : ∀ (s t : List UInt8), (∀ b ∈ s, b ≠ 0) → (∀ b ∈ t, b ≠ 0) → Op.bytesLess (s ++ [0]) (t ++ [0]) = Op.bytesLess s t
  | [], [], _, _ => rfl
  | [], b :: t, _, ht => by
    have hb : (0 : UInt8) < b := by
      rw [UInt8.lt_iff_toNat_lt]
      have := ht b (List.mem_cons_self ..)
      have h0 : b.toNat ≠ 0 := fun e => this (UInt8.toNat_inj.1 e)
      show (0 : UInt8).toNat < b.toNat
      simp
      omega
    simp [Op.bytesLess, hb]
  | a :: s, [], hs, _ => by
    have h0 : ¬ a < 0 := by rw [UInt8.lt_iff_toNat_lt]; simp
    simp [Op.bytesLess, h0]
  | a :: s, b :: t, hs, ht => by
    have ih := less_text s t (fun x hx => hs x (List.mem_cons_of_mem _ hx)) (fun x hx => ht x (List.mem_cons_of_mem _ hx))
    simp only [List.cons_append, Op.bytesLess, ih]

/-- two values of a kind, and their keys -/
theorem key_order {kind n m : Int} {s t : ByteArray} (hk : kind = 1 ∨ kind = 2) (h1 : valueB kind n s = true) (h2 : valueB kind m t = true) :
    Op.bytesLess (keyO kind n s).toList (keyO kind m t).toList = (if kind = 2 then Op.bytesLess s.toList t.toList else decide (n < m)) ∧ (keyO kind n s = keyO kind m t ↔ n = m ∧ s = t) := by
  rw [keyO, if_pos h1, keyO, if_pos h2, keyT, keyT]
  rcases hk with rfl | rfl
  · rw [value_num, Bool.and_eq_true, decide_eq_true_eq, decide_eq_true_eq] at h1 h2
    obtain ⟨⟨a0, a1⟩, rfl⟩ := h1
    obtain ⟨⟨b0, b1⟩, rfl⟩ := h2
    obtain ⟨x, rfl⟩ := Int.eq_ofNat_of_zero_le a0
    obtain ⟨y, rfl⟩ := Int.eq_ofNat_of_zero_le b0
    simp only [if_true, Int.toNat_natCast]
    rw [if_neg (by decide), ByteArray.toList_eq, ByteArray.toList_eq]
    refine ⟨?_, ?_⟩
    · rw [less_num (by omega) (by omega)]
      apply decide_eq_decide.2
      omega
    · constructor
      · intro h
        have h3 := congrArg (fun z : ByteArray => z.data.toList) h
        exact ⟨by rw [same_num (by omega) (by omega) h3], trivial⟩
      · rintro ⟨h, -⟩
        rw [show x = y from by omega]
  · rw [valueB, if_neg (by decide), Bool.and_eq_true, decide_eq_true_eq, decide_eq_true_eq] at h1 h2
    obtain ⟨a0, -, rfl, -⟩ := h1
    obtain ⟨b0, -, rfl, -⟩ := h2
    rw [if_neg (by decide), if_neg (by decide), if_pos rfl]
    have no : ∀ (z : ByteArray), (∀ i, i < z.size → byt z i ≠ 0) → ∀ b ∈ z.data.toList, b ≠ 0 := fun z hz b hb e => by
      obtain ⟨i, hi, rfl⟩ := List.getElem_of_mem hb
      have hi' : i < z.size := by rw [Array.length_toList] at hi; exact hi
      apply hz i hi'
      rw [← byt_eq z i hi']
      have : (z.data.toList[i]).toNat = 0 := by rw [e]; rfl
      exact (by simpa using this : z.data[i].toNat = 0)
    refine ⟨?_, ?_⟩
    · rw [ByteArray.toList_eq, ByteArray.toList_eq, ByteArray.toList_eq, ByteArray.toList_eq, ByteArray.data_append, ByteArray.data_append, Array.toList_append, Array.toList_append]
      exact less_text _ _ (no s a0) (no t b0)
    · constructor
      · intro h
        have h3 := congrArg (fun z : ByteArray => z.data.toList) h
        simp only [ByteArray.data_append, Array.toList_append] at h3
        have h4 := List.append_cancel_right h3
        exact ⟨rfl, ByteArray.ext (Array.toList_inj.1 h4)⟩
      · rintro ⟨-, rfl⟩; rfl
end Go.Proofs.Ytjldcbnoomcloaa
