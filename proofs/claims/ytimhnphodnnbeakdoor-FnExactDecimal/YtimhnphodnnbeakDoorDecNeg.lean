/-
  spec.Decimal by its contract, for a number below 0: a sign, then its figures.
-/
import Derived.Test.YtimhnphodnnbeakDoorDec
namespace Go.Proofs.YtimhnphodnnbeakDoor
open Go.RowKit

theorem neg_mod (m r : Nat) (h : r = m % 10) : (-(m : Int)).tmod 10 = -(r : Int) := by
  subst h
  rw [Int.neg_tmod, Int.tmod_eq_emod_of_nonneg (by omega)]
  omega

theorem neg_quo (m : Nat) : (-(m : Int)).tdiv 10 = -((m / 10 : Nat) : Int) := by
  rw [Int.neg_tdiv, Int.tdiv_eq_ediv_of_nonneg (by omega)]
  omega

set_option maxHeartbeats 1000000 in
set_option maxRecDepth 100000 in
theorem specDecimal_neg (n : Nat) (h0 : 0 < n) (h1 : n ≤ 9223372036854775808) (w : World) :
    Calls Tryd.prog 5 #[.int .i64 (-(n : Int))] w fun e w' => e = .returned (.string (⟨#[45]⟩ ++ ⟨(decF 20 n).toArray⟩)) ∧ Below w.heap.size w w' := by
  have hne : (-(n : Int) == 0) = false := by rw [beq_eq_false_iff_ne]; omega
  have hnn : decide (-(n : Int) < 0) = true := by simp; omega
  go_enter Tryd.func5, Tryd.ntmps5
  go_wp2_with fail
  go_loopg [0, 4] 20 (fun g nv sv wr => ∃ (m : Nat) (t : ByteArray), nv = .int .i64 (-(m : Int)) ∧ sv = .string t ∧ m ≤ 9223372036854775808 ∧ t.size ≤ 20 - g ∧ g ≤ 20 ∧ Hid (m < 10 ^ g) ∧ Hid (∃ L : List UInt8, t = ⟨L.toArray⟩ ∧ decF g m ++ L = decF 20 n) ∧ Below w.heap.size w wr)
  case atStart => exact ⟨n, ⟨#[]⟩, rfl, rfl, h1, Nat.le_refl 0, by omega, hide (pow20 n (by omega)), hide ⟨[], rfl, by simp⟩, Below.refl _ _⟩
  case round =>
    obtain ⟨m, t, rfl, rfl, hm, hts, hg20, HF, HL, hb⟩ := hrel
    have hB := hb.size
    by_cases hz : m = 0
    · have HE : Hid (t = ⟨(decF 20 n).toArray⟩) := hide (by
        obtain ⟨L, hL, hd⟩ := HL.out
        rw [hz, decF_zero, List.nil_append] at hd
        rw [hL, hd])
      have hmz : (-(m : Int) != 0) = false := by rw [bne_eq_false_iff_eq]; omega
      clear hz
      go_wp2_with fail
      go_ret
      exact ⟨by rw [HE.out]; rfl, hb⟩
    · have hmz : (-(m : Int) != 0) = true := by rw [bne_iff_ne]; omega
      obtain ⟨q, hq, hf', hdec⟩ := decF_step gk m hz HF.out
      obtain ⟨r, hr⟩ : ∃ r, r = m % 10 := ⟨_, rfl⟩
      obtain ⟨f, hf⟩ : ∃ f, f = 48 + m % 10 := ⟨_, rfl⟩
      have hr10 : r < 10 := by omega
      have HC := hide (figure_dec (r : Int) r f hr10 rfl (by omega))
      have HC0 : Hid (r ≤ 0 → ∀ w, Calls Tryd.prog 12 #[.int .i64 (-(r : Int))] w fun e w' => e = .returned (.int .u8 (f : Int)) ∧ w = w') := hide (fun h => figure_dec (-(r : Int)) 0 f (by omega) (by omega) (by omega))
      have hmod := neg_mod m r hr
      have hquo := neg_quo m
      have hf256 : f < 256 := by omega
      have hso := string_one wr f hf256
      have HQ := hide hq
      have HF' := hide hf'
      have HD : Hid (∃ L : List UInt8, (⟨#[UInt8.ofNat f]⟩ ++ t : ByteArray) = ⟨L.toArray⟩ ∧ decF q (m / 10) ++ L = decF 20 n) := hide (by
        obtain ⟨L, hL, hd⟩ := HL.out
        refine ⟨UInt8.ofNat f :: L, by rw [hL, str_cons], ?_⟩
        rw [← hd, hdec, hf, List.append_assoc]; rfl)
      have hg1 : 1 ≤ gk := by omega
      clear hq hf' hdec hf hz hr
      by_cases hr0 : r ≤ 0
      · go_wp2_with fail
        refine (HC0.out hr0 _).mono ?_
        rintro e w1 ⟨rfl, rfl⟩
        go_wp2_with fail
        go_roundg q
        case measure => have := HQ.out; omega
        case rel => exact ⟨m / 10, ⟨#[UInt8.ofNat f]⟩ ++ t, by go_num, rfl, by omega, by have := HQ.out; have h1 : (⟨#[UInt8.ofNat f]⟩ : ByteArray).size = 1 := rfl; rw [ByteArray.size_append, h1]; omega, by have := HQ.out; omega, HF', HD, hb.alloc hB _⟩
      · go_wp2_with fail
        refine (HC.out _).mono ?_
        rintro e w1 ⟨rfl, rfl⟩
        go_wp2_with fail
        go_roundg q
        case measure => have := HQ.out; omega
        case rel => exact ⟨m / 10, ⟨#[UInt8.ofNat f]⟩ ++ t, by go_num, rfl, by omega, by have := HQ.out; have h1 : (⟨#[UInt8.ofNat f]⟩ : ByteArray).size = 1 := rfl; rw [ByteArray.size_append, h1]; omega, by have := HQ.out; omega, HF', HD, hb.alloc hB _⟩
end Go.Proofs.YtimhnphodnnbeakDoor
