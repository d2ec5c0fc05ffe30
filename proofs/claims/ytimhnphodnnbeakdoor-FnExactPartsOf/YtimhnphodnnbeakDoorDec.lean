/-
  spec.Decimal by its contract, for a number that is not below 0: its figures.
-/
import Derived.Test.YtimhnphodnnbeakDoorOwn
import Derived.Test.YtimhnphodnnbeakDoorPlain5
import Derived.WalkSpells
import Derived.WalkSmall
import Derived.Deep.LoopGhost
import Derived.Laws.Concat
namespace Go.Proofs.YtimhnphodnnbeakDoor
open Go.RowKit

set_option maxHeartbeats 400000 in
theorem figure_dec (i : Int) (x f : Nat) (hx : x < 10) (e : i = (x : Int)) (hf : f = 48 + x) (w : World) : Calls Tryd.prog 12 #[.int .i64 i] w fun e w' => e = .returned (.int .u8 (f : Int)) ∧ w = w' := by
  subst e hf
  go_enter Tryd.func12, Tryd.ntmps12
  go_wp2
  go_ret
  exact ⟨by simp, rfl⟩

theorem string_one (W : World) (f : Nat) (hf : f < 256) :
    (convert 31 9 (.slice (some ⟨W.heap.size, 0, none⟩) 1 1)).run Tryd.prog (W.alloc (.cells #[.int .u8 (f : Int)] 5)) = .ok (.string ⟨#[UInt8.ofNat f]⟩) (W.alloc (.cells #[.int .u8 (f : Int)] 5)) := by
  have h := run_convert_bytes_back (P := Tryd.prog) (W.alloc (.cells #[.int .u8 (f : Int)] 5)) 31 9 5 ⟨W.heap.size, 0, none⟩ 1 [UInt8.ofNat f] Tryd.underlying31 Tryd.underlying5 Tryd.underlying9
    (fun j hj => by
      obtain rfl : j = 0 := by simp at hj; omega
      simp [Addr.add, toNat_ofNat8 f hf])
  simpa using h

set_option maxHeartbeats 1000000 in
set_option maxRecDepth 100000 in
theorem specDecimal_pos (n : Nat) (h0 : 0 < n) (h1 : n ≤ 9223372036854775807) (w : World) :
    Calls Tryd.prog 5 #[.int .i64 (n : Int)] w fun e w' => e = .returned (.string ⟨(decF 20 n).toArray⟩) ∧ Below w.heap.size w w' := by
  have hne : ((n : Int) == 0) = false := by simp; omega
  have hnn : decide ((n : Int) < 0) = false := by simp
  go_enter Tryd.func5, Tryd.ntmps5
  go_wp2_with fail
  go_loopg [0, 4] 20 (fun g nv sv wr => ∃ (m : Nat) (t : ByteArray), nv = .int .i64 (m : Int) ∧ sv = .string t ∧ m ≤ 9223372036854775807 ∧ t.size ≤ 20 - g ∧ g ≤ 20 ∧ Hid (m < 10 ^ g) ∧ Hid (∃ L : List UInt8, t = ⟨L.toArray⟩ ∧ decF g m ++ L = decF 20 n) ∧ Below w.heap.size w wr)
  case atStart => exact ⟨n, ⟨#[]⟩, rfl, rfl, h1, Nat.le_refl 0, by omega, hide (pow20 n (by omega)), hide ⟨[], rfl, by simp⟩, Below.refl _ _⟩
  case round =>
    obtain ⟨m, t, rfl, rfl, hm, hts, hg20, HF, HL, hb⟩ := hrel
    have hB := hb.size
    by_cases hz : m = 0
    · have HE : Hid (t = ⟨(decF 20 n).toArray⟩) := hide (by
        obtain ⟨L, hL, hd⟩ := HL.out
        rw [hz, decF_zero, List.nil_append] at hd
        rw [hL, hd])
      have hmz : ((m : Int) != 0) = false := by rw [bne_eq_false_iff_eq]; omega
      clear hz
      go_wp2_with fail
      go_ret
      exact ⟨by rw [HE.out]; rfl, hb⟩
    · have hmz : ((m : Int) != 0) = true := by rw [bne_iff_ne]; omega
      obtain ⟨q, hq, hf', hdec⟩ := decF_step gk m hz HF.out
      have HC := hide (figure_dec ((m : Int) % 10) (m % 10) (48 + m % 10) (by omega) (by omega) rfl)
      obtain ⟨f, hf⟩ : ∃ f, f = 48 + m % 10 := ⟨_, rfl⟩
      rw [← hf] at HC
      have hf256 : f < 256 := by omega
      have hso := string_one wr f hf256
      have HQ := hide hq
      have HF' := hide hf'
      have HD : Hid (∃ L : List UInt8, (⟨#[UInt8.ofNat f]⟩ ++ t : ByteArray) = ⟨L.toArray⟩ ∧ decF q (m / 10) ++ L = decF 20 n) := hide (by
        obtain ⟨L, hL, hd⟩ := HL.out
        refine ⟨UInt8.ofNat f :: L, by rw [hL, str_cons], ?_⟩
        rw [← hd, hdec, hf, List.append_assoc]; rfl)
      have hg1 : 1 ≤ gk := by omega
      clear hq hf' hdec hf hz
      go_wp2_with fail
      refine (HC.out _).mono ?_
      rintro e w1 ⟨rfl, rfl⟩
      go_wp2_with fail
      go_roundg q
      case measure => have := HQ.out; omega
      case rel => exact ⟨m / 10, ⟨#[UInt8.ofNat f]⟩ ++ t, by go_num, rfl, by omega, by have := HQ.out; have h1 : (⟨#[UInt8.ofNat f]⟩ : ByteArray).size = 1 := rfl; rw [ByteArray.size_append, h1]; omega, by have := HQ.out; omega, HF', HD, hb.alloc hB _⟩

set_option maxHeartbeats 400000 in
theorem specDecimal_zero (w : World) : Calls Tryd.prog 5 #[.int .i64 0] w fun e w' => e = .returned (.string ⟨#[48]⟩) ∧ w = w' := by
  go_enter Tryd.func5, Tryd.ntmps5
  go_wp2
  go_ret
  exact ⟨rfl, rfl⟩

theorem specDecimal_nat (n : Nat) (h1 : n ≤ 9223372036854775807) (w : World) :
    Calls Tryd.prog 5 #[.int .i64 (n : Int)] w fun e w' => e = .returned (.string ⟨(decN n).toArray⟩) ∧ Below w.heap.size w w' := by
  by_cases h : n = 0
  · subst h
    refine (specDecimal_zero w).mono ?_
    rintro e w1 ⟨rfl, rfl⟩
    exact ⟨rfl, Below.refl _ _⟩
  · have e : decN n = decF 20 n := by rw [decN, if_neg h]
    rw [e]
    exact specDecimal_pos n (by omega) h1 w
end Go.Proofs.YtimhnphodnnbeakDoor
