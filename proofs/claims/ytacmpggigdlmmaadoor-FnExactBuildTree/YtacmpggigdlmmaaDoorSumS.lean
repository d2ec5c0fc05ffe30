/-
  spec.SumMore, spec.SumOf, spec.l02Four, spec.Sealed and spec.Unsealed by contracts: the same answers as impl's.
-/
import Derived.Test.YtacmpggigdlmmaaDoorSeal
namespace Go.Proofs.YtacmpggigdlmmaaDoor
open Go.RowKit

/-- k halvings -/
def halfK : Nat → Nat → Nat
  | 0, x => x
  | k + 1, x => half (halfK k x)

set_option maxHeartbeats 1000000 in
theorem specSumMore_any (c : Nat) (s : ByteArray) (hc : c < 4294967296) (hs : s.size ≤ 9223372036854775807) (w : World) :
    Calls Tryd.prog 72 #[.int .u32 (c : Int), .string s] w fun e w' => e = .returned (.int .u32 (sumL c s.data.toList : Int)) ∧ w = w' := by
  go_enter Tryd.func72, Tryd.ntmps72
  go_wp2
  go_loopg [0, 5] s.size (fun g cv iv wr => ∃ k x : Nat, k ≤ s.size ∧ iv = .int .i64 (k : Int) ∧ g + k = s.size ∧ cv = .int .u32 (x : Int) ∧ x < 4294967296 ∧ Hid (x = sumL c (s.data.toList.take k)) ∧ w = wr)
  case atStart => exact ⟨0, c, Nat.zero_le _, rfl, rfl, rfl, hc, hide rfl, rfl⟩
  case round =>
    obtain ⟨k, x, hk, rfl, hg, rfl, hx, HX, rfl⟩ := hrel
    have HG := hide hg
    clear hg
    by_cases hlt : k < s.size
    · obtain ⟨y, hy⟩ : ∃ y, y = byt s k := ⟨_, rfl⟩
      have hyb : y < 256 := by rw [hy]; exact byt_lt s k
      have hsj : s[k].toNat = y := by rw [hy]; exact byt_eq s k hlt
      have HY := hide hy
      clear hy
      have hk0 : (0 : Int) ≤ (k : Int) := by omega
      have hk1 : (k : Int) < (s.size : Int) := by omega
      obtain ⟨z, hz⟩ : ∃ z, z = x ^^^ y := ⟨_, rfl⟩
      have hzl : z < 4294967296 := by rw [hz]; exact xor_lt32 _ _ hx (by omega)
      have q1 : IntKind.u32.wrap (y : Int) = (y : Int) := wrap32 _ (by omega) (by omega)
      have q2 : bits BinOp.xor IntKind.u32 (x : Int) (y : Int) = (z : Int) := by rw [hz]; exact xor32 x y hx (by omega)
      have HZ := hide hz
      clear hz
      obtain ⟨go, hgo⟩ : ∃ go, go = gk := ⟨_, rfl⟩
      rw [← hgo] at HG
      go_wp2
      go_loopg [0, 6] 8 (fun g cv kv wr => ∃ j m : Nat, j ≤ 8 ∧ kv = .int .i64 (j : Int) ∧ g + j = 8 ∧ cv = .int .u32 (m : Int) ∧ m < 4294967296 ∧ Hid (m = halfK j z) ∧ w = wr)
      case atStart => exact ⟨0, z, Nat.zero_le _, rfl, rfl, rfl, hzl, hide rfl, rfl⟩
      case round =>
        obtain ⟨j, m, hj, rfl, hg, rfl, hm, HM, rfl⟩ := hrel
        have HG2 := hide hg
        clear hg
        by_cases hj8 : j < 8
        · by_cases hodd : m % 2 = 1
          · have hq : decide ((m : Int) % 2 = 1) = true := by simp; omega
            obtain ⟨v, hv⟩ : ∃ v, v = half m := ⟨_, rfl⟩
            have hvl : v < 4294967296 := by rw [hv]; exact half_lt m hm
            have q3 : bits BinOp.xor IntKind.u32 ((m : Int) / 2) 3558460437 = (v : Int) := by
              rw [hv, half, if_pos hodd]
              exact xor32 (m / 2) 3558460437 (by omega) (by omega)
            have HV : Hid (v = halfK (j + 1) z) := hide (by rw [hv, halfK, ← HM.out])
            clear hv
            go_wp2
            go_roundg (gk - 1)
            case measure => have := HG2.out; omega
            case rel => exact ⟨j + 1, v, by omega, by go_num, by have := HG2.out; omega, rfl, hvl, HV, rfl⟩
          · have hq : decide ((m : Int) % 2 = 1) = false := by simp; omega
            have hqn : ¬ ((m : Int) % 2 = 1) := by omega
            have HV : Hid (m / 2 = halfK (j + 1) z) := hide (by rw [halfK, ← HM.out, half, if_neg hodd])
            clear hodd
            go_wp2
            go_roundg (gk - 1)
            case measure => have := HG2.out; omega
            case rel => exact ⟨j + 1, m / 2, by omega, by go_num, by have := HG2.out; omega, by go_num, by omega, HV, rfl⟩
        · obtain rfl : j = 8 := by omega
          have HN : Hid (m = sumL c (s.data.toList.take (k + 1))) := hide (by rw [take_byt s k hlt, sumL_append, ← HX.out, ← HY.out, sumL]; simp only [List.foldl_cons, List.foldl_nil]; rw [toNat_ofNat8 _ hyb, HM.out, HZ.out]; rfl)
          go_wp2
          go_roundg (go - 1)
          case measure => have := HG.out; omega
          case rel => exact ⟨k + 1, m, by omega, by go_num, by have := HG.out; omega, rfl, hm, HN, rfl⟩
    · have hk' : s.data.toList.take k = s.data.toList := List.take_of_length_le (by rw [Array.length_toList]; have : s.data.size = s.size := rfl; omega)
      rw [hk'] at HX
      go_wp2
      go_ret
      rw [← HX.out]
      exact ⟨rfl, rfl⟩

set_option maxHeartbeats 400000 in
theorem specSumOf_any (s : ByteArray) (hs : s.size ≤ 9223372036854775807) (w : World) :
    Calls Tryd.prog 67 #[.string s] w fun e w' => e = .returned (.int .u32 (sumL 4294967295 s.data.toList : Int)) ∧ w = w' := by
  go_enter Tryd.func67, Tryd.ntmps67
  go_wp2_with fail
  refine (specSumMore_any 4294967295 s (by omega) hs _).mono ?_
  rintro e w1 ⟨rfl, rfl⟩
  go_wp2
  go_ret
  exact ⟨rfl, rfl⟩

set_option maxHeartbeats 1000000 in
theorem specFour_any (x : Nat) (w : World) :
    Calls Tryd.prog 66 #[.int .u32 (x : Int)] w fun e w' => e = .returned (.string ⟨(fourL x).toArray⟩) ∧ Below w.heap.size w w' := by
  obtain ⟨a, ha⟩ : ∃ a, a = x / 16777216 % 256 := ⟨_, rfl⟩
  obtain ⟨b, hb⟩ : ∃ b, b = x / 65536 % 256 := ⟨_, rfl⟩
  obtain ⟨c, hc⟩ : ∃ c, c = x / 256 % 256 := ⟨_, rfl⟩
  obtain ⟨d, hd⟩ : ∃ d, d = x % 256 := ⟨_, rfl⟩
  have q1 : IntKind.u8.wrap ((x : Int) / 16777216) = (a : Int) := wrap8 (x / 16777216) a ha
  have q2 : IntKind.u8.wrap ((x : Int) / 65536) = (b : Int) := wrap8 (x / 65536) b hb
  have q3 : IntKind.u8.wrap ((x : Int) / 256) = (c : Int) := wrap8 (x / 256) c hc
  have q4 : IntKind.u8.wrap (x : Int) = (d : Int) := wrap8 x d hd
  have HC : Hid ([Value.int .u8 (a : Int), .int .u8 (b : Int), .int .u8 (c : Int), .int .u8 (d : Int)] = Lib.byteCells (fourL x)) := hide (by rw [ha, hb, hc, hd]; exact four_at x)
  clear ha hb hc hd
  have hown : (w.alloc (Obj.cells #[.int .u8 (a : Int), .int .u8 (b : Int), .int .u8 (c : Int), .int .u8 (d : Int)] 5)).ownsRow w.heap.size 5 1 (.slice (some ⟨w.heap.size, 0, none⟩) 4 4) (fourL x).length (Lib.byteCells (fourL x)) := by
    rw [← HC.out]
    exact World.ownsRow_lit (base := w.heap.size) (e := 5) (size := 1) w #[.int .u8 (a : Int), .int .u8 (b : Int), .int .u8 (c : Int), .int .u8 (d : Int)] 4 (Nat.le_refl _) (by unfold maxLen; omega) (by simp)
  have hcv : (convert 87 9 (.slice (some ⟨w.heap.size, 0, none⟩) 4 4)).run Tryd.prog (w.alloc (Obj.cells #[.int .u8 (a : Int), .int .u8 (b : Int), .int .u8 (c : Int), .int .u8 (d : Int)] 5)) = .ok (.string ⟨(fourL x).toArray⟩) (w.alloc (Obj.cells #[.int .u8 (a : Int), .int .u8 (b : Int), .int .u8 (c : Int), .int .u8 (d : Int)] 5)) :=
    string_own (l := fourL x) Tryd.underlying87 Tryd.underlying5 Tryd.underlying9 hown
  clear hown
  go_enter Tryd.func66, Tryd.ntmps66
  go_wp2
  go_ret
  exact ⟨rfl, (Below.refl _ _).alloc (Nat.le_refl _) _⟩

set_option maxHeartbeats 400000 in
theorem specSealed_yes (s : ByteArray) (h : s.size ≤ 20000) (w : World) :
    Calls Tryd.prog 54 #[.string s] w fun e w' => e = .returned (.tuple #[.string ⟨(sealL s.data.toList).toArray⟩, .bool true]) ∧ Below w.heap.size w w' := by
  have hf : (⟨(fourL (sumL 4294967295 s.data.toList)).toArray⟩ : ByteArray).size = 4 := rfl
  go_enter Tryd.func54, Tryd.ntmps54
  go_wp2_with fail
  refine (specSumOf_any s (by omega) _).mono ?_
  rintro e w1 ⟨rfl, rfl⟩
  go_wp2_with fail
  refine (specFour_any (sumL 4294967295 s.data.toList) _).mono ?_
  rintro e w1 ⟨rfl, hb⟩
  go_wp2
  go_ret2
  rw [← seal_bytes]
  exact ⟨rfl, hb⟩

set_option maxHeartbeats 400000 in
theorem specSealed_no (s : ByteArray) (h : 20000 < s.size) (_hs : s.size ≤ 9223372036854775807) (w : World) :
    Calls Tryd.prog 54 #[.string s] w fun e w' => e = .returned (.tuple #[.string ⟨#[]⟩, .bool false]) ∧ w = w' := by
  go_enter Tryd.func54, Tryd.ntmps54
  go_wp2
  go_ret2
  exact ⟨rfl, rfl⟩

end Go.Proofs.YtacmpggigdlmmaaDoor
