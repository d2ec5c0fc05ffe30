/-
  Facts and contracts that the law's own text rests on, by their texts' names: Seal, SumS, NodeSpec2, SpecRound.
-/
import Derived.Deep.RegionHeld3
import Derived.Laws.Concat
import Derived.Test.YtdbpbhemnnffeaaGreatDoorXw16
import Derived.Test.YtdbpbhemnnffeaaGreatDoorXw19
import Derived.Deep.RegionLaw
import Derived.Test.YtdbpbhemnnffeaaGreatDoorXw17
import Derived.Test.YtdbpbhemnnffeaaGreatDoorXw9
namespace Go.Proofs.YtdbpbhemnnffeaaGreatDoor
open Go.RowKit
theorem seal_bytes (s : ByteArray) : s ++ ⟨(fourL (sumL 4294967295 s.data.toList)).toArray⟩ = (⟨(sealL s.data.toList).toArray⟩ : ByteArray) := by
  apply ByteArray.ext
  simp [sealL]
def unOut (s : ByteArray) : Value := if isSealed s.data.toList = true then .tuple #[.string (s.extract 0 (s.size - 4)), .bool true] else .tuple #[.string ⟨#[]⟩, .bool false]
theorem tolist_eq (t : ByteArray) : t.toList = t.data.toList := ByteArray.toList_eq t
theorem list_len (s : ByteArray) : s.data.toList.length = s.size := by rw [Array.length_toList]; rfl
theorem seal_cut (s : ByteArray) (n : Nat) (hn : s.size = n + 4) : (s.extract 0 n).data.toList = s.data.toList.take n ∧ (s.extract n s.size).data.toList = s.data.toList.drop n := by
  constructor
  · simp [ByteArray.data_extract]
  · simp [ByteArray.data_extract, hn]; rw [List.take_of_length_le]; rw [List.length_drop, list_len]; omega
set_option maxHeartbeats 1000000 in
theorem implUnsealed_any (s : ByteArray) (hs : s.size ≤ 1048576) (w : World) (hT : SumTab w) :
    Calls Tryz.prog 99 #[.string s] w fun e w' => e = .returned (unOut s) ∧ Below w.heap.size w w' := by
  have HT := hide hT
  clear hT
  by_cases h4 : s.size < 4
  · have HO : Hid (unOut s = .tuple #[.string ⟨#[]⟩, .bool false]) := hide (by rw [unOut, if_neg]; rw [isSealed, decide_eq_true_eq, list_len]; omega)
    have hd : decide ((s.size : Int) < 4) = true := by simp; omega
    go_enter Tryz.func99, Tryz.ntmps99
    go_wp2
    go_ret2
    rw [HO.out]
    exact ⟨rfl, Below.refl _ _⟩
  · have hd : decide ((s.size : Int) < 4) = false := by simp; omega
    by_cases hbig : 20004 < s.size
    · have HO : Hid (unOut s = .tuple #[.string ⟨#[]⟩, .bool false]) := hide (by rw [unOut, if_neg]; rw [isSealed, decide_eq_true_eq, list_len]; omega)
      have hd2 : decide ((20004 : Int) < (s.size : Int)) = true := by simp; omega
      go_enter Tryz.func99, Tryz.ntmps99
      go_wp2
      go_ret2
      rw [HO.out]
      exact ⟨rfl, Below.refl _ _⟩
    · have hd2 : decide ((20004 : Int) < (s.size : Int)) = false := by simp; omega
      obtain ⟨n, hn⟩ : ∃ n, s.size = n + 4 := ⟨s.size - 4, by omega⟩
      obtain ⟨t, ht⟩ : ∃ t, t = s.extract n s.size := ⟨_, rfl⟩
      obtain ⟨x, hx⟩ : ∃ x, x = sumL 4294967295 (s.data.toList.take n) := ⟨_, rfl⟩
      have hil : (s.extract 0 n).size = n := by rw [ByteArray.size_extract]; omega
      have HC : Hid (∀ wx, SumTab wx → Calls Tryz.prog 108 #[.string (s.extract 0 n)] wx fun e w' => e = .returned (.int .u32 (x : Int)) ∧ wx = w') := hide (fun wx h => by
        have := implSumOf_any (s.extract 0 n) (by omega) wx h
        rw [(seal_cut s n hn).1, ← hx] at this
        exact this)
      have HTl : Hid (t.data.toList = s.data.toList.drop n) := hide (by rw [ht]; exact (seal_cut s n hn).2)
      have HO : Hid (isSealed s.data.toList = decide (t.data.toList = fourL x)) := hide (by rw [isSealed, list_len, hn, Nat.add_sub_cancel, HTl.out, hx]; congr 1; simp; omega)
      have hs2 : ∀ wx : World, (Instr.slice 9 (.string s) (some (.int .i64 (n : Int))) none none).run Tryz.prog wx = .ok (.string t) wx := fun wx => by
        rw [run_slice_string_l (P := Tryz.prog) wx 9 s Tryz.underlying9 .i64 (n : Int) (by omega) (by omega), ht, Int.toNat_natCast]
      have HS : Hid (s.size - 4 = n) := hide (by omega)
      clear ht hx
      go_enter Tryz.func99, Tryz.ntmps99
      go_wp2_with fail
      go_region_held3 (fun _ => True) (trivial) (first | (go_at_call 108; refine (HC.out _ ?_).mono ?_; exact HT.out; rintro e wx ⟨rfl, rfl⟩) | (go_at_call 109; refine (text_any x _).mono ?_; rintro e wx ⟨rfl, hbw⟩))
      by_cases he : t.data.toList = fourL x
      · have hq : (fourL x == t.toList) = true := by rw [tolist_eq, he]; exact beq_self_eq_true _
        rw [hq]
        go_wp2_with fail
        refine (clone_any _ (by omega) _).mono ?_
        rintro e w2 ⟨rfl, hb2⟩
        go_wp2
        go_ret2
        rw [unOut, HO.out, if_pos (by simpa using he), HS.out]
        exact ⟨rfl, (((Below.refl _ _).drew).trans hbw).trans (hb2.mono hbw.size)⟩
      · have hq : (fourL x == t.toList) = false := by rw [tolist_eq]; exact beq_eq_false_iff_ne.2 (fun e => he e.symm)
        rw [hq]
        go_wp2_with fail
        go_ret2
        rw [unOut, HO.out, if_neg (by simpa using he)]
        exact ⟨rfl, ((Below.refl _ _).drew).trans hbw⟩
open Go.RowKit
def halfK : Nat → Nat → Nat
  | 0, x => x
  | k + 1, x => half (halfK k x)
set_option maxHeartbeats 1000000 in
theorem specSumMore_any (c : Nat) (s : ByteArray) (hc : c < 4294967296) (hs : s.size ≤ 9223372036854775807) (w : World) :
    Calls Tryz.prog 105 #[.int .u32 (c : Int), .string s] w fun e w' => e = .returned (.int .u32 (sumL c s.data.toList : Int)) ∧ w = w' := by
  go_enter Tryz.func105, Tryz.ntmps105
  go_wp2
  go_loopg [0, 5] s.size (fun g cv iv wr => ∃ k x : Nat, k ≤ s.size ∧ iv = .int .i64 (k : Int) ∧ g + k = s.size ∧ cv = .int .u32 (x : Int) ∧ x < 4294967296 ∧ Hid (x = sumL c (s.data.toList.take k)) ∧ w = wr)
  case atStart => exact ⟨0, c, Nat.zero_le _, rfl, rfl, rfl, hc, hide rfl, rfl⟩
  case round =>
    obtain ⟨k, x, hk, rfl, hg, rfl, hx, HX, rfl⟩ := hrel
    have HG := hide hg
    clear hg
    by_cases hlt : k < s.size
    · obtain ⟨y, hy⟩ : ∃ y, y = byt s k := ⟨_, rfl⟩
      have hyb : y < 256 := by rw [hy]; exact byt_lt s k
      have hsj : s[k].toNat = y := by rw [hy]; exact byt_eq s k hlt
      have HY := hide hy
      clear hy
      have hk0 : (0 : Int) ≤ (k : Int) := by omega
      have hk1 : (k : Int) < (s.size : Int) := by omega
      obtain ⟨z, hz⟩ : ∃ z, z = x ^^^ y := ⟨_, rfl⟩
      have hzl : z < 4294967296 := by rw [hz]; exact xor_lt32 _ _ hx (by omega)
      have q1 : IntKind.u32.wrap (y : Int) = (y : Int) := wrap32 _ (by omega) (by omega)
      have q2 : bits BinOp.xor IntKind.u32 (x : Int) (y : Int) = (z : Int) := by rw [hz]; exact xor32 x y hx (by omega)
      have HZ := hide hz
      clear hz
      obtain ⟨go, hgo⟩ : ∃ go, go = gk := ⟨_, rfl⟩
      rw [← hgo] at HG
      go_wp2
      go_loopg [0, 6] 8 (fun g cv kv wr => ∃ j m : Nat, j ≤ 8 ∧ kv = .int .i64 (j : Int) ∧ g + j = 8 ∧ cv = .int .u32 (m : Int) ∧ m < 4294967296 ∧ Hid (m = halfK j z) ∧ w = wr)
      case atStart => exact ⟨0, z, Nat.zero_le _, rfl, rfl, rfl, hzl, hide rfl, rfl⟩
      case round =>
        obtain ⟨j, m, hj, rfl, hg, rfl, hm, HM, rfl⟩ := hrel
        have HG2 := hide hg
        clear hg
        by_cases hj8 : j < 8
        · by_cases hodd : m % 2 = 1
          · have hq : decide ((m : Int) % 2 = 1) = true := by simp; omega
            obtain ⟨v, hv⟩ : ∃ v, v = half m := ⟨_, rfl⟩
            have hvl : v < 4294967296 := by rw [hv]; exact half_lt m hm
            have q3 : bits BinOp.xor IntKind.u32 ((m : Int) / 2) 3558460437 = (v : Int) := by
              rw [hv, half, if_pos hodd]
              exact xor32 (m / 2) 3558460437 (by omega) (by omega)
            have HV : Hid (v = halfK (j + 1) z) := hide (by rw [hv, halfK, ← HM.out])
            clear hv
            go_wp2
            go_roundg (gk - 1)
            case measure => have := HG2.out; omega
            case rel => exact ⟨j + 1, v, by omega, by go_num, by have := HG2.out; omega, rfl, hvl, HV, rfl⟩
          · have hq : decide ((m : Int) % 2 = 1) = false := by simp; omega
            have hqn : ¬ ((m : Int) % 2 = 1) := by omega
            have HV : Hid (m / 2 = halfK (j + 1) z) := hide (by rw [halfK, ← HM.out, half, if_neg hodd])
            clear hodd
            go_wp2
            go_roundg (gk - 1)
            case measure => have := HG2.out; omega
            case rel => exact ⟨j + 1, m / 2, by omega, by go_num, by have := HG2.out; omega, by go_num, by omega, HV, rfl⟩
        · obtain rfl : j = 8 := by omega
          have HN : Hid (m = sumL c (s.data.toList.take (k + 1))) := hide (by rw [take_byt s k hlt, sumL_append, ← HX.out, ← HY.out, sumL]; simp only [List.foldl_cons, List.foldl_nil]; rw [toNat_ofNat8 _ hyb, HM.out, HZ.out]; rfl)
          go_wp2
          go_roundg (go - 1)
          case measure => have := HG.out; omega
          case rel => exact ⟨k + 1, m, by omega, by go_num, by have := HG.out; omega, rfl, hm, HN, rfl⟩
    · have hk' : s.data.toList.take k = s.data.toList := List.take_of_length_le (by rw [Array.length_toList]; have : s.data.size = s.size := rfl; omega)
      rw [hk'] at HX
      go_wp2
      go_ret
      rw [← HX.out]
      exact ⟨rfl, rfl⟩
set_option maxHeartbeats 400000 in
theorem specSumOf_any (s : ByteArray) (hs : s.size ≤ 9223372036854775807) (w : World) :
    Calls Tryz.prog 92 #[.string s] w fun e w' => e = .returned (.int .u32 (sumL 4294967295 s.data.toList : Int)) ∧ w = w' := by
  go_enter Tryz.func92, Tryz.ntmps92
  go_wp2_with fail
  refine (specSumMore_any 4294967295 s (by omega) hs _).mono ?_
  rintro e w1 ⟨rfl, rfl⟩
  go_wp2
  go_ret
  exact ⟨rfl, rfl⟩
set_option maxHeartbeats 1000000 in
theorem specFour_any (x : Nat) (w : World) :
    Calls Tryz.prog 91 #[.int .u32 (x : Int)] w fun e w' => e = .returned (.string ⟨(fourL x).toArray⟩) ∧ Below w.heap.size w w' := by
  obtain ⟨a, ha⟩ : ∃ a, a = x / 16777216 % 256 := ⟨_, rfl⟩
  obtain ⟨b, hb⟩ : ∃ b, b = x / 65536 % 256 := ⟨_, rfl⟩
  obtain ⟨c, hc⟩ : ∃ c, c = x / 256 % 256 := ⟨_, rfl⟩
  obtain ⟨d, hd⟩ : ∃ d, d = x % 256 := ⟨_, rfl⟩
  have q1 : IntKind.u8.wrap ((x : Int) / 16777216) = (a : Int) := wrap8 (x / 16777216) a ha
  have q2 : IntKind.u8.wrap ((x : Int) / 65536) = (b : Int) := wrap8 (x / 65536) b hb
  have q3 : IntKind.u8.wrap ((x : Int) / 256) = (c : Int) := wrap8 (x / 256) c hc
  have q4 : IntKind.u8.wrap (x : Int) = (d : Int) := wrap8 x d hd
  have HC : Hid ([Value.int .u8 (a : Int), .int .u8 (b : Int), .int .u8 (c : Int), .int .u8 (d : Int)] = Lib.byteCells (fourL x)) := hide (by rw [ha, hb, hc, hd]; exact four_at x)
  clear ha hb hc hd
  have hown : (w.alloc (Obj.cells #[.int .u8 (a : Int), .int .u8 (b : Int), .int .u8 (c : Int), .int .u8 (d : Int)] 5)).ownsRow w.heap.size 5 1 (.slice (some ⟨w.heap.size, 0, none⟩) 4 4) (fourL x).length (Lib.byteCells (fourL x)) := by
    rw [← HC.out]
    exact World.ownsRow_lit (base := w.heap.size) (e := 5) (size := 1) w #[.int .u8 (a : Int), .int .u8 (b : Int), .int .u8 (c : Int), .int .u8 (d : Int)] 4 (Nat.le_refl _) (by unfold maxLen; omega) (by simp)
  have hcv : (convert 186 9 (.slice (some ⟨w.heap.size, 0, none⟩) 4 4)).run Tryz.prog (w.alloc (Obj.cells #[.int .u8 (a : Int), .int .u8 (b : Int), .int .u8 (c : Int), .int .u8 (d : Int)] 5)) = .ok (.string ⟨(fourL x).toArray⟩) (w.alloc (Obj.cells #[.int .u8 (a : Int), .int .u8 (b : Int), .int .u8 (c : Int), .int .u8 (d : Int)] 5)) :=
    string_own (l := fourL x) Tryz.underlying186 Tryz.underlying5 Tryz.underlying9 hown
  clear hown
  go_enter Tryz.func91, Tryz.ntmps91
  go_wp2
  go_ret
  exact ⟨rfl, (Below.refl _ _).alloc (Nat.le_refl _) _⟩
set_option maxHeartbeats 400000 in
theorem specSealed_yes (s : ByteArray) (h : s.size ≤ 20000) (w : World) :
    Calls Tryz.prog 96 #[.string s] w fun e w' => e = .returned (.tuple #[.string ⟨(sealL s.data.toList).toArray⟩, .bool true]) ∧ Below w.heap.size w w' := by
  have hf : (⟨(fourL (sumL 4294967295 s.data.toList)).toArray⟩ : ByteArray).size = 4 := rfl
  go_enter Tryz.func96, Tryz.ntmps96
  go_wp2_with fail
  refine (specSumOf_any s (by omega) _).mono ?_
  rintro e w1 ⟨rfl, rfl⟩
  go_wp2_with fail
  refine (specFour_any (sumL 4294967295 s.data.toList) _).mono ?_
  rintro e w1 ⟨rfl, hb⟩
  go_wp2
  go_ret2
  rw [← seal_bytes]
  exact ⟨rfl, hb⟩
set_option maxHeartbeats 1000000 in
theorem specUnsealed_any (s : ByteArray) (hs : s.size ≤ 1048576) (w : World) :
    Calls Tryz.prog 82 #[.string s] w fun e w' => e = .returned (unOut s) ∧ Below w.heap.size w w' := by
  by_cases h4 : s.size < 4
  · have HO : Hid (unOut s = .tuple #[.string ⟨#[]⟩, .bool false]) := hide (by rw [unOut, if_neg]; rw [isSealed, decide_eq_true_eq, list_len]; omega)
    have hd : decide ((s.size : Int) - 4 < 0) = true := by simp; omega
    go_enter Tryz.func82, Tryz.ntmps82
    go_wp2_with fail
    go_quiet (fail)
    go_wp2
    go_ret2
    rw [HO.out]
    exact ⟨rfl, below_drewN (Below.refl _ _) _⟩
  · by_cases hbig : 20004 < s.size
    · have HO : Hid (unOut s = .tuple #[.string ⟨#[]⟩, .bool false]) := hide (by rw [unOut, if_neg]; rw [isSealed, decide_eq_true_eq, list_len]; omega)
      have hd : decide ((s.size : Int) - 4 < 0) = false := by simp; omega
      have hd2 : decide ((20000 : Int) < (s.size : Int) - 4) = true := by simp; omega
      go_enter Tryz.func82, Tryz.ntmps82
      go_wp2_with fail
      go_quiet (fail)
      go_wp2
      go_ret2
      rw [HO.out]
      exact ⟨rfl, below_drewN (Below.refl _ _) _⟩
    · obtain ⟨n, hn⟩ : ∃ n, s.size = n + 4 := ⟨s.size - 4, by omega⟩
      obtain ⟨t, ht⟩ : ∃ t, t = s.extract n s.size := ⟨_, rfl⟩
      obtain ⟨x, hx⟩ : ∃ x, x = sumL 4294967295 (s.data.toList.take n) := ⟨_, rfl⟩
      have hil : (s.extract 0 n).size = n := by rw [ByteArray.size_extract]; omega
      have HC : Hid (∀ wx, Calls Tryz.prog 92 #[.string (s.extract 0 n)] wx fun e w' => e = .returned (.int .u32 (x : Int)) ∧ wx = w') := hide (fun wx => by
        have := specSumOf_any (s.extract 0 n) (by omega) wx
        rw [(seal_cut s n hn).1, ← hx] at this
        exact this)
      have HTl : Hid (t.data.toList = s.data.toList.drop n) := hide (by rw [ht]; exact (seal_cut s n hn).2)
      have HO : Hid (isSealed s.data.toList = decide (t.data.toList = fourL x)) := hide (by rw [isSealed, list_len, hn, Nat.add_sub_cancel, HTl.out, hx]; congr 1; simp; omega)
      have hs1 : ∀ wx : World, (Instr.slice 9 (.string s) none (some (.int .i64 (n : Int))) none).run Tryz.prog wx = .ok (.string (s.extract 0 n)) wx := fun wx => by
        rw [run_slice_string_h (P := Tryz.prog) wx 9 s Tryz.underlying9 .i64 (n : Int) (by omega) (by omega), Int.toNat_natCast]
      have hs2 : ∀ wx : World, (Instr.slice 9 (.string s) (some (.int .i64 (n : Int))) none none).run Tryz.prog wx = .ok (.string t) wx := fun wx => by
        rw [run_slice_string_l (P := Tryz.prog) wx 9 s Tryz.underlying9 .i64 (n : Int) (by omega) (by omega), ht, Int.toNat_natCast]
      have hd : decide ((n : Int) < 0) = false := by simp
      have hd2 : decide ((20000 : Int) < (n : Int)) = false := by simp; omega
      have HS : Hid (s.size - 4 = n) := hide (by omega)
      clear ht hx
      go_enter Tryz.func82, Tryz.ntmps82
      go_wp2_with fail
      go_region_held3 (fun _ => True) (trivial) (first | (go_at_call 92; refine (HC.out _).mono ?_; rintro e wx ⟨rfl, rfl⟩) | (go_at_call 91; refine (specFour_any x _).mono ?_; rintro e wx ⟨rfl, hbw⟩))
      by_cases he : t.data.toList = fourL x
      · have hq : (t.toList == fourL x) = true := by rw [tolist_eq, he]; exact beq_self_eq_true _
        rw [hq]
        go_wp2_with fail
        go_ret2
        rw [unOut, HO.out, if_pos (by simpa using he), HS.out]
        exact ⟨rfl, ((Below.refl _ _).drew).trans hbw⟩
      · have hq : (t.toList == fourL x) = false := by rw [tolist_eq]; exact beq_eq_false_iff_ne.2 he
        rw [hq]
        go_wp2_with fail
        go_ret2
        rw [unOut, HO.out, if_neg (by simpa using he)]
        exact ⟨rfl, ((Below.refl _ _).drew).trans hbw⟩
open Go.RowKit
set_option maxHeartbeats 400000 in
theorem l04Short_b (s : ByteArray) (h : s.size ≤ 20000) (w : World) :
    Calls Tryz.prog 107 #[.string s] w fun e w' => e = .returned (.string (shortB s)) ∧ Below w.heap.size w w' := by
  have hlen := (vtext_length s.size).2
  have HO : Hid (shortB s = ⟨(vtext s.size).toArray⟩ ++ s) := hide rfl
  go_enter Tryz.func107, Tryz.ntmps107
  go_wp2_with fail
  refine (l01Var_any s.size (by omega) (by omega) _).mono ?_
  rintro e w2 ⟨rfl, hb⟩
  rw [Int.toNat_natCast]
  go_wp2
  go_ret
  rw [HO.out]
  exact ⟨rfl, hb⟩
set_option maxHeartbeats 4000000 in
set_option maxRecDepth 100000 in
theorem l05Bytes_any (v : Value) (lf : Bool) (ks vs : List ByteArray) (cs : List Int) (hok : nodeOkB lf ks vs cs = true) (w : World) (hd : NodeAt w v lf ks vs cs) :
    Calls Tryz.prog 97 #[v] w fun e w' => e = .returned (.string (nodeB lf ks vs cs)) ∧ Below w.heap.size w w' := by
  obtain ⟨vk, vv, vc, rfl, h1, h2, h3⟩ := hd
  obtain ⟨xk, ck, rfl⟩ : ∃ a cap, vk = .slice a ks.length cap := by obtain ⟨-, a, cap, e, -⟩ := h1; exact ⟨a, cap, e⟩
  obtain ⟨xv, cv, rfl⟩ : ∃ a cap, vv = .slice a vs.length cap := by obtain ⟨-, a, cap, e, -⟩ := h2; exact ⟨a, cap, e⟩
  obtain ⟨xc, cc, rfl⟩ : ∃ a cap, vc = .slice a cs.length cap := by obtain ⟨-, a, cap, e, -⟩ := h3; exact ⟨a, cap, e⟩
  obtain ⟨w0, hw0⟩ : ∃ w0, w0 = w.alloc (Obj.cells #[.bool lf, .slice xk ks.length ck, .slice xv vs.length cv, .slice xc cs.length cc] 129) := ⟨_, rfl⟩
  have hb0 : Below w.heap.size w w0 := by rw [hw0]; exact (Below.refl w.heap.size w).alloc (Nat.le_refl _) _
  have hblk : w0.heap[w.heap.size]? = some (Obj.cells #[.bool lf, .slice xk ks.length ck, .slice xv vs.length cv, .slice xc cs.length cc] 129) := by rw [hw0]; exact heap_alloc_new w _
  have HB0 := hide hb0
  have HR := hide (⟨row_below h1 hb0, row_below h2 hb0, row_below h3 hb0⟩ : _ ∧ _ ∧ _)
  have HPb : Hid (∀ wx, Below w0.heap.size w0 wx → wx.cell? ⟨w.heap.size, 0, none⟩ = some (.bool lf) ∧ wx.cell? ⟨w.heap.size, 1, none⟩ = some (.slice xk ks.length ck) ∧ wx.cell? ⟨w.heap.size, 2, none⟩ = some (.slice xv vs.length cv) ∧ wx.cell? ⟨w.heap.size, 3, none⟩ = some (.slice xc cs.length cc)) := hide (fun wx hb => by
    have hq := (hb.block _ (Array.getElem?_eq_some_iff.1 hblk).1).trans hblk
    exact ⟨(cell_at hq 0).1, (cell_at hq 1).1, (cell_at hq 2).1, (cell_at hq 3).1⟩)
  obtain ⟨c0, c1, -, -⟩ := HPb.out w0 (Below.refl _ _)
  have HOk := hide hok
  have HY := hide (node_yes hok)
  have HCn := hide (cnt_yes (node_yes hok).1)
  have hk4 := HCn.out.2.1
  have HVk := hide (l01Var_any (ks.length : Int) (by omega) (by omega))
  rw [Int.toNat_natCast] at HVk
  obtain ⟨z0, hz0⟩ : ∃ z : ByteArray, z = ⟨(vtext ks.length).toArray⟩ := ⟨_, rfl⟩
  rw [← hz0] at HVk
  have hzs : z0.size ≤ 5 := by rw [hz0, vtB_size]; exact (vtext_length _).2
  have HS0 : Hid (nodeP lf ks.length ks vs cs 0 = headB lf ++ z0) := hide (by rw [nodeP, hz0])
  clear h1 h2 h3 hb0 hblk hok hz0
  cases lf with
  | true =>
    have HLn : Hid (vs.length = ks.length) := hide (HCn.out.2.2.1 rfl).1
    go_enter Tryz.func97, Tryz.ntmps97
    go_wp2_with fail
    rw [← hw0]
    clear hw0
    refine (HVk.out _).mono ?_
    rintro e w1 ⟨rfl, hb1⟩
    have HB1 := hide hb1
    have HP0 : Hid (headB true ++ z0 = nodeP true ks.length ks vs cs 0) := hide HS0.out.symm
    clear hb1 c0 c1
    go_wp2_with fail
    go_loopg [3, 4] ks.length (fun q sv iv wr => ∃ i : Nat, i ≤ ks.length ∧ sv = .string (nodeP true ks.length ks vs cs i) ∧ iv = .int .i64 (i : Int) ∧ q + i = ks.length ∧ Hid (Below w0.heap.size w0 wr))
    case atStart => exact ⟨0, Nat.zero_le _, by rw [← HP0.out]; rfl, rfl, rfl, HB1⟩
    case round =>
      obtain ⟨i, hi, rfl, rfl, hg, HB⟩ := hrel
      have HG := hide hg
      have hsz := nodeP_size HOk.out i hi
      clear hg
      obtain ⟨p0, p1, p2, p3⟩ := HPb.out wr HB.out
      by_cases hlt : i < ks.length
      · obtain ⟨-, a1, cp1, e1, h0 | ⟨bk, ok, e0, hbk, hck⟩⟩ := HR.out.1
        · omega
        injection e1 with e11 _ e12
        subst e11 e12
        subst e0
        obtain ⟨x, hx⟩ : ∃ x, x = ks.getD i ⟨#[]⟩ := ⟨_, rfl⟩
        have hxc : wr.cell? ⟨bk, ok + i, none⟩ = some (.string x) := by rw [HB.out.cell (by exact hbk), hck i (by omega), strs_at ks i hlt, hx]; simp [List.getD, hlt]
        have hx24 : x.size ≤ 24 := by rw [hx]; exact key_short (HY.out.2.1 i hlt)
        have hi0 : (0 : Int) ≤ (i : Int) := by omega
        have hi1 : (i : Int) < (ks.length : Int) := by omega
        have HV1 := hide (l04Short_b x (by omega))
        have hs1 := shortB_size2 x
        obtain ⟨b1, hb1⟩ : ∃ b, b = shortB x := ⟨_, rfl⟩
        rw [← hb1] at HV1 hs1
        have hlv : i < vs.length := by have := HLn.out; omega
        obtain ⟨-, a2, cp2, e2, h0 | ⟨bv, ov, e3, hbv, hcv⟩⟩ := HR.out.2.1
        · omega
        injection e2 with e21 _ e22
        subst e21 e22
        subst e3
        obtain ⟨z, hz⟩ : ∃ z, z = vs.getD i ⟨#[]⟩ := ⟨_, rfl⟩
        have HZc : Hid (∀ wx, Below w0.heap.size w0 wx → wx.cell? ⟨bv, ov + i, none⟩ = some (.string z)) := hide (fun wx hb => by rw [hb.cell (by exact hbv), hcv i (by omega), strs_at vs i hlv, hz]; simp [List.getD, hlv])
        have hz24 : z.size ≤ 24 := by rw [hz]; exact HY.out.2.2.1 i hlv
        have hiv : (i : Int) < (vs.length : Int) := by omega
        have HV2 := hide (l04Short_b z (by omega))
        have hSd : sideT true vs cs i = shortB z := by rw [sideT, if_pos rfl, hz]
        have hs2 := shortB_size2 z
        obtain ⟨b2, hb2⟩ : ∃ b, b = shortB z := ⟨_, rfl⟩
        rw [← hb2] at HV2 hSd hs2
        clear hcv hz hb2
        have HK : Hid (nodeP true ks.length ks vs cs (i + 1) = nodeP true ks.length ks vs cs i ++ b1 ++ b2) := hide (by rw [nodeP, ← hx, ← hb1, hSd])
        obtain ⟨s, hs⟩ : ∃ s, s = nodeP true ks.length ks vs cs i := ⟨_, rfl⟩
        rw [← hs] at HK hsz ⊢
        clear hck hx hb1 hSd hs
        go_wp2_with fail
        refine (HV1.out _).mono ?_
        rintro e w2 ⟨rfl, hb2⟩
        have HB2 : Hid (Below w0.heap.size w0 w2) := hide (HB.out.trans (hb2.mono HB.out.size))
        obtain ⟨r0, r1, r2, r3⟩ := HPb.out w2 HB2.out
        have hzc := HZc.out w2 HB2.out
        clear hb2 p0 p1 p2 p3 hxc
        go_wp2_with fail
        refine (HV2.out _).mono ?_
        rintro e w3 ⟨rfl, hb3⟩
        have HB3 : Hid (Below w0.heap.size w0 w3) := hide (HB2.out.trans (hb3.mono HB2.out.size))
        clear hb3 r0 r1 r2 r3 hzc
        go_wp2_with fail
        go_roundg (gk - 1)
        case measure => have := HG.out; omega
        case rel => exact ⟨i + 1, by omega, by rw [HK.out], by go_num, by have := HG.out; omega, HB3⟩
      · obtain rfl : i = ks.length := by omega
        have HO : Hid (nodeB true ks vs cs = nodeP true ks.length ks vs cs ks.length) := hide rfl
        go_wp2_with fail
        go_ret
        rw [HO.out]
        exact ⟨rfl, HB0.out.trans (HB.out.mono HB0.out.size)⟩
  | false =>
    have HLn : Hid (cs.length = ks.length) := hide (HCn.out.2.2.2 rfl).1
    go_enter Tryz.func97, Tryz.ntmps97
    go_wp2_with fail
    rw [← hw0]
    clear hw0
    refine (HVk.out _).mono ?_
    rintro e w1 ⟨rfl, hb1⟩
    have HB1 := hide hb1
    have HP0 : Hid (headB false ++ z0 = nodeP false ks.length ks vs cs 0) := hide HS0.out.symm
    clear hb1 c0 c1
    go_wp2_with fail
    go_loopg [3, 4] ks.length (fun q sv iv wr => ∃ i : Nat, i ≤ ks.length ∧ sv = .string (nodeP false ks.length ks vs cs i) ∧ iv = .int .i64 (i : Int) ∧ q + i = ks.length ∧ Hid (Below w0.heap.size w0 wr))
    case atStart => exact ⟨0, Nat.zero_le _, by rw [← HP0.out]; rfl, rfl, rfl, HB1⟩
    case round =>
      obtain ⟨i, hi, rfl, rfl, hg, HB⟩ := hrel
      have HG := hide hg
      have hsz := nodeP_size HOk.out i hi
      clear hg
      obtain ⟨p0, p1, p2, p3⟩ := HPb.out wr HB.out
      by_cases hlt : i < ks.length
      · obtain ⟨-, a1, cp1, e1, h0 | ⟨bk, ok, e0, hbk, hck⟩⟩ := HR.out.1
        · omega
        injection e1 with e11 _ e12
        subst e11 e12
        subst e0
        obtain ⟨x, hx⟩ : ∃ x, x = ks.getD i ⟨#[]⟩ := ⟨_, rfl⟩
        have hxc : wr.cell? ⟨bk, ok + i, none⟩ = some (.string x) := by rw [HB.out.cell (by exact hbk), hck i (by omega), strs_at ks i hlt, hx]; simp [List.getD, hlt]
        have hx24 : x.size ≤ 24 := by rw [hx]; exact key_short (HY.out.2.1 i hlt)
        have hi0 : (0 : Int) ≤ (i : Int) := by omega
        have hi1 : (i : Int) < (ks.length : Int) := by omega
        have HV1 := hide (l04Short_b x (by omega))
        have hs1 := shortB_size2 x
        obtain ⟨b1, hb1⟩ : ∃ b, b = shortB x := ⟨_, rfl⟩
        rw [← hb1] at HV1 hs1
        have hlv : i < cs.length := by have := HLn.out; omega
        obtain ⟨-, a2, cp2, e2, h0 | ⟨bv, ov, e3, hbv, hcv⟩⟩ := HR.out.2.2
        · omega
        injection e2 with e21 _ e22
        subst e21 e22
        subst e3
        obtain ⟨z, hz⟩ : ∃ z, z = cs.getD i 0 := ⟨_, rfl⟩
        have HZc : Hid (∀ wx, Below w0.heap.size w0 wx → wx.cell? ⟨bv, ov + i, none⟩ = some (.int .i64 z)) := hide (fun wx hb => by rw [hb.cell (by exact hbv), hcv i (by omega), ints_at cs i hlv, hz]; simp [List.getD, hlv])
        have hz24 : 2 ≤ z ∧ z ≤ 39 := by rw [hz]; exact kid_page (HY.out.2.2.2 i hlv)
        have hiv : (i : Int) < (cs.length : Int) := by omega
        have HV2 := hide (l01Var_any z (by omega) (by omega))
        have hSd : sideT false vs cs i = ⟨(vtext z.toNat).toArray⟩ := by rw [sideT, if_neg (by decide), hz]
        have hs2 : (⟨(vtext z.toNat).toArray⟩ : ByteArray).size ≤ 29 := by rw [vtB_size]; have := (vtext_length z.toNat).2; omega
        obtain ⟨b2, hb2⟩ : ∃ b : ByteArray, b = ⟨(vtext z.toNat).toArray⟩ := ⟨_, rfl⟩
        rw [← hb2] at HV2 hSd hs2
        clear hcv hz hb2
        have HK : Hid (nodeP false ks.length ks vs cs (i + 1) = nodeP false ks.length ks vs cs i ++ b1 ++ b2) := hide (by rw [nodeP, ← hx, ← hb1, hSd])
        obtain ⟨s, hs⟩ : ∃ s, s = nodeP false ks.length ks vs cs i := ⟨_, rfl⟩
        rw [← hs] at HK hsz ⊢
        clear hck hx hb1 hSd hs
        go_wp2_with fail
        refine (HV1.out _).mono ?_
        rintro e w2 ⟨rfl, hb2⟩
        have HB2 : Hid (Below w0.heap.size w0 w2) := hide (HB.out.trans (hb2.mono HB.out.size))
        obtain ⟨r0, r1, r2, r3⟩ := HPb.out w2 HB2.out
        have hzc := HZc.out w2 HB2.out
        clear hb2 p0 p1 p2 p3 hxc
        go_wp2_with fail
        refine (HV2.out _).mono ?_
        rintro e w3 ⟨rfl, hb3⟩
        have HB3 : Hid (Below w0.heap.size w0 w3) := hide (HB2.out.trans (hb3.mono HB2.out.size))
        clear hb3 r0 r1 r2 r3 hzc
        go_wp2_with fail
        go_roundg (gk - 1)
        case measure => have := HG.out; omega
        case rel => exact ⟨i + 1, by omega, by rw [HK.out], by go_num, by have := HG.out; omega, HB3⟩
      · obtain rfl : i = ks.length := by omega
        have HO : Hid (nodeB false ks vs cs = nodeP false ks.length ks vs cs ks.length) := hide rfl
        go_wp2_with fail
        go_ret
        rw [HO.out]
        exact ⟨rfl, HB0.out.trans (HB.out.mono HB0.out.size)⟩
theorem sealed_any (s : ByteArray) (h : s.size ≤ 20000) (w : World) : Calls Tryz.prog 96 #[.string s] w fun e w' => e = .returned (.tuple #[.string ⟨(sealL s.data.toList).toArray⟩, .bool true]) ∧ Below w.heap.size w w' := specSealed_yes s h w
set_option maxHeartbeats 1000000 in
set_option maxRecDepth 100000 in
theorem specNodeText_any (v : Value) (lf : Bool) (ks vs : List ByteArray) (cs : List Int) (hk : ks.length ≤ 1048576) (hv : vs.length ≤ 1048576) (hc : cs.length ≤ 1048576) (hks : ∀ s ∈ ks, s.size ≤ 1048576) (hvs : ∀ s ∈ vs, s.size ≤ 1048576) (w : World) (hd : NodeAt w v lf ks vs cs) :
    Calls Tryz.prog 85 #[v] w fun e w' => e = .returned (.tuple #[.string (nodeO lf ks vs cs), .bool (nodeOkB lf ks vs cs)]) ∧ Below w.heap.size w w' := by
  have HS := hide (fun wx h => specNodeOk_any v lf ks vs cs hk hv hc hks hvs wx h)
  have HD := hide hd
  obtain ⟨vk, vv, vc, rfl, -, -, -⟩ := hd
  obtain ⟨w0, hw0⟩ : ∃ w0, w0 = w.alloc (Obj.cells #[.bool lf, vk, vv, vc] 129) := ⟨_, rfl⟩
  have HB0 : Hid (Below w.heap.size w w0) := hide (by rw [hw0]; exact (Below.refl w.heap.size w).alloc (Nat.le_refl _) _)
  have HQ0 : Hid (w0.heap[w.heap.size]? = some (Obj.cells #[.bool lf, vk, vv, vc] 129)) := hide (by rw [hw0]; exact heap_alloc_new w _)
  clear hk hv hc hks hvs
  cases hok : nodeOkB lf ks vs cs with
  | false =>
    rw [hok] at HS
    have HO : Hid (nodeO lf ks vs cs = ⟨#[]⟩) := hide (by rw [nodeO, hok]; rfl)
    clear hok
    go_enter Tryz.func85, Tryz.ntmps85
    go_wp2_with fail
    rw [← hw0]
    clear hw0
    refine (HS.out _ (node_below HD.out HB0.out)).mono ?_
    rintro e w1 ⟨rfl, hb⟩
    go_wp2_with fail
    go_ret2
    rw [HO.out]
    exact ⟨rfl, HB0.out.trans (hb.mono HB0.out.size)⟩
  | true =>
    rw [hok] at HS
    have HBy := hide (fun wx h => l05Bytes_any (.agg #[.bool lf, vk, vv, vc]) lf ks vs cs hok wx h)
    have HO : Hid (nodeO lf ks vs cs = nodeT lf ks vs cs) := hide (by rw [nodeO, hok]; rfl)
    have HSe := hide (sealed_any (nodeB lf ks vs cs) (by have := (nodeB_size hok).1; omega))
    have HTt : Hid (nodeT lf ks vs cs = ⟨(sealL (nodeB lf ks vs cs).data.toList).toArray⟩) := hide rfl
    obtain ⟨bs, hbs⟩ : ∃ b, b = nodeB lf ks vs cs := ⟨_, rfl⟩
    rw [← hbs] at HBy HSe HTt
    clear hok hbs
    go_enter Tryz.func85, Tryz.ntmps85
    go_wp2_with fail
    rw [← hw0]
    clear hw0
    refine (HS.out _ (node_below HD.out HB0.out)).mono ?_
    rintro e w1 ⟨rfl, hb⟩
    have HB1 : Hid (Below w.heap.size w w1) := hide (HB0.out.trans (hb.mono HB0.out.size))
    have hq := (hb.block _ (Array.getElem?_eq_some_iff.1 HQ0.out).1).trans HQ0.out
    have c0 : w1.cell? ⟨w.heap.size, 0, none⟩ = some (.bool lf) := (cell_at hq 0).1
    have c1 : w1.cell? ⟨w.heap.size, 1, none⟩ = some vk := (cell_at hq 1).1
    have c2 : w1.cell? ⟨w.heap.size, 2, none⟩ = some vv := (cell_at hq 2).1
    have c3 : w1.cell? ⟨w.heap.size, 3, none⟩ = some vc := (cell_at hq 3).1
    clear hb hq
    go_wp2_with fail
    refine (HBy.out _ (node_below HD.out HB1.out)).mono ?_
    rintro e w2 ⟨rfl, hb2⟩
    have HB2 : Hid (Below w.heap.size w w2) := hide (HB1.out.trans (hb2.mono HB1.out.size))
    clear hb2 c0 c1 c2 c3
    go_wp2_with fail
    refine (HSe.out _).mono ?_
    rintro e w3 ⟨rfl, hb3⟩
    have HB3 : Hid (Below w.heap.size w w3) := hide (HB2.out.trans (hb3.mono HB2.out.size))
    clear hb3
    go_wp2_with fail
    go_ret2
    rw [HO.out, HTt.out]
    exact ⟨rfl, HB3.out⟩
open Go.RowKit
theorem curT_low {w w' : World} {g gn p : Nat} {t : ByteArray} {bad : Bool} (h : CurT w g t p bad) (hb : Below gn w w') (hlt : g < gn) : CurT w' g t p bad := (hb.block g hlt).trans h
def RsPost (w : World) (t : ByteArray) (e : Ending) (w' : World) : Prop :=
  ∃ n v ok, e = .returned (.tuple #[v, .bool ok]) ∧ ReadN t n ok ∧ NodeOwn w' w.heap.size v n.lf n.ks n.vs n.cs ∧ Below w.heap.size w w'
theorem round_V (g : Nat) {s : ByteArray} (hs : s.size ≤ 1048576) {cnt : Nat} {n : Nd} {p : Nat} (h : NTry s cnt n p) (he : n.even) (hk : n.ks.length < cnt) (hl : n.lf = true) : ∃ (x : ByteArray) (q : Nat) (b1 : Bool) (y : ByteArray) (r : Nat) (b2 : Bool),
    (∀ wx, CurT wx g s p false → Calls Tryz.prog 84 #[.pointer (some ⟨g, 0, none⟩)] wx fun e w' => e = .returned (.string x) ∧ CurT w' g s q b1 ∧ wx.grownBy w' (some g)) ∧
    (∀ wx, CurT wx g s q b1 → Calls Tryz.prog 84 #[.pointer (some ⟨g, 0, none⟩)] wx fun e w' => e = .returned (.string y) ∧ CurT w' g s r b2 ∧ wx.grownBy w' (some g)) ∧
    x.size ≤ 20000 ∧ y.size ≤ 20000 ∧ (b2 = false → NTry s cnt (n.snocV x y) r) ∧ (b2 = true → ∀ m, ¬ IsIn s m) := by
  cases ho : rdS s p with
  | none => exact ⟨⟨#[]⟩, p, true, ⟨#[]⟩, p, true, fun wx hc => l04ReadShort_bad g s hs p false (Or.inr ho) wx hc, fun wx hc => l04ReadShort_bad g s hs p true (Or.inl rfl) wx hc, Nat.zero_le _, Nat.zero_le _, (fun e => by cases e), fun _ => nt_nokey h he hk ho⟩
  | some r1 =>
    obtain ⟨x, q⟩ := r1
    cases ho2 : rdS s q with
    | none => exact ⟨x, q, false, ⟨#[]⟩, q, true, fun wx hc => l04ReadShort_good g s hs p x q ho wx hc, fun wx hc => l04ReadShort_bad g s hs q false (Or.inr ho2) wx hc, (rdS_back ho).2.2.1, Nat.zero_le _, (fun e => by cases e), fun _ => nt_noval h he hk hl ho ho2⟩
    | some r2 =>
      obtain ⟨y, r⟩ := r2
      exact ⟨x, q, false, y, r, false, fun wx hc => l04ReadShort_good g s hs p x q ho wx hc, fun wx hc => l04ReadShort_good g s hs q y r ho2 wx hc, (rdS_back ho).2.2.1, (rdS_back ho2).2.2.1, fun _ => nt_val h he hk hl ho ho2, (fun e => by cases e)⟩
theorem round_C (g : Nat) {s : ByteArray} (hs : s.size ≤ 1048576) {cnt : Nat} {n : Nd} {p : Nat} (h : NTry s cnt n p) (he : n.even) (hk : n.ks.length < cnt) (hl : n.lf = false) : ∃ (x : ByteArray) (q : Nat) (b1 : Bool) (y : Nat) (r : Nat) (b2 : Bool),
    (∀ wx, CurT wx g s p false → Calls Tryz.prog 84 #[.pointer (some ⟨g, 0, none⟩)] wx fun e w' => e = .returned (.string x) ∧ CurT w' g s q b1 ∧ wx.grownBy w' (some g)) ∧
    (∀ wx, CurT wx g s q b1 → Calls Tryz.prog 83 #[.pointer (some ⟨g, 0, none⟩)] wx fun e w' => e = .returned (.int .i64 (y : Int)) ∧ CurT w' g s r b2 ∧ wx.grownBy w' (some g)) ∧
    x.size ≤ 20000 ∧ y ≤ 1000000000 ∧ (b2 = false → NTry s cnt (n.snocC x y) r) ∧ (b2 = true → ∀ m, ¬ IsIn s m) := by
  cases ho : rdS s p with
  | none => exact ⟨⟨#[]⟩, p, true, 0, p, true, fun wx hc => l04ReadShort_bad g s hs p false (Or.inr ho) wx hc, fun wx hc => l04Var_bad g s hs p true (Or.inl rfl) wx hc, Nat.zero_le _, Nat.zero_le _, (fun e => by cases e), fun _ => nt_nokey h he hk ho⟩
  | some r1 =>
    obtain ⟨x, q⟩ := r1
    cases ho2 : rdV s q with
    | none => exact ⟨x, q, false, 0, q, true, fun wx hc => l04ReadShort_good g s hs p x q ho wx hc, fun wx hc => l04Var_bad g s hs q false (Or.inr ho2) wx hc, (rdS_back ho).2.2.1, Nat.zero_le _, (fun e => by cases e), fun _ => nt_nokid h he hk hl ho ho2⟩
    | some r2 =>
      obtain ⟨y, r⟩ := r2
      exact ⟨x, q, false, y, r, false, fun wx hc => l04ReadShort_good g s hs p x q ho wx hc, fun wx hc => l04Var_good g s hs q y r ho2 wx hc, (rdS_back ho).2.2.1, (rdV_back ho2).2.2.1, fun _ => nt_kid h he hk hl ho ho2, (fun e => by cases e)⟩
theorem round_0 (g : Nat) {s : ByteArray} (hs : s.size ≤ 1048576) (lf : Bool) (hl : lf = decide (byt s 0 = 108)) : ∃ (cnt q : Nat) (b : Bool),
    (∀ wx, CurT wx g s 1 false → Calls Tryz.prog 83 #[.pointer (some ⟨g, 0, none⟩)] wx fun e w' => e = .returned (.int .i64 (cnt : Int)) ∧ CurT w' g s q b ∧ wx.grownBy w' (some g)) ∧
    cnt ≤ 1000000000 ∧ (b = false → NTry s cnt ⟨lf, [], [], []⟩ q) ∧ (b = true → ∀ m, ¬ IsIn s m) := by
  cases ho : rdV s 1 with
  | none => exact ⟨0, 1, true, fun wx hc => l04Var_bad g s hs 1 false (Or.inr ho) wx hc, Nat.zero_le _, (fun e => by cases e), fun _ => nt_novar ho⟩
  | some r1 =>
    obtain ⟨cnt, q⟩ := r1
    exact ⟨cnt, q, false, fun wx hc => l04Var_good g s hs 1 cnt q ho wx hc, (rdV_back ho).2.2.1, fun _ => nt_start hl ho, (fun e => by cases e)⟩
theorem own_nil (w : World) (B : Nat) : NodeOwn w B (.agg #[.bool false, .slice none 0 0, .slice none 0 0, .slice none 0 0]) false [] [] [] := ⟨_, _, _, rfl, ⟨rfl, Or.inl ⟨rfl, rfl⟩⟩, ⟨rfl, Or.inl ⟨rfl, rfl⟩⟩, ⟨rfl, Or.inl ⟨rfl, rfl⟩⟩, fun k e => by cases e⟩
end Go.Proofs.YtdbpbhemnnffeaaGreatDoor
