/-
  Several texts in one. impl's check sums by contracts: what a byte makes of a sum (by the table), SumMore, SumOf, and the four bytes of a sum; where the table holds what its initialiser lays. · impl.Sealed and impl.Unsealed by contracts: a text of at most 20000 bytes with the four bytes of its sum behind it, and true; of a text that is one the text without them, and true; else the empty text and false. · spec.SumMore, spec.SumOf, spec.l02Four, spec.Sealed and spec.Unsealed by contracts: the same answers as impl's.
-/
import Derived.Test.YtbokjfjdjgopeaaGreatDoorOwn
import Derived.Test.YtbokjfjdjgopeaaGreatDoorRgP
import Derived.Laws.Shifts
import Derived.Laws.BitsAllLaws
import Derived.WalkSpells
import Derived.WalkSmall
import Derived.BigQuiet
import Derived.Deep.QuietTactic
import Derived.Deep.LoopGhost
import Derived.Outline
import Derived.Below
import Derived.Test.YtbokjfjdjgopeaaGreatDoorClone
import Derived.Laws.Concat
import Derived.Deep.RegionHeld3
namespace Go.Proofs.YtbokjfjdjgopeaaGreatDoor
open Go.RowKit

/-- the table of sixteen lies in its variable -/
def SumTab (w : World) : Prop := ∀ i : Nat, i < 16 → w.cell? ⟨0, i, none⟩ = some (.int .u32 ((tab16.getD i 0 : Nat) : Int))

theorem sumTab_below {w w' : World} (h : SumTab w) (hb : Below w.heap.size w w') : SumTab w' := by
  intro i hi
  have hc := h i hi
  have hlt : 0 < w.heap.size := World.block_lt_of_cell? w _ hc
  rw [World.cell?_of_block (hb.block _ hlt)]
  exact hc

theorem wrap32 (x : Int) (h0 : 0 ≤ x) (h1 : x < 4294967296) : IntKind.u32.wrap x = x := by
  simp [IntKind.wrap, IntKind.signed, IntKind.bits]; omega

theorem xor32 (a b : Nat) (ha : a < 4294967296) (hb : b < 4294967296) : bits BinOp.xor IntKind.u32 (a : Int) (b : Int) = ((a ^^^ b : Nat) : Int) := by
  have e : bits BinOp.xor IntKind.u32 (a : Int) (b : Int) = IntKind.u32.wrap ((BitVec.ofInt 32 (a : Int) ^^^ BitVec.ofInt 32 (b : Int)).toNat : Int) := rfl
  have hl := xor_lt32 a b ha hb
  have h : (BitVec.ofInt 32 (a : Int) ^^^ BitVec.ofInt 32 (b : Int)).toNat = a ^^^ b := by
    rw [BitVec.toNat_xor, BitVec.ofInt_natCast, BitVec.ofInt_natCast, BitVec.toNat_ofNat, BitVec.toNat_ofNat, Nat.mod_eq_of_lt (by omega), Nat.mod_eq_of_lt (by omega)]
  rw [e, h, wrap32 _ (by omega) (by omega)]

theorem and32_15 (a : Nat) (ha : a < 4294967296) : bits BinOp.and IntKind.u32 (a : Int) 15 = ((a % 16 : Nat) : Int) := by
  have e : bits BinOp.and IntKind.u32 (a : Int) 15 = IntKind.u32.wrap ((BitVec.ofInt 32 (a : Int) &&& BitVec.ofInt 32 15).toNat : Int) := rfl
  have h : (BitVec.ofInt 32 (a : Int) &&& BitVec.ofInt 32 15).toNat = a % 16 := by
    rw [BitVec.toNat_and, BitVec.ofInt_natCast, BitVec.toNat_ofNat, Nat.mod_eq_of_lt (by omega)]
    exact Nat.and_two_pow_sub_one_eq_mod a 4
  rw [e, h, wrap32 _ (by omega) (by omega)]

theorem tab16_lt (r : Nat) (h : r < 16) : tab16.getD r 0 < 4294967296 := by
  revert r
  decide

set_option maxHeartbeats 1000000 in
theorem after_any (c b : Nat) (hc : c < 4294967296) (hb : b < 256) (w : World) (hT : SumTab w) :
    Calls Tryz.prog 113 #[.int .u32 (c : Int), .int .u8 (b : Int)] w fun e w' => e = .returned (.int .u32 (sumB c b : Int)) ∧ w = w' := by
  obtain ⟨x, hx⟩ : ∃ x, x = c ^^^ b := ⟨_, rfl⟩
  have hxl : x < 4294967296 := by rw [hx]; exact xor_lt32 _ _ hc (by omega)
  obtain ⟨r, hr⟩ : ∃ r, r = x % 16 := ⟨_, rfl⟩
  obtain ⟨t, ht⟩ : ∃ t, t = tab16.getD r 0 := ⟨_, rfl⟩
  have htl : t < 4294967296 := by rw [ht]; exact tab16_lt r (by omega)
  obtain ⟨y, hy⟩ : ∃ y, y = half4 x := ⟨_, rfl⟩
  have hyl : y < 4294967296 := by rw [hy]; exact half4_lt x hxl
  obtain ⟨r2, hr2⟩ : ∃ r, r = y % 16 := ⟨_, rfl⟩
  obtain ⟨t2, ht2⟩ : ∃ t, t = tab16.getD r2 0 := ⟨_, rfl⟩
  have ht2l : t2 < 4294967296 := by rw [ht2]; exact tab16_lt r2 (by omega)
  have q1 : IntKind.u32.wrap (b : Int) = (b : Int) := wrap32 _ (by omega) (by omega)
  have q2 : bits BinOp.xor IntKind.u32 (c : Int) (b : Int) = (x : Int) := by rw [hx]; exact xor32 c b hc (by omega)
  have q3 : bits BinOp.and IntKind.u32 (x : Int) 15 = (r : Int) := by rw [hr]; exact and32_15 x hxl
  have q4 : w.cell? ⟨0, r, none⟩ = some (.int .u32 (t : Int)) := by rw [ht]; exact hT r (by omega)
  have q5 : bits BinOp.xor IntKind.u32 ((x : Int) / 16) (t : Int) = (y : Int) := by
    rw [show (x : Int) / 16 = ((x / 16 : Nat) : Int) by omega, xor32 _ _ (by omega) htl, hy, half4_eq, ht, hr]
  have q6 : bits BinOp.and IntKind.u32 (y : Int) 15 = (r2 : Int) := by rw [hr2]; exact and32_15 y hyl
  have q7 : w.cell? ⟨0, r2, none⟩ = some (.int .u32 (t2 : Int)) := by rw [ht2]; exact hT r2 (by omega)
  have q8 : bits BinOp.xor IntKind.u32 ((y : Int) / 16) (t2 : Int) = (sumB c b : Int) := by
    rw [show (y : Int) / 16 = ((y / 16 : Nat) : Int) by omega, xor32 _ _ (by omega) ht2l, ht2, hr2, ← half4_eq, hy, hx]; rfl
  have l1 : (0 : Int) ≤ (r : Int) := by omega
  have l2 : (r : Int) < 16 := by omega
  have l3 : (0 : Int) ≤ (r2 : Int) := by omega
  have l4 : (r2 : Int) < 16 := by omega
  obtain ⟨z, hz⟩ : ∃ z, z = sumB c b := ⟨_, rfl⟩
  rw [← hz] at q8 ⊢
  clear hx hr ht hy hr2 ht2 hz hT
  go_enter Tryz.func113, Tryz.ntmps113
  go_wp2
  go_ret
  exact ⟨rfl, rfl⟩

set_option maxHeartbeats 1000000 in
theorem implSumMore_any (c : Nat) (s : ByteArray) (hc : c < 4294967296) (hs : s.size ≤ 9223372036854775807) (w : World) (hT : SumTab w) :
    Calls Tryz.prog 107 #[.int .u32 (c : Int), .string s] w fun e w' => e = .returned (.int .u32 (sumL c s.data.toList : Int)) ∧ w = w' := by
  have HT := hide hT
  clear hT
  go_enter Tryz.func107, Tryz.ntmps107
  go_wp2
  go_loopg [5, 6] s.size (fun g cv iv wr => ∃ k x : Nat, k ≤ s.size ∧ iv = .int .i64 (k : Int) ∧ g + k = s.size ∧ cv = .int .u32 (x : Int) ∧ x < 4294967296 ∧ Hid (x = sumL c (s.data.toList.take k)) ∧ w = wr)
  case atStart => exact ⟨0, c, Nat.zero_le _, rfl, rfl, rfl, hc, hide rfl, rfl⟩
  case round =>
    obtain ⟨k, x, hk, rfl, hg, rfl, hx, HX, rfl⟩ := hrel
    have HG := hide hg
    clear hg
    by_cases hlt : k < s.size
    · obtain ⟨y, hy⟩ : ∃ y, y = byt s k := ⟨_, rfl⟩
      have hyb : y < 256 := by rw [hy]; exact byt_lt s k
      have hsj : s[k].toNat = y := by rw [hy]; exact byt_eq s k hlt
      have HY := hide hy
      clear hy
      have hk0 : (0 : Int) ≤ (k : Int) := by omega
      have hk1 : (k : Int) < (s.size : Int) := by omega
      go_wp2_with fail
      refine (after_any x y hx hyb _ HT.out).mono ?_
      rintro e w1 ⟨rfl, rfl⟩
      have hl := sumB_lt x y hx hyb
      have HN : Hid (sumB x y = sumL c (s.data.toList.take (k + 1))) := hide (by rw [take_byt s k hlt, sumL_append, ← HX.out, HY.out, sumL]; simp [toNat_ofNat8 _ (byt_lt s k)])
      go_wp2
      go_roundg (gk - 1)
      case measure => have := HG.out; omega
      case rel => exact ⟨k + 1, sumB x y, by omega, by go_num, by have := HG.out; omega, rfl, hl, HN, rfl⟩
    · have hk' : s.data.toList.take k = s.data.toList := List.take_of_length_le (by rw [Array.length_toList]; have : s.data.size = s.size := rfl; omega)
      rw [hk'] at HX
      go_wp2
      go_ret
      rw [← HX.out]
      exact ⟨rfl, rfl⟩

set_option maxHeartbeats 400000 in
theorem implSumOf_any (s : ByteArray) (hs : s.size ≤ 9223372036854775807) (w : World) (hT : SumTab w) :
    Calls Tryz.prog 92 #[.string s] w fun e w' => e = .returned (.int .u32 (sumL 4294967295 s.data.toList : Int)) ∧ w = w' := by
  have HT := hide hT
  clear hT
  go_enter Tryz.func92, Tryz.ntmps92
  go_wp2_with fail
  refine (implSumMore_any 4294967295 s (by omega) hs _ HT.out).mono ?_
  rintro e w1 ⟨rfl, rfl⟩
  go_wp2
  go_ret
  exact ⟨rfl, rfl⟩

theorem four_at (x : Nat) : [Value.int .u8 ((x / 16777216 % 256 : Nat) : Int), .int .u8 ((x / 65536 % 256 : Nat) : Int), .int .u8 ((x / 256 % 256 : Nat) : Int), .int .u8 ((x % 256 : Nat) : Int)] = Lib.byteCells (fourL x) := by
  simp [Lib.byteCells, fourL]

theorem wrap8 (a b : Nat) (h : b = a % 256) : IntKind.u8.wrap (a : Int) = (b : Int) := by
  subst h
  simp [IntKind.wrap, IntKind.signed, IntKind.bits]

set_option maxHeartbeats 1000000 in
theorem text_any (x : Nat) (w : World) :
    Calls Tryz.prog 93 #[.int .u32 (x : Int)] w fun e w' => e = .returned (.string ⟨(fourL x).toArray⟩) ∧ Below w.heap.size w w' := by
  obtain ⟨a, ha⟩ : ∃ a, a = x / 16777216 % 256 := ⟨_, rfl⟩
  obtain ⟨b, hb⟩ : ∃ b, b = x / 65536 % 256 := ⟨_, rfl⟩
  obtain ⟨c, hc⟩ : ∃ c, c = x / 256 % 256 := ⟨_, rfl⟩
  obtain ⟨d, hd⟩ : ∃ d, d = x % 256 := ⟨_, rfl⟩
  have q1 : IntKind.u8.wrap ((x : Int) / 16777216) = (a : Int) := wrap8 (x / 16777216) a ha
  have q2 : IntKind.u8.wrap ((x : Int) / 65536) = (b : Int) := wrap8 (x / 65536) b hb
  have q3 : IntKind.u8.wrap ((x : Int) / 256) = (c : Int) := wrap8 (x / 256) c hc
  have q4 : IntKind.u8.wrap (x : Int) = (d : Int) := wrap8 x d hd
  have HC : Hid ([Value.int .u8 (a : Int), .int .u8 (b : Int), .int .u8 (c : Int), .int .u8 (d : Int)] = Lib.byteCells (fourL x)) := hide (by rw [ha, hb, hc, hd]; exact four_at x)
  clear ha hb hc hd
  have hown : (w.alloc (Obj.cells #[.int .u8 (a : Int), .int .u8 (b : Int), .int .u8 (c : Int), .int .u8 (d : Int)] 5)).ownsRow w.heap.size 5 1 (.slice (some ⟨w.heap.size, 0, none⟩) 4 4) (fourL x).length (Lib.byteCells (fourL x)) := by
    rw [← HC.out]
    exact World.ownsRow_lit (base := w.heap.size) (e := 5) (size := 1) w #[.int .u8 (a : Int), .int .u8 (b : Int), .int .u8 (c : Int), .int .u8 (d : Int)] 4 (Nat.le_refl _) (by unfold maxLen; omega) (by simp)
  have hcv : (convert 169 9 (.slice (some ⟨w.heap.size, 0, none⟩) 4 4)).run Tryz.prog (w.alloc (Obj.cells #[.int .u8 (a : Int), .int .u8 (b : Int), .int .u8 (c : Int), .int .u8 (d : Int)] 5)) = .ok (.string ⟨(fourL x).toArray⟩) (w.alloc (Obj.cells #[.int .u8 (a : Int), .int .u8 (b : Int), .int .u8 (c : Int), .int .u8 (d : Int)] 5)) :=
    string_own (l := fourL x) Tryz.underlying169 Tryz.underlying5 Tryz.underlying9 hown
  clear hown
  go_enter Tryz.func93, Tryz.ntmps93
  go_wp2
  go_ret
  exact ⟨rfl, (Below.refl _ _).alloc (Nat.le_refl _) _⟩
end Go.Proofs.YtbokjfjdjgopeaaGreatDoor

namespace Go.Proofs.YtbokjfjdjgopeaaGreatDoor
open Go.RowKit

theorem seal_bytes (s : ByteArray) : s ++ ⟨(fourL (sumL 4294967295 s.data.toList)).toArray⟩ = (⟨(sealL s.data.toList).toArray⟩ : ByteArray) := by
  apply ByteArray.ext
  simp [sealL]

/-- what Unsealed answers -/
def unOut (s : ByteArray) : Value := if isSealed s.data.toList = true then .tuple #[.string (s.extract 0 (s.size - 4)), .bool true] else .tuple #[.string ⟨#[]⟩, .bool false]

theorem tolist_eq (t : ByteArray) : t.toList = t.data.toList := ByteArray.toList_eq t

theorem list_len (s : ByteArray) : s.data.toList.length = s.size := by rw [Array.length_toList]; rfl

theorem seal_cut (s : ByteArray) (n : Nat) (hn : s.size = n + 4) : (s.extract 0 n).data.toList = s.data.toList.take n ∧ (s.extract n s.size).data.toList = s.data.toList.drop n := by
  constructor
  · simp [ByteArray.data_extract]
  · simp [ByteArray.data_extract, hn]; rw [List.take_of_length_le]; rw [List.length_drop, list_len]; omega

set_option maxHeartbeats 1000000 in
theorem implUnsealed_any (s : ByteArray) (hs : s.size ≤ 1048576) (w : World) (hT : SumTab w) :
    Calls Tryz.prog 71 #[.string s] w fun e w' => e = .returned (unOut s) ∧ Below w.heap.size w w' := by
  have HT := hide hT
  clear hT
  by_cases h4 : s.size < 4
  · have HO : Hid (unOut s = .tuple #[.string ⟨#[]⟩, .bool false]) := hide (by rw [unOut, if_neg]; rw [isSealed, decide_eq_true_eq, list_len]; omega)
    have hd : decide ((s.size : Int) < 4) = true := by simp; omega
    go_enter Tryz.func71, Tryz.ntmps71
    go_wp2
    go_ret2
    rw [HO.out]
    exact ⟨rfl, Below.refl _ _⟩
  · have hd : decide ((s.size : Int) < 4) = false := by simp; omega
    by_cases hbig : 20004 < s.size
    · have HO : Hid (unOut s = .tuple #[.string ⟨#[]⟩, .bool false]) := hide (by rw [unOut, if_neg]; rw [isSealed, decide_eq_true_eq, list_len]; omega)
      have hd2 : decide ((20004 : Int) < (s.size : Int)) = true := by simp; omega
      go_enter Tryz.func71, Tryz.ntmps71
      go_wp2
      go_ret2
      rw [HO.out]
      exact ⟨rfl, Below.refl _ _⟩
    · have hd2 : decide ((20004 : Int) < (s.size : Int)) = false := by simp; omega
      obtain ⟨n, hn⟩ : ∃ n, s.size = n + 4 := ⟨s.size - 4, by omega⟩
      obtain ⟨t, ht⟩ : ∃ t, t = s.extract n s.size := ⟨_, rfl⟩
      obtain ⟨x, hx⟩ : ∃ x, x = sumL 4294967295 (s.data.toList.take n) := ⟨_, rfl⟩
      have hil : (s.extract 0 n).size = n := by rw [ByteArray.size_extract]; omega
      have HC : Hid (∀ wx, SumTab wx → Calls Tryz.prog 92 #[.string (s.extract 0 n)] wx fun e w' => e = .returned (.int .u32 (x : Int)) ∧ wx = w') := hide (fun wx h => by
        have := implSumOf_any (s.extract 0 n) (by omega) wx h
        rw [(seal_cut s n hn).1, ← hx] at this
        exact this)
      have HTl : Hid (t.data.toList = s.data.toList.drop n) := hide (by rw [ht]; exact (seal_cut s n hn).2)
      have HO : Hid (isSealed s.data.toList = decide (t.data.toList = fourL x)) := hide (by rw [isSealed, list_len, hn, Nat.add_sub_cancel, HTl.out, hx]; congr 1; simp; omega)
      have hs2 : ∀ wx : World, (Instr.slice 9 (.string s) (some (.int .i64 (n : Int))) none none).run Tryz.prog wx = .ok (.string t) wx := fun wx => by
        rw [run_slice_string_l (P := Tryz.prog) wx 9 s Tryz.underlying9 .i64 (n : Int) (by omega) (by omega), ht, Int.toNat_natCast]
      have HS : Hid (s.size - 4 = n) := hide (by omega)
      clear ht hx
      go_enter Tryz.func71, Tryz.ntmps71
      go_wp2_with fail
      go_region_held3 (fun _ => True) (trivial) (first | (go_at_call 92; refine (HC.out _ ?_).mono ?_; exact HT.out; rintro e wx ⟨rfl, rfl⟩) | (go_at_call 93; refine (text_any x _).mono ?_; rintro e wx ⟨rfl, hbw⟩))
      by_cases he : t.data.toList = fourL x
      · have hq : (fourL x == t.toList) = true := by rw [tolist_eq, he]; exact beq_self_eq_true _
        rw [hq]
        go_wp2_with fail
        refine (clone_any _ (by omega) _).mono ?_
        rintro e w2 ⟨rfl, hb2⟩
        go_wp2
        go_ret2
        rw [unOut, HO.out, if_pos (by simpa using he), HS.out]
        exact ⟨rfl, (((Below.refl _ _).drew).trans hbw).trans (hb2.mono hbw.size)⟩
      · have hq : (fourL x == t.toList) = false := by rw [tolist_eq]; exact beq_eq_false_iff_ne.2 (fun e => he e.symm)
        rw [hq]
        go_wp2_with fail
        go_ret2
        rw [unOut, HO.out, if_neg (by simpa using he)]
        exact ⟨rfl, ((Below.refl _ _).drew).trans hbw⟩
end Go.Proofs.YtbokjfjdjgopeaaGreatDoor

namespace Go.Proofs.YtbokjfjdjgopeaaGreatDoor
open Go.RowKit

/-- k halvings -/
def halfK : Nat → Nat → Nat
  | 0, x => x
  | k + 1, x => half (halfK k x)

set_option maxHeartbeats 1000000 in
theorem specSumMore_any (c : Nat) (s : ByteArray) (hc : c < 4294967296) (hs : s.size ≤ 9223372036854775807) (w : World) :
    Calls Tryz.prog 99 #[.int .u32 (c : Int), .string s] w fun e w' => e = .returned (.int .u32 (sumL c s.data.toList : Int)) ∧ w = w' := by
  go_enter Tryz.func99, Tryz.ntmps99
  go_wp2
  go_loopg [0, 5] s.size (fun g cv iv wr => ∃ k x : Nat, k ≤ s.size ∧ iv = .int .i64 (k : Int) ∧ g + k = s.size ∧ cv = .int .u32 (x : Int) ∧ x < 4294967296 ∧ Hid (x = sumL c (s.data.toList.take k)) ∧ w = wr)
  case atStart => exact ⟨0, c, Nat.zero_le _, rfl, rfl, rfl, hc, hide rfl, rfl⟩
  case round =>
    obtain ⟨k, x, hk, rfl, hg, rfl, hx, HX, rfl⟩ := hrel
    have HG := hide hg
    clear hg
    by_cases hlt : k < s.size
    · obtain ⟨y, hy⟩ : ∃ y, y = byt s k := ⟨_, rfl⟩
      have hyb : y < 256 := by rw [hy]; exact byt_lt s k
      have hsj : s[k].toNat = y := by rw [hy]; exact byt_eq s k hlt
      have HY := hide hy
      clear hy
      have hk0 : (0 : Int) ≤ (k : Int) := by omega
      have hk1 : (k : Int) < (s.size : Int) := by omega
      obtain ⟨z, hz⟩ : ∃ z, z = x ^^^ y := ⟨_, rfl⟩
      have hzl : z < 4294967296 := by rw [hz]; exact xor_lt32 _ _ hx (by omega)
      have q1 : IntKind.u32.wrap (y : Int) = (y : Int) := wrap32 _ (by omega) (by omega)
      have q2 : bits BinOp.xor IntKind.u32 (x : Int) (y : Int) = (z : Int) := by rw [hz]; exact xor32 x y hx (by omega)
      have HZ := hide hz
      clear hz
      obtain ⟨go, hgo⟩ : ∃ go, go = gk := ⟨_, rfl⟩
      rw [← hgo] at HG
      go_wp2
      go_loopg [0, 6] 8 (fun g cv kv wr => ∃ j m : Nat, j ≤ 8 ∧ kv = .int .i64 (j : Int) ∧ g + j = 8 ∧ cv = .int .u32 (m : Int) ∧ m < 4294967296 ∧ Hid (m = halfK j z) ∧ w = wr)
      case atStart => exact ⟨0, z, Nat.zero_le _, rfl, rfl, rfl, hzl, hide rfl, rfl⟩
      case round =>
        obtain ⟨j, m, hj, rfl, hg, rfl, hm, HM, rfl⟩ := hrel
        have HG2 := hide hg
        clear hg
        by_cases hj8 : j < 8
        · by_cases hodd : m % 2 = 1
          · have hq : decide ((m : Int) % 2 = 1) = true := by simp; omega
            obtain ⟨v, hv⟩ : ∃ v, v = half m := ⟨_, rfl⟩
            have hvl : v < 4294967296 := by rw [hv]; exact half_lt m hm
            have q3 : bits BinOp.xor IntKind.u32 ((m : Int) / 2) 3558460437 = (v : Int) := by
              rw [hv, half, if_pos hodd]
              exact xor32 (m / 2) 3558460437 (by omega) (by omega)
            have HV : Hid (v = halfK (j + 1) z) := hide (by rw [hv, halfK, ← HM.out])
            clear hv
            go_wp2
            go_roundg (gk - 1)
            case measure => have := HG2.out; omega
            case rel => exact ⟨j + 1, v, by omega, by go_num, by have := HG2.out; omega, rfl, hvl, HV, rfl⟩
          · have hq : decide ((m : Int) % 2 = 1) = false := by simp; omega
            have hqn : ¬ ((m : Int) % 2 = 1) := by omega
            have HV : Hid (m / 2 = halfK (j + 1) z) := hide (by rw [halfK, ← HM.out, half, if_neg hodd])
            clear hodd
            go_wp2
            go_roundg (gk - 1)
            case measure => have := HG2.out; omega
            case rel => exact ⟨j + 1, m / 2, by omega, by go_num, by have := HG2.out; omega, by go_num, by omega, HV, rfl⟩
        · obtain rfl : j = 8 := by omega
          have HN : Hid (m = sumL c (s.data.toList.take (k + 1))) := hide (by rw [take_byt s k hlt, sumL_append, ← HX.out, ← HY.out, sumL]; simp only [List.foldl_cons, List.foldl_nil]; rw [toNat_ofNat8 _ hyb, HM.out, HZ.out]; rfl)
          go_wp2
          go_roundg (go - 1)
          case measure => have := HG.out; omega
          case rel => exact ⟨k + 1, m, by omega, by go_num, by have := HG.out; omega, rfl, hm, HN, rfl⟩
    · have hk' : s.data.toList.take k = s.data.toList := List.take_of_length_le (by rw [Array.length_toList]; have : s.data.size = s.size := rfl; omega)
      rw [hk'] at HX
      go_wp2
      go_ret
      rw [← HX.out]
      exact ⟨rfl, rfl⟩

set_option maxHeartbeats 400000 in
theorem specSumOf_any (s : ByteArray) (hs : s.size ≤ 9223372036854775807) (w : World) :
    Calls Tryz.prog 80 #[.string s] w fun e w' => e = .returned (.int .u32 (sumL 4294967295 s.data.toList : Int)) ∧ w = w' := by
  go_enter Tryz.func80, Tryz.ntmps80
  go_wp2_with fail
  refine (specSumMore_any 4294967295 s (by omega) hs _).mono ?_
  rintro e w1 ⟨rfl, rfl⟩
  go_wp2
  go_ret
  exact ⟨rfl, rfl⟩

set_option maxHeartbeats 1000000 in
theorem specFour_any (x : Nat) (w : World) :
    Calls Tryz.prog 79 #[.int .u32 (x : Int)] w fun e w' => e = .returned (.string ⟨(fourL x).toArray⟩) ∧ Below w.heap.size w w' := by
  obtain ⟨a, ha⟩ : ∃ a, a = x / 16777216 % 256 := ⟨_, rfl⟩
  obtain ⟨b, hb⟩ : ∃ b, b = x / 65536 % 256 := ⟨_, rfl⟩
  obtain ⟨c, hc⟩ : ∃ c, c = x / 256 % 256 := ⟨_, rfl⟩
  obtain ⟨d, hd⟩ : ∃ d, d = x % 256 := ⟨_, rfl⟩
  have q1 : IntKind.u8.wrap ((x : Int) / 16777216) = (a : Int) := wrap8 (x / 16777216) a ha
  have q2 : IntKind.u8.wrap ((x : Int) / 65536) = (b : Int) := wrap8 (x / 65536) b hb
  have q3 : IntKind.u8.wrap ((x : Int) / 256) = (c : Int) := wrap8 (x / 256) c hc
  have q4 : IntKind.u8.wrap (x : Int) = (d : Int) := wrap8 x d hd
  have HC : Hid ([Value.int .u8 (a : Int), .int .u8 (b : Int), .int .u8 (c : Int), .int .u8 (d : Int)] = Lib.byteCells (fourL x)) := hide (by rw [ha, hb, hc, hd]; exact four_at x)
  clear ha hb hc hd
  have hown : (w.alloc (Obj.cells #[.int .u8 (a : Int), .int .u8 (b : Int), .int .u8 (c : Int), .int .u8 (d : Int)] 5)).ownsRow w.heap.size 5 1 (.slice (some ⟨w.heap.size, 0, none⟩) 4 4) (fourL x).length (Lib.byteCells (fourL x)) := by
    rw [← HC.out]
    exact World.ownsRow_lit (base := w.heap.size) (e := 5) (size := 1) w #[.int .u8 (a : Int), .int .u8 (b : Int), .int .u8 (c : Int), .int .u8 (d : Int)] 4 (Nat.le_refl _) (by unfold maxLen; omega) (by simp)
  have hcv : (convert 169 9 (.slice (some ⟨w.heap.size, 0, none⟩) 4 4)).run Tryz.prog (w.alloc (Obj.cells #[.int .u8 (a : Int), .int .u8 (b : Int), .int .u8 (c : Int), .int .u8 (d : Int)] 5)) = .ok (.string ⟨(fourL x).toArray⟩) (w.alloc (Obj.cells #[.int .u8 (a : Int), .int .u8 (b : Int), .int .u8 (c : Int), .int .u8 (d : Int)] 5)) :=
    string_own (l := fourL x) Tryz.underlying169 Tryz.underlying5 Tryz.underlying9 hown
  clear hown
  go_enter Tryz.func79, Tryz.ntmps79
  go_wp2
  go_ret
  exact ⟨rfl, (Below.refl _ _).alloc (Nat.le_refl _) _⟩

set_option maxHeartbeats 400000 in
theorem specSealed_yes (s : ByteArray) (h : s.size ≤ 20000) (w : World) :
    Calls Tryz.prog 84 #[.string s] w fun e w' => e = .returned (.tuple #[.string ⟨(sealL s.data.toList).toArray⟩, .bool true]) ∧ Below w.heap.size w w' := by
  have hf : (⟨(fourL (sumL 4294967295 s.data.toList)).toArray⟩ : ByteArray).size = 4 := rfl
  go_enter Tryz.func84, Tryz.ntmps84
  go_wp2_with fail
  refine (specSumOf_any s (by omega) _).mono ?_
  rintro e w1 ⟨rfl, rfl⟩
  go_wp2_with fail
  refine (specFour_any (sumL 4294967295 s.data.toList) _).mono ?_
  rintro e w1 ⟨rfl, hb⟩
  go_wp2
  go_ret2
  rw [← seal_bytes]
  exact ⟨rfl, hb⟩

set_option maxHeartbeats 400000 in
theorem specSealed_no (s : ByteArray) (h : 20000 < s.size) (_hs : s.size ≤ 9223372036854775807) (w : World) :
    Calls Tryz.prog 84 #[.string s] w fun e w' => e = .returned (.tuple #[.string ⟨#[]⟩, .bool false]) ∧ w = w' := by
  go_enter Tryz.func84, Tryz.ntmps84
  go_wp2
  go_ret2
  exact ⟨rfl, rfl⟩

set_option maxHeartbeats 1000000 in
theorem specUnsealed_any (s : ByteArray) (hs : s.size ≤ 1048576) (w : World) :
    Calls Tryz.prog 53 #[.string s] w fun e w' => e = .returned (unOut s) ∧ Below w.heap.size w w' := by
  by_cases h4 : s.size < 4
  · have HO : Hid (unOut s = .tuple #[.string ⟨#[]⟩, .bool false]) := hide (by rw [unOut, if_neg]; rw [isSealed, decide_eq_true_eq, list_len]; omega)
    have hd : decide ((s.size : Int) - 4 < 0) = true := by simp; omega
    go_enter Tryz.func53, Tryz.ntmps53
    go_wp2_with fail
    go_quiet (fail)
    go_wp2
    go_ret2
    rw [HO.out]
    exact ⟨rfl, below_drewN (Below.refl _ _) _⟩
  · by_cases hbig : 20004 < s.size
    · have HO : Hid (unOut s = .tuple #[.string ⟨#[]⟩, .bool false]) := hide (by rw [unOut, if_neg]; rw [isSealed, decide_eq_true_eq, list_len]; omega)
      have hd : decide ((s.size : Int) - 4 < 0) = false := by simp; omega
      have hd2 : decide ((20000 : Int) < (s.size : Int) - 4) = true := by simp; omega
      go_enter Tryz.func53, Tryz.ntmps53
      go_wp2_with fail
      go_quiet (fail)
      go_wp2
      go_ret2
      rw [HO.out]
      exact ⟨rfl, below_drewN (Below.refl _ _) _⟩
    · obtain ⟨n, hn⟩ : ∃ n, s.size = n + 4 := ⟨s.size - 4, by omega⟩
      obtain ⟨t, ht⟩ : ∃ t, t = s.extract n s.size := ⟨_, rfl⟩
      obtain ⟨x, hx⟩ : ∃ x, x = sumL 4294967295 (s.data.toList.take n) := ⟨_, rfl⟩
      have hil : (s.extract 0 n).size = n := by rw [ByteArray.size_extract]; omega
      have HC : Hid (∀ wx, Calls Tryz.prog 80 #[.string (s.extract 0 n)] wx fun e w' => e = .returned (.int .u32 (x : Int)) ∧ wx = w') := hide (fun wx => by
        have := specSumOf_any (s.extract 0 n) (by omega) wx
        rw [(seal_cut s n hn).1, ← hx] at this
        exact this)
      have HTl : Hid (t.data.toList = s.data.toList.drop n) := hide (by rw [ht]; exact (seal_cut s n hn).2)
      have HO : Hid (isSealed s.data.toList = decide (t.data.toList = fourL x)) := hide (by rw [isSealed, list_len, hn, Nat.add_sub_cancel, HTl.out, hx]; congr 1; simp; omega)
      have hs1 : ∀ wx : World, (Instr.slice 9 (.string s) none (some (.int .i64 (n : Int))) none).run Tryz.prog wx = .ok (.string (s.extract 0 n)) wx := fun wx => by
        rw [run_slice_string_h (P := Tryz.prog) wx 9 s Tryz.underlying9 .i64 (n : Int) (by omega) (by omega), Int.toNat_natCast]
      have hs2 : ∀ wx : World, (Instr.slice 9 (.string s) (some (.int .i64 (n : Int))) none none).run Tryz.prog wx = .ok (.string t) wx := fun wx => by
        rw [run_slice_string_l (P := Tryz.prog) wx 9 s Tryz.underlying9 .i64 (n : Int) (by omega) (by omega), ht, Int.toNat_natCast]
      have hd : decide ((n : Int) < 0) = false := by simp
      have hd2 : decide ((20000 : Int) < (n : Int)) = false := by simp; omega
      have HS : Hid (s.size - 4 = n) := hide (by omega)
      clear ht hx
      go_enter Tryz.func53, Tryz.ntmps53
      go_wp2_with fail
      go_region_held3 (fun _ => True) (trivial) (first | (go_at_call 80; refine (HC.out _).mono ?_; rintro e wx ⟨rfl, rfl⟩) | (go_at_call 79; refine (specFour_any x _).mono ?_; rintro e wx ⟨rfl, hbw⟩))
      by_cases he : t.data.toList = fourL x
      · have hq : (t.toList == fourL x) = true := by rw [tolist_eq, he]; exact beq_self_eq_true _
        rw [hq]
        go_wp2_with fail
        go_ret2
        rw [unOut, HO.out, if_pos (by simpa using he), HS.out]
        exact ⟨rfl, ((Below.refl _ _).drew).trans hbw⟩
      · have hq : (t.toList == fourL x) = false := by rw [tolist_eq]; exact beq_eq_false_iff_ne.2 he
        rw [hq]
        go_wp2_with fail
        go_ret2
        rw [unOut, HO.out, if_neg (by simpa using he)]
        exact ⟨rfl, ((Below.refl _ _).drew).trans hbw⟩
end Go.Proofs.YtbokjfjdjgopeaaGreatDoor
