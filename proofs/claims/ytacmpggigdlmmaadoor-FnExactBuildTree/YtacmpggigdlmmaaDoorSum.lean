/-
  impl's check sums by contracts: what a byte makes of a sum (by the table), SumMore, SumOf, and the four bytes of a sum; where the table holds what its initialiser lays.
-/
import Derived.Test.YtacmpggigdlmmaaDoorOwn
import Derived.Test.YtacmpggigdlmmaaDoorPlain8
import Derived.Laws.Shifts
import Derived.Laws.BitsAllLaws
import Derived.WalkSpells
import Derived.WalkSmall
import Derived.BigQuiet
import Derived.Deep.QuietTactic
import Derived.Deep.LoopGhost
import Derived.Outline
import Derived.Below
namespace Go.Proofs.YtacmpggigdlmmaaDoor
open Go.RowKit

/-- the table of sixteen lies in its variable -/
def SumTab (w : World) : Prop := ∀ i : Nat, i < 16 → w.cell? ⟨0, i, none⟩ = some (.int .u32 ((tab16.getD i 0 : Nat) : Int))

theorem sumTab_below {w w' : World} (h : SumTab w) (hb : Below w.heap.size w w') : SumTab w' := by
  intro i hi
  have hc := h i hi
  have hlt : 0 < w.heap.size := World.block_lt_of_cell? w _ hc
  rw [World.cell?_of_block (hb.block _ hlt)]
  exact hc

theorem wrap32 (x : Int) (h0 : 0 ≤ x) (h1 : x < 4294967296) : IntKind.u32.wrap x = x := by
  simp [IntKind.wrap, IntKind.signed, IntKind.bits]; omega

theorem xor32 (a b : Nat) (ha : a < 4294967296) (hb : b < 4294967296) : bits BinOp.xor IntKind.u32 (a : Int) (b : Int) = ((a ^^^ b : Nat) : Int) := by
  have e : bits BinOp.xor IntKind.u32 (a : Int) (b : Int) = IntKind.u32.wrap ((BitVec.ofInt 32 (a : Int) ^^^ BitVec.ofInt 32 (b : Int)).toNat : Int) := rfl
  have hl := xor_lt32 a b ha hb
  have h : (BitVec.ofInt 32 (a : Int) ^^^ BitVec.ofInt 32 (b : Int)).toNat = a ^^^ b := by
    rw [BitVec.toNat_xor, BitVec.ofInt_natCast, BitVec.ofInt_natCast, BitVec.toNat_ofNat, BitVec.toNat_ofNat, Nat.mod_eq_of_lt (by omega), Nat.mod_eq_of_lt (by omega)]
  rw [e, h, wrap32 _ (by omega) (by omega)]

theorem and32_15 (a : Nat) (ha : a < 4294967296) : bits BinOp.and IntKind.u32 (a : Int) 15 = ((a % 16 : Nat) : Int) := by
  have e : bits BinOp.and IntKind.u32 (a : Int) 15 = IntKind.u32.wrap ((BitVec.ofInt 32 (a : Int) &&& BitVec.ofInt 32 15).toNat : Int) := rfl
  have h : (BitVec.ofInt 32 (a : Int) &&& BitVec.ofInt 32 15).toNat = a % 16 := by
    rw [BitVec.toNat_and, BitVec.ofInt_natCast, BitVec.toNat_ofNat, Nat.mod_eq_of_lt (by omega)]
    exact Nat.and_two_pow_sub_one_eq_mod a 4
  rw [e, h, wrap32 _ (by omega) (by omega)]

theorem tab16_lt (r : Nat) (h : r < 16) : tab16.getD r 0 < 4294967296 := by
  revert r
  decide

set_option maxHeartbeats 1000000 in
theorem after_any (c b : Nat) (hc : c < 4294967296) (hb : b < 256) (w : World) (hT : SumTab w) :
    Calls Tryd.prog 90 #[.int .u32 (c : Int), .int .u8 (b : Int)] w fun e w' => e = .returned (.int .u32 (sumB c b : Int)) ∧ w = w' := by
  obtain ⟨x, hx⟩ : ∃ x, x = c ^^^ b := ⟨_, rfl⟩
  have hxl : x < 4294967296 := by rw [hx]; exact xor_lt32 _ _ hc (by omega)
  obtain ⟨r, hr⟩ : ∃ r, r = x % 16 := ⟨_, rfl⟩
  obtain ⟨t, ht⟩ : ∃ t, t = tab16.getD r 0 := ⟨_, rfl⟩
  have htl : t < 4294967296 := by rw [ht]; exact tab16_lt r (by omega)
  obtain ⟨y, hy⟩ : ∃ y, y = half4 x := ⟨_, rfl⟩
  have hyl : y < 4294967296 := by rw [hy]; exact half4_lt x hxl
  obtain ⟨r2, hr2⟩ : ∃ r, r = y % 16 := ⟨_, rfl⟩
  obtain ⟨t2, ht2⟩ : ∃ t, t = tab16.getD r2 0 := ⟨_, rfl⟩
  have ht2l : t2 < 4294967296 := by rw [ht2]; exact tab16_lt r2 (by omega)
  have q1 : IntKind.u32.wrap (b : Int) = (b : Int) := wrap32 _ (by omega) (by omega)
  have q2 : bits BinOp.xor IntKind.u32 (c : Int) (b : Int) = (x : Int) := by rw [hx]; exact xor32 c b hc (by omega)
  have q3 : bits BinOp.and IntKind.u32 (x : Int) 15 = (r : Int) := by rw [hr]; exact and32_15 x hxl
  have q4 : w.cell? ⟨0, r, none⟩ = some (.int .u32 (t : Int)) := by rw [ht]; exact hT r (by omega)
  have q5 : bits BinOp.xor IntKind.u32 ((x : Int) / 16) (t : Int) = (y : Int) := by
    rw [show (x : Int) / 16 = ((x / 16 : Nat) : Int) by omega, xor32 _ _ (by omega) htl, hy, half4_eq, ht, hr]
  have q6 : bits BinOp.and IntKind.u32 (y : Int) 15 = (r2 : Int) := by rw [hr2]; exact and32_15 y hyl
  have q7 : w.cell? ⟨0, r2, none⟩ = some (.int .u32 (t2 : Int)) := by rw [ht2]; exact hT r2 (by omega)
  have q8 : bits BinOp.xor IntKind.u32 ((y : Int) / 16) (t2 : Int) = (sumB c b : Int) := by
    rw [show (y : Int) / 16 = ((y / 16 : Nat) : Int) by omega, xor32 _ _ (by omega) ht2l, ht2, hr2, ← half4_eq, hy, hx]; rfl
  have l1 : (0 : Int) ≤ (r : Int) := by omega
  have l2 : (r : Int) < 16 := by omega
  have l3 : (0 : Int) ≤ (r2 : Int) := by omega
  have l4 : (r2 : Int) < 16 := by omega
  obtain ⟨z, hz⟩ : ∃ z, z = sumB c b := ⟨_, rfl⟩
  rw [← hz] at q8 ⊢
  clear hx hr ht hy hr2 ht2 hz hT
  go_enter Tryd.func90, Tryd.ntmps90
  go_wp2
  go_ret
  exact ⟨rfl, rfl⟩

set_option maxHeartbeats 1000000 in
theorem implSumMore_any (c : Nat) (s : ByteArray) (hc : c < 4294967296) (hs : s.size ≤ 9223372036854775807) (w : World) (hT : SumTab w) :
    Calls Tryd.prog 89 #[.int .u32 (c : Int), .string s] w fun e w' => e = .returned (.int .u32 (sumL c s.data.toList : Int)) ∧ w = w' := by
  have HT := hide hT
  clear hT
  go_enter Tryd.func89, Tryd.ntmps89
  go_wp2
  go_loopg [5, 6] s.size (fun g cv iv wr => ∃ k x : Nat, k ≤ s.size ∧ iv = .int .i64 (k : Int) ∧ g + k = s.size ∧ cv = .int .u32 (x : Int) ∧ x < 4294967296 ∧ Hid (x = sumL c (s.data.toList.take k)) ∧ w = wr)
  case atStart => exact ⟨0, c, Nat.zero_le _, rfl, rfl, rfl, hc, hide rfl, rfl⟩
  case round =>
    obtain ⟨k, x, hk, rfl, hg, rfl, hx, HX, rfl⟩ := hrel
    have HG := hide hg
    clear hg
    by_cases hlt : k < s.size
    · obtain ⟨y, hy⟩ : ∃ y, y = byt s k := ⟨_, rfl⟩
      have hyb : y < 256 := by rw [hy]; exact byt_lt s k
      have hsj : s[k].toNat = y := by rw [hy]; exact byt_eq s k hlt
      have HY := hide hy
      clear hy
      have hk0 : (0 : Int) ≤ (k : Int) := by omega
      have hk1 : (k : Int) < (s.size : Int) := by omega
      go_wp2_with fail
      refine (after_any x y hx hyb _ HT.out).mono ?_
      rintro e w1 ⟨rfl, rfl⟩
      have hl := sumB_lt x y hx hyb
      have HN : Hid (sumB x y = sumL c (s.data.toList.take (k + 1))) := hide (by rw [take_byt s k hlt, sumL_append, ← HX.out, HY.out, sumL]; simp [toNat_ofNat8 _ (byt_lt s k)])
      go_wp2
      go_roundg (gk - 1)
      case measure => have := HG.out; omega
      case rel => exact ⟨k + 1, sumB x y, by omega, by go_num, by have := HG.out; omega, rfl, hl, HN, rfl⟩
    · have hk' : s.data.toList.take k = s.data.toList := List.take_of_length_le (by rw [Array.length_toList]; have : s.data.size = s.size := rfl; omega)
      rw [hk'] at HX
      go_wp2
      go_ret
      rw [← HX.out]
      exact ⟨rfl, rfl⟩

set_option maxHeartbeats 400000 in
theorem implSumOf_any (s : ByteArray) (hs : s.size ≤ 9223372036854775807) (w : World) (hT : SumTab w) :
    Calls Tryd.prog 86 #[.string s] w fun e w' => e = .returned (.int .u32 (sumL 4294967295 s.data.toList : Int)) ∧ w = w' := by
  have HT := hide hT
  clear hT
  go_enter Tryd.func86, Tryd.ntmps86
  go_wp2_with fail
  refine (implSumMore_any 4294967295 s (by omega) hs _ HT.out).mono ?_
  rintro e w1 ⟨rfl, rfl⟩
  go_wp2
  go_ret
  exact ⟨rfl, rfl⟩

theorem four_at (x : Nat) : [Value.int .u8 ((x / 16777216 % 256 : Nat) : Int), .int .u8 ((x / 65536 % 256 : Nat) : Int), .int .u8 ((x / 256 % 256 : Nat) : Int), .int .u8 ((x % 256 : Nat) : Int)] = Lib.byteCells (fourL x) := by
  simp [Lib.byteCells, fourL]

theorem wrap8 (a b : Nat) (h : b = a % 256) : IntKind.u8.wrap (a : Int) = (b : Int) := by
  subst h
  simp [IntKind.wrap, IntKind.signed, IntKind.bits]

set_option maxHeartbeats 1000000 in
theorem text_any (x : Nat) (w : World) :
    Calls Tryd.prog 87 #[.int .u32 (x : Int)] w fun e w' => e = .returned (.string ⟨(fourL x).toArray⟩) ∧ Below w.heap.size w w' := by
  obtain ⟨a, ha⟩ : ∃ a, a = x / 16777216 % 256 := ⟨_, rfl⟩
  obtain ⟨b, hb⟩ : ∃ b, b = x / 65536 % 256 := ⟨_, rfl⟩
  obtain ⟨c, hc⟩ : ∃ c, c = x / 256 % 256 := ⟨_, rfl⟩
  obtain ⟨d, hd⟩ : ∃ d, d = x % 256 := ⟨_, rfl⟩
  have q1 : IntKind.u8.wrap ((x : Int) / 16777216) = (a : Int) := wrap8 (x / 16777216) a ha
  have q2 : IntKind.u8.wrap ((x : Int) / 65536) = (b : Int) := wrap8 (x / 65536) b hb
  have q3 : IntKind.u8.wrap ((x : Int) / 256) = (c : Int) := wrap8 (x / 256) c hc
  have q4 : IntKind.u8.wrap (x : Int) = (d : Int) := wrap8 x d hd
  have HC : Hid ([Value.int .u8 (a : Int), .int .u8 (b : Int), .int .u8 (c : Int), .int .u8 (d : Int)] = Lib.byteCells (fourL x)) := hide (by rw [ha, hb, hc, hd]; exact four_at x)
  clear ha hb hc hd
  have hown : (w.alloc (Obj.cells #[.int .u8 (a : Int), .int .u8 (b : Int), .int .u8 (c : Int), .int .u8 (d : Int)] 5)).ownsRow w.heap.size 5 1 (.slice (some ⟨w.heap.size, 0, none⟩) 4 4) (fourL x).length (Lib.byteCells (fourL x)) := by
    rw [← HC.out]
    exact World.ownsRow_lit (base := w.heap.size) (e := 5) (size := 1) w #[.int .u8 (a : Int), .int .u8 (b : Int), .int .u8 (c : Int), .int .u8 (d : Int)] 4 (Nat.le_refl _) (by unfold maxLen; omega) (by simp)
  have hcv : (convert 87 9 (.slice (some ⟨w.heap.size, 0, none⟩) 4 4)).run Tryd.prog (w.alloc (Obj.cells #[.int .u8 (a : Int), .int .u8 (b : Int), .int .u8 (c : Int), .int .u8 (d : Int)] 5)) = .ok (.string ⟨(fourL x).toArray⟩) (w.alloc (Obj.cells #[.int .u8 (a : Int), .int .u8 (b : Int), .int .u8 (c : Int), .int .u8 (d : Int)] 5)) :=
    string_own (l := fourL x) Tryd.underlying87 Tryd.underlying5 Tryd.underlying9 hown
  clear hown
  go_enter Tryd.func87, Tryd.ntmps87
  go_wp2
  go_ret
  exact ⟨rfl, (Below.refl _ _).alloc (Nat.le_refl _) _⟩
end Go.Proofs.YtacmpggigdlmmaaDoor
