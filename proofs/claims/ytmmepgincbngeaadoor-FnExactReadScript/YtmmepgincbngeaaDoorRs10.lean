/-
  Facts and contracts that the law's own text rests on, by their texts' names: Plain20, Sum, ShelfClone, Clone, Seal, SumS, MetaSpecText.
-/
import Derived.Test.YtmmepgincbngeaaDoorRs3
import Derived.Below
import Derived.BigQuiet
import Derived.Deep.LoopGhost
import Derived.Deep.QuietTactic
import Derived.Laws.BitsAllLaws
import Derived.Laws.Shifts
import Derived.Outline
import Derived.WalkSmall
import Derived.WalkSpells
import Derived.Test.YtmmepgincbngeaaDoorRs1
import Derived.Shelf.LaysM
import Derived.Shelf.Strconv.Clone
import Derived.Test.YtmmepgincbngeaaDoorProg
import Derived.WalkKit
import Derived.Deep.RegionHeld3
import Derived.Laws.Concat
import Derived.Test.YtmmepgincbngeaaDoorRs9
namespace Go.Proofs.YtmmepgincbngeaaDoor
def Mt.textO (m : Mt) : ByteArray := if m.good = true then m.text else ⟨#[]⟩
def Mt.pre (m : Mt) (k : Nat) : List Int := m.tx :: m.root :: m.next :: (m.fs.length : Int) :: freeNums (m.fs.take k)
theorem pre_zero (m : Mt) : m.pre 0 = [m.tx, m.root, m.next, (m.fs.length : Int)] := by simp [Mt.pre, freeNums]
theorem pre_end (m : Mt) : m.pre m.fs.length = m.nums := by simp [Mt.pre, Mt.nums]
theorem pre_next {m : Mt} {k : Nat} {ftx : Int} {ps : List Int} (h : m.fs[k]? = some (ftx, ps)) : m.pre (k + 1) = m.pre k ++ [ftx, (ps.length : Int)] ++ ps := by
  obtain ⟨hk, e⟩ := List.getElem?_eq_some_iff.1 h
  rw [Mt.pre, Mt.pre, List.take_succ_eq_append_getElem hk, freeNums_snoc, e]
  simp
theorem freeNums_take (fs : List (Int × List Int)) (k : Nat) : (freeNums (fs.take k)).length ≤ (freeNums fs).length := by
  conv => rhs; rw [← List.take_append_drop k fs, freeNums_append, List.length_append]
  omega
theorem pre_len {m : Mt} (h : m.ok = true) (k : Nat) : (m.pre k).length ≤ 844 := by
  have h1 := nums_len h
  have h2 := freeNums_take m.fs k
  rw [Mt.nums] at h1
  simp [Mt.pre] at h1 ⊢
  omega
theorem numsB_small {l : List Int} {n : Nat} (h : l.length ≤ n) : (numsB l).size ≤ 5 * n := by
  rw [numsB_size]
  have := (numsL_size l).2
  omega
theorem text_size (m : Mt) : m.text.size = (numsL m.nums).length + 4 := by
  rw [← ba_len, Mt.text]
  simp [sealL_length]
theorem text_seal (m : Mt) : (⟨(sealL (numsB m.nums).data.toList).toArray⟩ : ByteArray) = m.text := by rw [numsB_list]; rfl
theorem good_yes {m : Mt} (h : m.ok = true) (h2 : m.text.size ≤ 240) : m.good = true ∧ m.textO = m.text := by
  have : m.good = true := by rw [Mt.good, h, Bool.true_and, decide_eq_true_eq, ← text_size]; exact h2
  exact ⟨this, by rw [Mt.textO, if_pos this]⟩
theorem good_no {m : Mt} (h : m.ok = false ∨ 240 < m.text.size) : m.good = false ∧ m.textO = ⟨#[]⟩ := by
  have : m.good = false := by
    rcases h with h | h
    · rw [Mt.good, h, Bool.false_and]
    · rw [Mt.good, Bool.and_eq_false_iff, decide_eq_false_iff_not, ← text_size]; exact Or.inr (by omega)
  exact ⟨this, by rw [Mt.textO, if_neg (by rw [this]; decide)]⟩
theorem nums_of {m : Mt} (h : m.ok = true) {k : Nat} {ftx : Int} {ps : List Int} (hf : m.fs[k]? = some (ftx, ps)) : 0 ≤ ftx ∧ ftx ≤ 100000 ∧ ps.length ≤ 40 ∧ ∀ p ∈ ps, 0 ≤ p ∧ p ≤ 100000 := by
  obtain ⟨⟨h1, h2, h3, h4, h5, h6⟩, h7⟩ := ok_parts h
  obtain ⟨g1, g2, g3, g4, g5⟩ := h7 _ (List.mem_of_getElem? hf)
  exact ⟨by omega, by omega, g4, fun p hp => by have := g5 p hp; omega⟩
open Go.RowKit
def SumTab (w : World) : Prop := ∀ i : Nat, i < 16 → w.cell? ⟨2, i, none⟩ = some (.int .u32 ((tab16.getD i 0 : Nat) : Int))
theorem sumTab_below {w w' : World} (h : SumTab w) (hb : Below w.heap.size w w') : SumTab w' := by
  intro i hi
  have hc := h i hi
  have hlt : 2 < w.heap.size := World.block_lt_of_cell? w _ hc
  rw [World.cell?_of_block (hb.block _ hlt)]
  exact hc
theorem wrap32 (x : Int) (h0 : 0 ≤ x) (h1 : x < 4294967296) : IntKind.u32.wrap x = x := by
  simp [IntKind.wrap, IntKind.signed, IntKind.bits]; omega
theorem xor32 (a b : Nat) (ha : a < 4294967296) (hb : b < 4294967296) : bits BinOp.xor IntKind.u32 (a : Int) (b : Int) = ((a ^^^ b : Nat) : Int) := by
  have e : bits BinOp.xor IntKind.u32 (a : Int) (b : Int) = IntKind.u32.wrap ((BitVec.ofInt 32 (a : Int) ^^^ BitVec.ofInt 32 (b : Int)).toNat : Int) := rfl
  have hl := xor_lt32 a b ha hb
  have h : (BitVec.ofInt 32 (a : Int) ^^^ BitVec.ofInt 32 (b : Int)).toNat = a ^^^ b := by
    rw [BitVec.toNat_xor, BitVec.ofInt_natCast, BitVec.ofInt_natCast, BitVec.toNat_ofNat, BitVec.toNat_ofNat, Nat.mod_eq_of_lt (by omega), Nat.mod_eq_of_lt (by omega)]
  rw [e, h, wrap32 _ (by omega) (by omega)]
theorem and32_15 (a : Nat) (ha : a < 4294967296) : bits BinOp.and IntKind.u32 (a : Int) 15 = ((a % 16 : Nat) : Int) := by
  have e : bits BinOp.and IntKind.u32 (a : Int) 15 = IntKind.u32.wrap ((BitVec.ofInt 32 (a : Int) &&& BitVec.ofInt 32 15).toNat : Int) := rfl
  have h : (BitVec.ofInt 32 (a : Int) &&& BitVec.ofInt 32 15).toNat = a % 16 := by
    rw [BitVec.toNat_and, BitVec.ofInt_natCast, BitVec.toNat_ofNat, Nat.mod_eq_of_lt (by omega)]
    exact Nat.and_two_pow_sub_one_eq_mod a 4
  rw [e, h, wrap32 _ (by omega) (by omega)]
theorem tab16_lt (r : Nat) (h : r < 16) : tab16.getD r 0 < 4294967296 := by
  revert r
  decide
set_option maxHeartbeats 1000000 in
theorem after_any (c b : Nat) (hc : c < 4294967296) (hb : b < 256) (w : World) (hT : SumTab w) :
    Calls Tryd.prog 91 #[.int .u32 (c : Int), .int .u8 (b : Int)] w fun e w' => e = .returned (.int .u32 (sumB c b : Int)) ∧ w = w' := by
  obtain ⟨x, hx⟩ : ∃ x, x = c ^^^ b := ⟨_, rfl⟩
  have hxl : x < 4294967296 := by rw [hx]; exact xor_lt32 _ _ hc (by omega)
  obtain ⟨r, hr⟩ : ∃ r, r = x % 16 := ⟨_, rfl⟩
  obtain ⟨t, ht⟩ : ∃ t, t = tab16.getD r 0 := ⟨_, rfl⟩
  have htl : t < 4294967296 := by rw [ht]; exact tab16_lt r (by omega)
  obtain ⟨y, hy⟩ : ∃ y, y = half4 x := ⟨_, rfl⟩
  have hyl : y < 4294967296 := by rw [hy]; exact half4_lt x hxl
  obtain ⟨r2, hr2⟩ : ∃ r, r = y % 16 := ⟨_, rfl⟩
  obtain ⟨t2, ht2⟩ : ∃ t, t = tab16.getD r2 0 := ⟨_, rfl⟩
  have ht2l : t2 < 4294967296 := by rw [ht2]; exact tab16_lt r2 (by omega)
  have q1 : IntKind.u32.wrap (b : Int) = (b : Int) := wrap32 _ (by omega) (by omega)
  have q2 : bits BinOp.xor IntKind.u32 (c : Int) (b : Int) = (x : Int) := by rw [hx]; exact xor32 c b hc (by omega)
  have q3 : bits BinOp.and IntKind.u32 (x : Int) 15 = (r : Int) := by rw [hr]; exact and32_15 x hxl
  have q4 : w.cell? ⟨2, r, none⟩ = some (.int .u32 (t : Int)) := by rw [ht]; exact hT r (by omega)
  have q5 : bits BinOp.xor IntKind.u32 ((x : Int) / 16) (t : Int) = (y : Int) := by
    rw [show (x : Int) / 16 = ((x / 16 : Nat) : Int) by omega, xor32 _ _ (by omega) htl, hy, half4_eq, ht, hr]
  have q6 : bits BinOp.and IntKind.u32 (y : Int) 15 = (r2 : Int) := by rw [hr2]; exact and32_15 y hyl
  have q7 : w.cell? ⟨2, r2, none⟩ = some (.int .u32 (t2 : Int)) := by rw [ht2]; exact hT r2 (by omega)
  have q8 : bits BinOp.xor IntKind.u32 ((y : Int) / 16) (t2 : Int) = (sumB c b : Int) := by
    rw [show (y : Int) / 16 = ((y / 16 : Nat) : Int) by omega, xor32 _ _ (by omega) ht2l, ht2, hr2, ← half4_eq, hy, hx]; rfl
  have l1 : (0 : Int) ≤ (r : Int) := by omega
  have l2 : (r : Int) < 16 := by omega
  have l3 : (0 : Int) ≤ (r2 : Int) := by omega
  have l4 : (r2 : Int) < 16 := by omega
  obtain ⟨z, hz⟩ : ∃ z, z = sumB c b := ⟨_, rfl⟩
  rw [← hz] at q8 ⊢
  clear hx hr ht hy hr2 ht2 hz hT
  go_enter Tryd.func91, Tryd.ntmps91
  go_wp2
  go_ret
  exact ⟨rfl, rfl⟩
set_option maxHeartbeats 1000000 in
theorem implSumMore_any (c : Nat) (s : ByteArray) (hc : c < 4294967296) (hs : s.size ≤ 9223372036854775807) (w : World) (hT : SumTab w) :
    Calls Tryd.prog 90 #[.int .u32 (c : Int), .string s] w fun e w' => e = .returned (.int .u32 (sumL c s.data.toList : Int)) ∧ w = w' := by
  have HT := hide hT
  clear hT
  go_enter Tryd.func90, Tryd.ntmps90
  go_wp2
  go_loopg [5, 6] s.size (fun g cv iv wr => ∃ k x : Nat, k ≤ s.size ∧ iv = .int .i64 (k : Int) ∧ g + k = s.size ∧ cv = .int .u32 (x : Int) ∧ x < 4294967296 ∧ Hid (x = sumL c (s.data.toList.take k)) ∧ w = wr)
  case atStart => exact ⟨0, c, Nat.zero_le _, rfl, rfl, rfl, hc, hide rfl, rfl⟩
  case round =>
    obtain ⟨k, x, hk, rfl, hg, rfl, hx, HX, rfl⟩ := hrel
    have HG := hide hg
    clear hg
    by_cases hlt : k < s.size
    · obtain ⟨y, hy⟩ : ∃ y, y = byt s k := ⟨_, rfl⟩
      have hyb : y < 256 := by rw [hy]; exact byt_lt s k
      have hsj : s[k].toNat = y := by rw [hy]; exact byt_eq s k hlt
      have HY := hide hy
      clear hy
      have hk0 : (0 : Int) ≤ (k : Int) := by omega
      have hk1 : (k : Int) < (s.size : Int) := by omega
      go_wp2_with fail
      refine (after_any x y hx hyb _ HT.out).mono ?_
      rintro e w1 ⟨rfl, rfl⟩
      have hl := sumB_lt x y hx hyb
      have HN : Hid (sumB x y = sumL c (s.data.toList.take (k + 1))) := hide (by rw [take_byt s k hlt, sumL_append, ← HX.out, HY.out, sumL]; simp [toNat_ofNat8 _ (byt_lt s k)])
      go_wp2
      go_roundg (gk - 1)
      case measure => have := HG.out; omega
      case rel => exact ⟨k + 1, sumB x y, by omega, by go_num, by have := HG.out; omega, rfl, hl, HN, rfl⟩
    · have hk' : s.data.toList.take k = s.data.toList := List.take_of_length_le (by rw [Array.length_toList]; have : s.data.size = s.size := rfl; omega)
      rw [hk'] at HX
      go_wp2
      go_ret
      rw [← HX.out]
      exact ⟨rfl, rfl⟩
set_option maxHeartbeats 400000 in
theorem implSumOf_any (s : ByteArray) (hs : s.size ≤ 9223372036854775807) (w : World) (hT : SumTab w) :
    Calls Tryd.prog 88 #[.string s] w fun e w' => e = .returned (.int .u32 (sumL 4294967295 s.data.toList : Int)) ∧ w = w' := by
  have HT := hide hT
  clear hT
  go_enter Tryd.func88, Tryd.ntmps88
  go_wp2_with fail
  refine (implSumMore_any 4294967295 s (by omega) hs _ HT.out).mono ?_
  rintro e w1 ⟨rfl, rfl⟩
  go_wp2
  go_ret
  exact ⟨rfl, rfl⟩
theorem four_at (x : Nat) : [Value.int .u8 ((x / 16777216 % 256 : Nat) : Int), .int .u8 ((x / 65536 % 256 : Nat) : Int), .int .u8 ((x / 256 % 256 : Nat) : Int), .int .u8 ((x % 256 : Nat) : Int)] = Lib.byteCells (fourL x) := by
  simp [Lib.byteCells, fourL]
theorem wrap8 (a b : Nat) (h : b = a % 256) : IntKind.u8.wrap (a : Int) = (b : Int) := by
  subst h
  simp [IntKind.wrap, IntKind.signed, IntKind.bits]
set_option maxHeartbeats 1000000 in
theorem text_any (x : Nat) (w : World) :
    Calls Tryd.prog 89 #[.int .u32 (x : Int)] w fun e w' => e = .returned (.string ⟨(fourL x).toArray⟩) ∧ Below w.heap.size w w' := by
  obtain ⟨a, ha⟩ : ∃ a, a = x / 16777216 % 256 := ⟨_, rfl⟩
  obtain ⟨b, hb⟩ : ∃ b, b = x / 65536 % 256 := ⟨_, rfl⟩
  obtain ⟨c, hc⟩ : ∃ c, c = x / 256 % 256 := ⟨_, rfl⟩
  obtain ⟨d, hd⟩ : ∃ d, d = x % 256 := ⟨_, rfl⟩
  have q1 : IntKind.u8.wrap ((x : Int) / 16777216) = (a : Int) := wrap8 (x / 16777216) a ha
  have q2 : IntKind.u8.wrap ((x : Int) / 65536) = (b : Int) := wrap8 (x / 65536) b hb
  have q3 : IntKind.u8.wrap ((x : Int) / 256) = (c : Int) := wrap8 (x / 256) c hc
  have q4 : IntKind.u8.wrap (x : Int) = (d : Int) := wrap8 x d hd
  have HC : Hid ([Value.int .u8 (a : Int), .int .u8 (b : Int), .int .u8 (c : Int), .int .u8 (d : Int)] = Lib.byteCells (fourL x)) := hide (by rw [ha, hb, hc, hd]; exact four_at x)
  clear ha hb hc hd
  have hown : (w.alloc (Obj.cells #[.int .u8 (a : Int), .int .u8 (b : Int), .int .u8 (c : Int), .int .u8 (d : Int)] 5)).ownsRow w.heap.size 5 1 (.slice (some ⟨w.heap.size, 0, none⟩) 4 4) (fourL x).length (Lib.byteCells (fourL x)) := by
    rw [← HC.out]
    exact World.ownsRow_lit (base := w.heap.size) (e := 5) (size := 1) w #[.int .u8 (a : Int), .int .u8 (b : Int), .int .u8 (c : Int), .int .u8 (d : Int)] 4 (Nat.le_refl _) (by unfold maxLen; omega) (by simp)
  have hcv : (convert 22 9 (.slice (some ⟨w.heap.size, 0, none⟩) 4 4)).run Tryd.prog (w.alloc (Obj.cells #[.int .u8 (a : Int), .int .u8 (b : Int), .int .u8 (c : Int), .int .u8 (d : Int)] 5)) = .ok (.string ⟨(fourL x).toArray⟩) (w.alloc (Obj.cells #[.int .u8 (a : Int), .int .u8 (b : Int), .int .u8 (c : Int), .int .u8 (d : Int)] 5)) :=
    string_own (l := fourL x) Tryd.underlying22 Tryd.underlying5 Tryd.underlying9 hown
  clear hown
  go_enter Tryd.func89, Tryd.ntmps89
  go_wp2
  go_ret
  exact ⟨rfl, (Below.refl _ _).alloc (Nat.le_refl _) _⟩
end Go.Proofs.YtmmepgincbngeaaDoor
namespace Go.Proofs
open Go.Shelf
def Tryd.laysM316_ren : Go.Shelf.Ren := ⟨fun | 316 => 65 | n => n, fun | 9 => 9 | 3 => 3 | 4 => 4 | 37 => 22 | 0 => 0 | 127 => 75 | 5 => 5 | n => n, fun | n => n⟩
theorem Tryd.laysM316 : Go.Proofs.LaysM.n316 Tryd.prog Tryd.laysM316_ren := {
  mixed := by kernel_rfl
  f316 := Tryd.func65.trans (congrArg some (by kernel_rfl))
  t0 := Tryd.underlying0
  a0 := Tryd.isAgg0
  z0 := Tryd.sizeOf0
  v0 := Tryd.zeroValue0
  t3 := Tryd.underlying3
  a3 := Tryd.isAgg3
  z3 := Tryd.sizeOf3
  v3 := Tryd.zeroValue3
  t4 := Tryd.underlying4
  a4 := Tryd.isAgg4
  z4 := Tryd.sizeOf4
  v4 := Tryd.zeroValue4
  t9 := Tryd.underlying9
  a9 := Tryd.isAgg9
  z9 := Tryd.sizeOf9
  v9 := Tryd.zeroValue9
  t37 := Tryd.underlying22
  a37 := Tryd.isAgg22
  z37 := Tryd.sizeOf22
  v37 := Tryd.zeroValue22
  t127 := Tryd.underlying75
  a127 := Tryd.isAgg75
  z127 := Tryd.sizeOf75
  v127 := Tryd.zeroValue75
  t5 := Tryd.underlying5
  a5 := Tryd.isAgg5
  z5 := Tryd.sizeOf5
  v5 := Tryd.zeroValue5
  i0 := by kernel_rfl
  i3 := by kernel_rfl
  i4 := by kernel_rfl
  i5 := by kernel_rfl
  i9 := by kernel_rfl
  i37 := by kernel_rfl
  i127 := by kernel_rfl }
open Go.RowKit in
theorem Tryd.stringslite_Clone (s : ByteArray) (w : World) (hlim : s.size ≤ 281474976710656) :
    Calls Tryd.prog 65 #[.string s] w fun e w' => e = .returned (.string s) ∧ Below w.heap.size w w' := Any.stringslite_Clone Tryd.laysM316 s w hlim
end Go.Proofs
namespace Go.Proofs.YtmmepgincbngeaaDoor
open Go.RowKit
set_option maxHeartbeats 400000 in
theorem clone_any (s : ByteArray) (hs : s.size ≤ 140737488351232) (w : World) :
    Calls Tryd.prog 51 #[.string s] w fun e w' => e = .returned (.string s) ∧ Below w.heap.size w w' := by
  go_enter Tryd.func51, Tryd.ntmps51
  go_wp2_with fail
  refine (Tryd.stringslite_Clone s _ (by omega)).mono ?_
  rintro e w1 ⟨rfl, hb⟩
  go_wp2
  go_ret
  exact ⟨rfl, hb⟩
open Go.RowKit
theorem seal_bytes (s : ByteArray) : s ++ ⟨(fourL (sumL 4294967295 s.data.toList)).toArray⟩ = (⟨(sealL s.data.toList).toArray⟩ : ByteArray) := by
  apply ByteArray.ext
  simp [sealL]
set_option maxHeartbeats 400000 in
theorem implSealed_yes (s : ByteArray) (h : s.size ≤ 20000) (w : World) (hT : SumTab w) :
    Calls Tryd.prog 82 #[.string s] w fun e w' => e = .returned (.tuple #[.string ⟨(sealL s.data.toList).toArray⟩, .bool true]) ∧ Below w.heap.size w w' := by
  have HT := hide hT
  clear hT
  have hf : (⟨(fourL (sumL 4294967295 s.data.toList)).toArray⟩ : ByteArray).size = 4 := rfl
  go_enter Tryd.func82, Tryd.ntmps82
  go_wp2_with fail
  refine (implSumOf_any s (by omega) _ HT.out).mono ?_
  rintro e w1 ⟨rfl, rfl⟩
  go_wp2_with fail
  refine (text_any (sumL 4294967295 s.data.toList) _).mono ?_
  rintro e w1 ⟨rfl, hb⟩
  go_wp2
  go_ret2
  rw [← seal_bytes]
  exact ⟨rfl, hb⟩
open Go.RowKit
def halfK : Nat → Nat → Nat
  | 0, x => x
  | k + 1, x => half (halfK k x)
set_option maxHeartbeats 1000000 in
theorem specSumMore_any (c : Nat) (s : ByteArray) (hc : c < 4294967296) (hs : s.size ≤ 9223372036854775807) (w : World) :
    Calls Tryd.prog 84 #[.int .u32 (c : Int), .string s] w fun e w' => e = .returned (.int .u32 (sumL c s.data.toList : Int)) ∧ w = w' := by
  go_enter Tryd.func84, Tryd.ntmps84
  go_wp2
  go_loopg [0, 5] s.size (fun g cv iv wr => ∃ k x : Nat, k ≤ s.size ∧ iv = .int .i64 (k : Int) ∧ g + k = s.size ∧ cv = .int .u32 (x : Int) ∧ x < 4294967296 ∧ Hid (x = sumL c (s.data.toList.take k)) ∧ w = wr)
  case atStart => exact ⟨0, c, Nat.zero_le _, rfl, rfl, rfl, hc, hide rfl, rfl⟩
  case round =>
    obtain ⟨k, x, hk, rfl, hg, rfl, hx, HX, rfl⟩ := hrel
    have HG := hide hg
    clear hg
    by_cases hlt : k < s.size
    · obtain ⟨y, hy⟩ : ∃ y, y = byt s k := ⟨_, rfl⟩
      have hyb : y < 256 := by rw [hy]; exact byt_lt s k
      have hsj : s[k].toNat = y := by rw [hy]; exact byt_eq s k hlt
      have HY := hide hy
      clear hy
      have hk0 : (0 : Int) ≤ (k : Int) := by omega
      have hk1 : (k : Int) < (s.size : Int) := by omega
      obtain ⟨z, hz⟩ : ∃ z, z = x ^^^ y := ⟨_, rfl⟩
      have hzl : z < 4294967296 := by rw [hz]; exact xor_lt32 _ _ hx (by omega)
      have q1 : IntKind.u32.wrap (y : Int) = (y : Int) := wrap32 _ (by omega) (by omega)
      have q2 : bits BinOp.xor IntKind.u32 (x : Int) (y : Int) = (z : Int) := by rw [hz]; exact xor32 x y hx (by omega)
      have HZ := hide hz
      clear hz
      obtain ⟨go, hgo⟩ : ∃ go, go = gk := ⟨_, rfl⟩
      rw [← hgo] at HG
      go_wp2
      go_loopg [0, 6] 8 (fun g cv kv wr => ∃ j m : Nat, j ≤ 8 ∧ kv = .int .i64 (j : Int) ∧ g + j = 8 ∧ cv = .int .u32 (m : Int) ∧ m < 4294967296 ∧ Hid (m = halfK j z) ∧ w = wr)
      case atStart => exact ⟨0, z, Nat.zero_le _, rfl, rfl, rfl, hzl, hide rfl, rfl⟩
      case round =>
        obtain ⟨j, m, hj, rfl, hg, rfl, hm, HM, rfl⟩ := hrel
        have HG2 := hide hg
        clear hg
        by_cases hj8 : j < 8
        · by_cases hodd : m % 2 = 1
          · have hq : decide ((m : Int) % 2 = 1) = true := by simp; omega
            obtain ⟨v, hv⟩ : ∃ v, v = half m := ⟨_, rfl⟩
            have hvl : v < 4294967296 := by rw [hv]; exact half_lt m hm
            have q3 : bits BinOp.xor IntKind.u32 ((m : Int) / 2) 3558460437 = (v : Int) := by
              rw [hv, half, if_pos hodd]
              exact xor32 (m / 2) 3558460437 (by omega) (by omega)
            have HV : Hid (v = halfK (j + 1) z) := hide (by rw [hv, halfK, ← HM.out])
            clear hv
            go_wp2
            go_roundg (gk - 1)
            case measure => have := HG2.out; omega
            case rel => exact ⟨j + 1, v, by omega, by go_num, by have := HG2.out; omega, rfl, hvl, HV, rfl⟩
          · have hq : decide ((m : Int) % 2 = 1) = false := by simp; omega
            have hqn : ¬ ((m : Int) % 2 = 1) := by omega
            have HV : Hid (m / 2 = halfK (j + 1) z) := hide (by rw [halfK, ← HM.out, half, if_neg hodd])
            clear hodd
            go_wp2
            go_roundg (gk - 1)
            case measure => have := HG2.out; omega
            case rel => exact ⟨j + 1, m / 2, by omega, by go_num, by have := HG2.out; omega, by go_num, by omega, HV, rfl⟩
        · obtain rfl : j = 8 := by omega
          have HN : Hid (m = sumL c (s.data.toList.take (k + 1))) := hide (by rw [take_byt s k hlt, sumL_append, ← HX.out, ← HY.out, sumL]; simp only [List.foldl_cons, List.foldl_nil]; rw [toNat_ofNat8 _ hyb, HM.out, HZ.out]; rfl)
          go_wp2
          go_roundg (go - 1)
          case measure => have := HG.out; omega
          case rel => exact ⟨k + 1, m, by omega, by go_num, by have := HG.out; omega, rfl, hm, HN, rfl⟩
    · have hk' : s.data.toList.take k = s.data.toList := List.take_of_length_le (by rw [Array.length_toList]; have : s.data.size = s.size := rfl; omega)
      rw [hk'] at HX
      go_wp2
      go_ret
      rw [← HX.out]
      exact ⟨rfl, rfl⟩
set_option maxHeartbeats 400000 in
theorem specSumOf_any (s : ByteArray) (hs : s.size ≤ 9223372036854775807) (w : World) :
    Calls Tryd.prog 77 #[.string s] w fun e w' => e = .returned (.int .u32 (sumL 4294967295 s.data.toList : Int)) ∧ w = w' := by
  go_enter Tryd.func77, Tryd.ntmps77
  go_wp2_with fail
  refine (specSumMore_any 4294967295 s (by omega) hs _).mono ?_
  rintro e w1 ⟨rfl, rfl⟩
  go_wp2
  go_ret
  exact ⟨rfl, rfl⟩
set_option maxHeartbeats 1000000 in
theorem specFour_any (x : Nat) (w : World) :
    Calls Tryd.prog 76 #[.int .u32 (x : Int)] w fun e w' => e = .returned (.string ⟨(fourL x).toArray⟩) ∧ Below w.heap.size w w' := by
  obtain ⟨a, ha⟩ : ∃ a, a = x / 16777216 % 256 := ⟨_, rfl⟩
  obtain ⟨b, hb⟩ : ∃ b, b = x / 65536 % 256 := ⟨_, rfl⟩
  obtain ⟨c, hc⟩ : ∃ c, c = x / 256 % 256 := ⟨_, rfl⟩
  obtain ⟨d, hd⟩ : ∃ d, d = x % 256 := ⟨_, rfl⟩
  have q1 : IntKind.u8.wrap ((x : Int) / 16777216) = (a : Int) := wrap8 (x / 16777216) a ha
  have q2 : IntKind.u8.wrap ((x : Int) / 65536) = (b : Int) := wrap8 (x / 65536) b hb
  have q3 : IntKind.u8.wrap ((x : Int) / 256) = (c : Int) := wrap8 (x / 256) c hc
  have q4 : IntKind.u8.wrap (x : Int) = (d : Int) := wrap8 x d hd
  have HC : Hid ([Value.int .u8 (a : Int), .int .u8 (b : Int), .int .u8 (c : Int), .int .u8 (d : Int)] = Lib.byteCells (fourL x)) := hide (by rw [ha, hb, hc, hd]; exact four_at x)
  clear ha hb hc hd
  have hown : (w.alloc (Obj.cells #[.int .u8 (a : Int), .int .u8 (b : Int), .int .u8 (c : Int), .int .u8 (d : Int)] 5)).ownsRow w.heap.size 5 1 (.slice (some ⟨w.heap.size, 0, none⟩) 4 4) (fourL x).length (Lib.byteCells (fourL x)) := by
    rw [← HC.out]
    exact World.ownsRow_lit (base := w.heap.size) (e := 5) (size := 1) w #[.int .u8 (a : Int), .int .u8 (b : Int), .int .u8 (c : Int), .int .u8 (d : Int)] 4 (Nat.le_refl _) (by unfold maxLen; omega) (by simp)
  have hcv : (convert 22 9 (.slice (some ⟨w.heap.size, 0, none⟩) 4 4)).run Tryd.prog (w.alloc (Obj.cells #[.int .u8 (a : Int), .int .u8 (b : Int), .int .u8 (c : Int), .int .u8 (d : Int)] 5)) = .ok (.string ⟨(fourL x).toArray⟩) (w.alloc (Obj.cells #[.int .u8 (a : Int), .int .u8 (b : Int), .int .u8 (c : Int), .int .u8 (d : Int)] 5)) :=
    string_own (l := fourL x) Tryd.underlying22 Tryd.underlying5 Tryd.underlying9 hown
  clear hown
  go_enter Tryd.func76, Tryd.ntmps76
  go_wp2
  go_ret
  exact ⟨rfl, (Below.refl _ _).alloc (Nat.le_refl _) _⟩
set_option maxHeartbeats 400000 in
theorem specSealed_yes (s : ByteArray) (h : s.size ≤ 20000) (w : World) :
    Calls Tryd.prog 60 #[.string s] w fun e w' => e = .returned (.tuple #[.string ⟨(sealL s.data.toList).toArray⟩, .bool true]) ∧ Below w.heap.size w w' := by
  have hf : (⟨(fourL (sumL 4294967295 s.data.toList)).toArray⟩ : ByteArray).size = 4 := rfl
  go_enter Tryd.func60, Tryd.ntmps60
  go_wp2_with fail
  refine (specSumOf_any s (by omega) _).mono ?_
  rintro e w1 ⟨rfl, rfl⟩
  go_wp2_with fail
  refine (specFour_any (sumL 4294967295 s.data.toList) _).mono ?_
  rintro e w1 ⟨rfl, hb⟩
  go_wp2
  go_ret2
  rw [← seal_bytes]
  exact ⟨rfl, hb⟩
open Go.RowKit
def vtI (n : Int) : ByteArray := ⟨(vtext n.toNat).toArray⟩
theorem vtI_size (n : Int) : (vtI n).size ≤ 5 := by rw [vtI, vtB_size]; exact (vtext_length _).2
theorem var_any (n : Int) (h0 : 0 ≤ n) (h1 : n ≤ 100000) (w : World) : Calls Tryd.prog 59 #[.int .i64 n] w fun e w' => e = .returned (.string (vtI n)) ∧ Below w.heap.size w w' := l01Var_any n h0 (by omega) w
theorem numsB_four (a b c d : Int) : numsB [a, b, c, d] = vtI a ++ vtI b ++ vtI c ++ vtI d := by
  apply ByteArray.ext
  simp [numsB, numsL, vtI, ByteArray.data_append]
theorem numsB_two (l : List Int) (a b : Int) : numsB (l ++ [a, b]) = numsB l ++ vtI a ++ vtI b := by
  apply ByteArray.ext
  simp [numsB, numsL, vtI, ByteArray.data_append]
theorem numsB_one (l : List Int) (a : Int) : numsB (l ++ [a]) = numsB l ++ vtI a := numsB_snoc l a
set_option maxHeartbeats 16000000 in
set_option maxRecDepth 100000 in
theorem specMetaText_any (v : Value) (m : Mt) (hl : m.fs.length ≤ 1048576) (hs : ∀ f ∈ m.fs, f.2.length ≤ 1048576) (w : World) (hd : MetaAt w v m) :
    Calls Tryd.prog 42 #[v] w fun e w' => e = .returned (.tuple #[.string m.textO, .bool m.good]) ∧ Below w.heap.size w w' := by
  have HS := hide (fun wx h => specMetaOk_any v m hl hs wx h)
  have HD := hide hd
  obtain ⟨vf, rfl, hr⟩ := hd
  obtain ⟨pa, pc, rfl⟩ := frees_slice hr
  obtain ⟨L, hL⟩ : ∃ L, L = m.fs.length := ⟨_, rfl⟩
  rw [← hL] at hr HS HD ⊢
  obtain ⟨tx, htx⟩ : ∃ tx, tx = m.tx := ⟨_, rfl⟩
  obtain ⟨root, hro⟩ : ∃ tx, tx = m.root := ⟨_, rfl⟩
  obtain ⟨next, hne⟩ : ∃ tx, tx = m.next := ⟨_, rfl⟩
  rw [← htx, ← hro, ← hne] at HS HD ⊢
  have HVar := hide (meta_var w tx root next (.slice pa L pc) 82)
  obtain ⟨w0, hw0⟩ : ∃ w0, w0 = w.alloc (Obj.cells #[.int .i64 tx, .int .i64 root, .int .i64 next, .slice pa L pc] 82) := ⟨_, rfl⟩
  rw [← hw0] at HVar
  have hb0 : Below w.heap.size w w0 := by rw [hw0]; exact (Below.refl w.heap.size w).alloc (Nat.le_refl _) _
  have HF := hide (frees_below hr hb0)
  have HB0 := hide hb0
  clear hr hb0 hl hs
  cases hok : m.ok with
  | false =>
    rw [hok] at HS
    have HO := hide (good_no (Or.inl hok))
    clear hok htx hro hne hL
    go_enter Tryd.func42, Tryd.ntmps42
    go_wp2_with fail
    rw [← hw0]
    clear hw0
    refine (HS.out _ (meta_below HD.out HB0.out)).mono ?_
    rintro e w1 ⟨rfl, hb⟩
    go_wp2_with fail
    go_ret2
    rw [HO.out.1, HO.out.2]
    exact ⟨rfl, HB0.out.trans (hb.mono HB0.out.size)⟩
  | true =>
    rw [hok] at HS
    obtain ⟨⟨k1, k2, k3, k4, k5, k6⟩, -⟩ := ok_parts hok
    rw [← htx] at k1 k2
    rw [← hne] at k3 k4 k5
    rw [← hro] at k5
    rw [← hL] at k6
    have HV0 := hide (fun wx => var_any tx k1 k2 wx)
    have HV1 := hide (fun wx => var_any root (by omega) (by omega) wx)
    have HV2 := hide (fun wx => var_any next (by omega) (by omega) wx)
    have HV3 := hide (fun wx => var_any (L : Int) (by omega) (by omega) wx)
    have HP0 : Hid (numsB (m.pre 0) = vtI tx ++ vtI root ++ vtI next ++ vtI (L : Int)) := hide (by rw [pre_zero, numsB_four, htx, hro, hne, hL])
    have HOk := hide hok
    have HL := hide hL
    have z0 := vtI_size tx
    have z1 := vtI_size root
    have z2 := vtI_size next
    have z3 := vtI_size (L : Int)
    obtain ⟨t0, ht0⟩ : ∃ t, t = vtI tx := ⟨_, rfl⟩
    obtain ⟨t1, ht1⟩ : ∃ t, t = vtI root := ⟨_, rfl⟩
    obtain ⟨t2, ht2⟩ : ∃ t, t = vtI next := ⟨_, rfl⟩
    obtain ⟨t3, ht3⟩ : ∃ t, t = vtI (L : Int) := ⟨_, rfl⟩
    rw [← ht0] at HV0 z0
    rw [← ht1] at HV1 z1
    rw [← ht2] at HV2 z2
    rw [← ht3] at HV3 z3
    rw [← ht0, ← ht1, ← ht2, ← ht3] at HP0
    clear hok htx hro hne hL ht0 ht1 ht2 ht3 k5
    go_enter Tryd.func42, Tryd.ntmps42
    go_wp2_with fail
    rw [← hw0]
    clear hw0
    refine (HS.out _ (meta_below HD.out HB0.out)).mono ?_
    rintro e w1 ⟨rfl, hb⟩
    have HB1 := hide hb
    have HSB : Hid (∀ wx, Below w1.heap.size w1 wx → wx.cell? ⟨w.heap.size, 0, none⟩ = some (.int .i64 tx) ∧ wx.cell? ⟨w.heap.size, 1, none⟩ = some (.int .i64 root) ∧ wx.cell? ⟨w.heap.size, 2, none⟩ = some (.int .i64 next) ∧ wx.cell? ⟨w.heap.size, 3, none⟩ = some (.slice pa L pc)) := hide (fun wx h => HVar.out wx (HB1.out.trans (h.mono HB1.out.size)))
    have hS0 := HSB.out w1 (Below.refl _ _)
    clear hb
    go_wp2_with fail
    go_region_held3 (fun wx => wx.cell? ⟨w.heap.size, 0, none⟩ = some (.int .i64 tx) ∧ wx.cell? ⟨w.heap.size, 1, none⟩ = some (.int .i64 root) ∧ wx.cell? ⟨w.heap.size, 2, none⟩ = some (.int .i64 next) ∧ wx.cell? ⟨w.heap.size, 3, none⟩ = some (.slice pa L pc)) (first | exact hS0 | exact hSa | exact hSb | exact hSc | exact hSd)
      (first
        | (go_at_call 59; (with_reducible refine (HV0.out _).mono ?_); rintro e wa ⟨rfl, hba⟩; have hAa : Below w1.heap.size w1 wa := (Below.refl _ _).drew.trans hba; have hSa := HSB.out _ hAa)
        | (go_at_call 59; (with_reducible refine (HV1.out _).mono ?_); rintro e wb ⟨rfl, hbb⟩; have hAb : Below w1.heap.size w1 wb := hAa.trans (hbb.mono hAa.size); have hSb := HSB.out _ hAb; have ha1 : ∀ wx : World, (Op.stringOp .add t0 t1).run Tryd.prog wx = .ok (.string (t0 ++ t1)) wx := fun wx => run_string_add_sum wx _ _ (by omega))
        | (go_at_call 59; (with_reducible refine (HV2.out _).mono ?_); rintro e wc ⟨rfl, hbc⟩; have hAc : Below w1.heap.size w1 wc := hAb.trans (hbc.mono hAb.size); have hSc := HSB.out _ hAc; have ha2 : ∀ wx : World, (Op.stringOp .add (t0 ++ t1) t2).run Tryd.prog wx = .ok (.string (t0 ++ t1 ++ t2)) wx := fun wx => run_string_add_sum wx _ _ (by rw [ByteArray.size_append]; omega))
        | (go_at_call 59; (with_reducible refine (HV3.out _).mono ?_); rintro e wd ⟨rfl, hbd⟩; have hAd : Below w1.heap.size w1 wd := hAc.trans (hbd.mono hAc.size); have hSd := HSB.out _ hAd; have ha3 : ∀ wx : World, (Op.stringOp .add (t0 ++ t1 ++ t2) t3).run Tryd.prog wx = .ok (.string (t0 ++ t1 ++ t2 ++ t3)) wx := fun wx => run_string_add_sum wx _ _ (by rw [ByteArray.size_append, ByteArray.size_append]; omega)))
    have HBd : Hid (Below w0.heap.size w0 wd) := hide (HB1.out.trans (hAd.mono HB1.out.size))
    clear hba hAa hSa hbb hAb hSb hbc hAc hSc hbd hAd hSd hS0 ha1 ha2 ha3
    go_wp2_with fail
    go_loopg [4, 5] L (fun q sv iv wr => ∃ k : Nat, k ≤ L ∧ sv = .string (numsB (m.pre k)) ∧ iv = .int .i64 (k : Int) ∧ q + k = L ∧ Hid (Below w0.heap.size w0 wr))
    case atStart => exact ⟨0, Nat.zero_le _, by rw [HP0.out], rfl, by omega, HBd⟩
    case round =>
      clear HBd HP0 HV0 HV1 HV2 HV3 z0 z1 z2 z3 HSB HB1
      obtain ⟨k, hk, rfl, rfl, hg, HB⟩ := hrel
      have HG := hide hg
      clear hg
      obtain ⟨gq, hgq⟩ : ∃ gq, gq = gk := ⟨_, rfl⟩
      have HGQ := hide hgq
      clear hgq
      by_cases hlt : k < L
      · obtain ⟨ftx, ps, hf⟩ : ∃ ftx ps, m.fs[k]? = some (ftx, ps) := ⟨_, _, List.getElem?_eq_getElem (by rw [← HL.out]; exact hlt)⟩
        obtain ⟨b, off, x, c, rfl, hbl0, hc00, hc10, hrow⟩ := frees_at HF.out hf
        obtain ⟨n, hn⟩ : ∃ n, n = ps.length := ⟨_, rfl⟩
        rw [← hn] at hc10 hrow
        obtain ⟨q1, q2, q3, q4⟩ := nums_of HOk.out hf
        rw [← hn] at q3
        have HCl : Hid (∀ wx, Below w0.heap.size w0 wx → wx.cell? ⟨w.heap.size, 3, none⟩ = some (.slice (some ⟨b, off, none⟩) L pc) ∧ wx.cell? ⟨b, off + k * 2, none⟩ = some (.int .i64 ftx) ∧ wx.cell? ⟨b, off + k * 2 + 1, none⟩ = some (.slice x n c)) := hide (fun wx h => ⟨(HVar.out wx h).2.2.2, (h.cell (by exact hbl0)).trans hc00, (h.cell (by exact hbl0)).trans hc10⟩)
        have HRow := hide hrow
        have HPn := hide (pre_next hf)
        rw [← hn] at HPn
        have HN := hide hn
        have HQ4 := hide q4
        have hsz : (numsB (m.pre k)).size ≤ 4220 := numsB_small (n := 844) (pre_len HOk.out k)
        have HPl := hide (pre_len HOk.out (k + 1))
        have HVa := hide (fun wx => var_any ftx q1 q2 wx)
        have HVb := hide (fun wx => var_any (n : Int) (by omega) (by omega) wx)
        have z0 := vtI_size ftx
        have z1 := vtI_size (n : Int)
        have HK := hide (numsB_two (m.pre k) ftx (n : Int))
        obtain ⟨s, hs⟩ : ∃ s, s = numsB (m.pre k) := ⟨_, rfl⟩
        obtain ⟨t0, ht0⟩ : ∃ t, t = vtI ftx := ⟨_, rfl⟩
        obtain ⟨t1, ht1⟩ : ∃ t, t = vtI (n : Int) := ⟨_, rfl⟩
        rw [← hs] at hsz HK ⊢
        rw [← ht0] at HVa z0 HK
        rw [← ht1] at HVb z1 HK
        have hS0 := HCl.out wr HB.out
        have hk0 : (0 : Int) ≤ (k : Int) := by omega
        have hk1 : (k : Int) < (L : Int) := by omega
        obtain ⟨pq, hpq⟩ : ∃ pq, pq = m.pre k ++ [ftx, (n : Int)] := ⟨_, rfl⟩
        rw [← hpq] at HK HPn
        clear hf hc00 hc10 hrow hn q4 hs ht0 ht1 hpq
        go_wp2_with fail
        go_region_held3 (fun wx => wx.cell? ⟨w.heap.size, 3, none⟩ = some (.slice (some ⟨b, off, none⟩) L pc) ∧ wx.cell? ⟨b, off + k * 2, none⟩ = some (.int .i64 ftx) ∧ wx.cell? ⟨b, off + k * 2 + 1, none⟩ = some (.slice x n c)) (first | exact hS0 | exact hSa | exact hSb)
          (first
            | (go_at_call 59; (with_reducible refine (HVa.out _).mono ?_); rintro e wa ⟨rfl, hba⟩; have hAa : Below wr.heap.size wr wa := (Below.refl _ _).drew.trans hba; have hSa := HCl.out _ (HB.out.trans (hAa.mono HB.out.size)); have ha1 : ∀ wx : World, (Op.stringOp .add s t0).run Tryd.prog wx = .ok (.string (s ++ t0)) wx := fun wx => run_string_add_sum wx _ _ (by omega))
            | (go_at_call 59; (with_reducible refine (HVb.out _).mono ?_); rintro e wb ⟨rfl, hbb⟩; have hAb : Below wr.heap.size wr wb := hAa.trans (hbb.mono hAa.size); have hSb := HCl.out _ (HB.out.trans (hAb.mono HB.out.size)); have ha2 : ∀ wx : World, (Op.stringOp .add (s ++ t0) t1).run Tryd.prog wx = .ok (.string (s ++ t0 ++ t1)) wx := fun wx => run_string_add_sum wx _ _ (by rw [ByteArray.size_append]; omega)))
        have HBb : Hid (Below w0.heap.size w0 wb) := hide (HB.out.trans (hAb.mono HB.out.size))
        clear hba hAa hSa hbb hAb hSb hS0 ha1 ha2
        go_wp2_with fail
        go_loopg [4, 6] n (fun q sv jv wi => ∃ j : Nat, j ≤ n ∧ sv = .string (numsB (pq ++ ps.take j)) ∧ jv = .int .i64 (j : Int) ∧ q + j = n ∧ Hid (Below w0.heap.size w0 wi))
        case atStart => exact ⟨0, Nat.zero_le _, by rw [List.take_zero, List.append_nil, HK.out], rfl, by omega, HBb⟩
        case round =>
          clear HBb HB
          obtain ⟨j, hj, rfl, rfl, hg2, HB2⟩ := hrel
          have HG2 := hide hg2
          clear hg2
          obtain ⟨p3, hc0, hc1⟩ := HCl.out wr HB2.out
          by_cases hjn : j < n
          · obtain ⟨p, hp⟩ : ∃ p, ps[j]? = some p := ⟨_, List.getElem?_eq_getElem (by have := HN.out; omega)⟩
            obtain ⟨-, a1, cp1, e1, h0 | ⟨bp, op, e0, hbp, hcp⟩⟩ := HRow.out
            · omega
            injection e1 with e11 _ e12
            subst e11 e12
            subst e0
            have hpc : wr.cell? ⟨bp, op + j, none⟩ = some (.int .i64 p) := by
              obtain ⟨ht, e⟩ := List.getElem?_eq_some_iff.1 hp
              rw [HB2.out.cell (by exact hbp), hcp j (by omega), ints_at ps j ht, e]
            have hpr := HQ4.out p (List.mem_of_getElem? hp)
            have HV := hide (fun wx => var_any p hpr.1 hpr.2 wx)
            have HK2 : Hid (numsB (pq ++ ps.take (j + 1)) = numsB (pq ++ ps.take j) ++ vtI p) := hide (by
              obtain ⟨ht, e⟩ := List.getElem?_eq_some_iff.1 hp
              rw [List.take_succ_eq_append_getElem ht, e, ← List.append_assoc, numsB_one])
            have hsz2 : (numsB (pq ++ ps.take j)).size ≤ 4220 := numsB_small (n := 844) (by
              have h1 := HPl.out
              rw [HPn.out, List.length_append] at h1
              rw [List.length_append, List.length_take]
              omega)
            have z2 := vtI_size p
            obtain ⟨s2, hs2⟩ : ∃ s, s = numsB (pq ++ ps.take j) := ⟨_, rfl⟩
            obtain ⟨t2, ht2⟩ : ∃ t, t = vtI p := ⟨_, rfl⟩
            rw [← hs2] at hsz2 HK2 ⊢
            rw [← ht2] at HV z2 HK2
            have ha : ∀ wx : World, (Op.stringOp .add s2 t2).run Tryd.prog wx = .ok (.string (s2 ++ t2)) wx := fun wx => run_string_add_sum wx _ _ (by omega)
            have hss : ¬ 9223372036854775807 < s2.size + t2.size := by omega
            have hj0 : (0 : Int) ≤ (j : Int) := by omega
            have hj1 : (j : Int) < (n : Int) := by omega
            clear hp hcp hpr hs2 ht2
            go_wp2_with fail
            refine (HV.out _).mono ?_
            rintro e wa ⟨rfl, hba⟩
            have HB3 := hide (HB2.out.trans (hba.mono HB2.out.size))
            clear hba hpc p3 hc0 hc1
            go_wp2_with fail
            go_roundg (gk - 1)
            case measure => have := HG2.out; omega
            case rel => exact ⟨j + 1, by omega, by rw [HK2.out], by go_num, by have := HG2.out; omega, HB3⟩
          · have HE : Hid (numsB (pq ++ ps.take j) = numsB (m.pre (k + 1))) := hide (by rw [HPn.out, List.take_of_length_le (by have := HN.out; omega)])
            rw [HE.out]
            go_wp2_with fail
            go_roundg (gq - 1)
            case measure => have h1 := HGQ.out; have h2 := HG.out; omega
            case rel => exact ⟨k + 1, by omega, rfl, by go_num, by have h1 := HGQ.out; have h2 := HG.out; omega, HB2⟩
      · have HE : Hid (numsB (m.pre k) = numsB m.nums) := hide (by rw [← pre_end, ← HL.out, show k = L from by omega])
        rw [HE.out]
        obtain ⟨p0, p1, p2, p3⟩ := HVar.out wr HB.out
        have HSe := hide (fun wx => specSealed_yes (numsB m.nums) (by have := (nums_size HOk.out).1; omega) wx)
        rw [text_seal] at HSe
        have HGy := hide (fun h => good_yes (m := m) HOk.out h)
        have HGn := hide (fun h => good_no (m := m) (Or.inr h))
        obtain ⟨tt, htt⟩ : ∃ tt, tt = m.text := ⟨_, rfl⟩
        rw [← htt] at HSe HGy HGn
        have htl : tt.size ≤ 5000 := by rw [htt, text_size]; have h1 := (nums_size HOk.out).1; rw [numsB_size] at h1; omega
        clear htt
        go_wp2_with fail
        refine (HSe.out _).mono ?_
        rintro e wa ⟨rfl, hba⟩
        have HB3 := hide (HB.out.trans (hba.mono HB.out.size))
        clear hba p0 p1 p2 p3
        by_cases hbig : 240 < tt.size
        · have HO := hide (HGn.out hbig)
          have d1 : decide ((240 : Int) < (tt.size : Int)) = true := decide_eq_true (by omega)
          go_wp2_with fail
          go_ret2
          rw [HO.out.1, HO.out.2]
          exact ⟨rfl, HB0.out.trans (HB3.out.mono HB0.out.size)⟩
        · have HO := hide (HGy.out (by omega))
          have d1 : decide ((240 : Int) < (tt.size : Int)) = false := decide_eq_false (by omega)
          go_wp2_with fail
          go_ret2
          rw [HO.out.1, HO.out.2]
          exact ⟨rfl, HB0.out.trans (HB3.out.mono HB0.out.size)⟩
end Go.Proofs.YtmmepgincbngeaaDoor
