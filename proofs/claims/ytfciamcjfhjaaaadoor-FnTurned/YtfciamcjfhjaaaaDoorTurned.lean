/-
  laws.FnTurned returns true at every code of at most 1048576 bytes (and at a longer one at once), where the table of sixteen holds what its initialiser lays: a drawn text with one byte of its sealed form turned is not Unsealed; it is Unsealed as it was sealed; SumMore goes on where SumOf stopped.
-/
import Derived.Test.YtfciamcjfhjaaaaDoorDraw4
import Derived.Test.YtfciamcjfhjaaaaDoorSeal
namespace Go.Proofs.YtfciamcjfhjaaaaDoor
open Go.RowKit

set_option maxHeartbeats 1000000 in
theorem drawSumOf_any (a : Option Addr) (len cap : Nat) (w : World) (hd : CodeIn w w.heap.size a len) :
    Calls Tryd.prog 16 #[.slice a len cap] w fun e w' => ∃ t : ByteArray, t.size < 40 ∧ e = .returned (.string t) ∧ Below w.heap.size w w' := by
  have HD := hide hd
  clear hd
  go_enter Tryd.func16, Tryd.ntmps16
  go_wp2_with fail
  refine (l01New_any a len cap _ HD.out).mono ?_
  rintro e w1 ⟨rfl, hc, hd1, hb⟩
  have HC := hide hc
  have HD1 := hide hd1
  have HB := hide hb
  clear hc hd1 hb
  go_wp2_with fail
  refine (l01Below_any w.heap.size w.heap.size a len cap 40 (by omega) (by omega) _ HC.out HD1.out (Nat.le_refl _)).mono ?_
  rintro e w3 ⟨x, hx, rfl, h3⟩
  have H3 := hide h3
  have HB3 : Hid (Below w.heap.size w w3) := hide (HB.out.grown h3.2.1 HB.out.size (fun k hk => by cases hk; exact Nat.le_refl _))
  clear h3
  go_wp2_with fail
  refine (l01Text_any w.heap.size w.heap.size a len cap x (by omega) _ H3.out.1 H3.out.2.2 (Nat.le_refl _)).mono ?_
  rintro e w4 ⟨t, ht, rfl, h4⟩
  have HT : Hid (t.size < 40) := hide (by omega)
  have HB4 : Hid (Below w.heap.size w w4) := hide (HB3.out.grown h4.2.1 HB3.out.size (fun k hk => by cases hk; exact Nat.le_refl _))
  clear ht h4
  go_wp2_with fail
  go_ret
  exact ⟨t, HT.out, rfl, HB4.out⟩

/-- Sealed, of a short text: a text four bytes longer -/
theorem sealed_ex (s : ByteArray) (hs : s.size < 40) (w : World) (hT : SumTab w) :
    Calls Tryd.prog 18 #[.string s] w fun e w' => ∃ t : ByteArray, t.size = s.size + 4 ∧ e = .returned (.tuple #[.string t, .bool true]) ∧ Hid (t.data.toList = sealL s.data.toList) ∧ Below w.heap.size w w' := by
  refine (implSealed_yes s (by omega) w hT).mono ?_
  rintro e w1 ⟨rfl, hb⟩
  refine ⟨_, ?_, rfl, hide (by simp), hb⟩
  have := sealL_length s.data.toList
  rw [list_len] at this
  rw [← this]
  rfl

theorem unsealed_back (s t : ByteArray) (hs : s.size < 40) (hz : t.size = s.size + 4) (ht : t.data.toList = sealL s.data.toList) (w : World) (hT : SumTab w) :
    Calls Tryd.prog 19 #[.string t] w fun e w' => e = .returned (.tuple #[.string s, .bool true]) ∧ Below w.heap.size w w' := by
  refine (implUnsealed_any t (by omega) w hT).mono ?_
  rintro e w1 ⟨rfl, hb⟩
  refine ⟨?_, hb⟩
  rw [unOut, ht, if_pos (sealL_is _ (by rw [list_len]; omega)), hz, Nat.add_sub_cancel]
  have : t.extract 0 s.size = s := by
    apply ByteArray.ext
    apply Array.toList_inj.1
    rw [(seal_cut t s.size hz).1, ht, sealL, List.take_left' (list_len s)]
  rw [this]

theorem unsealed_turned (l m : List UInt8) (i : Nat) (x : UInt8) (hl : l.length < 40) (hi : i < (sealL l).length) (hx : x ≠ (sealL l)[i]) (hm : m = (sealL l).set i x) (w : World) (hT : SumTab w) :
    Calls Tryd.prog 19 #[.string ⟨m.toArray⟩] w fun e w' => e = .returned (.tuple #[.string ⟨#[]⟩, .bool false]) ∧ Below w.heap.size w w' := by
  have hz : (⟨m.toArray⟩ : ByteArray).size = l.length + 4 := by rw [hm]; simp [ByteArray.size, sealL_length]
  refine (implUnsealed_any ⟨m.toArray⟩ (by omega) w hT).mono ?_
  rintro e w1 ⟨rfl, hb⟩
  refine ⟨?_, hb⟩
  rw [unOut, if_neg]
  rw [List.toList_toArray, hm, sealL_turned l i hi x hx]
  decide

/-- '[]byte(t)': a row in new memory of the bytes of t -/
theorem bytes_ex (t : ByteArray) (w : World) : ∃ (C : Nat) (W : World), (convert 9 22 (.string t)).run Tryd.prog w = .ok (.slice (some ⟨w.heap.size, 0, none⟩) t.size C) W ∧ Below w.heap.size w W ∧
    (∀ j, j < t.size → W.cell? ⟨w.heap.size, j, none⟩ = some (.int .u8 (byt t j : Int)) ∧ W.frozen? ⟨w.heap.size, j, none⟩ = false) := by
  refine ⟨_, _, run_bytes_of_string (P := Tryd.prog) w 9 22 5 t Tryd.underlying9 Tryd.underlying22 Tryd.underlying5, ((Below.refl w.heap.size w).drew).alloc (Nat.le_refl _) _, fun j hj => ?_⟩
  have hb := heap_alloc_new w.drew (.cells (bytesRow t (grownCap w t.size 0 5)) 5 ((bytesRow t (grownCap w t.size 0 5)).size, (bytesRow t (grownCap w t.size 0 5)).size + 1))
  have hr := bytesRow_at t (grownCap w t.size 0 5) j hj
  constructor
  · rw [cell_of_row _ w.heap.size j _ _ _ hb, hr, ← byt_eq t j hj]
    rfl
  · have hlt : j < (bytesRow t (grownCap w t.size 0 5)).size := (Array.getElem?_eq_some_iff.1 hr).1
    simp only [World.frozen?]
    rw [show (World.alloc w.drew (.cells (bytesRow t (grownCap w t.size 0 5)) 5 ((bytesRow t (grownCap w t.size 0 5)).size, (bytesRow t (grownCap w t.size 0 5)).size + 1))).heap[w.heap.size]? = _ from hb]
    simp
    omega

theorem xor8 (a b : Nat) (ha : a < 256) (hb : b < 256) : bits BinOp.xor IntKind.u8 (a : Int) (b : Int) = ((a ^^^ b : Nat) : Int) := by
  have e : bits BinOp.xor IntKind.u8 (a : Int) (b : Int) = IntKind.u8.wrap ((BitVec.ofInt 8 (a : Int) ^^^ BitVec.ofInt 8 (b : Int)).toNat : Int) := rfl
  have hl : a ^^^ b < 256 := Nat.xor_lt_two_pow (n := 8) ha hb
  have h : (BitVec.ofInt 8 (a : Int) ^^^ BitVec.ofInt 8 (b : Int)).toNat = a ^^^ b := by
    rw [BitVec.toNat_xor, BitVec.ofInt_natCast, BitVec.ofInt_natCast, BitVec.toNat_ofNat, BitVec.toNat_ofNat, Nat.mod_eq_of_lt (by omega), Nat.mod_eq_of_lt (by omega)]
  rw [e, h]
  exact wrap8 _ _ (by omega)

theorem sum_on (s : ByteArray) : sumL 4294967295 (s ++ ⟨#[120]⟩ : ByteArray).data.toList = sumL (sumL 4294967295 s.data.toList) [120] := by
  rw [← sumL_append]
  simp

set_option maxHeartbeats 4000000 in
set_option maxRecDepth 100000 in
theorem lawTurned (a : Option Addr) (len cap : Nat) (w : World) (hd : 1048576 < len ∨ CodeIn w w.heap.size a len) (hT : SumTab w) :
    Calls Tryd.prog 4 #[.slice a len cap] w fun e w' => e = .returned (.bool true) ∧ Below w.heap.size w w' := by
  have HT := hide hT
  clear hT
  by_cases hbig : 1048576 < len
  · clear hd
    go_enter Tryd.func4, Tryd.ntmps4
    go_wp2_with fail
    refine (big_yes a len cap hbig _).mono ?_
    rintro e w1 ⟨rfl, rfl⟩
    go_wp2_with fail
    go_ret
    exact ⟨rfl, Below.refl _ _⟩
  · have HD : Hid (CodeIn w w.heap.size a len) := hide (hd.resolve_left hbig)
    clear hd
    go_enter Tryd.func4, Tryd.ntmps4
    go_wp2_with fail
    refine (big_no a len cap (by omega) _).mono ?_
    rintro e w1 ⟨rfl, rfl⟩
    go_wp2_with fail
    refine (drawSumOf_any a len cap _ HD.out).mono ?_
    rintro e w1 ⟨s, hs, rfl, hb1⟩
    have HB1 := hide hb1
    clear hb1
    go_wp2_with fail
    refine (drawPlaces_any a len cap _ (code_below HD.out HB1.out)).mono ?_
    rintro e w2 ⟨pv, zs, hzl, hz, rfl, hown, hb2⟩
    have HB2 : Hid (Below w.heap.size w w2) := hide (HB1.out.trans (hb2.mono HB1.out.size))
    obtain ⟨gp, cp, hpv⟩ : ∃ gp cp, pv = .slice (some ⟨gp, 0, none⟩) 12 cp := by
      rcases hown.2 with ⟨_, h0⟩ | ⟨g, c, cur, e1, _⟩
      · omega
      · exact ⟨g, c, e1⟩
    subst hpv
    have HOwn := hide hown
    obtain ⟨z0, hz0⟩ : ∃ z, zs[0]? = some z := ⟨zs[0], by simp⟩
    obtain ⟨z1, hz1⟩ : ∃ z, zs[1]? = some z := ⟨zs[1], by simp⟩
    have hb0 : z0 < 10000 := hz z0 (List.mem_of_getElem? hz0)
    have hb1 : z1 < 10000 := hz z1 (List.mem_of_getElem? hz1)
    have HC0 : Hid (∀ wx, Below w2.heap.size w2 wx → wx.cell? ⟨gp, 0, none⟩ = some (.int .i64 (z0 : Int)) ∧ wx.cell? ⟨gp, 1, none⟩ = some (.int .i64 (z1 : Int)) ∧ gp < wx.heap.size) := hide (fun wx hbx => by
      have h1 : w2.cell? ⟨gp, 0, none⟩ = some (.int .i64 (z0 : Int)) := by rw [hown.cellAt 0 (by omega), intVs, List.getElem?_map, hz0]; rfl
      have h2 : w2.cell? ⟨gp, 1, none⟩ = some (.int .i64 (z1 : Int)) := by rw [hown.cellAt 1 (by omega), intVs, List.getElem?_map, hz1]; rfl
      have hlt : gp < w2.heap.size := World.block_lt_of_cell? w2 _ h1
      exact ⟨by rw [hbx.cell (by exact hlt)]; exact h1, by rw [hbx.cell (by exact hlt)]; exact h2, Nat.lt_of_lt_of_le hlt hbx.size⟩)
    clear hb2 hown hz hz0 hz1 hzl
    go_wp2_with fail
    refine (sealed_ex s hs _ (sumTab_below HT.out HB2.out)).mono ?_
    rintro e w3 ⟨t, htz, rfl, HTt, hb3⟩
    have HB3 : Hid (Below w.heap.size w w3) := hide (HB2.out.trans (hb3.mono HB2.out.size))
    have HBp3 : Hid (Below w2.heap.size w2 w3) := hide hb3
    clear hb3
    go_wp2_with fail
    refine (unsealed_back s t hs htz HTt.out _ (sumTab_below HT.out HB3.out)).mono ?_
    rintro e w4 ⟨rfl, hb4⟩
    have HB4 : Hid (Below w.heap.size w w4) := hide (HB3.out.trans (hb4.mono HB3.out.size))
    have HBp4 : Hid (Below w2.heap.size w2 w4) := hide (HBp3.out.trans (hb4.mono HBp3.out.size))
    clear hb4
    obtain ⟨C, w5, hcv, hb5, hcell⟩ := bytes_ex t w4
    have HB5 : Hid (Below w.heap.size w w5) := hide (HB4.out.trans (hb5.mono HB4.out.size))
    have HBp5 : Hid (Below w2.heap.size w2 w5) := hide (HBp4.out.trans (hb5.mono HBp4.out.size))
    have HCell := hide hcell
    obtain ⟨g5, hg5⟩ : ∃ g, g = w4.heap.size := ⟨_, rfl⟩
    have HB54 := hide hb5
    clear hb5 hcell
    rw [← hg5] at hcv HCell
    have HG5 := hide hg5
    clear hg5
    obtain ⟨hc0, hc1, hgl⟩ := HC0.out w5 HBp5.out
    obtain ⟨i, hi⟩ : ∃ i, i = z0 % (s.size + 4) := ⟨_, rfl⟩
    have hil : i < s.size + 4 := by rw [hi]; exact Nat.mod_lt _ (by omega)
    have hi1 : (z0 : Int) % ((s.size : Int) + 4) = (i : Int) := by rw [hi]; simp
    obtain ⟨y, hy⟩ : ∃ y, y = byt t i := ⟨_, rfl⟩
    have hyb : y < 256 := by rw [hy]; exact byt_lt t i
    have hci : w5.cell? ⟨g5, i, none⟩ = some (.int .u8 (y : Int)) := by rw [hy]; exact (HCell.out i (by omega)).1
    have hfi : w5.frozen? ⟨g5, i, none⟩ = false := (HCell.out i (by omega)).2
    obtain ⟨r, hr⟩ : ∃ r, r = z1 % 255 := ⟨_, rfl⟩
    have hrl : r < 255 := by omega
    have hm1 : (z1 : Int).tmod 255 = (r : Int) := by rw [Int.tmod_eq_emod_of_nonneg (by omega), hr]; omega
    have hm2 : (z1 : Int) % 255 = (r : Int) := by rw [hr]; omega
    obtain ⟨k, hk⟩ : ∃ k, k = 1 + r := ⟨_, rfl⟩
    have hw1 : IntKind.i64.wrap (1 + (r : Int)) = (k : Int) := by rw [IntWalk.i64_in _ ⟨by omega, by omega⟩]; omega
    have hw2 : IntKind.u8.wrap (k : Int) = (k : Int) := wrap8 k k (by omega)
    obtain ⟨x, hx⟩ : ∃ x, x = y ^^^ k := ⟨_, rfl⟩
    have hxb : x < 256 := by rw [hx]; exact Nat.xor_lt_two_pow (n := 8) hyb (by omega)
    have hw3 : bits BinOp.xor IntKind.u8 (y : Int) (k : Int) = (x : Int) := by rw [hx]; exact xor8 y k hyb (by omega)
    have HNe : Hid (x ≠ y) := hide (fun e => by
      rw [hx] at e
      have h2 : (y ^^^ k) ^^^ y = y ^^^ y := by rw [e]
      rw [Nat.xor_self, Nat.xor_comm y k, xor_back] at h2
      omega)
    have HY := hide hy
    have HK := hide hk
    clear hi hy hr hx hk
    have hi0 : (0 : Int) ≤ (i : Int) := by omega
    have hi2 : (i : Int) < (s.size : Int) + 4 := by omega
    go_wp2_with fail
    go_region
    obtain ⟨w6, hw6⟩ : ∃ w6, w6 = (w5.setCell ⟨g5, i, none⟩ (.int .u8 (x : Int))).drew := ⟨_, rfl⟩
    rw [← hw6]
    have hgw : w.heap.size ≤ g5 := by rw [HG5.out]; exact HB4.out.size
    have HB6 : Hid (Below w.heap.size w w6) := hide (by rw [hw6]; exact (HB5.out.setCell (by exact hgw) _).drew)
    obtain ⟨l, hl⟩ : ∃ l, l = sealL s.data.toList := ⟨_, rfl⟩
    have hll : l.length = s.size + 4 := by rw [hl, sealL_length, list_len]
    obtain ⟨m, hm⟩ : ∃ m, m = l.set i (UInt8.ofNat x) := ⟨_, rfl⟩
    have hml : m.length = s.size + 4 := by rw [hm, List.length_set, hll]
    have hbt : ∀ j (hj : j < l.length), byt t j = (l[j]).toNat := fun j hj => by
      have e : t.data.toList[j]? = l[j]? := by rw [HTt.out, hl]
      rw [← byt_eq t j (by omega)]
      have h1 : j < t.data.toList.length := by rw [list_len]; omega
      rw [List.getElem?_eq_getElem h1, List.getElem?_eq_getElem hj] at e
      have := Option.some.inj e
      rw [← this]
      rfl
    have hcv2 := run_convert_bytes_back (P := Tryd.prog) w6 22 9 5 ⟨g5, 0, none⟩ C m Tryd.underlying22 Tryd.underlying5 Tryd.underlying9 (fun j hj => by
      have hjl : j < l.length := by omega
      rw [hw6, Addr.add_lit, Nat.zero_add]
      show (w5.setCell ⟨g5, i, none⟩ (.int .u8 (x : Int))).cell? ⟨g5, j, none⟩ = _
      by_cases hji : i = j
      · subst hji
        rw [World.cell?_setCell_same' w5 _ _ (by rw [hci]; rfl)]
        simp only [hm, List.getElem_set_self]
        rw [toNat_ofNat8 x hxb]
      · rw [show (w5.setCell ⟨g5, i, none⟩ (.int .u8 (x : Int))).cell? ⟨g5, j, none⟩ = w5.cell? ⟨g5, j, none⟩ from World.cell?_setCell_other _ _ _ _ (by intro e; apply hji; injection e), (HCell.out j (by omega)).1, hbt j hjl]
        simp only [hm, List.getElem_set_ne hji])
    rw [hml] at hcv2
    have HU : Hid (∀ wx, SumTab wx → Calls Tryd.prog 19 #[.string ⟨m.toArray⟩] wx fun e w' => e = .returned (.tuple #[.string ⟨#[]⟩, .bool false]) ∧ Below wx.heap.size wx w') := hide (fun wx h => by
      have hi' : i < (sealL s.data.toList).length := by rw [← hl]; omega
      refine unsealed_turned s.data.toList m i (UInt8.ofNat x) (by rw [list_len]; omega) hi' (fun e => HNe.out ?_) (by rw [hm, hl]) wx h
      have h1 := congrArg UInt8.toNat e
      rw [toNat_ofNat8 x hxb] at h1
      rw [h1, HY.out, hbt i (by omega)]
      simp only [hl])
    clear hw6 hl hm hbt
    go_wp2_with fail
    refine (HU.out _ (sumTab_below HT.out HB6.out)).mono ?_
    rintro e w7 ⟨rfl, hb7⟩
    have HB7 : Hid (Below w.heap.size w w7) := hide (HB6.out.trans (hb7.mono HB6.out.size))
    clear hb7
    have HC1 : Hid (∀ wx, SumTab wx → Calls Tryd.prog 21 #[.string s] wx fun e w' => e = .returned (.int .u32 (sumL 4294967295 s.data.toList : Int)) ∧ wx = w') := hide (fun wx h => implSumOf_any s (by omega) wx h)
    have HC2 : Hid (∀ wx, SumTab wx → Calls Tryd.prog 20 #[.int .u32 (sumL 4294967295 s.data.toList : Int), .string ⟨#[120]⟩] wx fun e w' => e = .returned (.int .u32 (sumL (sumL 4294967295 s.data.toList) [120] : Int)) ∧ wx = w') := hide (fun wx h => implSumMore_any _ ⟨#[120]⟩ (sumL_lt _ _ (by omega)) (by decide) wx h)
    have HC3 : Hid (∀ wx, SumTab wx → Calls Tryd.prog 21 #[.string (s ++ ⟨#[120]⟩)] wx fun e w' => e = .returned (.int .u32 (sumL (sumL 4294967295 s.data.toList) [120] : Int)) ∧ wx = w') := hide (fun wx h => by
      have := implSumOf_any (s ++ ⟨#[120]⟩) (by rw [ByteArray.size_append]; have : (⟨#[120]⟩ : ByteArray).size = 1 := rfl; omega) wx h
      rw [sum_on] at this
      exact this)
    have h120 : (⟨#[120]⟩ : ByteArray).size = 1 := rfl
    go_wp2_with fail
    refine (HC1.out _ (sumTab_below HT.out HB7.out)).mono ?_
    rintro e w8 ⟨rfl, rfl⟩
    go_wp2_with fail
    refine (HC2.out _ (sumTab_below HT.out HB7.out)).mono ?_
    rintro e w8 ⟨rfl, rfl⟩
    go_wp2_with fail
    refine (HC3.out _ (sumTab_below HT.out HB7.out)).mono ?_
    rintro e w8 ⟨rfl, rfl⟩
    go_wp2_with fail
    go_ret
    exact ⟨rfl, HB7.out⟩
end Go.Proofs.YtfciamcjfhjaaaaDoor
