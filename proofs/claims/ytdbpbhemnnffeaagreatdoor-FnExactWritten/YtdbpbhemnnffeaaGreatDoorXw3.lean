/-
  Facts and contracts that the law's own text rests on, by their texts' names: FreeRow2, Plain8, Plain7, Plain13, Plain15.
-/
import Derived.Test.YtdbpbhemnnffeaaGreatDoorXw2
import Derived.Lib.Strings
namespace Go.Proofs.YtdbpbhemnnffeaaGreatDoor
open Go.RowKit
set_option maxHeartbeats 1000000 in
set_option maxRecDepth 100000 in
theorem toFree_any (tx : Int) (ps : List Int) (hp : ps.length ≤ 1048576) (v : Value) (w : World) (hr : RowAt w 1 v ps.length (ints ps)) :
    Calls Tryz.prog 77 #[.agg #[.int .i64 tx, v]] w fun e w' => ∃ v', e = .returned (.agg #[.int .i64 tx, v']) ∧ w'.ownsRow w.heap.size 3 1 v' ps.length (ints ps) ∧ Below w.heap.size w w' := by
  obtain ⟨pa, pc, rfl⟩ : ∃ a cap, v = .slice a ps.length cap := by obtain ⟨-, a, cap, e, -⟩ := hr; exact ⟨a, cap, e⟩
  have HC3 := hide (fun wx h => toIntS_any ps hp (.slice pa ps.length pc) wx h)
  have H3 := hide hr
  clear hr hp
  obtain ⟨w0, hw0⟩ : ∃ w0, w0 = ((w.alloc (Obj.cells #[.int .i64 tx, .slice pa ps.length pc] 142)).alloc (Obj.cells #[.int .i64 0, .slice none 0 0] 149)).alloc (Obj.cells #[.int .i64 tx, .slice none 0 0] 149) := ⟨_, rfl⟩
  have hb0 : Below w.heap.size w w0 := by rw [hw0]; exact (((Below.refl w.heap.size w).alloc (Nat.le_refl _) _).alloc (by simp) _).alloc (by simp; omega) _
  obtain ⟨-, q1, q2, hs0⟩ := three_allocs w (Obj.cells #[.int .i64 tx, .slice pa ps.length pc] 142) (Obj.cells #[.int .i64 0, .slice none 0 0] 149) (Obj.cells #[.int .i64 tx, .slice none 0 0] 149)
  rw [← hw0] at q1 q2 hs0
  have HB0 := hide hb0
  clear hb0
  go_enter Tryz.func77, Tryz.ntmps77
  go_wp2_with fail
  rw [← hw0]
  clear hw0
  refine (HC3.out _ (row_below H3.out HB0.out)).mono ?_
  rintro e w3 ⟨u3, rfl, hown3, hb3⟩
  obtain ⟨x3, c3, rfl⟩ := own_slice hown3
  obtain ⟨a1, ha1⟩ : ∃ a, a = w.heap.size + 1 := ⟨_, rfl⟩
  obtain ⟨a2, ha2⟩ : ∃ a, a = w.heap.size + 1 + 1 := ⟨_, rfl⟩
  rw [← ha2, ← ha1]
  rw [← ha1] at q1
  rw [← ha2] at q2
  have HA := hide (⟨ha1, ha2, hs0⟩ : a1 = w.heap.size + 1 ∧ a2 = w.heap.size + 1 + 1 ∧ w0.heap.size = w.heap.size + 3)
  have hne : a1 ≠ a2 := by omega
  have r3 := (hb3.block a1 (by omega)).trans q1
  have o3 := (hb3.block a2 (by omega)).trans q2
  have c23 : w3.cell? ⟨a2, 1, none⟩ = some (.slice none 0 0) := (cell_at o3 1).1
  have f23 := (cell_at o3 1).2
  obtain ⟨y3, hy3⟩ : ∃ y, y = w3.setCell ⟨a2, 1, none⟩ (.slice x3 ps.length c3) := ⟨_, rfl⟩
  have r3' : y3.heap[a1]? = some (Obj.cells #[.int .i64 0, .slice none 0 0] 149) := by rw [hy3]; exact blk_other r3 hne
  have o3' : y3.heap[a2]? = some (Obj.cells #[.int .i64 tx, .slice x3 ps.length c3] 149) := by rw [hy3]; exact heap_setCell_same w3 a2 1 _ _ _ o3
  have k3 : Kept w3 y3 (fun k => k = a1 ∨ k = a2) := by rw [hy3]; exact kept_mono (kept_setCell _ _ _ _) (fun j _ h => Or.inr h)
  have d0 : (w3.setCell ⟨a2, 1, none⟩ (.slice x3 ps.length c3)).cell? ⟨a2, 0, none⟩ = some (.int .i64 tx) := by rw [← hy3]; exact (cell_at o3' 0).1
  have d1 : (w3.setCell ⟨a2, 1, none⟩ (.slice x3 ps.length c3)).cell? ⟨a2, 1, none⟩ = some (.slice x3 ps.length c3) := by rw [← hy3]; exact (cell_at o3' 1).1
  have e0 : (w3.setCell ⟨a2, 1, none⟩ (.slice x3 ps.length c3)).cell? ⟨a1, 0, none⟩ = some (.int .i64 0) := by rw [← hy3]; exact (cell_at r3' 0).1
  have e1 : (w3.setCell ⟨a2, 1, none⟩ (.slice x3 ps.length c3)).cell? ⟨a1, 1, none⟩ = some (.slice none 0 0) := by rw [← hy3]; exact (cell_at r3' 1).1
  have g0 : (w3.setCell ⟨a2, 1, none⟩ (.slice x3 ps.length c3)).frozen? ⟨a1, 0, none⟩ = false := by rw [← hy3]; exact (cell_at r3' 0).2
  have g1 : (w3.setCell ⟨a2, 1, none⟩ (.slice x3 ps.length c3)).frozen? ⟨a1, 1, none⟩ = false := by rw [← hy3]; exact (cell_at r3' 1).2
  have HR3 := hide r3'
  have HK3 := hide k3
  have HY3 := hide hy3
  have HO3 := hide hown3
  have HB3 := hide hb3
  clear hb3 hown3 r3 o3 r3' o3' k3 hy3 ha1 ha2 hs0 q1 q2 hne
  go_wp2_with fail
  rw [← HY3.out]
  have k4 : Kept w3 ((y3.setCell ⟨a1, 0, none⟩ (.int .i64 tx)).setCell ⟨a1, 1, none⟩ (.slice x3 ps.length c3)) (fun k => k = a1 ∨ k = a2) := kept_trans (kept_trans HK3.out (kept_setCell _ _ _ _) (fun j _ h => Or.inl h)) (kept_setCell _ _ _ _) (fun j _ h => Or.inl h)
  have z : ((y3.setCell ⟨a1, 0, none⟩ (.int .i64 tx)).setCell ⟨a1, 1, none⟩ (.slice x3 ps.length c3)).heap[a1]? = some (Obj.cells #[.int .i64 tx, .slice x3 ps.length c3] 149) := heap_setCell_same _ a1 1 _ _ _ (heap_setCell_same _ a1 0 _ _ _ HR3.out)
  have z0 := (cell_at z 0).1
  have z1 := (cell_at z 1).1
  have hA := HA.out
  have hsz3 := HB3.out.size
  refine bodyPost_ret (v := .agg #[.int .i64 tx, .slice x3 ps.length c3]) (by simp [results, Tryz.results77, go_sem, z0, z1]) rfl ⟨_, rfl, ?_, ?_⟩
  · exact own_down (own_kept HO3.out k4 (fun k hk => by have := (HO3.out.lt k hk).1; omega)) (by omega)
  · exact (HB0.out.trans (HB3.out.mono HB0.out.size)).trans (below_of_kept k4 (by have := HB0.out.size; omega) (fun k hk => by omega))
theorem Tryz.infoFree : (Tryz.prog.info? 149).map (fun i => (i.zero, i.size, i.bytes)) = some (some (.agg #[.int .i64 0, .slice none 0 0]), 2, 32) := by kernel_rfl
set_option maxHeartbeats 1000000 in
set_option maxRecDepth 100000 in
theorem toFreeS_any (fs : List (Int × List Int)) (hl : fs.length ≤ 1048576) (hs : ∀ f ∈ fs, f.2.length ≤ 1048576) (v : Value) (w : World) (hr : FreesAt w v fs) :
    Calls Tryz.prog 62 #[v] w fun e w' => ∃ v' m, e = .returned v' ∧ OwnF w' w.heap.size v' m fs ∧ Below w.heap.size w w' := by
  obtain ⟨i0, hi, hz0, hz1, hz2⟩ := info_parts Tryz.infoFree
  obtain ⟨a, cap, rfl⟩ := frees_slice hr
  have HR := hide hr
  have HS := hide hs
  clear hr hs
  go_enter Tryz.func62, Tryz.ntmps62
  go_wp2_with (at_make; refine wpList_make_full _ rfl _ _ 46 rfl w.heap.size 149 i0 (.agg #[.int .i64 0, .slice none 0 0]) 2 Tryz.underlying46 hi hz0 hz1 .i64 .i64 _ _ fs.length rfl rfl rfl rfl (by rw [hz2]; omega) (by unfold maxLen; omega) (Nat.le_refl _) ?_)
  intro w1 hown1 hg1
  have hb1 : Below w.heap.size w w1 := (Below.refl _ _).grown hg1 (Nat.le_refl _) (fun k hk => by cases hk)
  have hown2 : w1.ownsRow w.heap.size 149 2 (.slice (some ⟨w.heap.size, 0, none⟩) fs.length fs.length) fs.length (frs (List.replicate fs.length (0, .slice none 0 0))) := own_n hown1 rfl (frs_made _)
  clear hg1 hown1
  go_wp2
  go_loopg [4] fs.length (fun q iv wr => ∃ (k : Nat) (m : List (Int × Value)), k ≤ fs.length ∧ iv = .int .i64 (k : Int) ∧ q + k = fs.length ∧ wr.ownsRow w.heap.size 149 2 (.slice (some ⟨w.heap.size, 0, none⟩) fs.length fs.length) fs.length (frs m) ∧ Hid (OwnTo wr w.heap.size m fs k) ∧ Below w.heap.size w wr)
  case atStart => exact ⟨0, _, Nat.zero_le _, rfl, rfl, hown2, hide ⟨by simp, fun i p f h => by omega, fun i j p q b h => by omega⟩, hb1⟩
  case round =>
    obtain ⟨k, m, hk, rfl, hg, hown, HM, hb⟩ := hrel
    have HG := hide hg
    clear hg hown2 hb1
    by_cases hlt : k < fs.length
    · obtain ⟨tx, ps, hf⟩ : ∃ tx ps, fs[k]? = some (tx, ps) := ⟨_, _, List.getElem?_eq_getElem hlt⟩
      obtain ⟨b, off, x, c, rfl, hbl, hc0, hc1, hrow⟩ := frees_at (frees_below HR.out hb) hf
      have HC := hide (fun wx h => toFree_any tx ps (HS.out _ (List.mem_of_getElem? hf)) (.slice x ps.length c) wx h)
      have HRow := hide hrow
      have hkm : k < m.length := by rw [HM.out.1]; exact hlt
      obtain ⟨p, hp⟩ : ∃ p, m[k]? = some p := ⟨_, List.getElem?_eq_getElem hkm⟩
      obtain ⟨u0, u1, hu⟩ : ∃ (u0 : Int) (u1 : Value), (frs m)[k * 2]? = some (.int .i64 u0) ∧ (frs m)[k * 2 + 1]? = some u1 := ⟨_, _, frs_at m k p hp⟩
      have HU := hide hu
      have HF := hide hf
      have HKm := hide hkm
      have hk0 : (0 : Int) ≤ (k : Int) := by omega
      have hk1 : (k : Int) < (fs.length : Int) := by omega
      clear hkm hu hf hrow hp
      go_wp2_with fail
      refine (HC.out _ HRow.out).mono ?_
      rintro e w2 ⟨u, rfl, hou, hb2⟩
      obtain ⟨ua, uc, rfl⟩ := own_slice hou
      have hown2 := own_stays hown hb2
      have hd0 : w2.cell? ⟨w.heap.size, k * 2, none⟩ = some (.int .i64 u0) := by rw [hown2.cellAt (k * 2) (by omega), HU.out.1]
      have hd1 : w2.cell? ⟨w.heap.size, k * 2 + 1, none⟩ = some u1 := by rw [hown2.cellAt (k * 2 + 1) (by omega), HU.out.2]
      have hf0 : w2.frozen? ⟨w.heap.size, k * 2, none⟩ = false := hown2.frozenAt _
      have hf1 : w2.frozen? ⟨w.heap.size, k * 2 + 1, none⟩ = false := hown2.frozenAt _
      have hb3 : Below w.heap.size w w2 := hb.trans (hb2.mono hb.size)
      have HO := hide (((hown2.stored (k * 2) (.int .i64 tx)).1.stored (k * 2 + 1) (.slice ua ps.length uc)).1)
      rw [frs_set m k tx _ HKm.out] at HO
      have HM2 : Hid (OwnTo ((w2.setCell ⟨w.heap.size, k * 2, none⟩ (.int .i64 tx)).setCell ⟨w.heap.size, k * 2 + 1, none⟩ (.slice ua ps.length uc)) w.heap.size (m.set k (tx, .slice ua ps.length uc)) fs (k + 1)) := hide (by
        have h1 := ownTo_stays HM.out hb2
        have h2 : OwnTo w2 w.heap.size (m.set k (tx, .slice ua ps.length uc)) fs (k + 1) := ownTo_set h1 HF.out (own_down hou hb.size) (fun i p b hi hp hpb hub => by
          have hil : i < fs.length := by omega
          have := ((HM.out.2.1 i p _ hi hp (List.getElem?_eq_getElem hil)).2.lt b hpb).2
          have := (hou.lt b hub).1
          omega)
        refine ownTo_kept h2 (kept_trans (kept_setCell w2 w.heap.size (k * 2) _) (kept_setCell _ w.heap.size (k * 2 + 1) _) (fun j _ h => h)) (fun i p b hi hp hpb hbw => ?_)
        have hil : i < fs.length := by omega
        have h3 := (h2.2.1 i p _ hi hp (List.getElem?_eq_getElem hil)).2
        exact one_type hown2 h3 Tryz.free_int b (by rw [hbw]; rfl) hpb)
      clear hown hb2 hou
      go_wp2_with fail
      go_roundg (gk - 1)
      case measure => have := HG.out; omega
      case rel => exact ⟨k + 1, _, by omega, by go_num, by have := HG.out; omega, HO.out, HM2, (hb3.setCell (Nat.le_refl _) _).setCell (Nat.le_refl _) _⟩
    · obtain rfl : k = fs.length := by omega
      go_wp2
      go_ret
      exact ⟨_, m, rfl, ⟨hown, HM.out⟩, hb⟩
set_option maxHeartbeats 400000 in
theorem eqFree_same (tx : Int) (ps : List Int) (hp : ps.length ≤ 1048576) (v u : Value) (w : World) (hr : RowAt w 1 v ps.length (ints ps)) (hq : RowAt w 1 u ps.length (ints ps)) :
    Calls Tryz.prog 81 #[.agg #[.int .i64 tx, v], .agg #[.int .i64 tx, u]] w fun e w' => e = .returned (.bool true) ∧ Below w.heap.size w w' := by
  have HC3 := hide (fun wx h h' => eqIntS_row ps ps (by omega) (by omega) v u wx h h')
  rw [decide_eq_true rfl] at HC3
  have HR := hide (⟨hr, hq⟩ : _ ∧ _)
  clear hr hq hp
  obtain ⟨w0, hw0⟩ : ∃ w0, w0 = (w.alloc (Obj.cells #[.int .i64 tx, v] 149)).alloc (Obj.cells #[.int .i64 tx, u] 149) := ⟨_, rfl⟩
  have hb0 : Below w.heap.size w w0 := by rw [hw0]; exact ((Below.refl w.heap.size w).alloc (Nat.le_refl _) _).alloc (by simp) _
  have HB0 := hide hb0
  have dl : (tx != tx) = false := by simp
  clear hb0
  go_enter Tryz.func81, Tryz.ntmps81
  go_wp2_with fail
  rw [← hw0]
  clear hw0
  refine (HC3.out _ (row_below HR.out.1 HB0.out) (row_below HR.out.2 HB0.out)).mono ?_
  rintro e w3 ⟨rfl, hb3⟩
  have HB3 : Hid (Below w.heap.size w w3) := hide (HB0.out.trans (hb3.mono HB0.out.size))
  clear hb3
  go_wp2_with fail
  go_ret
  exact ⟨rfl, HB3.out⟩
set_option maxHeartbeats 2000000 in
set_option maxRecDepth 100000 in
theorem eqFreeS_same (fs : List (Int × List Int)) (hl : fs.length ≤ 1048576) (hs : ∀ f ∈ fs, f.2.length ≤ 1048576) (v u : Value) (w : World) (hr : FreesAt w v fs) (hq : FreesAt w u fs) :
    Calls Tryz.prog 68 #[v, u] w fun e w' => e = .returned (.bool true) ∧ Below w.heap.size w w' := by
  obtain ⟨a, cap, rfl⟩ := frees_slice hr
  obtain ⟨a', cap', rfl⟩ := frees_slice hq
  have HR := hide hr
  have HQ := hide hq
  have HS := hide hs
  clear hr hq hs
  go_enter Tryz.func68, Tryz.ntmps68
  go_wp2
  go_loopg [5] fs.length (fun q iv wr => ∃ k : Nat, k ≤ fs.length ∧ iv = .int .i64 (k : Int) ∧ q + k = fs.length ∧ Below w.heap.size w wr)
  case atStart => exact ⟨0, Nat.zero_le _, rfl, rfl, Below.refl _ _⟩
  case round =>
    obtain ⟨k, hk, rfl, hg, hb⟩ := hrel
    have HG := hide hg
    clear hg
    by_cases hlt : k < fs.length
    · obtain ⟨tx, ps, hf⟩ : ∃ tx ps, fs[k]? = some (tx, ps) := ⟨_, _, List.getElem?_eq_getElem hlt⟩
      obtain ⟨b, off, x, c, rfl, hbl, hc0, hc1, hrow⟩ := frees_at (frees_below HR.out hb) hf
      obtain ⟨b', off', x', c', rfl, hbl', hd0, hd1, hrow'⟩ := frees_at (frees_below HQ.out hb) hf
      have HC := hide (fun wx h h' => eqFree_same tx ps (HS.out _ (List.mem_of_getElem? hf)) (.slice x ps.length c) (.slice x' ps.length c') wx h h')
      have HRow := hide (⟨hrow, hrow'⟩ : _ ∧ _)
      have hk0 : (0 : Int) ≤ (k : Int) := by omega
      have hk1 : (k : Int) < (fs.length : Int) := by omega
      obtain ⟨n, hn⟩ : ∃ n, n = ps.length := ⟨_, rfl⟩
      rw [← hn] at hc1 hd1 HC HRow
      clear hf hrow hrow' hn
      go_wp2_with fail
      go_region_held3 (fun wx => wx.cell? ⟨b, off + k * 2, none⟩ = some (.int .i64 tx) ∧ wx.cell? ⟨b, off + k * 2 + 1, none⟩ = some (.slice x n c) ∧ wx.cell? ⟨b', off' + k * 2, none⟩ = some (.int .i64 tx) ∧ wx.cell? ⟨b', off' + k * 2 + 1, none⟩ = some (.slice x' n c')) (first | exact ⟨hc0, hc1, hd0, hd1⟩ | exact hS2) ((go_at_call 81; refine (HC.out _ (row_below HRow.out.1 (Below.refl _ _).drew) (row_below HRow.out.2 (Below.refl _ _).drew)).mono ?_; rintro e w2 ⟨rfl, hb2⟩; have hS2 : w2.cell? ⟨b, off + k * 2, none⟩ = some (.int .i64 tx) ∧ w2.cell? ⟨b, off + k * 2 + 1, none⟩ = some (.slice x n c) ∧ w2.cell? ⟨b', off' + k * 2, none⟩ = some (.int .i64 tx) ∧ w2.cell? ⟨b', off' + k * 2 + 1, none⟩ = some (.slice x' n c') := ⟨(hb2.cell (by exact hbl)).trans hc0, (hb2.cell (by exact hbl)).trans hc1, (hb2.cell (by exact hbl')).trans hd0, (hb2.cell (by exact hbl')).trans hd1⟩))
      all_goals
        have hb3 : Below w.heap.size w w2 := hb.trans ((Below.refl _ _).drew.trans (hb2.mono hb.size))
        clear hb2
        go_wp2_with fail
        go_roundg (gk - 1)
        case measure => have := HG.out; omega
        case rel => exact ⟨k + 1, by omega, by go_num, by have := HG.out; omega, hb3⟩
    · go_wp2
      go_ret
      exact ⟨rfl, hb⟩
open Go.RowKit
def half (c : Nat) : Nat := if c % 2 = 1 then (c / 2) ^^^ 3558460437 else c / 2
def half4 (c : Nat) : Nat := half (half (half (half c)))
def sumB (c b : Nat) : Nat := half4 (half4 (c ^^^ b))
def sumL (c : Nat) (l : List UInt8) : Nat := l.foldl (fun c b => sumB c b.toNat) c
def fourL (x : Nat) : List UInt8 := [UInt8.ofNat (x / 16777216 % 256), UInt8.ofNat (x / 65536 % 256), UInt8.ofNat (x / 256 % 256), UInt8.ofNat (x % 256)]
theorem xor_lt32 (a b : Nat) (ha : a < 4294967296) (hb : b < 4294967296) : a ^^^ b < 4294967296 := Nat.xor_lt_two_pow (n := 32) ha hb
theorem half_lt (c : Nat) (h : c < 4294967296) : half c < 4294967296 := by
  unfold half
  split
  · exact xor_lt32 _ _ (by omega) (by omega)
  · omega
theorem half4_lt (c : Nat) (h : c < 4294967296) : half4 c < 4294967296 := half_lt _ (half_lt _ (half_lt _ (half_lt _ h)))
theorem sumB_lt (c b : Nat) (h : c < 4294967296) (hb : b < 256) : sumB c b < 4294967296 := half4_lt _ (half4_lt _ (xor_lt32 _ _ h (by omega)))
theorem sumL_append (c : Nat) (l m : List UInt8) : sumL c (l ++ m) = sumL (sumL c l) m := by simp [sumL, List.foldl_append]
theorem half_xor (a b : Nat) : half (a ^^^ b) = half a ^^^ half b := by
  have h1 : (a ^^^ b) % 2 = (a + b) % 2 := by
    have := Nat.xor_mod_two_pow (a := a) (b := b) (n := 1)
    simp only [Nat.pow_one] at this
    rw [this]
    rcases Nat.mod_two_eq_zero_or_one a with ha | ha <;> rcases Nat.mod_two_eq_zero_or_one b with hb | hb <;> rw [ha, hb] <;> simp <;> omega
  have h2 : (a ^^^ b) / 2 = a / 2 ^^^ b / 2 := by have := Nat.xor_div_two_pow (a := a) (b := b) (n := 1); simpa using this
  unfold half
  rw [h1, h2]
  by_cases ha : a % 2 = 1 <;> by_cases hb : b % 2 = 1
  · rw [if_neg (by omega), if_pos ha, if_pos hb, Nat.xor_assoc, Nat.xor_comm (b / 2) 3558460437, ← Nat.xor_assoc 3558460437, Nat.xor_self, Nat.zero_xor]
  · rw [if_pos (by omega), if_pos ha, if_neg hb, Nat.xor_assoc, Nat.xor_comm (b / 2), ← Nat.xor_assoc]
  · rw [if_pos (by omega), if_neg ha, if_pos hb, Nat.xor_assoc]
  · rw [if_neg (by omega), if_neg ha, if_neg hb]
theorem half4_xor (a b : Nat) : half4 (a ^^^ b) = half4 a ^^^ half4 b := by simp only [half4, half_xor]
theorem half4_mul (q : Nat) : half4 (16 * q) = q := by
  have e : ∀ x, half (2 * x) = x := fun x => by unfold half; rw [if_neg (by omega)]; omega
  have h : 16 * q = 2 * (2 * (2 * (2 * q))) := by omega
  unfold half4
  rw [h, e, e, e, e]
theorem split16 (x : Nat) : x = (16 * (x / 16)) ^^^ (x % 16) := by
  have h1 : ((16 * (x / 16)) ^^^ (x % 16)) / 16 = x / 16 := by
    have := Nat.xor_div_two_pow (a := 16 * (x / 16)) (b := x % 16) (n := 4)
    rw [show (2 : Nat) ^ 4 = 16 from rfl] at this
    rw [this, Nat.mul_div_cancel_left _ (by omega), Nat.div_eq_of_lt (by omega : x % 16 < 16), Nat.xor_zero]
  have h2 : ((16 * (x / 16)) ^^^ (x % 16)) % 16 = x % 16 := by
    have := Nat.xor_mod_two_pow (a := 16 * (x / 16)) (b := x % 16) (n := 4)
    rw [show (2 : Nat) ^ 4 = 16 from rfl] at this
    rw [this, Nat.mul_mod_right, Nat.zero_xor, Nat.mod_mod]
  omega
def tab16 : List Nat := [0, 1166650509, 2333301018, 3466261911, 3189058079, 4221339282, 889615109, 1888477064, 3558460437, 2442158232, 1594529039, 444807554, 1779230218, 797264519, 3776954128, 2761298845]
theorem half4_tab (r : Nat) (h : r < 16) : half4 r = tab16.getD r 0 := by
  revert r
  decide
theorem half4_eq (x : Nat) : half4 x = (x / 16) ^^^ tab16.getD (x % 16) 0 := by
  rw [← half4_tab _ (Nat.mod_lt _ (by omega)), ← half4_mul (x / 16)]
  conv => lhs; rw [split16 x]
  rw [half4_xor, half4_mul]
theorem fourL_length (x : Nat) : (fourL x).length = 4 := rfl
def sealL (l : List UInt8) : List UInt8 := l ++ fourL (sumL 4294967295 l)
def isSealed (l : List UInt8) : Bool := decide (4 ≤ l.length ∧ l.length ≤ 20004 ∧ l.drop (l.length - 4) = fourL (sumL 4294967295 (l.take (l.length - 4))))
theorem sealL_length (l : List UInt8) : (sealL l).length = l.length + 4 := by simp [sealL, fourL_length]
theorem sealL_is (l : List UInt8) (h : l.length ≤ 20000) : isSealed (sealL l) = true := by
  unfold isSealed
  rw [sealL_length, Nat.add_sub_cancel, decide_eq_true_eq]
  refine ⟨by omega, by omega, ?_⟩
  simp [sealL]
open Go.RowKit
theorem rv_go (b : Nat → Nat) (len n : Nat) (hn : n ≤ 1000000000) : ∀ (g m j f : Nat), m < 128 ^ (g + 1) → g + 1 ≤ f → (1 ≤ m ∨ j = 0) → accN b j + 128 ^ j * m = n →
    (∀ i (h : i < (venc g m).length), b (j + i) = ((venc g m)[i]).toNat) → j + (venc g m).length ≤ len → rvGo b len f j = some (n, j + (venc g m).length) := by
  intro g
  induction g with
  | zero =>
    intro m j f hm hf h1 hA hb hlen
    have hm' : m < 128 := by simpa using hm
    rw [venc_last 0 m hm'] at hb hlen ⊢
    obtain ⟨f', rfl⟩ : ∃ f', f = f' + 1 := ⟨f - 1, by omega⟩
    have h0 : b j = m := by have := hb 0 (by simp); simpa [toNat_ofNat8 m (by omega)] using this
    have hj : j < len := by simp at hlen; omega
    have hacc : accN b (j + 1) = n := by rw [accN, h0, Nat.mod_eq_of_lt hm', Nat.mul_comm]; exact hA
    rw [rvGo, if_pos hj, if_pos (by omega), if_pos ⟨by omega, by omega⟩, hacc]; rfl
  | succ g ih =>
    intro m j f hm hf h1 hA hb hlen
    by_cases hs : m < 128
    · rw [venc_last (g + 1) m hs] at hb hlen ⊢
      obtain ⟨f', rfl⟩ : ∃ f', f = f' + 1 := ⟨f - 1, by omega⟩
      have h0 : b j = m := by have := hb 0 (by simp); simpa [toNat_ofNat8 m (by omega)] using this
      have hj : j < len := by simp at hlen; omega
      have hacc : accN b (j + 1) = n := by rw [accN, h0, Nat.mod_eq_of_lt hs, Nat.mul_comm]; exact hA
      rw [rvGo, if_pos hj, if_pos (by omega), if_pos ⟨by omega, by omega⟩, hacc]; rfl
    · have hv : venc (g + 1) m = UInt8.ofNat (m % 128 + 128) :: venc g (m / 128) := by rw [venc, if_neg hs]
      obtain ⟨f', rfl⟩ : ∃ f', f = f' + 1 := ⟨f - 1, by omega⟩
      have hb0 := hb 0 (by rw [hv]; simp)
      simp only [hv, List.getElem_cons_zero, Nat.add_zero, toNat_ofNat8 (m % 128 + 128) (by omega)] at hb0
      have hj : j < len := by rw [hv] at hlen; simp at hlen; omega
      have hq : m / 128 < 128 ^ (g + 1) := by
        rw [Nat.pow_succ] at hm
        exact Nat.div_lt_of_lt_mul (by rw [Nat.mul_comm]; exact hm)
      have hA' : accN b (j + 1) + 128 ^ (j + 1) * (m / 128) = n := by
        rw [accN, hb0, ← hA, Nat.pow_succ]
        have e1 : (m % 128 + 128) % 128 = m % 128 := by omega
        have e2 : m = m % 128 + 128 * (m / 128) := by omega
        rw [e1]
        conv => rhs; rw [e2]
        rw [Nat.mul_add, Nat.mul_comm (m % 128), Nat.mul_assoc]
        omega
      have hr := ih (m / 128) (j + 1) f' hq (by omega) (by omega) hA' (fun i h => by
        have := hb (i + 1) (by rw [hv]; simpa using h)
        simp only [hv, List.getElem_cons_succ] at this
        rw [← this]; congr 1; omega) (by rw [hv] at hlen; simp at hlen; omega)
      rw [rvGo, if_pos hj, if_neg (by omega), hr, hv]
      simp; omega
theorem byt_list (l : List UInt8) (i : Nat) (h : i < l.length) : byt ⟨l.toArray⟩ i = (l[i]).toNat := by
  have hs : i < (⟨l.toArray⟩ : ByteArray).size := by simpa [ByteArray.size] using h
  rw [← byt_eq _ i hs]; rfl
theorem size_list (l : List UInt8) : (⟨l.toArray⟩ : ByteArray).size = l.length := by simp [ByteArray.size]
theorem rv_round (n : Nat) (hn : n ≤ 1000000000) (pre post : List UInt8) :
    rvGo (fun i => byt ⟨(pre ++ vtext n ++ post).toArray⟩ (pre.length + i)) ((⟨(pre ++ vtext n ++ post).toArray⟩ : ByteArray).size - pre.length) 5 0 = some (n, (vtext n).length) := by
  have h := rv_go (fun i => byt ⟨(pre ++ vtext n ++ post).toArray⟩ (pre.length + i)) ((⟨(pre ++ vtext n ++ post).toArray⟩ : ByteArray).size - pre.length) n hn 4 n 0 5 (pow5 n hn) (by omega) (Or.inr rfl) (by simp [accN])
    (fun i h => by
      have hl : pre.length + (0 + i) < (pre ++ vtext n ++ post).length := by simp; unfold vtext; omega
      rw [byt_list _ _ hl]
      congr 1
      rw [List.getElem_append_left (by simp; unfold vtext; omega), List.getElem_append_right (by omega)]
      simp [vtext])
    (by rw [size_list]; simp [vtext])
  simpa [vtext] using h
open Go.RowKit
theorem ba_cat (A : ByteArray) (l : List UInt8) (X : ByteArray) : A ++ ⟨l.toArray⟩ ++ X = ⟨(A.data.toList ++ l ++ X.data.toList).toArray⟩ := by
  apply ByteArray.ext
  simp [ByteArray.data_append]
theorem ba_len (A : ByteArray) : A.data.toList.length = A.size := by rw [Array.length_toList]; rfl
theorem rv_at (t A X : ByteArray) (n : Nat) (hn : n ≤ 1000000000) (ht : t = A ++ ⟨(vtext n).toArray⟩ ++ X) : rvGo (fun i => byt t (A.size + i)) (t.size - A.size) 5 0 = some (n, (vtext n).length) := by
  have h := rv_round n hn A.data.toList X.data.toList
  rw [← ba_cat, ← ht, ba_len] at h
  exact h
theorem rvGo_form (b : Nat → Nat) (len n c : Nat) : ∀ f j, rvGo b len f j = some (n, c) → (∀ i, i < j → 128 ≤ b i) → ∃ k, c = k + 1 ∧ k < f + j ∧ k < len ∧ n = accN b (k + 1) ∧ n ≤ 1000000000 ∧ b k < 128 ∧ (b k ≠ 0 ∨ k = 0) ∧ ∀ i, i < k → 128 ≤ b i
  | 0, j, h, _ => by simp [rvGo] at h
  | f + 1, j, h, hi => by
    rw [rvGo] at h
    split at h
    · next hl =>
      split at h
      · next hb =>
        split at h
        · next h2 =>
          simp at h
          exact ⟨j, by omega, by omega, hl, h.1.symm, by rw [← h.1]; exact h2.1, hb, h2.2, hi⟩
        · cases h
      · next hb =>
        obtain ⟨k, h1, h2, h3⟩ := rvGo_form b len n c f (j + 1) h (fun i hlt => by
          by_cases e : i = j
          · subst e; omega
          · exact hi i (by omega))
        exact ⟨k, h1, by omega, h3⟩
    · cases h
theorem rv_back (t : ByteArray) (p n c : Nat) (h : rvGo (fun i => byt t (p + i)) (t.size - p) 5 0 = some (n, c)) : 1 ≤ c ∧ p + c ≤ t.size ∧ n ≤ 1000000000 ∧ t.extract p (p + c) = ⟨(vtext n).toArray⟩ := by
  obtain ⟨k, rfl, hk, hl, hn, hn2, hb, h2, hi⟩ := rvGo_form _ _ _ _ 5 0 h (fun i hlt => by omega)
  refine ⟨by omega, by omega, hn2, ?_⟩
  have he := extract_bytes t p (k + 1) (by omega)
  have hv := (vtext_iff k (fun i => byt t (p + i)) (by omega) (fun i => byt_lt _ _) hi hb).2 h2
  rw [← hn] at hv
  rw [← hv] at he
  apply ByteArray.ext
  rw [← he]
def shortB (s : ByteArray) : ByteArray := ⟨(vtext s.size).toArray⟩ ++ s
theorem vtB_size (n : Nat) : (⟨(vtext n).toArray⟩ : ByteArray).size = (vtext n).length := List.size_toArray
def rdV (t : ByteArray) (p : Nat) : Option (Nat × Nat) := (rvGo (fun i => byt t (p + i)) (t.size - p) 5 0).map fun x => (x.1, p + x.2)
def rdS (t : ByteArray) (p : Nat) : Option (ByteArray × Nat) := (rdV t p).bind fun x => if x.1 ≤ 20000 ∧ x.1 ≤ t.size - x.2 then some (t.extract x.2 (x.2 + x.1), x.2 + x.1) else none
theorem rdV_past {t : ByteArray} {p : Nat} (h : t.size < p) : rdV t p = none := by
  rw [rdV, show t.size - p = 0 from by omega]
  simp [rvGo]
theorem rdS_past {t : ByteArray} {p : Nat} (h : t.size < p) : rdS t p = none := by rw [rdS, rdV_past h]; rfl
theorem extract_cat (A B : ByteArray) (X : ByteArray) : (A ++ B ++ X).extract A.size (A.size + B.size) = B := by
  apply ByteArray.ext
  apply Array.toList_inj.1
  rw [Lib.extract_data]
  simp only [ByteArray.data_append, Array.toList_append]
  rw [← ba_len A, ← ba_len B, List.append_assoc, List.drop_left, Nat.add_sub_cancel_left, List.take_left]
theorem extract_two (t : ByteArray) (p q r : Nat) (h1 : p ≤ q) (h2 : q ≤ r) : t.extract p r = t.extract p q ++ t.extract q r := by
  apply ByteArray.ext
  apply Array.toList_inj.1
  rw [ByteArray.data_append, Array.toList_append, Lib.extract_data, Lib.extract_data, Lib.extract_data]
  rw [show r - p = (q - p) + (r - q) from by omega, List.take_add, List.drop_drop, show p + (q - p) = q from by omega]
theorem rdV_at (t A X : ByteArray) (n : Nat) (hn : n ≤ 1000000000) (ht : t = A ++ ⟨(vtext n).toArray⟩ ++ X) : rdV t A.size = some (n, (A ++ ⟨(vtext n).toArray⟩).size) := by
  rw [rdV, rv_at t A X n hn ht, ByteArray.size_append, vtB_size]; rfl
theorem rdV_back {t : ByteArray} {p n q : Nat} (h : rdV t p = some (n, q)) : p < q ∧ q ≤ t.size ∧ n ≤ 1000000000 ∧ t.extract p q = ⟨(vtext n).toArray⟩ := by
  rw [rdV, Option.map_eq_some_iff] at h
  obtain ⟨⟨m, c⟩, h1, h2⟩ := h
  simp at h2
  obtain ⟨h3, h4, h5, h6⟩ := rv_back t p m c h1
  obtain ⟨rfl, rfl⟩ := h2
  exact ⟨by omega, h4, h5, h6⟩
theorem rdS_at (t A x X : ByteArray) (hx : x.size ≤ 20000) (ht : t = A ++ shortB x ++ X) : rdS t A.size = some (x, (A ++ shortB x).size) := by
  have h1 := rdV_at t A (x ++ X) x.size (by omega) (by rw [ht, shortB]; simp only [ByteArray.append_assoc])
  have h2 : t = (A ++ ⟨(vtext x.size).toArray⟩) ++ x ++ X := by rw [ht, shortB]; simp only [ByteArray.append_assoc]
  have hsz : t.size = (A ++ ⟨(vtext x.size).toArray⟩).size + x.size + X.size := by rw [h2, ByteArray.size_append, ByteArray.size_append]
  have h3 := extract_cat (A ++ ⟨(vtext x.size).toArray⟩) x X
  rw [← h2] at h3
  rw [rdS, h1]
  simp only [Option.bind_some]
  rw [if_pos ⟨hx, by omega⟩, h3, shortB, ← ByteArray.append_assoc, ByteArray.size_append (b := x)]
theorem rdS_back {t x : ByteArray} {p q : Nat} (h : rdS t p = some (x, q)) : p < q ∧ q ≤ t.size ∧ x.size ≤ 20000 ∧ t.extract p q = shortB x := by
  rw [rdS, Option.bind_eq_some_iff] at h
  obtain ⟨⟨n, r⟩, h1, h2⟩ := h
  obtain ⟨h3, h4, h5, h6⟩ := rdV_back h1
  simp only at h2
  split at h2
  · next hc =>
    simp at h2
    obtain ⟨h7, h8⟩ := h2
    have hs : x.size = n := by rw [← h7, ByteArray.size_extract]; omega
    refine ⟨by omega, by omega, by omega, ?_⟩
    rw [extract_two t p r q (by omega) (by omega), h6, shortB, hs, ← h7, ← h8]
  · cases h2
open Go.RowKit
def keyB (ks : List ByteArray) (i : Nat) : Bool := decide ((ks.getD i ⟨#[]⟩).size ≤ 24) && (decide (i = 0) || Op.bytesLess (ks.getD (i - 1) ⟨#[]⟩).toList (ks.getD i ⟨#[]⟩).toList)
def kidB (cs : List Int) (i : Nat) : Bool := decide (2 ≤ cs.getD i 0 ∧ cs.getD i 0 ≤ 39) && decide (∀ j, j < i → cs.getD j 0 ≠ cs.getD i 0)
def cntB (lf : Bool) (nk nv nc : Nat) : Bool := decide (1 ≤ nk ∧ nk ≤ 4) && (if lf = true then decide (nv = nk ∧ nc = 0) else decide (nc = nk ∧ nv = 0))
def nodeOkB (lf : Bool) (ks vs : List ByteArray) (cs : List Int) : Bool :=
  cntB lf ks.length vs.length cs.length && decide (∀ i, i < ks.length → keyB ks i = true) && decide (∀ i, i < vs.length → (vs.getD i ⟨#[]⟩).size ≤ 24) && decide (∀ i, i < cs.length → kidB cs i = true)
theorem node_cnt {lf : Bool} {ks vs : List ByteArray} {cs : List Int} (h : cntB lf ks.length vs.length cs.length = false) : nodeOkB lf ks vs cs = false := by
  rw [nodeOkB, h]; rfl
theorem node_key {lf : Bool} {ks vs : List ByteArray} {cs : List Int} {i : Nat} (hi : i < ks.length) (h : keyB ks i = false) : nodeOkB lf ks vs cs = false := by
  have : decide (∀ i, i < ks.length → keyB ks i = true) = false := decide_eq_false (fun hh => by rw [hh i hi] at h; cases h)
  rw [nodeOkB, this]; simp
theorem node_val {lf : Bool} {ks vs : List ByteArray} {cs : List Int} {i : Nat} (hi : i < vs.length) (h : 24 < (vs.getD i ⟨#[]⟩).size) : nodeOkB lf ks vs cs = false := by
  have : decide (∀ i, i < vs.length → (vs.getD i ⟨#[]⟩).size ≤ 24) = false := decide_eq_false (fun hh => by have := hh i hi; omega)
  rw [nodeOkB, this]; simp
theorem node_kid {lf : Bool} {ks vs : List ByteArray} {cs : List Int} {i : Nat} (hi : i < cs.length) (h : kidB cs i = false) : nodeOkB lf ks vs cs = false := by
  have : decide (∀ i, i < cs.length → kidB cs i = true) = false := decide_eq_false (fun hh => by rw [hh i hi] at h; cases h)
  rw [nodeOkB, this]; simp
theorem node_all {lf : Bool} {ks vs : List ByteArray} {cs : List Int} (h0 : cntB lf ks.length vs.length cs.length = true) (h1 : ∀ i, i < ks.length → keyB ks i = true) (h2 : ∀ i, i < vs.length → (vs.getD i ⟨#[]⟩).size ≤ 24) (h3 : ∀ i, i < cs.length → kidB cs i = true) : nodeOkB lf ks vs cs = true := by
  rw [nodeOkB, h0, decide_eq_true h1, decide_eq_true h2, decide_eq_true h3]; rfl
theorem node_yes {lf : Bool} {ks vs : List ByteArray} {cs : List Int} (h : nodeOkB lf ks vs cs = true) : cntB lf ks.length vs.length cs.length = true ∧ (∀ i, i < ks.length → keyB ks i = true) ∧ (∀ i, i < vs.length → (vs.getD i ⟨#[]⟩).size ≤ 24) ∧ ∀ i, i < cs.length → kidB cs i = true := by
  rw [nodeOkB] at h
  simp only [Bool.and_eq_true, decide_eq_true_eq] at h
  exact ⟨h.1.1.1, h.1.1.2, h.1.2, h.2⟩
theorem cnt_yes {lf : Bool} {nk nv nc : Nat} (h : cntB lf nk nv nc = true) : 1 ≤ nk ∧ nk ≤ 4 ∧ (lf = true → nv = nk ∧ nc = 0) ∧ (lf = false → nc = nk ∧ nv = 0) := by
  unfold cntB at h
  rw [Bool.and_eq_true, decide_eq_true_eq] at h
  refine ⟨h.1.1, h.1.2, fun e => ?_, fun e => ?_⟩
  · have := h.2; rw [if_pos e, decide_eq_true_eq] at this; exact this
  · have := h.2; rw [if_neg (by rw [e]; decide), decide_eq_true_eq] at this; exact this
def headB (lf : Bool) : ByteArray := if lf = true then ⟨#[108]⟩ else ⟨#[98]⟩
def sideT (lf : Bool) (vs : List ByteArray) (cs : List Int) (i : Nat) : ByteArray := if lf = true then shortB (vs.getD i ⟨#[]⟩) else ⟨(vtext (cs.getD i 0).toNat).toArray⟩
def nodeP (lf : Bool) (cnt : Nat) (ks vs : List ByteArray) (cs : List Int) : Nat → ByteArray
  | 0 => headB lf ++ ⟨(vtext cnt).toArray⟩
  | k + 1 => nodeP lf cnt ks vs cs k ++ shortB (ks.getD k ⟨#[]⟩) ++ sideT lf vs cs k
def nodeB (lf : Bool) (ks vs : List ByteArray) (cs : List Int) : ByteArray := nodeP lf ks.length ks vs cs ks.length
theorem shortB_size2 (s : ByteArray) : (shortB s).size ≤ s.size + 5 := by
  have h := (vtext_length s.size).2
  rw [shortB, ByteArray.size_append, vtB_size]
  omega
theorem key_short {ks : List ByteArray} {i : Nat} (h : keyB ks i = true) : (ks.getD i ⟨#[]⟩).size ≤ 24 := by
  rw [keyB, Bool.and_eq_true, decide_eq_true_eq] at h
  exact h.1
theorem kid_page {cs : List Int} {i : Nat} (h : kidB cs i = true) : 2 ≤ cs.getD i 0 ∧ cs.getD i 0 ≤ 39 := by
  rw [kidB, Bool.and_eq_true, decide_eq_true_eq] at h
  exact h.1
theorem headB_size (lf : Bool) : (headB lf).size = 1 := by cases lf <;> rfl
theorem sideT_size {lf : Bool} {ks vs : List ByteArray} {cs : List Int} (h : nodeOkB lf ks vs cs = true) {i : Nat} (hi : i < ks.length) : (sideT lf vs cs i).size ≤ 29 := by
  obtain ⟨h0, h1, h2, h3⟩ := node_yes h
  obtain ⟨c1, c2, c3, c4⟩ := cnt_yes h0
  unfold sideT
  split
  · next e =>
    have := shortB_size2 (vs.getD i ⟨#[]⟩)
    have := h2 i (by have := (c3 e).1; omega)
    omega
  · rw [vtB_size]
    have := (vtext_length (cs.getD i 0).toNat).2
    omega
theorem nodeP_size {lf : Bool} {ks vs : List ByteArray} {cs : List Int} (h : nodeOkB lf ks vs cs = true) : ∀ k, k ≤ ks.length → (nodeP lf ks.length ks vs cs k).size ≤ 6 + 58 * k
  | 0, _ => by
    rw [nodeP, ByteArray.size_append, headB_size, vtB_size]
    have := (vtext_length ks.length).2
    omega
  | k + 1, hk => by
    have ih := nodeP_size h k (by omega)
    have h1 := sideT_size h (show k < ks.length by omega)
    have h2 := shortB_size2 (ks.getD k ⟨#[]⟩)
    have h3 := key_short ((node_yes h).2.1 k (by omega))
    rw [nodeP, ByteArray.size_append, ByteArray.size_append]
    omega
theorem nodeB_size {lf : Bool} {ks vs : List ByteArray} {cs : List Int} (h : nodeOkB lf ks vs cs = true) : (nodeB lf ks vs cs).size ≤ 238 ∧ 2 ≤ (nodeB lf ks vs cs).size := by
  have h1 := nodeP_size h ks.length (Nat.le_refl _)
  obtain ⟨c1, c2, -, -⟩ := cnt_yes (node_yes h).1
  refine ⟨by unfold nodeB; omega, ?_⟩
  have mono : ∀ k, 2 ≤ (nodeP lf ks.length ks vs cs k).size := by
    intro k
    induction k with
    | zero =>
      rw [nodeP, ByteArray.size_append, headB_size, vtB_size]
      have := (vtext_length ks.length).1
      omega
    | succ k ih => rw [nodeP, ByteArray.size_append, ByteArray.size_append]; omega
  exact mono _
def nodeT (lf : Bool) (ks vs : List ByteArray) (cs : List Int) : ByteArray := ⟨(sealL (nodeB lf ks vs cs).data.toList).toArray⟩
def nodeO (lf : Bool) (ks vs : List ByteArray) (cs : List Int) : ByteArray := if nodeOkB lf ks vs cs = true then nodeT lf ks vs cs else ⟨#[]⟩
end Go.Proofs.YtdbpbhemnnffeaaGreatDoor
