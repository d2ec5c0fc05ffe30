/-
  laws.FnExactFallDisk by contracts: it returns true at every disk, every list of flags and every int, where the program's FallDisk is as its contract says.
-/
import Derived.Test.YtjjjnloimpehbaaEnv
import Derived.Test.YtjjjnloimpehbaaDiskLaw
import Derived.Test.YtjjjnloimpehbaaBoolRow
namespace Go.Proofs.Ytjjjnloimpehbaa
open Go.RowKit

/-- a row of flags of our own that lies in B .. U - 1 -/
def IsBools (B U : Nat) (v : Value) (l : List Bool) (w : World) : Prop := w.ownsRow B 4 1 v l.length (bools l) ∧ ∀ k, v.ownBlock = some k → k < U

theorem held_bools {w : World} {B : Nat} {v : Value} {l : List Bool} (h : w.ownsRow B 4 1 v l.length (bools l)) : Held w B w.heap.size (IsBools B w.heap.size v l) := by
  refine ⟨fun a b _ _ hk hp => ⟨?_, hp.2⟩, Nat.le_refl _, h, fun k hk => (h.lt k hk).2⟩
  refine ⟨hp.1.1, ?_⟩
  rcases hp.1.2 with ⟨e, hn⟩ | ⟨g, cap, cur, e, hg, hh, rest⟩
  · exact Or.inl ⟨e, hn⟩
  · exact Or.inr ⟨g, cap, cur, e, hg, (hk g hg (hp.2 g (by rw [e]; rfl))).trans hh, rest⟩

theorem fall_len {left : List Bool} {torn : Int} {ps : List ByteArray} {ls : List (Int × ByteArray)} (h1 : ps.length ≤ 1048576) (h3 : ls.length ≤ 1048576) : (fallP left torn ps ls).length ≤ 1048576 ∧ (fallL ps ls).length ≤ 1048576 := by
  constructor
  · rw [fallP]
    split
    · rw [fallK_length]; exact h1
    · exact h1
  · rw [fallL]
    split
    · simp
    · exact h3

set_option maxHeartbeats 4000000 in
set_option maxRecDepth 100000 in
theorem lawFallDisk (v vb : Value) (ps : List ByteArray) (ls : List (Int × ByteArray)) (left : List Bool) (torn : Int) (bp : ps.length ≤ maxLen) (bq : ∀ s ∈ ps, s.size ≤ maxLen) (bl : ls.length ≤ maxLen) (bm : ∀ p ∈ ls, p.2.size ≤ maxLen) (bb : left.length ≤ maxLen)
    (hI : bulkS ps + bulkP ls ≤ 1048576 → left.length ≤ 1048576 → ∀ u ub wx, DiskAt wx u ps ls → RowAt wx 1 ub left.length (bools left) → Calls Try.prog 21 #[u, ub, .int .i64 torn] wx fun e w' => ∃ v', e = .returned v' ∧ DiskOwn w' wx.heap.size v' (fallP left torn ps ls) (fallL ps ls) ∧ Below wx.heap.size wx w') (w : World) (hd : DiskAt w v ps ls) (hvb : RowAt w 1 vb left.length (bools left)) :
    Calls Try.prog 11 #[v, vb, .int .i64 torn] w fun e w' => e = .returned (.bool true) ∧ Below w.heap.size w w' := by
  have HSz := hide (fun wx h => szDisk_any v ps ls bp bq bl bm 1048576 (Nat.le_refl _) wx h)
  clear bp bq bl bm
  unfold maxLen at bb
  have HD := hide hd
  have HVb := hide hvb
  obtain ⟨vp, vl, rfl, -, -⟩ := hd
  obtain ⟨xb, cb, rfl⟩ : ∃ a cap, vb = .slice a left.length cap := by obtain ⟨-, a, cap, e, -⟩ := hvb; exact ⟨a, cap, e⟩
  clear hvb
  obtain ⟨w0, hw0⟩ : ∃ w0, w0 = w.alloc (Obj.cells #[vp, vl] 50) := ⟨_, rfl⟩
  have HB_w0 : Hid (Below w.heap.size w w0) := hide (by rw [hw0]; exact (new_var w vp vl _).1)
  have Hbox_w0 : Hid (Held w0 w.heap.size (w.heap.size + 1) (IsVar w.heap.size vp vl 50)) := hide (by rw [hw0]; exact (new_var w vp vl _).2)
  by_cases htx1 : 1048576 < left.length
  · clear hI
    go_enter Try.func11, Try.ntmps11
    go_wp2_with fail
    rw [← hw0]
    go_ret
    exact ⟨rfl, HB_w0.out⟩
  have htx2 : left.length ≤ 1048576 := by omega
  by_cases hbk : bulkS ps + bulkP ls ≤ 1048576
  · obtain ⟨h1, h2, h3, h4⟩ := bulk_in hbk
    obtain ⟨r, hr⟩ : ∃ r : Nat, szOut 1048576 (bulkS ps + bulkP ls) = (r : Int) := ⟨_, szOut_yes hbk⟩
    rw [hr] at HSz
    have HTo := hide (fun wx h => toDisk_any (.agg #[vp, vl]) ps ls h1 h3 wx h)
    have HTb := hide (fun wx h => toBoolS_any left htx2 (.slice xb left.length cb) wx h)
    have HSp := hide (fun u ub wx h h' => specFallDisk_any u ub ps ls left torn h1 h3 htx2 h2 h4 wx h h')
    have HIm := hide (hI hbk htx2)
    clear hI
    obtain ⟨hrsl, hrll⟩ := fall_len (left := left) (torn := torn) h1 h3
    obtain ⟨rs, hrs⟩ : ∃ rs, rs = fallP left torn ps ls := ⟨_, rfl⟩
    obtain ⟨rl, hrl⟩ : ∃ rl, rl = fallL ps ls := ⟨_, rfl⟩
    rw [← hrs] at hrsl
    rw [← hrl] at hrll
    rw [← hrl, ← hrs] at HSp HIm
    have HEx := hide (fun u u' wx h h' => eqDisk_any u u' ps ps ls ls (by omega) (by omega) (by omega) (by omega) wx h h')
    have HEb := hide (fun u u' wx h h' => eqBoolS_row left left (by omega) (by omega) u u' wx h h')
    have HEr := hide (fun u u' wx h h' => eqDisk_any u u' rs rs rl rl (by omega) (by omega) (by omega) (by omega) wx h h')
    rw [decide_eq_true rfl] at HEx HEr HEb
    have HMx := hide (fun u B wx h => markDisk_any u ps ls B 1 h1 h3 (by omega) (by omega) wx h)
    have HMr := hide (fun u B wx h => markDisk_any u rs rl B 1 hrsl hrll (by omega) (by omega) wx h)
    have HHr := hide (fun u wx h => heldDisk_any u rs.length rl.length 1 hrsl hrll (by omega) (by omega) wx h)
    obtain ⟨kx, hkx⟩ : ∃ kx, kx = 1 + ps.length + ls.length * 2 := ⟨_, rfl⟩
    obtain ⟨kr, hkr⟩ : ∃ kr, kr = 1 + rs.length + rl.length * 2 := ⟨_, rfl⟩
    rw [← hkx] at HMx
    rw [← hkr] at HMr HHr
    have hkxl : kx ≤ 4000000 := by omega
    have hkrl : kr ≤ 4000000 := by omega
    have HMb := hide (fun u B wx h => markBoolS_row left htx2 u B kx (by omega) wx h)
    obtain ⟨kb, hkb⟩ : ∃ kb, kb = kx + left.length := ⟨_, rfl⟩
    rw [← hkb] at HMb
    have hkbl : kb ≤ 8000000 := by omega
    clear hbk h1 h2 h3 h4 hr hrs hrl hkx hkr hrsl hrll hkb
    go_enter Try.func11, Try.ntmps11
    go_wp2_with fail
    rw [← hw0]
    clear hw0
    refine (HSz.out _ (disk_below HD.out HB_w0.out)).mono ?_
    rintro e w1 ⟨rfl, hb⟩
    have Hbox_w1 := hide (held_below Hbox_w0.out hb)
    have HB_w1 : Hid (Below w.heap.size w w1) := hide (HB_w0.out.trans (hb.mono HB_w0.out.size))
    clear hb
    obtain ⟨cb0, cb1⟩ := held_cells Hbox_w1.out
    go_wp2_with fail
    clear cb0 cb1
    refine (HTo.out _ (disk_below HD.out HB_w1.out)).mono ?_
    rintro e w2 ⟨u2, rfl, hown2, hb⟩
    have Ht_w2 := hide (held_disk hown2)
    have Hbox_w2 := hide (held_below Hbox_w1.out hb)
    have HB_w2 : Hid (Below w.heap.size w w2) := hide (HB_w1.out.trans (hb.mono HB_w1.out.size))
    clear hb hown2
    go_wp2_with fail
    refine (HTb.out _ (row_below HVb.out HB_w2.out)).mono ?_
    rintro e w2b ⟨ub, rfl, hownb, hb⟩
    have Hbox_w2b := hide (held_below Hbox_w2.out hb)
    have Ht_w2b := hide (held_below Ht_w2.out hb)
    have HB_w2b : Hid (Below w.heap.size w w2b) := hide (HB_w2.out.trans (hb.mono HB_w2.out.size))
    have HOb := hide (row_of_own hownb)
    clear hb hownb
    go_wp2_with fail
    refine (HSp.out u2 ub _ (disk_of_own Ht_w2b.out.is.1) HOb.out).mono ?_
    rintro e w3 ⟨u3, rfl, hown, hb⟩
    have HZ3 : Hid (w2b.heap.size ≤ w3.heap.size) := hide hb.size
    have Hbox_w3 := hide (held_below Hbox_w2b.out hb)
    have HB_w3 : Hid (Below w.heap.size w w3) := hide (HB_w2b.out.trans (hb.mono HB_w2b.out.size))
    clear hb HOb
    have Hd4_w3 := hide (held_disk hown)
    obtain ⟨x4, c4, y4, d4, rfl⟩ := disk_form hown
    clear hown
    obtain ⟨g4, hg⟩ : ∃ g, g = w3.heap.size := ⟨_, rfl⟩
    obtain ⟨w4, hnw⟩ : ∃ wx, wx = w3.alloc (Obj.cells #[.slice x4 rs.length c4, .slice y4 rl.length d4] 27) := ⟨_, rfl⟩
    have hnv := new_var w3 (.slice x4 rs.length c4) (.slice y4 rl.length d4) 27
    rw [← hnw, ← hg] at hnv
    have hbv : Below w3.heap.size w3 w4 := by rw [← hg]; exact hnv.1
    have Hg4_w4 := hide hnv.2
    have Hgtg4 : Hid (w3.heap.size = g4) := hide hg.symm
    have Hbox_w4 := hide (held_below Hbox_w3.out hbv)
    have Hd4_w4 := hide (held_below Hd4_w3.out hbv)
    have HB_w4 : Hid (Below w.heap.size w w4) := hide (HB_w3.out.trans (hbv.mono HB_w3.out.size))
    clear hnv hbv
    obtain ⟨cb0, cb1⟩ := held_cells Hbox_w4.out
    rw [hnw] at cb0 cb1
    go_wp2_with fail
    rw [← hnw, ← hg]
    clear hnw hg cb0 cb1
    refine (HTo.out _ (disk_below HD.out HB_w4.out)).mono ?_
    rintro e w5 ⟨u5, rfl, hown, hb⟩
    have HZ5 : Hid (w4.heap.size ≤ w5.heap.size) := hide hb.size
    have Hbox_w5 := hide (held_below Hbox_w4.out hb)
    have Hd4_w5 := hide (held_below Hd4_w4.out hb)
    have Hg4_w5 := hide (held_below Hg4_w4.out hb)
    have HB_w5 : Hid (Below w.heap.size w w5) := hide (HB_w4.out.trans (hb.mono HB_w4.out.size))
    clear hb
    have Hd5_w5 := hide (held_disk hown)
    obtain ⟨x5, c5, y5, d5, rfl⟩ := disk_form hown
    clear hown
    obtain ⟨g5, hg⟩ : ∃ g, g = w5.heap.size := ⟨_, rfl⟩
    obtain ⟨w6, hnw⟩ : ∃ wx, wx = w5.alloc (Obj.cells #[.slice x5 ps.length c5, .slice y5 ls.length d5] 27) := ⟨_, rfl⟩
    have hnv := new_var w5 (.slice x5 ps.length c5) (.slice y5 ls.length d5) 27
    rw [← hnw, ← hg] at hnv
    have hbv : Below w5.heap.size w5 w6 := by rw [← hg]; exact hnv.1
    have Hg5_w6 := hide hnv.2
    have Hgtg5 : Hid (w5.heap.size = g5) := hide hg.symm
    have Hbox_w6 := hide (held_below Hbox_w5.out hbv)
    have Hd4_w6 := hide (held_below Hd4_w5.out hbv)
    have Hg4_w6 := hide (held_below Hg4_w5.out hbv)
    have Hd5_w6 := hide (held_below Hd5_w5.out hbv)
    have HB_w6 : Hid (Below w.heap.size w w6) := hide (HB_w5.out.trans (hbv.mono HB_w5.out.size))
    clear hnv hbv
    go_wp2_with fail
    rw [← hnw, ← hg]
    clear hnw hg 
    refine (HTb.out _ (row_below HVb.out HB_w6.out)).mono ?_
    rintro e w6b ⟨ux, rfl, hownb, hb⟩
    have HZ6 : Hid (w6.heap.size ≤ w6b.heap.size) := hide hb.size
    have Hbox_w6b := hide (held_below Hbox_w6.out hb)
    have Hd4_w6b := hide (held_below Hd4_w6.out hb)
    have Hg4_w6b := hide (held_below Hg4_w6.out hb)
    have Hd5_w6b := hide (held_below Hd5_w6.out hb)
    have Hg5_w6b := hide (held_below Hg5_w6.out hb)
    have HB_w6b : Hid (Below w.heap.size w w6b) := hide (HB_w6.out.trans (hb.mono HB_w6.out.size))
    have Hx_w6b := hide (held_bools hownb)
    obtain ⟨zb, eb, rfl⟩ := own_slice hownb
    clear hb hownb
    obtain ⟨cx0, cx1⟩ := held_cells Hg5_w6b.out
    go_wp2_with fail
    clear cx0 cx1
    refine (HIm.out _ _ _ (disk_of_own Hd5_w6b.out.is.1) (row_of_own Hx_w6b.out.is.1)).mono ?_
    rintro e w7 ⟨u7, rfl, hown, hb⟩
    have HZ7 : Hid (w6b.heap.size ≤ w7.heap.size) := hide hb.size
    have Hbox_w7 := hide (held_below Hbox_w6b.out hb)
    have Hd4_w7 := hide (held_below Hd4_w6b.out hb)
    have Hg4_w7 := hide (held_below Hg4_w6b.out hb)
    have Hd5_w7 := hide (held_below Hd5_w6b.out hb)
    have Hg5_w7 := hide (held_below Hg5_w6b.out hb)
    have Hx_w7 := hide (held_below Hx_w6b.out hb)
    have HB_w7 : Hid (Below w.heap.size w w7) := hide (HB_w6b.out.trans (hb.mono HB_w6b.out.size))
    clear hb
    have Hd6_w7 := hide (held_disk hown)
    obtain ⟨x6, c6, y6, d6, rfl⟩ := disk_form hown
    clear hown
    obtain ⟨g6, hg⟩ : ∃ g, g = w7.heap.size := ⟨_, rfl⟩
    obtain ⟨w8, hnw⟩ : ∃ wx, wx = w7.alloc (Obj.cells #[.slice x6 rs.length c6, .slice y6 rl.length d6] 27) := ⟨_, rfl⟩
    have hnv := new_var w7 (.slice x6 rs.length c6) (.slice y6 rl.length d6) 27
    rw [← hnw, ← hg] at hnv
    have hbv : Below w7.heap.size w7 w8 := by rw [← hg]; exact hnv.1
    have Hg6_w8 := hide hnv.2
    have Hgtg6 : Hid (w7.heap.size = g6) := hide hg.symm
    have Hbox_w8 := hide (held_below Hbox_w7.out hbv)
    have Hd4_w8 := hide (held_below Hd4_w7.out hbv)
    have Hg4_w8 := hide (held_below Hg4_w7.out hbv)
    have Hd5_w8 := hide (held_below Hd5_w7.out hbv)
    have Hg5_w8 := hide (held_below Hg5_w7.out hbv)
    have Hx_w8 := hide (held_below Hx_w7.out hbv)
    have Hd6_w8 := hide (held_below Hd6_w7.out hbv)
    have HB_w8 : Hid (Below w.heap.size w w8) := hide (HB_w7.out.trans (hbv.mono HB_w7.out.size))
    clear hnv hbv
    obtain ⟨ck0, ck1⟩ := held_cells Hg4_w8.out
    rw [hnw] at ck0 ck1
    go_wp2_with fail
    rw [← hnw, ← hg]
    clear hnw hg ck0 ck1
    refine (HEr.out _ _ _ (disk_of_own Hd6_w8.out.is.1) (disk_of_own Hd4_w8.out.is.1)).mono ?_
    rintro e w9 ⟨rfl, hb⟩
    have Hbox_w9 := hide (held_below Hbox_w8.out hb)
    have Hd4_w9 := hide (held_below Hd4_w8.out hb)
    have Hg4_w9 := hide (held_below Hg4_w8.out hb)
    have Hd5_w9 := hide (held_below Hd5_w8.out hb)
    have Hg5_w9 := hide (held_below Hg5_w8.out hb)
    have Hx_w9 := hide (held_below Hx_w8.out hb)
    have Hd6_w9 := hide (held_below Hd6_w8.out hb)
    have Hg6_w9 := hide (held_below Hg6_w8.out hb)
    have HB_w9 : Hid (Below w.heap.size w w9) := hide (HB_w8.out.trans (hb.mono HB_w8.out.size))
    clear hb
    obtain ⟨cb0, cb1⟩ := held_cells Hbox_w9.out
    obtain ⟨cx0, cx1⟩ := held_cells Hg5_w9.out
    go_wp2_with fail
    have hltb : w.heap.size < w9.heap.size := Hbox_w9.out.le
    have hltx : g5 < w9.heap.size := Hg5_w9.out.le
    go_region_held3 (fun wx => wx.cell? ⟨w.heap.size, 0, none⟩ = some vp ∧ wx.cell? ⟨w.heap.size, 1, none⟩ = some vl ∧ wx.cell? ⟨g5, 0, none⟩ = some (.slice x5 ps.length c5) ∧ wx.cell? ⟨g5, 1, none⟩ = some (.slice y5 ls.length d5)) (first | exact ⟨cb0, cb1, cx0, cx1⟩ | exact hS8 | exact hS9) (first | (go_at_call 34; refine (HTo.out _ ?_).mono ?_; exact disk_below HD.out HB_w9.out.drew; rintro e w10 ⟨u10, rfl, hown, hbA⟩; have hS8 : w10.cell? ⟨w.heap.size, 0, none⟩ = some vp ∧ w10.cell? ⟨w.heap.size, 1, none⟩ = some vl ∧ w10.cell? ⟨g5, 0, none⟩ = some (.slice x5 ps.length c5) ∧ w10.cell? ⟨g5, 1, none⟩ = some (.slice y5 ls.length d5) := ⟨(hbA.cell (by exact hltb)).trans cb0, (hbA.cell (by exact hltb)).trans cb1, (hbA.cell (by exact hltx)).trans cx0, (hbA.cell (by exact hltx)).trans cx1⟩) | (go_at_call 30; refine (HEx.out _ _ _ ?_ ?_).mono ?_; exact disk_below (disk_drew (disk_of_own Hd5_w9.out.is.1)) hbA; exact disk_of_own hown; rintro e w11 ⟨rfl, hbC⟩; have hS9 : w11.cell? ⟨w.heap.size, 0, none⟩ = some vp ∧ w11.cell? ⟨w.heap.size, 1, none⟩ = some vl ∧ w11.cell? ⟨g5, 0, none⟩ = some (.slice x5 ps.length c5) ∧ w11.cell? ⟨g5, 1, none⟩ = some (.slice y5 ls.length d5) := ⟨(hbC.cell (by exact Nat.lt_of_lt_of_le hltb hbA.size)).trans hS8.1, (hbC.cell (by exact Nat.lt_of_lt_of_le hltb hbA.size)).trans hS8.2.1, (hbC.cell (by exact Nat.lt_of_lt_of_le hltx hbA.size)).trans hS8.2.2.1, (hbC.cell (by exact Nat.lt_of_lt_of_le hltx hbA.size)).trans hS8.2.2.2⟩))
    have hb : Below w9.heap.size w9 w11 := ((Below.refl _ _).drew.trans hbA).trans (hbC.mono hbA.size)
    have Hbox_w11 := hide (held_below Hbox_w9.out hb)
    have Hd4_w11 := hide (held_below Hd4_w9.out hb)
    have Hg4_w11 := hide (held_below Hg4_w9.out hb)
    have Hd5_w11 := hide (held_below Hd5_w9.out hb)
    have Hg5_w11 := hide (held_below Hg5_w9.out hb)
    have Hx_w11 := hide (held_below Hx_w9.out hb)
    have Hd6_w11 := hide (held_below Hd6_w9.out hb)
    have Hg6_w11 := hide (held_below Hg6_w9.out hb)
    have HB_w11 : Hid (Below w.heap.size w w11) := hide (HB_w9.out.trans (hb.mono HB_w9.out.size))
    clear hb hbA hbC hown hltb hltx cb0 cb1 cx0 cx1
    go_wp2_with fail
    refine (HTb.out _ (row_below HVb.out HB_w11.out)).mono ?_
    rintro e w11b ⟨uy, rfl, hownb, hb⟩
    have Hbox_w11b := hide (held_below Hbox_w11.out hb)
    have Hd4_w11b := hide (held_below Hd4_w11.out hb)
    have Hg4_w11b := hide (held_below Hg4_w11.out hb)
    have Hd5_w11b := hide (held_below Hd5_w11.out hb)
    have Hg5_w11b := hide (held_below Hg5_w11.out hb)
    have Hx_w11b := hide (held_below Hx_w11.out hb)
    have Hd6_w11b := hide (held_below Hd6_w11.out hb)
    have Hg6_w11b := hide (held_below Hg6_w11.out hb)
    have HB_w11b : Hid (Below w.heap.size w w11b) := hide (HB_w11.out.trans (hb.mono HB_w11.out.size))
    have HOb := hide (row_of_own hownb)
    clear hb hownb
    go_wp2_with fail
    refine (HEb.out _ _ _ (row_of_own Hx_w11b.out.is.1) HOb.out).mono ?_
    rintro e w11c ⟨rfl, hb⟩
    have Hbox_w11c := hide (held_below Hbox_w11b.out hb)
    have Hd4_w11c := hide (held_below Hd4_w11b.out hb)
    have Hg4_w11c := hide (held_below Hg4_w11b.out hb)
    have Hd5_w11c := hide (held_below Hd5_w11b.out hb)
    have Hg5_w11c := hide (held_below Hg5_w11b.out hb)
    have Hx_w11c := hide (held_below Hx_w11b.out hb)
    have Hd6_w11c := hide (held_below Hd6_w11b.out hb)
    have Hg6_w11c := hide (held_below Hg6_w11b.out hb)
    have HB_w11c : Hid (Below w.heap.size w w11c) := hide (HB_w11b.out.trans (hb.mono HB_w11b.out.size))
    clear hb HOb
    have HL : Hid (w.heap.size + 1 ≤ w2b.heap.size ∧ w2b.heap.size ≤ w3.heap.size ∧ w3.heap.size = g4 ∧ g4 + 1 ≤ w4.heap.size ∧ w4.heap.size ≤ w5.heap.size ∧ w5.heap.size = g5 ∧ g5 + 1 ≤ w6.heap.size ∧ w6.heap.size ≤ w6b.heap.size ∧ w6b.heap.size ≤ w7.heap.size ∧ w7.heap.size = g6) := hide ⟨Hbox_w2b.out.le, HZ3.out, Hgtg4.out, Hg4_w4.out.le, HZ5.out, Hgtg5.out, Hg5_w6.out.le, HZ6.out, HZ7.out, Hgtg6.out⟩
    obtain ⟨cx0, cx1⟩ := held_cells Hg5_w11c.out
    go_wp2_with fail
    clear cx0 cx1
    have hin5 : ∀ k, diskBlocks (.agg #[.slice x5 ps.length c5, .slice y5 ls.length d5]) k → w4.heap.size ≤ k ∧ k < w5.heap.size := fun k h => ⟨(diskOwn_lt Hd5_w11c.out.is.1 k h).1, Hd5_w11c.out.is.2 k h⟩
    refine (HMx.out _ _ _ Hd5_w11c.out.is.1).mono ?_
    rintro e w12 ⟨rfl, hownM, hk⟩
    have Hbox_w12 := hide (held_kept Hbox_w11c.out hk (fun k h1 h2 h => by have h3 := hin5 k h; have h4 := HL.out; omega))
    have Hd4_w12 := hide (held_kept Hd4_w11c.out hk (fun k h1 h2 h => by have h3 := hin5 k h; have h4 := HL.out; omega))
    have Hg4_w12 := hide (held_kept Hg4_w11c.out hk (fun k h1 h2 h => by have h3 := hin5 k h; have h4 := HL.out; omega))
    have Hg5_w12 := hide (held_kept Hg5_w11c.out hk (fun k h1 h2 h => by have h3 := hin5 k h; have h4 := HL.out; omega))
    have Hx_w12 := hide (held_kept Hx_w11c.out hk (fun k h1 h2 h => by have h3 := hin5 k h; have h4 := HL.out; omega))
    have Hd6_w12 := hide (held_kept Hd6_w11c.out hk (fun k h1 h2 h => by have h3 := hin5 k h; have h4 := HL.out; omega))
    have Hg6_w12 := hide (held_kept Hg6_w11c.out hk (fun k h1 h2 h => by have h3 := hin5 k h; have h4 := HL.out; omega))
    have HB_w12 : Hid (Below w.heap.size w w12) := hide (HB_w11c.out.trans (below_of_kept hk HB_w11c.out.size (fun k h => by have h3 := hin5 k h; have h4 := HL.out; omega)))
    clear hk hownM hin5
    go_wp2_with fail
    have hinx : ∀ k, (Value.slice zb left.length eb).ownBlock = some k → w6.heap.size ≤ k ∧ k < w6b.heap.size := fun k h => ⟨(Hx_w12.out.is.1.lt k h).1, Hx_w12.out.is.2 k h⟩
    refine (HMb.out _ _ _ Hx_w12.out.is.1).mono ?_
    rintro e w12b ⟨rfl, hk⟩
    have Hbox_w12b := hide (held_kept Hbox_w12.out hk (fun k h1 h2 h => by have h3 := hinx k h; have h4 := HL.out; omega))
    have Hd4_w12b := hide (held_kept Hd4_w12.out hk (fun k h1 h2 h => by have h3 := hinx k h; have h4 := HL.out; omega))
    have Hg4_w12b := hide (held_kept Hg4_w12.out hk (fun k h1 h2 h => by have h3 := hinx k h; have h4 := HL.out; omega))
    have Hg5_w12b := hide (held_kept Hg5_w12.out hk (fun k h1 h2 h => by have h3 := hinx k h; have h4 := HL.out; omega))
    have Hd6_w12b := hide (held_kept Hd6_w12.out hk (fun k h1 h2 h => by have h3 := hinx k h; have h4 := HL.out; omega))
    have Hg6_w12b := hide (held_kept Hg6_w12.out hk (fun k h1 h2 h => by have h3 := hinx k h; have h4 := HL.out; omega))
    have HB_w12b : Hid (Below w.heap.size w w12b) := hide (HB_w12.out.trans (below_of_kept hk HB_w12.out.size (fun k h => by have h3 := hinx k h; have h4 := HL.out; omega)))
    clear hk hinx
    obtain ⟨cg0, cg1⟩ := held_cells Hg6_w12b.out
    obtain ⟨ck0, ck1⟩ := held_cells Hg4_w12b.out
    go_wp2_with fail
    clear cg0 cg1 ck0 ck1
    refine (HEr.out _ _ _ (disk_of_own Hd6_w12b.out.is.1) (disk_of_own Hd4_w12b.out.is.1)).mono ?_
    rintro e w13 ⟨rfl, hb⟩
    have Hbox_w13 := hide (held_below Hbox_w12b.out hb)
    have Hd4_w13 := hide (held_below Hd4_w12b.out hb)
    have Hg4_w13 := hide (held_below Hg4_w12b.out hb)
    have Hg5_w13 := hide (held_below Hg5_w12b.out hb)
    have Hd6_w13 := hide (held_below Hd6_w12b.out hb)
    have Hg6_w13 := hide (held_below Hg6_w12b.out hb)
    have HB_w13 : Hid (Below w.heap.size w w13) := hide (HB_w12b.out.trans (hb.mono HB_w12b.out.size))
    clear hb
    obtain ⟨cg0, cg1⟩ := held_cells Hg6_w13.out
    go_wp2_with fail
    clear cg0 cg1
    have hin6 : ∀ k, diskBlocks (.agg #[.slice x6 rs.length c6, .slice y6 rl.length d6]) k → w6b.heap.size ≤ k ∧ k < w7.heap.size := fun k h => ⟨(diskOwn_lt Hd6_w13.out.is.1 k h).1, Hd6_w13.out.is.2 k h⟩
    refine (HMr.out _ _ _ Hd6_w13.out.is.1).mono ?_
    rintro e w14 ⟨rfl, hownM, hk⟩
    have HdM_w14 := hide (held_again Hd6_w13.out hownM hk.2.2.2.1)
    have Hbox_w14 := hide (held_kept Hbox_w13.out hk (fun k h1 h2 h => by have h3 := hin6 k h; have h4 := HL.out; omega))
    have Hd4_w14 := hide (held_kept Hd4_w13.out hk (fun k h1 h2 h => by have h3 := hin6 k h; have h4 := HL.out; omega))
    have Hg4_w14 := hide (held_kept Hg4_w13.out hk (fun k h1 h2 h => by have h3 := hin6 k h; have h4 := HL.out; omega))
    have Hg5_w14 := hide (held_kept Hg5_w13.out hk (fun k h1 h2 h => by have h3 := hin6 k h; have h4 := HL.out; omega))
    have Hg6_w14 := hide (held_kept Hg6_w13.out hk (fun k h1 h2 h => by have h3 := hin6 k h; have h4 := HL.out; omega))
    have HB_w14 : Hid (Below w.heap.size w w14) := hide (HB_w13.out.trans (below_of_kept hk HB_w13.out.size (fun k h => by have h3 := hin6 k h; have h4 := HL.out; omega)))
    clear hk hownM hin6
    obtain ⟨cg0, cg1⟩ := held_cells Hg6_w14.out
    go_wp2_with fail
    clear cg0 cg1
    refine (HHr.out _ _ (disk_of_own HdM_w14.out.is.1)).mono ?_
    rintro e w15 ⟨rfl, hb⟩
    have Hbox_w15 := hide (held_below Hbox_w14.out hb)
    have Hd4_w15 := hide (held_below Hd4_w14.out hb)
    have Hg4_w15 := hide (held_below Hg4_w14.out hb)
    have Hg5_w15 := hide (held_below Hg5_w14.out hb)
    have Hg6_w15 := hide (held_below Hg6_w14.out hb)
    have HdM_w15 := hide (held_below HdM_w14.out hb)
    have HB_w15 : Hid (Below w.heap.size w w15) := hide (HB_w14.out.trans (hb.mono HB_w14.out.size))
    clear hb
    obtain ⟨cb0, cb1⟩ := held_cells Hbox_w15.out
    go_wp2_with fail
    clear cb0 cb1
    refine (HTo.out _ (disk_below HD.out HB_w15.out)).mono ?_
    rintro e w16 ⟨u16, rfl, hown, hb⟩
    have Hbox_w16 := hide (held_below Hbox_w15.out hb)
    have Hd4_w16 := hide (held_below Hd4_w15.out hb)
    have Hg4_w16 := hide (held_below Hg4_w15.out hb)
    have Hg5_w16 := hide (held_below Hg5_w15.out hb)
    have Hg6_w16 := hide (held_below Hg6_w15.out hb)
    have HdM_w16 := hide (held_below HdM_w15.out hb)
    have HB_w16 : Hid (Below w.heap.size w w16) := hide (HB_w15.out.trans (hb.mono HB_w15.out.size))
    have Ht_w16 := hide (held_disk hown)
    clear hb hown
    go_wp2_with fail
    refine (HTb.out _ (row_below HVb.out HB_w16.out)).mono ?_
    rintro e w16b ⟨uz, rfl, hownb, hb⟩
    have Hbox_w16b := hide (held_below Hbox_w16.out hb)
    have Hd4_w16b := hide (held_below Hd4_w16.out hb)
    have Hg4_w16b := hide (held_below Hg4_w16.out hb)
    have Hg5_w16b := hide (held_below Hg5_w16.out hb)
    have Hg6_w16b := hide (held_below Hg6_w16.out hb)
    have HdM_w16b := hide (held_below HdM_w16.out hb)
    have Ht_w16b := hide (held_below Ht_w16.out hb)
    have HB_w16b : Hid (Below w.heap.size w w16b) := hide (HB_w16.out.trans (hb.mono HB_w16.out.size))
    have HOb := hide (row_of_own hownb)
    clear hb hownb
    go_wp2_with fail
    refine (HIm.out _ _ _ (disk_of_own Ht_w16b.out.is.1) HOb.out).mono ?_
    rintro e w17 ⟨u17, rfl, hown, hb⟩
    have Hbox_w17 := hide (held_below Hbox_w16b.out hb)
    have Hd4_w17 := hide (held_below Hd4_w16b.out hb)
    have Hg4_w17 := hide (held_below Hg4_w16b.out hb)
    have Hg5_w17 := hide (held_below Hg5_w16b.out hb)
    have Hg6_w17 := hide (held_below Hg6_w16b.out hb)
    have HdM_w17 := hide (held_below HdM_w16b.out hb)
    have HB_w17 : Hid (Below w.heap.size w w17) := hide (HB_w16b.out.trans (hb.mono HB_w16b.out.size))
    clear hb HOb
    have Hd10_w17 := hide (held_disk hown)
    obtain ⟨x10, c10, y10, d10, rfl⟩ := disk_form hown
    clear hown
    obtain ⟨g10, hg⟩ : ∃ g, g = w17.heap.size := ⟨_, rfl⟩
    obtain ⟨w18, hnw⟩ : ∃ wx, wx = w17.alloc (Obj.cells #[.slice x10 rs.length c10, .slice y10 rl.length d10] 27) := ⟨_, rfl⟩
    have hnv := new_var w17 (.slice x10 rs.length c10) (.slice y10 rl.length d10) 27
    rw [← hnw, ← hg] at hnv
    have hbv : Below w17.heap.size w17 w18 := by rw [← hg]; exact hnv.1
    have Hg10_w18 := hide hnv.2
    have Hgtg10 : Hid (w17.heap.size = g10) := hide hg.symm
    have Hbox_w18 := hide (held_below Hbox_w17.out hbv)
    have Hd4_w18 := hide (held_below Hd4_w17.out hbv)
    have Hg4_w18 := hide (held_below Hg4_w17.out hbv)
    have Hg5_w18 := hide (held_below Hg5_w17.out hbv)
    have Hg6_w18 := hide (held_below Hg6_w17.out hbv)
    have HdM_w18 := hide (held_below HdM_w17.out hbv)
    have Hd10_w18 := hide (held_below Hd10_w17.out hbv)
    have HB_w18 : Hid (Below w.heap.size w w18) := hide (HB_w17.out.trans (hbv.mono HB_w17.out.size))
    clear hnv hbv
    obtain ⟨ck0, ck1⟩ := held_cells Hg4_w18.out
    rw [hnw] at ck0 ck1
    go_wp2_with fail
    rw [← hnw, ← hg]
    clear hnw hg ck0 ck1
    refine (HEr.out _ _ _ (disk_of_own Hd10_w18.out.is.1) (disk_of_own Hd4_w18.out.is.1)).mono ?_
    rintro e w19 ⟨rfl, hb⟩
    have Hbox_w19 := hide (held_below Hbox_w18.out hb)
    have Hd4_w19 := hide (held_below Hd4_w18.out hb)
    have Hg4_w19 := hide (held_below Hg4_w18.out hb)
    have Hg5_w19 := hide (held_below Hg5_w18.out hb)
    have Hg6_w19 := hide (held_below Hg6_w18.out hb)
    have HdM_w19 := hide (held_below HdM_w18.out hb)
    have Hd10_w19 := hide (held_below Hd10_w18.out hb)
    have Hg10_w19 := hide (held_below Hg10_w18.out hb)
    have HB_w19 : Hid (Below w.heap.size w w19) := hide (HB_w18.out.trans (hb.mono HB_w18.out.size))
    clear hb
    obtain ⟨cg0, cg1⟩ := held_cells Hg6_w19.out
    go_wp2_with fail
    clear cg0 cg1
    refine (HHr.out _ _ (disk_of_own HdM_w19.out.is.1)).mono ?_
    rintro e w20 ⟨rfl, hb⟩
    have Hbox_w20 := hide (held_below Hbox_w19.out hb)
    have Hd4_w20 := hide (held_below Hd4_w19.out hb)
    have Hg4_w20 := hide (held_below Hg4_w19.out hb)
    have Hg5_w20 := hide (held_below Hg5_w19.out hb)
    have Hg6_w20 := hide (held_below Hg6_w19.out hb)
    have HdM_w20 := hide (held_below HdM_w19.out hb)
    have Hd10_w20 := hide (held_below Hd10_w19.out hb)
    have Hg10_w20 := hide (held_below Hg10_w19.out hb)
    have HB_w20 : Hid (Below w.heap.size w w20) := hide (HB_w19.out.trans (hb.mono HB_w19.out.size))
    clear hb
    go_wp2_with fail
    go_ret
    exact ⟨rfl, HB_w20.out⟩
  · rw [szOut_no (by omega)] at HSz
    clear hI
    go_enter Try.func11, Try.ntmps11
    go_wp2_with fail
    rw [← hw0]
    refine (HSz.out _ (disk_below HD.out HB_w0.out)).mono ?_
    rintro e w1 ⟨rfl, hb1⟩
    clear hw0
    go_wp2_with fail
    go_ret
    exact ⟨rfl, HB_w0.out.trans (hb1.mono HB_w0.out.size)⟩
end Go.Proofs.Ytjjjnloimpehbaa
