/-
  laws.FnExactFormat by contracts: it returns true at every int, given the specification's and the program's contracts (turned out of DiskLawNew).
-/
import Derived.Test.YtbokjfjdjgopeaaDoorDiskRetN
namespace Go.Proofs.YtbokjfjdjgopeaaDoor
open Go.RowKit

set_option maxHeartbeats 4000000 in
set_option maxRecDepth 100000 in
theorem lawFormat (n : Int) (rs : List ByteArray) (rl : List (Int × ByteArray)) (fl : Bool) (hrsl : rs.length ≤ 1048576) (hrll : rl.length ≤ 1048576) (T : World → Prop) (hTb : ∀ wx wy, T wx → Below wx.heap.size wx wy → T wy)
    (hS : ∀ wx, Calls Tryd.prog 4 #[.int .i64 n] wx fun e w' => ∃ v', e = .returned (.tuple #[v', .bool fl]) ∧ DiskOwn w' wx.heap.size v' rs rl ∧ Below wx.heap.size wx w')
    (hI : ∀ wx, T wx → Calls Tryd.prog 5 #[.int .i64 n] wx fun e w' => ∃ v', e = .returned (.tuple #[v', .bool fl]) ∧ DiskOwn w' wx.heap.size v' rs rl ∧ Below wx.heap.size wx w') (w : World) (hT : T w) :
    Calls Tryd.prog 3 #[.int .i64 n] w fun e w' => e = .returned (.bool true) ∧ Below w.heap.size w w' := by
  have HSp := hide hS
  have HIm := hide hI
  have HTb : Hid (∀ wy, Below w.heap.size w wy → T wy) := hide (fun wy h => hTb w wy hT h)
  clear hI hS hTb hT
  have HEr := hide (fun u u' wx h h' => eqDisk_any u u' rs rs rl rl (by omega) (by omega) (by omega) (by omega) wx h h')
  rw [decide_eq_true rfl] at HEr
  have HMr := hide (fun u B wx h => markDisk_any u rs rl B 1 hrsl hrll (by omega) (by omega) wx h)
  have HHr := hide (fun u wx h => heldDisk_any u rs.length rl.length 1 hrsl hrll (by omega) (by omega) wx h)
  obtain ⟨kr, hkr⟩ : ∃ kr, kr = 1 + rs.length + rl.length * 2 := ⟨_, rfl⟩
  rw [← hkr] at HMr HHr
  have hkrl : kr ≤ 4000000 := by omega
  have df : (fl != fl) = false := by cases fl <;> rfl
  clear hkr hrsl hrll
  have HB_w : Hid (Below w.heap.size w w) := hide (Below.refl _ _)
  go_enter Tryd.func3, Tryd.ntmps3
  go_wp2_with fail
  refine (HSp.out _).mono ?_
  rintro e w3 ⟨u3, rfl, hown, hb⟩
  have HZ3 : Hid (w.heap.size ≤ w3.heap.size) := hide hb.size
  have HB_w3 : Hid (Below w.heap.size w w3) := hide (HB_w.out.trans (hb.mono HB_w.out.size))
  clear hb
  have Hd4_w3 := hide (held_disk hown)
  obtain ⟨x4, c4, y4, d4, rfl⟩ := disk_form hown
  clear hown
  obtain ⟨g4, hg⟩ : ∃ g, g = w3.heap.size := ⟨_, rfl⟩
  obtain ⟨w4, hnw⟩ : ∃ wx, wx = w3.alloc (Obj.cells #[.slice x4 rs.length c4, .slice y4 rl.length d4] 25) := ⟨_, rfl⟩
  have hnv := new_var w3 (.slice x4 rs.length c4) (.slice y4 rl.length d4) 25
  rw [← hnw, ← hg] at hnv
  have hbv : Below w3.heap.size w3 w4 := by rw [← hg]; exact hnv.1
  have Hg4_w4 := hide hnv.2
  have Hgtg4 : Hid (w3.heap.size = g4) := hide hg.symm
  have Hd4_w4 := hide (held_below Hd4_w3.out hbv)
  have HB_w4 : Hid (Below w.heap.size w w4) := hide (HB_w3.out.trans (hbv.mono HB_w3.out.size))
  clear hnv hbv
  go_wp2_with fail
  rw [← hnw, ← hg]
  clear hnw hg 
  refine (HIm.out _ (HTb.out _ HB_w4.out)).mono ?_
  rintro e w7 ⟨u7, rfl, hown, hb⟩
  have HZ7 : Hid (w4.heap.size ≤ w7.heap.size) := hide hb.size
  have Hd4_w7 := hide (held_below Hd4_w4.out hb)
  have Hg4_w7 := hide (held_below Hg4_w4.out hb)
  have HB_w7 : Hid (Below w.heap.size w w7) := hide (HB_w4.out.trans (hb.mono HB_w4.out.size))
  clear hb
  have Hd6_w7 := hide (held_disk hown)
  obtain ⟨x6, c6, y6, d6, rfl⟩ := disk_form hown
  clear hown
  obtain ⟨g6, hg⟩ : ∃ g, g = w7.heap.size := ⟨_, rfl⟩
  obtain ⟨w8, hnw⟩ : ∃ wx, wx = w7.alloc (Obj.cells #[.slice x6 rs.length c6, .slice y6 rl.length d6] 25) := ⟨_, rfl⟩
  have hnv := new_var w7 (.slice x6 rs.length c6) (.slice y6 rl.length d6) 25
  rw [← hnw, ← hg] at hnv
  have hbv : Below w7.heap.size w7 w8 := by rw [← hg]; exact hnv.1
  have Hg6_w8 := hide hnv.2
  have Hgtg6 : Hid (w7.heap.size = g6) := hide hg.symm
  have Hd4_w8 := hide (held_below Hd4_w7.out hbv)
  have Hg4_w8 := hide (held_below Hg4_w7.out hbv)
  have Hd6_w8 := hide (held_below Hd6_w7.out hbv)
  have HB_w8 : Hid (Below w.heap.size w w8) := hide (HB_w7.out.trans (hbv.mono HB_w7.out.size))
  clear hnv hbv
  obtain ⟨ck0, ck1⟩ := held_cells Hg4_w8.out
  rw [hnw] at ck0 ck1
  go_wp2_with fail
  rw [← hnw, ← hg]
  clear hnw hg ck0 ck1
  refine (HEr.out _ _ _ (disk_of_own Hd6_w8.out.is.1) (disk_of_own Hd4_w8.out.is.1)).mono ?_
  rintro e w13 ⟨rfl, hb⟩
  have Hd4_w13 := hide (held_below Hd4_w8.out hb)
  have Hg4_w13 := hide (held_below Hg4_w8.out hb)
  have Hd6_w13 := hide (held_below Hd6_w8.out hb)
  have Hg6_w13 := hide (held_below Hg6_w8.out hb)
  have HB_w13 : Hid (Below w.heap.size w w13) := hide (HB_w8.out.trans (hb.mono HB_w8.out.size))
  clear hb
  have HL : Hid (w.heap.size ≤ w3.heap.size ∧ w3.heap.size = g4 ∧ g4 + 1 ≤ w4.heap.size ∧ w4.heap.size ≤ w7.heap.size ∧ w7.heap.size = g6) := hide ⟨HZ3.out, Hgtg4.out, Hg4_w4.out.le, HZ7.out, Hgtg6.out⟩
  obtain ⟨cg0, cg1⟩ := held_cells Hg6_w13.out
  go_wp2_with fail
  clear cg0 cg1
  have hin6 : ∀ k, diskBlocks (.agg #[.slice x6 rs.length c6, .slice y6 rl.length d6]) k → w4.heap.size ≤ k ∧ k < w7.heap.size := fun k h => ⟨(diskOwn_lt Hd6_w13.out.is.1 k h).1, Hd6_w13.out.is.2 k h⟩
  refine (HMr.out _ _ _ Hd6_w13.out.is.1).mono ?_
  rintro e w14 ⟨rfl, hownM, hk⟩
  have HdM_w14 := hide (held_again Hd6_w13.out hownM hk.2.2.2.1)
  have Hd4_w14 := hide (held_kept Hd4_w13.out hk (fun k h1 h2 h => by have h3 := hin6 k h; have h4 := HL.out; omega))
  have Hg4_w14 := hide (held_kept Hg4_w13.out hk (fun k h1 h2 h => by have h3 := hin6 k h; have h4 := HL.out; omega))
  have Hg6_w14 := hide (held_kept Hg6_w13.out hk (fun k h1 h2 h => by have h3 := hin6 k h; have h4 := HL.out; omega))
  have HB_w14 : Hid (Below w.heap.size w w14) := hide (HB_w13.out.trans (below_of_kept hk HB_w13.out.size (fun k h => by have h3 := hin6 k h; have h4 := HL.out; omega)))
  clear hk hownM hin6
  obtain ⟨cg0, cg1⟩ := held_cells Hg6_w14.out
  go_wp2_with fail
  clear cg0 cg1
  refine (HHr.out _ _ (disk_of_own HdM_w14.out.is.1)).mono ?_
  rintro e w15 ⟨rfl, hb⟩
  have Hd4_w15 := hide (held_below Hd4_w14.out hb)
  have Hg4_w15 := hide (held_below Hg4_w14.out hb)
  have Hg6_w15 := hide (held_below Hg6_w14.out hb)
  have HdM_w15 := hide (held_below HdM_w14.out hb)
  have HB_w15 : Hid (Below w.heap.size w w15) := hide (HB_w14.out.trans (hb.mono HB_w14.out.size))
  clear hb
  go_wp2_with fail
  refine (HIm.out _ (HTb.out _ HB_w15.out)).mono ?_
  rintro e w17 ⟨u17, rfl, hown, hb⟩
  have Hd4_w17 := hide (held_below Hd4_w15.out hb)
  have Hg4_w17 := hide (held_below Hg4_w15.out hb)
  have Hg6_w17 := hide (held_below Hg6_w15.out hb)
  have HdM_w17 := hide (held_below HdM_w15.out hb)
  have HB_w17 : Hid (Below w.heap.size w w17) := hide (HB_w15.out.trans (hb.mono HB_w15.out.size))
  clear hb
  have Hd10_w17 := hide (held_disk hown)
  obtain ⟨x10, c10, y10, d10, rfl⟩ := disk_form hown
  clear hown
  obtain ⟨g10, hg⟩ : ∃ g, g = w17.heap.size := ⟨_, rfl⟩
  obtain ⟨w18, hnw⟩ : ∃ wx, wx = w17.alloc (Obj.cells #[.slice x10 rs.length c10, .slice y10 rl.length d10] 25) := ⟨_, rfl⟩
  have hnv := new_var w17 (.slice x10 rs.length c10) (.slice y10 rl.length d10) 25
  rw [← hnw, ← hg] at hnv
  have hbv : Below w17.heap.size w17 w18 := by rw [← hg]; exact hnv.1
  have Hg10_w18 := hide hnv.2
  have Hgtg10 : Hid (w17.heap.size = g10) := hide hg.symm
  have Hd4_w18 := hide (held_below Hd4_w17.out hbv)
  have Hg4_w18 := hide (held_below Hg4_w17.out hbv)
  have Hg6_w18 := hide (held_below Hg6_w17.out hbv)
  have HdM_w18 := hide (held_below HdM_w17.out hbv)
  have Hd10_w18 := hide (held_below Hd10_w17.out hbv)
  have HB_w18 : Hid (Below w.heap.size w w18) := hide (HB_w17.out.trans (hbv.mono HB_w17.out.size))
  clear hnv hbv
  obtain ⟨ck0, ck1⟩ := held_cells Hg4_w18.out
  rw [hnw] at ck0 ck1
  go_wp2_with fail
  rw [← hnw, ← hg]
  clear hnw hg ck0 ck1
  refine (HEr.out _ _ _ (disk_of_own Hd10_w18.out.is.1) (disk_of_own Hd4_w18.out.is.1)).mono ?_
  rintro e w19 ⟨rfl, hb⟩
  have Hd4_w19 := hide (held_below Hd4_w18.out hb)
  have Hg4_w19 := hide (held_below Hg4_w18.out hb)
  have Hg6_w19 := hide (held_below Hg6_w18.out hb)
  have HdM_w19 := hide (held_below HdM_w18.out hb)
  have Hd10_w19 := hide (held_below Hd10_w18.out hb)
  have Hg10_w19 := hide (held_below Hg10_w18.out hb)
  have HB_w19 : Hid (Below w.heap.size w w19) := hide (HB_w18.out.trans (hb.mono HB_w18.out.size))
  clear hb
  obtain ⟨cg0, cg1⟩ := held_cells Hg6_w19.out
  go_wp2_with fail
  clear cg0 cg1
  refine (HHr.out _ _ (disk_of_own HdM_w19.out.is.1)).mono ?_
  rintro e w20 ⟨rfl, hb⟩
  have Hd4_w20 := hide (held_below Hd4_w19.out hb)
  have Hg4_w20 := hide (held_below Hg4_w19.out hb)
  have Hg6_w20 := hide (held_below Hg6_w19.out hb)
  have HdM_w20 := hide (held_below HdM_w19.out hb)
  have Hd10_w20 := hide (held_below Hd10_w19.out hb)
  have Hg10_w20 := hide (held_below Hg10_w19.out hb)
  have HB_w20 : Hid (Below w.heap.size w w20) := hide (HB_w19.out.trans (hb.mono HB_w19.out.size))
  clear hb
  go_wp2_with fail
  go_ret
  exact ⟨rfl, HB_w20.out⟩
end Go.Proofs.YtbokjfjdjgopeaaDoor
