/-
  FnExactGetKey by contracts.
-/
import Derived.Test.YtglcfaibgjiigaaDoorGetImpl
import Derived.Test.YtglcfaibgjiigaaDoorDiskOpenN
namespace Go.Proofs.YtglcfaibgjiigaaDoor
open Go.RowKit

theorem bulk_inG {ps : List ByteArray} {ls : List (Int × ByteArray)} (h : bulkS ps + bulkP ls ≤ 1048576) : ps.length ≤ 1048576 ∧ (∀ s ∈ ps, s.size ≤ 1048576) ∧ ls.length ≤ 1048576 ∧ ∀ p ∈ ls, p.2.size ≤ 1048576 := by
  rw [bulkS_eq] at h
  unfold bulkP at h
  refine ⟨by omega, fun s hs => ?_, by omega, fun p hp => ?_⟩
  · obtain ⟨i, hi, rfl⟩ := List.getElem_of_mem hs
    have h1 := sumS_succ ps i hi
    have h2 := sumS_mono ps (i + 1)
    omega
  · obtain ⟨i, hi, rfl⟩ := List.getElem_of_mem hp
    have h1 := sumP_succ ls i hi
    have h2 := sumP_mono ls (i + 1)
    omega

theorem disk_drewG {w : World} {v : Value} {ps : List ByteArray} {ls : List (Int × ByteArray)} (h : DiskAt w v ps ls) : DiskAt w.drew v ps ls := disk_below h (Below.refl _ _).drew

theorem getO_parts (r : Option ByteArray) : ∃ s b, getO r = .tuple #[.string s, .bool b] := by
  cases r with
  | none => exact ⟨_, _, rfl⟩
  | some v => exact ⟨_, _, rfl⟩

set_option maxHeartbeats 4000000 in
set_option maxRecDepth 100000 in
theorem lawGetKey (v : Value) (ps : List ByteArray) (ls : List (Int × ByteArray)) (bp : ps.length ≤ maxLen) (bq : ∀ s ∈ ps, s.size ≤ maxLen) (bl : ls.length ≤ maxLen) (bm : ∀ p ∈ ls, p.2.size ≤ maxLen) (root : Int) (key : ByteArray) (hkm : key.size ≤ maxLen) (w : World) (hT : SumTab w) (hd : DiskAt w v ps ls) :
    Calls Tryd.prog 6 #[v, .int .i64 root, .string key] w fun e w' => e = .returned (.bool true) ∧ Below w.heap.size w w' := by
  have hkl := hkm
  unfold maxLen at hkl
  have HSz := hide (fun wx h => szDisk_any v ps ls bp bq bl bm 1048576 (Nat.le_refl _) wx h)
  clear bp bq bl bm
  have HD := hide hd
  have HT := hide hT
  clear hT
  obtain ⟨vp, vl, rfl, -, -⟩ := hd
  obtain ⟨w0, hw0⟩ : ∃ w0, w0 = w.alloc (Obj.cells #[vp, vl] 58) := ⟨_, rfl⟩
  have hb0 : Below w.heap.size w w0 := by rw [hw0]; exact (Below.refl w.heap.size w).alloc (Nat.le_refl _) _
  have hq0 : w0.heap[w.heap.size]? = some (Obj.cells #[vp, vl] 58) := by rw [hw0]; exact heap_alloc_new w _
  by_cases hkb : 1048576 < key.size
  · have dk : decide ((1048576 : Int) < (key.size : Int)) = true := decide_eq_true (by omega)
    go_enter Tryd.func6, Tryd.ntmps6
    go_wp2_with fail
    rw [← hw0]
    go_ret
    exact ⟨rfl, hb0⟩
  by_cases hbk : bulkS ps + bulkP ls ≤ 1048576
  · obtain ⟨h1, h2, h3, h4⟩ := bulk_inG hbk
    obtain ⟨r, hr⟩ : ∃ r : Nat, szOut 1048576 (bulkS ps + bulkP ls) = (r : Int) := ⟨_, szOut_yes hbk⟩
    rw [hr] at HSz
    have HTo := hide (fun wx h => toDisk_any (.agg #[vp, vl]) ps ls h1 h3 wx h)
    have HSp := hide (fun u wx h => specGetKey_any u ps ls h1 h3 h2 h4 root key wx h)
    have HIm := hide (fun u wx ht h => implGetKey_any u ps ls h1 h3 h2 h4 root key wx ht h)
    have HEq := hide (fun u u' wx h h' => eqDisk_any u u' ps ps ls ls (by omega) (by omega) (by omega) (by omega) wx h h')
    rw [decide_eq_true rfl] at HEq
    obtain ⟨s, b, hsb⟩ := getO_parts (getK (readD ps ls) root key)
    rw [hsb] at HSp HIm
    clear hbk h1 h2 h3 h4 hr hsb
    go_enter Tryd.func6, Tryd.ntmps6
    go_wp2_with fail
    rw [← hw0]
    refine (HSz.out _ (disk_below HD.out hb0)).mono ?_
    rintro e w1 ⟨rfl, hb1⟩
    have HB1 : Hid (Below w.heap.size w w1) := hide (hb0.trans (hb1.mono hb0.size))
    have q1 := (hb1.block w.heap.size (Array.getElem?_eq_some_iff.1 hq0).1).trans hq0
    have c10 : w1.cell? ⟨w.heap.size, 0, none⟩ = some vp := (cell_at q1 0).1
    have c11 : w1.cell? ⟨w.heap.size, 1, none⟩ = some vl := (cell_at q1 1).1
    have HQ1 := hide q1
    clear hb1 hw0 hb0 hq0 q1
    go_wp2_with fail
    refine (HTo.out _ (disk_below HD.out HB1.out)).mono ?_
    rintro e w2 ⟨u2, rfl, hown2, hb2⟩
    have HB2 : Hid (Below w.heap.size w w2) := hide (HB1.out.trans (hb2.mono HB1.out.size))
    have q2 := (hb2.block w.heap.size (Array.getElem?_eq_some_iff.1 HQ1.out).1).trans HQ1.out
    have HO2 := hide hown2
    have HQ2 := hide q2
    clear c10 c11 hb2 hown2 q2
    go_wp2_with fail
    refine (HSp.out u2 _ (disk_of_own HO2.out)).mono ?_
    rintro e w3 ⟨rfl, hb3⟩
    have HB3 : Hid (Below w.heap.size w w3) := hide (HB2.out.trans (hb3.mono HB2.out.size))
    have q3 := (hb3.block w.heap.size (Array.getElem?_eq_some_iff.1 HQ2.out).1).trans HQ2.out
    have c30 : w3.cell? ⟨w.heap.size, 0, none⟩ = some vp := (cell_at q3 0).1
    have c31 : w3.cell? ⟨w.heap.size, 1, none⟩ = some vl := (cell_at q3 1).1
    have HQ3 := hide q3
    clear hb3 q3
    go_wp2_with fail
    refine (HTo.out _ (disk_below HD.out HB3.out)).mono ?_
    rintro e w4 ⟨u4, rfl, hown4, hb4⟩
    have HB4 : Hid (Below w.heap.size w w4) := hide (HB3.out.trans (hb4.mono HB3.out.size))
    have q4 := (hb4.block w.heap.size (Array.getElem?_eq_some_iff.1 HQ3.out).1).trans HQ3.out
    have HO4 := hide hown4
    have HQ4 := hide q4
    obtain ⟨up, ul, rfl, hup, hul⟩ := hown4
    obtain ⟨z1, d1, rfl⟩ := own_slice hup
    obtain ⟨z2, d2, rfl⟩ := own_slice hul
    obtain ⟨X, hX⟩ : ∃ X : Value, X = .agg #[.slice z1 ps.length d1, .slice z2 ls.length d2] := ⟨_, rfl⟩
    obtain ⟨w5, hw5⟩ : ∃ w5, w5 = w4.alloc (Obj.cells #[.slice z1 ps.length d1, .slice z2 ls.length d2] 49) := ⟨_, rfl⟩
    have hb5 : Below w4.heap.size w4 w5 := by rw [hw5]; exact (Below.refl _ _).alloc (Nat.le_refl _) _
    have hq5 : w5.heap[w4.heap.size]? = some (Obj.cells #[.slice z1 ps.length d1, .slice z2 ls.length d2] 49) := by rw [hw5]; exact heap_alloc_new w4 _
    have HB5 : Hid (Below w.heap.size w w5) := hide (HB4.out.trans (hb5.mono HB4.out.size))
    have HD5 := hide (disk_below (disk_of_own HO4.out) hb5)
    have q5 := (hb5.block w.heap.size (Array.getElem?_eq_some_iff.1 HQ4.out).1).trans HQ4.out
    clear c30 c31 hb4 q4 hup hul hb5
    go_wp2_with fail
    rw [← hw5]
    refine (HIm.out _ _ (sumTab_below HT.out HB5.out) HD5.out).mono ?_
    rintro e w6 ⟨rfl, hb6⟩
    have HB6 : Hid (Below w.heap.size w w6) := hide (HB5.out.trans (hb6.mono HB5.out.size))
    have HD6 := hide (disk_below HD5.out hb6)
    have q6 := (hb6.block w.heap.size (Array.getElem?_eq_some_iff.1 q5).1).trans q5
    have q7 := (hb6.block w4.heap.size (Array.getElem?_eq_some_iff.1 hq5).1).trans hq5
    have c60 : w6.cell? ⟨w.heap.size, 0, none⟩ = some vp := (cell_at q6 0).1
    have c61 : w6.cell? ⟨w.heap.size, 1, none⟩ = some vl := (cell_at q6 1).1
    have c70 : w6.cell? ⟨w4.heap.size, 0, none⟩ = some (.slice z1 ps.length d1) := (cell_at q7 0).1
    have c71 : w6.cell? ⟨w4.heap.size, 1, none⟩ = some (.slice z2 ls.length d2) := (cell_at q7 1).1
    have hlt6 : w.heap.size < w6.heap.size := (Array.getElem?_eq_some_iff.1 q6).1
    have hlt7 : w4.heap.size < w6.heap.size := (Array.getElem?_eq_some_iff.1 q7).1
    have hbq := ba_beq s s
    rw [decide_eq_true rfl] at hbq
    have dbb : (b != b) = false := by cases b <;> rfl
    clear hb6 hq5 q5 q6 q7 hw5
    go_wp2_with fail
    go_region_held3 (fun wx => wx.cell? ⟨w.heap.size, 0, none⟩ = some vp ∧ wx.cell? ⟨w.heap.size, 1, none⟩ = some vl ∧ wx.cell? ⟨w4.heap.size, 0, none⟩ = some (.slice z1 ps.length d1) ∧ wx.cell? ⟨w4.heap.size, 1, none⟩ = some (.slice z2 ls.length d2)) (first | exact ⟨c60, c61, c70, c71⟩ | exact hS8 | exact hS9) (first | (go_at_call 40; refine (HTo.out _ ?_).mono ?_; exact disk_below HD.out HB6.out.drew; rintro e w8 ⟨u8, rfl, hown8, hb8⟩; have hS8 : w8.cell? ⟨w.heap.size, 0, none⟩ = some vp ∧ w8.cell? ⟨w.heap.size, 1, none⟩ = some vl ∧ w8.cell? ⟨w4.heap.size, 0, none⟩ = some (.slice z1 ps.length d1) ∧ w8.cell? ⟨w4.heap.size, 1, none⟩ = some (.slice z2 ls.length d2) := ⟨(hb8.cell (by exact hlt6)).trans c60, (hb8.cell (by exact hlt6)).trans c61, (hb8.cell (by exact hlt7)).trans c70, (hb8.cell (by exact hlt7)).trans c71⟩) | (go_at_call 42; refine (HEq.out _ _ _ ?_ ?_).mono ?_; exact disk_below (disk_drewG HD6.out) hb8; exact disk_of_own hown8; rintro e w9 ⟨rfl, hb9⟩; have hS9 : w9.cell? ⟨w.heap.size, 0, none⟩ = some vp ∧ w9.cell? ⟨w.heap.size, 1, none⟩ = some vl ∧ w9.cell? ⟨w4.heap.size, 0, none⟩ = some (.slice z1 ps.length d1) ∧ w9.cell? ⟨w4.heap.size, 1, none⟩ = some (.slice z2 ls.length d2) := ⟨(hb9.cell (by exact Nat.lt_of_lt_of_le hlt6 hb8.size)).trans hS8.1, (hb9.cell (by exact Nat.lt_of_lt_of_le hlt6 hb8.size)).trans hS8.2.1, (hb9.cell (by exact Nat.lt_of_lt_of_le hlt7 hb8.size)).trans hS8.2.2.1, (hb9.cell (by exact Nat.lt_of_lt_of_le hlt7 hb8.size)).trans hS8.2.2.2⟩))
    all_goals
      have hb10 : Below w.heap.size w w9 := (HB6.out.drew.trans (hb8.mono HB6.out.size)).trans (hb9.mono (Nat.le_trans HB6.out.size hb8.size))
      clear hb8 hb9
      go_wp2_with fail
      go_ret
      exact ⟨rfl, hb10⟩
  · rw [szOut_no (by omega)] at HSz
    go_enter Tryd.func6, Tryd.ntmps6
    go_wp2_with fail
    rw [← hw0]
    refine (HSz.out _ (disk_below HD.out hb0)).mono ?_
    rintro e w1 ⟨rfl, hb1⟩
    clear hw0 hq0
    go_wp2_with fail
    go_ret
    exact ⟨rfl, hb0.trans (hb1.mono hb0.size)⟩
end Go.Proofs.YtglcfaibgjiigaaDoor
