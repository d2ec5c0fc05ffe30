/-
  Exact laws over metas by contracts, where the program's functions are as their contracts say: MetaText.
-/
import Derived.Test.YthpfjfacjlpbdaaDoorMetaSpecText
import Derived.Test.YthpfjfacjlpbdaaDoorImplMetaText
import Derived.Deep.RegionHeld3
namespace Go.Proofs.YthpfjfacjlpbdaaDoor
open Go.RowKit

set_option maxHeartbeats 4000000 in
set_option maxRecDepth 100000 in
theorem lawMetaText (v : Value) (m : Mt) (bl : m.fs.length ≤ maxLen) (bf : ∀ f ∈ m.fs, f.2.length ≤ maxLen) (hI : bulkF m.fs ≤ 1048576 → ∀ u wx, SumTab wx → MetaAt wx u m → Calls Tryd.prog 10 #[u] wx fun e w' => e = .returned (.tuple #[.string m.textO, .bool m.good]) ∧ Below wx.heap.size wx w') (w : World) (hT : SumTab w) (hd : MetaAt w v m) :
    Calls Tryd.prog 5 #[v] w fun e w' => e = .returned (.bool true) ∧ Below w.heap.size w w' := by
  have HSz := hide (fun wx h => szMeta_any v m bl bf 1048576 (Nat.le_refl _) wx h)
  have HD := hide hd
  have HT := hide hT
  clear hT
  clear bl bf
  obtain ⟨vf, rfl, -⟩ := hd
  obtain ⟨tx, htx0⟩ : ∃ tx, tx = m.tx := ⟨_, rfl⟩
  obtain ⟨root, hro0⟩ : ∃ tx, tx = m.root := ⟨_, rfl⟩
  obtain ⟨next, hne0⟩ : ∃ tx, tx = m.next := ⟨_, rfl⟩
  rw [← htx0, ← hro0, ← hne0] at HD HSz ⊢
  have HNm := hide (⟨htx0, hro0, hne0⟩ : tx = m.tx ∧ root = m.root ∧ next = m.next)
  clear htx0 hro0 hne0
  obtain ⟨w0, hw0⟩ : ∃ w0, w0 = w.alloc (Obj.cells #[.int .i64 tx, .int .i64 root, .int .i64 next, vf] 50) := ⟨_, rfl⟩
  have HB0 : Hid (Below w.heap.size w w0) := hide (by rw [hw0]; exact (Below.refl w.heap.size w).alloc (Nat.le_refl _) _)
  have HPb : Hid (∀ wx, Below w0.heap.size w0 wx → wx.cell? ⟨w.heap.size, 0, none⟩ = some (.int .i64 tx) ∧ wx.cell? ⟨w.heap.size, 1, none⟩ = some (.int .i64 root) ∧ wx.cell? ⟨w.heap.size, 2, none⟩ = some (.int .i64 next) ∧ wx.cell? ⟨w.heap.size, 3, none⟩ = some vf) := hide (fun wx hb => by
    have hblk : w0.heap[w.heap.size]? = some (Obj.cells #[.int .i64 tx, .int .i64 root, .int .i64 next, vf] 50) := by rw [hw0]; exact heap_alloc_new w _
    have hq := (hb.block _ (Array.getElem?_eq_some_iff.1 hblk).1).trans hblk
    exact ⟨(cell_at hq 0).1, (cell_at hq 1).1, (cell_at hq 2).1, (cell_at hq 3).1⟩)
  by_cases hbk : bulkF m.fs ≤ 1048576
  · obtain ⟨h1, h2⟩ := bulkF_in hbk
    obtain ⟨r, hr⟩ : ∃ r : Nat, szOut 1048576 (bulkF m.fs) = (r : Int) := ⟨_, szOut_yes hbk⟩
    rw [hr] at HSz
    have HTo := hide (fun wx h => toMeta_any (.agg #[.int .i64 tx, .int .i64 root, .int .i64 next, vf]) m h1 h2 wx h)
    have HSp := hide (fun u wx h => specMetaText_any u m h1 h2 wx h)
    have HIm := hide (hI hbk)
    have HEq := hide (fun u u' wx h h' => eqMeta_same u u' m h1 h2 wx h h')
    have _hx : True := trivial
    · obtain ⟨ok, hok⟩ : ∃ ok, ok = m.good := ⟨_, rfl⟩
      obtain ⟨txt, htx⟩ : ∃ txt, txt = m.textO := ⟨_, rfl⟩
      rw [← hok, ← htx] at HSp HIm
      have hbq := ba_beq txt txt
      rw [decide_eq_true rfl] at hbq
      clear hI hbk h1 h2 hr hok htx _hx
      go_enter Tryd.func5, Tryd.ntmps5
      go_wp2_with fail
      rw [← hw0]
      clear hw0
      refine (HSz.out _ (meta_below HD.out HB0.out)).mono ?_
      rintro e w1 ⟨rfl, hb⟩
      have HC1 := hide hb
      have HB1 : Hid (Below w.heap.size w w1) := hide (HB0.out.trans (hb.mono HB0.out.size))
      obtain ⟨p0, p1, p2, p3⟩ := HPb.out w1 hb
      clear hb
      go_wp2_with fail
      refine (HTo.out _ (meta_below HD.out HB1.out)).mono ?_
      rintro e w2 ⟨u2, rfl, hown, hb⟩
      have HO2 := hide hown
      have HC2 : Hid (Below w0.heap.size w0 w2) := hide (HC1.out.trans (hb.mono HC1.out.size))
      have HB2 : Hid (Below w.heap.size w w2) := hide (HB1.out.trans (hb.mono HB1.out.size))
      clear hb hown p0 p1 p2 p3
      go_wp2_with fail
      refine (HSp.out _ _ (meta_of_own HO2.out)).mono ?_
      rintro e w3 ⟨rfl, hb⟩
      have HC3 : Hid (Below w0.heap.size w0 w3) := hide (HC2.out.trans (hb.mono HC2.out.size))
      have HB3 : Hid (Below w.heap.size w w3) := hide (HB2.out.trans (hb.mono HB2.out.size))
      obtain ⟨p0, p1, p2, p3⟩ := HPb.out w3 HC3.out
      clear hb
      go_wp2_with fail
      refine (HTo.out _ (meta_below HD.out HB3.out)).mono ?_
      rintro e w4 ⟨u4, rfl, hown, hb⟩
      have HC4 : Hid (Below w0.heap.size w0 w4) := hide (HC3.out.trans (hb.mono HC3.out.size))
      have HB4 : Hid (Below w.heap.size w w4) := hide (HB3.out.trans (hb.mono HB3.out.size))
      have HA4 := hide (meta_of_own hown)
      obtain ⟨uf, lf, rfl, g3⟩ := hown
      obtain ⟨x3, c3, rfl⟩ := own_slice g3.1
      obtain ⟨L, hL⟩ : ∃ L, L = m.fs.length := ⟨_, rfl⟩
      rw [← HNm.out.1, ← HNm.out.2.1, ← HNm.out.2.2, ← hL] at HA4 ⊢
      clear g3 hL
      obtain ⟨w5, hw5⟩ : ∃ w5, w5 = w4.alloc (Obj.cells #[.int .i64 tx, .int .i64 root, .int .i64 next, .slice x3 L c3] 26) := ⟨_, rfl⟩
      have hb5 : Below w4.heap.size w4 w5 := by rw [hw5]; exact (Below.refl _ _).alloc (Nat.le_refl _) _
      have hq5 : w5.heap[w4.heap.size]? = some (Obj.cells #[.int .i64 tx, .int .i64 root, .int .i64 next, .slice x3 L c3] 26) := by rw [hw5]; exact heap_alloc_new w4 _
      have HC5 : Hid (Below w0.heap.size w0 w5) := hide (HC4.out.trans (hb5.mono HC4.out.size))
      have HB5 : Hid (Below w.heap.size w w5) := hide (HB4.out.trans (hb5.mono HB4.out.size))
      have HA5 := hide (meta_below HA4.out hb5)
      have HQ5 := hide hq5
      clear hb p0 p1 p2 p3 hb5 hq5
      go_wp2_with fail
      rw [← hw5]
      clear hw5
      refine (HIm.out _ _ (sumTab_below HT.out HB5.out) HA5.out).mono ?_
      rintro e w6 ⟨rfl, hb⟩
      have HC6 : Hid (Below w0.heap.size w0 w6) := hide (HC5.out.trans (hb.mono HC5.out.size))
      have HB6 : Hid (Below w.heap.size w w6) := hide (HB5.out.trans (hb.mono HB5.out.size))
      have HA6 := hide (meta_below HA5.out hb)
      have q6 := (hb.block _ (Array.getElem?_eq_some_iff.1 HQ5.out).1).trans HQ5.out
      have HSB : Hid (∀ wx, Below w6.heap.size w6 wx → wx.cell? ⟨w.heap.size, 0, none⟩ = some (.int .i64 tx) ∧ wx.cell? ⟨w.heap.size, 1, none⟩ = some (.int .i64 root) ∧ wx.cell? ⟨w.heap.size, 2, none⟩ = some (.int .i64 next) ∧ wx.cell? ⟨w.heap.size, 3, none⟩ = some vf ∧ wx.cell? ⟨w4.heap.size, 0, none⟩ = some (.int .i64 tx) ∧ wx.cell? ⟨w4.heap.size, 1, none⟩ = some (.int .i64 root) ∧ wx.cell? ⟨w4.heap.size, 2, none⟩ = some (.int .i64 next) ∧ wx.cell? ⟨w4.heap.size, 3, none⟩ = some (.slice x3 L c3)) := hide (fun wx hx => by
        have hq := (hx.block _ (Array.getElem?_eq_some_iff.1 q6).1).trans q6
        obtain ⟨a0, a1, a2, a3⟩ := HPb.out wx (HC6.out.trans (hx.mono HC6.out.size))
        exact ⟨a0, a1, a2, a3, (cell_at hq 0).1, (cell_at hq 1).1, (cell_at hq 2).1, (cell_at hq 3).1⟩)
      have hS0 := HSB.out w6 (Below.refl _ _)
      clear hb q6
      go_wp2_with fail
      go_region_held3 (fun wx => wx.cell? ⟨w.heap.size, 0, none⟩ = some (.int .i64 tx) ∧ wx.cell? ⟨w.heap.size, 1, none⟩ = some (.int .i64 root) ∧ wx.cell? ⟨w.heap.size, 2, none⟩ = some (.int .i64 next) ∧ wx.cell? ⟨w.heap.size, 3, none⟩ = some vf ∧ wx.cell? ⟨w4.heap.size, 0, none⟩ = some (.int .i64 tx) ∧ wx.cell? ⟨w4.heap.size, 1, none⟩ = some (.int .i64 root) ∧ wx.cell? ⟨w4.heap.size, 2, none⟩ = some (.int .i64 next) ∧ wx.cell? ⟨w4.heap.size, 3, none⟩ = some (.slice x3 L c3)) (first | exact hS0 | exact hS8 | exact hS9) (first | (go_at_call 28; refine (HTo.out _ ?_).mono ?_; exact meta_below HD.out HB6.out.drew; rintro e w8 ⟨u8, rfl, hown8, hb8⟩; have hA8 : Below w6.heap.size w6 w8 := (Below.refl _ _).drew.trans hb8; have hS8 := HSB.out _ hA8) | (go_at_call 29; refine (HEq.out _ _ _ ?_ ?_).mono ?_; exact meta_below HA6.out hA8; exact meta_of_own hown8; rintro e w9 ⟨rfl, hb9⟩; have hA9 : Below w6.heap.size w6 w9 := hA8.trans (hb9.mono hA8.size); have hS9 := HSB.out _ hA9))
      have HB9 : Hid (Below w.heap.size w w9) := hide (HB6.out.trans (hA9.mono HB6.out.size))
      clear hb8 hb9 hA8 hA9 hS8 hS9 hown8 hS0
      go_wp2_with fail
      go_ret
      exact ⟨rfl, HB9.out⟩
  · rw [szOut_no (by omega)] at HSz
    clear hI
    go_enter Tryd.func5, Tryd.ntmps5
    go_wp2_with fail
    rw [← hw0]
    clear hw0
    refine (HSz.out _ (meta_below HD.out HB0.out)).mono ?_
    rintro e w1 ⟨rfl, hb⟩
    go_wp2_with fail
    go_ret
    exact ⟨rfl, HB0.out.trans (hb.mono HB0.out.size)⟩

end Go.Proofs.YthpfjfacjlpbdaaDoor
