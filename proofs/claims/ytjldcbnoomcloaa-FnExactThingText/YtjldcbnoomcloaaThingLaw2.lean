/-
  The exact laws over things by contracts, where the program's functions are as their contracts say: KeyText, ThingOk, ThingText.
-/
import Derived.Test.YtjldcbnoomcloaaThingLaw
namespace Go.Proofs.Ytjldcbnoomcloaa
open Go.RowKit

set_option maxHeartbeats 1000000 in
set_option maxRecDepth 100000 in
theorem lawKeyText (kind num : Int) (t : ByteArray) (ht : t.size ≤ maxLen) (hI : t.size ≤ 1048576 → ∀ wx, Calls Try.prog 40 #[.int .i64 kind, .agg #[.int .i64 num, .string t]] wx fun e w' => e = .returned (.tuple #[.string (keyO kind num t), .bool (valueB kind num t)]) ∧ Below wx.heap.size wx w') (w : World) :
    Calls Try.prog 12 #[.int .i64 kind, .agg #[.int .i64 num, .string t]] w fun e w' => e = .returned (.bool true) ∧ Below w.heap.size w w' := by
  unfold maxLen at ht
  have HSz := hide (szValue_any num t (by omega) 1048576 (Nat.le_refl _))
  obtain ⟨w0, hw0⟩ : ∃ w0, w0 = w.alloc (Obj.cells #[.int .i64 num, .string t] 65) := ⟨_, rfl⟩
  have HB0 : Hid (Below w.heap.size w w0) := hide (by rw [hw0]; exact (Below.refl w.heap.size w).alloc (Nat.le_refl _) _)
  have hblk : w0.heap[w.heap.size]? = some (Obj.cells #[.int .i64 num, .string t] 65) := by rw [hw0]; exact heap_alloc_new w _
  have HC : Hid (∀ wx, Below w0.heap.size w0 wx → wx.cell? ⟨w.heap.size, 0, none⟩ = some (.int .i64 num) ∧ wx.cell? ⟨w.heap.size, 1, none⟩ = some (.string t)) := hide (fun wx hb => by
    have := (hb.block _ (Array.getElem?_eq_some_iff.1 hblk).1).trans hblk
    exact ⟨(cell_at this 0).1, (cell_at this 1).1⟩)
  clear hblk
  by_cases hb : t.size ≤ 1048576
  · rw [szOut_yes hb] at HSz
    have HSp := hide (specKeyText_any kind num t hb)
    have HIm := hide (hI hb)
    obtain ⟨ok, hok⟩ : ∃ ok, ok = valueB kind num t := ⟨_, rfl⟩
    obtain ⟨tx, htx⟩ : ∃ tx, tx = keyO kind num t := ⟨_, rfl⟩
    rw [← hok, ← htx] at HSp HIm
    obtain ⟨r, hr⟩ : ∃ r, r = 1048576 - t.size := ⟨_, rfl⟩
    rw [← hr] at HSz
    clear hI hok htx hr
    go_enter Try.func12, Try.ntmps12
    go_wp2_with fail
    rw [← hw0]
    clear hw0
    refine (HSz.out _).mono ?_
    rintro e w1 ⟨rfl, hb1⟩
    have H1 := hide hb1
    obtain ⟨c0, c1⟩ := HC.out w1 hb1
    clear hb1
    go_wp2_with fail
    refine (toValue_any num t _).mono ?_
    rintro e w2 ⟨rfl, hb2⟩
    have H2 : Hid (Below w0.heap.size w0 w2) := hide (H1.out.trans (hb2.mono H1.out.size))
    clear hb2 c0 c1
    go_wp2_with fail
    refine (HSp.out _).mono ?_
    rintro e w3 ⟨rfl, hb3⟩
    have H3 : Hid (Below w0.heap.size w0 w3) := hide (H2.out.trans (hb3.mono H2.out.size))
    obtain ⟨c0, c1⟩ := HC.out w3 H3.out
    clear hb3
    go_wp2_with fail
    refine (toValue_any num t _).mono ?_
    rintro e w4 ⟨rfl, hb4⟩
    have H4 : Hid (Below w0.heap.size w0 w4) := hide (H3.out.trans (hb4.mono H3.out.size))
    clear hb4 c0 c1
    go_wp2_with fail
    refine (HIm.out _).mono ?_
    rintro e w5 ⟨rfl, hb5⟩
    have H5 : Hid (Below w0.heap.size w0 w5) := hide (H4.out.trans (hb5.mono H4.out.size))
    clear hb5
    go_wp2_with fail
    go_ret
    exact ⟨rfl, HB0.out.trans (H5.out.mono HB0.out.size)⟩
  · rw [szOut_no (by omega)] at HSz
    clear hI
    go_enter Try.func12, Try.ntmps12
    go_wp2_with fail
    rw [← hw0]
    clear hw0
    refine (HSz.out _).mono ?_
    rintro e w1 ⟨rfl, hb1⟩
    go_wp2_with fail
    go_ret
    exact ⟨rfl, HB0.out.trans (hb1.mono HB0.out.size)⟩

theorem sumP_one {vs : List (Int × ByteArray)} {f : Int × ByteArray} (h : f ∈ vs) : f.2.size ≤ sumP vs vs.length := by
  unfold sumP
  rw [List.take_length]
  exact le_sum (List.mem_map_of_mem (f := fun p : Int × ByteArray => p.2.size) h)

theorem bulkP_in {vs : List (Int × ByteArray)} (h : bulkP vs ≤ 1048576) : vs.length ≤ 1048576 ∧ ∀ f ∈ vs, f.2.size ≤ 1048576 :=
  ⟨by unfold bulkP at h; omega, fun f hf => by have := sumP_one hf; unfold bulkP at h; omega⟩

set_option maxHeartbeats 2000000 in
set_option maxRecDepth 100000 in
theorem lawThingOk (v u : Value) (fs : List (ByteArray × Int)) (vs : List (Int × ByteArray)) (bl : fs.length ≤ maxLen) (bn : ∀ f ∈ fs, f.1.size ≤ maxLen) (bl2 : vs.length ≤ maxLen) (bn2 : ∀ f ∈ vs, f.2.size ≤ maxLen) (hI : bulkF fs ≤ 1048576 → bulkP vs ≤ 1048576 → ∀ x y wx, RowAt wx 2 x fs.length (flds fs) → RowAt wx 2 y vs.length (puts vs) → Calls Try.prog 37 #[x, y] wx fun e w' => e = .returned (.bool (thingOkB fs vs)) ∧ Below wx.heap.size wx w') (w : World) (hr : RowAt w 2 v fs.length (flds fs)) (hu : RowAt w 2 u vs.length (puts vs)) :
    Calls Try.prog 9 #[v, u] w fun e w' => e = .returned (.bool true) ∧ Below w.heap.size w w' := by
  have HSz := hide (fun wx h => szFieldS_any fs bl bn v 1048576 (Nat.le_refl _) wx h)
  have HSv := hide (fun r hr wx h => szValueS_any vs bl2 bn2 u r hr wx h)
  have HR := hide hr
  have HU := hide hu
  clear bl bn bl2 bn2 hr hu
  by_cases hbk : bulkF fs ≤ 1048576
  · obtain ⟨h1, h2⟩ := bulkF_in hbk
    obtain ⟨r, hr⟩ : ∃ r : Nat, r = 1048576 - bulkF fs := ⟨_, rfl⟩
    rw [szOut_yes hbk, ← hr] at HSz
    have HSw := hide (HSv.out r (by omega))
    by_cases hbv : bulkP vs ≤ r
    · obtain ⟨g1, g2⟩ := bulkP_in (show bulkP vs ≤ 1048576 by omega)
      obtain ⟨r2, hr2⟩ : ∃ r2 : Nat, r2 = r - bulkP vs := ⟨_, rfl⟩
      rw [szOut_yes hbv, ← hr2] at HSw
      have HTo := hide (fun wx h => toFieldS_any fs h1 v wx h)
      have HTv := hide (fun wx h => toValueS_any vs g1 u wx h)
      have HSp := hide (fun x y wx h h' => specThingOk_any fs vs h1 h2 g1 g2 x y wx h h')
      have HIm := hide (hI hbk (by omega))
      have HEq := hide (fun x y wx h h' => eqFieldS_row fs fs (by omega) (by omega) x y wx h h')
      have HEv := hide (fun x y wx h h' => eqValueS_row vs vs (by omega) (by omega) x y wx h h')
      rw [decide_eq_true rfl] at HEq HEv
      obtain ⟨ok, hok⟩ : ∃ ok, ok = thingOkB fs vs := ⟨_, rfl⟩
      rw [← hok] at HSp HIm
      clear hI hbk h1 h2 g1 g2 hr hr2 hbv HSv hok
      go_enter Try.func9, Try.ntmps9
      go_wp2_with fail
      refine (HSz.out _ HR.out).mono ?_
      rintro e w1 ⟨rfl, hb⟩
      have HB1 := hide hb
      clear hb
      go_wp2_with fail
      refine (HSw.out _ (row_below HU.out HB1.out)).mono ?_
      rintro e w2 ⟨rfl, hb⟩
      have HB2 : Hid (Below w.heap.size w w2) := hide (HB1.out.trans (hb.mono HB1.out.size))
      clear hb
      go_wp2_with fail
      refine (HTo.out _ (row_below HR.out HB2.out)).mono ?_
      rintro e w3 ⟨u3, rfl, hown, hb⟩
      have HO3 := hide hown
      have HB3 : Hid (Below w.heap.size w w3) := hide (HB2.out.trans (hb.mono HB2.out.size))
      clear hb hown
      go_wp2_with fail
      refine (HTv.out _ (row_below HU.out HB3.out)).mono ?_
      rintro e w4 ⟨u4, rfl, hown, hb⟩
      have HO4 := hide hown
      have HO3a := hide (own_stays HO3.out hb)
      have HB4 : Hid (Below w.heap.size w w4) := hide (HB3.out.trans (hb.mono HB3.out.size))
      clear hb hown
      go_wp2_with fail
      refine (HSp.out _ _ _ (row_of_own HO3a.out) (row_of_own HO4.out)).mono ?_
      rintro e w5 ⟨rfl, hb⟩
      have HB5 : Hid (Below w.heap.size w w5) := hide (HB4.out.trans (hb.mono HB4.out.size))
      clear hb
      go_wp2_with fail
      refine (HTo.out _ (row_below HR.out HB5.out)).mono ?_
      rintro e w6 ⟨u6, rfl, hown, hb⟩
      have HO6 := hide hown
      have HB6 : Hid (Below w.heap.size w w6) := hide (HB5.out.trans (hb.mono HB5.out.size))
      clear hb hown
      go_wp2_with fail
      refine (HTv.out _ (row_below HU.out HB6.out)).mono ?_
      rintro e w7 ⟨u7, rfl, hown, hb⟩
      have HO7 := hide hown
      have HO6a := hide (own_stays HO6.out hb)
      have HB7 : Hid (Below w.heap.size w w7) := hide (HB6.out.trans (hb.mono HB6.out.size))
      clear hb hown
      go_wp2_with fail
      refine (HIm.out _ _ _ (row_of_own HO6a.out) (row_of_own HO7.out)).mono ?_
      rintro e w8 ⟨rfl, hb⟩
      have HO6b := hide (own_stays HO6a.out hb)
      have HO7b := hide (own_stays HO7.out hb)
      have HB8 : Hid (Below w.heap.size w w8) := hide (HB7.out.trans (hb.mono HB7.out.size))
      clear hb
      go_wp2_with fail
      refine (HTo.out _ (row_below HR.out HB8.out)).mono ?_
      rintro e w9 ⟨u9, rfl, hown, hb⟩
      have HO9 := hide hown
      have HO6c := hide (own_stays HO6b.out hb)
      have HO7c := hide (own_stays HO7b.out hb)
      have HB9 : Hid (Below w.heap.size w w9) := hide (HB8.out.trans (hb.mono HB8.out.size))
      clear hb hown
      go_wp2_with fail
      refine (HEq.out _ _ _ (row_of_own HO6c.out) (row_of_own HO9.out)).mono ?_
      rintro e w10 ⟨rfl, hb⟩
      have HO7d := hide (own_stays HO7c.out hb)
      have HB10 : Hid (Below w.heap.size w w10) := hide (HB9.out.trans (hb.mono HB9.out.size))
      clear hb
      go_wp2_with fail
      refine (HTv.out _ (row_below HU.out HB10.out)).mono ?_
      rintro e w11 ⟨u11, rfl, hown, hb⟩
      have HO11 := hide hown
      have HO7e := hide (own_stays HO7d.out hb)
      have HB11 : Hid (Below w.heap.size w w11) := hide (HB10.out.trans (hb.mono HB10.out.size))
      clear hb hown
      go_wp2_with fail
      refine (HEv.out _ _ _ (row_of_own HO7e.out) (row_of_own HO11.out)).mono ?_
      rintro e w12 ⟨rfl, hb⟩
      have HB12 : Hid (Below w.heap.size w w12) := hide (HB11.out.trans (hb.mono HB11.out.size))
      clear hb
      go_wp2_with fail
      go_ret
      exact ⟨rfl, HB12.out⟩
    · rw [szOut_no (by omega)] at HSw
      clear hI HSv hr
      go_enter Try.func9, Try.ntmps9
      go_wp2_with fail
      refine (HSz.out _ HR.out).mono ?_
      rintro e w1 ⟨rfl, hb⟩
      have HB1 := hide hb
      clear hb
      go_wp2_with fail
      refine (HSw.out _ (row_below HU.out HB1.out)).mono ?_
      rintro e w2 ⟨rfl, hb⟩
      go_wp2_with fail
      go_ret
      exact ⟨rfl, HB1.out.trans (hb.mono HB1.out.size)⟩
  · rw [szOut_no (by omega)] at HSz
    clear hI
    go_enter Try.func9, Try.ntmps9
    go_wp2_with fail
    refine (HSz.out _ HR.out).mono ?_
    rintro e w1 ⟨rfl, hb⟩
    go_wp2_with fail
    go_ret
    exact ⟨rfl, hb⟩

set_option maxHeartbeats 2000000 in
set_option maxRecDepth 100000 in
theorem lawThingText (v u : Value) (fs : List (ByteArray × Int)) (vs : List (Int × ByteArray)) (bl : fs.length ≤ maxLen) (bn : ∀ f ∈ fs, f.1.size ≤ maxLen) (bl2 : vs.length ≤ maxLen) (bn2 : ∀ f ∈ vs, f.2.size ≤ maxLen) (hI : bulkF fs ≤ 1048576 → bulkP vs ≤ 1048576 → ∀ x y wx, RowAt wx 2 x fs.length (flds fs) → RowAt wx 2 y vs.length (puts vs) → Calls Try.prog 32 #[x, y] wx fun e w' => e = .returned (.tuple #[.string (thingO fs vs), .bool (thingOkB fs vs)]) ∧ Below wx.heap.size wx w') (w : World) (hr : RowAt w 2 v fs.length (flds fs)) (hu : RowAt w 2 u vs.length (puts vs)) :
    Calls Try.prog 10 #[v, u] w fun e w' => e = .returned (.bool true) ∧ Below w.heap.size w w' := by
  have HSz := hide (fun wx h => szFieldS_any fs bl bn v 1048576 (Nat.le_refl _) wx h)
  have HSv := hide (fun r hr wx h => szValueS_any vs bl2 bn2 u r hr wx h)
  have HR := hide hr
  have HU := hide hu
  clear bl bn bl2 bn2 hr hu
  by_cases hbk : bulkF fs ≤ 1048576
  · obtain ⟨h1, h2⟩ := bulkF_in hbk
    obtain ⟨r, hr⟩ : ∃ r : Nat, r = 1048576 - bulkF fs := ⟨_, rfl⟩
    rw [szOut_yes hbk, ← hr] at HSz
    have HSw := hide (HSv.out r (by omega))
    by_cases hbv : bulkP vs ≤ r
    · obtain ⟨g1, g2⟩ := bulkP_in (show bulkP vs ≤ 1048576 by omega)
      obtain ⟨r2, hr2⟩ : ∃ r2 : Nat, r2 = r - bulkP vs := ⟨_, rfl⟩
      rw [szOut_yes hbv, ← hr2] at HSw
      have HTo := hide (fun wx h => toFieldS_any fs h1 v wx h)
      have HTv := hide (fun wx h => toValueS_any vs g1 u wx h)
      have HSp := hide (fun x y wx h h' => specThingText_any fs vs h1 h2 g1 g2 x y wx h h')
      have HIm := hide (hI hbk (by omega))
      have HEq := hide (fun x y wx h h' => eqFieldS_row fs fs (by omega) (by omega) x y wx h h')
      have HEv := hide (fun x y wx h h' => eqValueS_row vs vs (by omega) (by omega) x y wx h h')
      rw [decide_eq_true rfl] at HEq HEv
      obtain ⟨ok, hok⟩ : ∃ ok, ok = thingOkB fs vs := ⟨_, rfl⟩
      obtain ⟨tx, htx⟩ : ∃ tx, tx = thingO fs vs := ⟨_, rfl⟩
      rw [← hok, ← htx] at HSp HIm
      clear hI hbk h1 h2 g1 g2 hr hr2 hbv HSv hok htx
      go_enter Try.func10, Try.ntmps10
      go_wp2_with fail
      refine (HSz.out _ HR.out).mono ?_
      rintro e w1 ⟨rfl, hb⟩
      have HB1 := hide hb
      clear hb
      go_wp2_with fail
      refine (HSw.out _ (row_below HU.out HB1.out)).mono ?_
      rintro e w2 ⟨rfl, hb⟩
      have HB2 : Hid (Below w.heap.size w w2) := hide (HB1.out.trans (hb.mono HB1.out.size))
      clear hb
      go_wp2_with fail
      refine (HTo.out _ (row_below HR.out HB2.out)).mono ?_
      rintro e w3 ⟨u3, rfl, hown, hb⟩
      have HO3 := hide hown
      have HB3 : Hid (Below w.heap.size w w3) := hide (HB2.out.trans (hb.mono HB2.out.size))
      clear hb hown
      go_wp2_with fail
      refine (HTv.out _ (row_below HU.out HB3.out)).mono ?_
      rintro e w4 ⟨u4, rfl, hown, hb⟩
      have HO4 := hide hown
      have HO3a := hide (own_stays HO3.out hb)
      have HB4 : Hid (Below w.heap.size w w4) := hide (HB3.out.trans (hb.mono HB3.out.size))
      clear hb hown
      go_wp2_with fail
      refine (HSp.out _ _ _ (row_of_own HO3a.out) (row_of_own HO4.out)).mono ?_
      rintro e w5 ⟨rfl, hb⟩
      have HB5 : Hid (Below w.heap.size w w5) := hide (HB4.out.trans (hb.mono HB4.out.size))
      clear hb
      go_wp2_with fail
      refine (HTo.out _ (row_below HR.out HB5.out)).mono ?_
      rintro e w6 ⟨u6, rfl, hown, hb⟩
      have HO6 := hide hown
      have HB6 : Hid (Below w.heap.size w w6) := hide (HB5.out.trans (hb.mono HB5.out.size))
      clear hb hown
      go_wp2_with fail
      refine (HTv.out _ (row_below HU.out HB6.out)).mono ?_
      rintro e w7 ⟨u7, rfl, hown, hb⟩
      have HO7 := hide hown
      have HO6a := hide (own_stays HO6.out hb)
      have HB7 : Hid (Below w.heap.size w w7) := hide (HB6.out.trans (hb.mono HB6.out.size))
      clear hb hown
      go_wp2_with fail
      refine (HIm.out _ _ _ (row_of_own HO6a.out) (row_of_own HO7.out)).mono ?_
      rintro e w8 ⟨rfl, hb⟩
      have HO6b := hide (own_stays HO6a.out hb)
      have HO7b := hide (own_stays HO7.out hb)
      have HB8 : Hid (Below w.heap.size w w8) := hide (HB7.out.trans (hb.mono HB7.out.size))
      clear hb
      go_wp2_with fail
      refine (HTo.out _ (row_below HR.out HB8.out)).mono ?_
      rintro e w9 ⟨u9, rfl, hown, hb⟩
      have HO9 := hide hown
      have HO6c := hide (own_stays HO6b.out hb)
      have HO7c := hide (own_stays HO7b.out hb)
      have HB9 : Hid (Below w.heap.size w w9) := hide (HB8.out.trans (hb.mono HB8.out.size))
      clear hb hown
      go_wp2_with fail
      refine (HEq.out _ _ _ (row_of_own HO6c.out) (row_of_own HO9.out)).mono ?_
      rintro e w10 ⟨rfl, hb⟩
      have HO7d := hide (own_stays HO7c.out hb)
      have HB10 : Hid (Below w.heap.size w w10) := hide (HB9.out.trans (hb.mono HB9.out.size))
      clear hb
      go_wp2_with fail
      refine (HTv.out _ (row_below HU.out HB10.out)).mono ?_
      rintro e w11 ⟨u11, rfl, hown, hb⟩
      have HO11 := hide hown
      have HO7e := hide (own_stays HO7d.out hb)
      have HB11 : Hid (Below w.heap.size w w11) := hide (HB10.out.trans (hb.mono HB10.out.size))
      clear hb hown
      go_wp2_with fail
      refine (HEv.out _ _ _ (row_of_own HO7e.out) (row_of_own HO11.out)).mono ?_
      rintro e w12 ⟨rfl, hb⟩
      have HB12 : Hid (Below w.heap.size w w12) := hide (HB11.out.trans (hb.mono HB11.out.size))
      clear hb
      go_wp2_with fail
      go_ret
      exact ⟨rfl, HB12.out⟩
    · rw [szOut_no (by omega)] at HSw
      clear hI HSv hr
      go_enter Try.func10, Try.ntmps10
      go_wp2_with fail
      refine (HSz.out _ HR.out).mono ?_
      rintro e w1 ⟨rfl, hb⟩
      have HB1 := hide hb
      clear hb
      go_wp2_with fail
      refine (HSw.out _ (row_below HU.out HB1.out)).mono ?_
      rintro e w2 ⟨rfl, hb⟩
      go_wp2_with fail
      go_ret
      exact ⟨rfl, HB1.out.trans (hb.mono HB1.out.size)⟩
  · rw [szOut_no (by omega)] at HSz
    clear hI
    go_enter Try.func10, Try.ntmps10
    go_wp2_with fail
    refine (HSz.out _ HR.out).mono ?_
    rintro e w1 ⟨rfl, hb⟩
    go_wp2_with fail
    go_ret
    exact ⟨rfl, hb⟩
end Go.Proofs.Ytjldcbnoomcloaa
