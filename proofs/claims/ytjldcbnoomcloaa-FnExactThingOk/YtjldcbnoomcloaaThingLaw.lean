/-
  The exact laws over schemas and things by contracts, where the program's functions are as their contracts say.
-/
import Derived.Test.YtjldcbnoomcloaaThingSpec4
namespace Go.Proofs.Ytjldcbnoomcloaa
open Go.RowKit

theorem le_sum {x : Nat} : ∀ {l : List Nat}, x ∈ l → x ≤ l.sum
  | [], h => by cases h
  | y :: l, h => by
    rw [List.sum_cons]
    rcases List.mem_cons.1 h with h | h
    · omega
    · have := le_sum h; omega

theorem sumF_one {fs : List (ByteArray × Int)} {f : ByteArray × Int} (h : f ∈ fs) : f.1.size ≤ sumF fs fs.length := by
  unfold sumF
  rw [List.take_length]
  exact le_sum (List.mem_map_of_mem (f := fun p : ByteArray × Int => p.1.size) h)

theorem bulkF_in {fs : List (ByteArray × Int)} (h : bulkF fs ≤ 1048576) : fs.length ≤ 1048576 ∧ ∀ f ∈ fs, f.1.size ≤ 1048576 :=
  ⟨by unfold bulkF at h; omega, fun f hf => by have := sumF_one hf; unfold bulkF at h; omega⟩

set_option maxHeartbeats 2000000 in
set_option maxRecDepth 100000 in
theorem lawSchemaOk (v : Value) (fs : List (ByteArray × Int)) (bl : fs.length ≤ maxLen) (bn : ∀ f ∈ fs, f.1.size ≤ maxLen) (hI : bulkF fs ≤ 1048576 → ∀ u wx, RowAt wx 2 u fs.length (flds fs) → Calls Try.prog 27 #[u] wx fun e w' => e = .returned (.bool (schemaOkB fs)) ∧ Below wx.heap.size wx w') (w : World) (hr : RowAt w 2 v fs.length (flds fs)) :
    Calls Try.prog 6 #[v] w fun e w' => e = .returned (.bool true) ∧ Below w.heap.size w w' := by
  have HSz := hide (fun wx h => szFieldS_any fs bl bn v 1048576 (Nat.le_refl _) wx h)
  have HR := hide hr
  clear bl bn hr
  by_cases hbk : bulkF fs ≤ 1048576
  · obtain ⟨h1, h2⟩ := bulkF_in hbk
    obtain ⟨r, hr⟩ : ∃ r : Nat, szOut 1048576 (bulkF fs) = (r : Int) := ⟨_, szOut_yes hbk⟩
    rw [hr] at HSz
    have HTo := hide (fun wx h => toFieldS_any fs h1 v wx h)
    have HSp := hide (fun u wx h => specSchemaOk_any fs h1 h2 u wx h)
    have HIm := hide (hI hbk)
    have HEq := hide (fun u u' wx h h' => eqFieldS_row fs fs (by omega) (by omega) u u' wx h h')
    rw [decide_eq_true rfl] at HEq
    obtain ⟨ok, hok⟩ : ∃ ok, ok = schemaOkB fs := ⟨_, rfl⟩
    rw [← hok] at HSp HIm
    clear hI hbk h1 h2 hr hok
    go_enter Try.func6, Try.ntmps6
    go_wp2_with fail
    refine (HSz.out _ HR.out).mono ?_
    rintro e w1 ⟨rfl, hb⟩
    have HB1 := hide hb
    clear hb
    go_wp2_with fail
    refine (HTo.out _ (row_below HR.out HB1.out)).mono ?_
    rintro e w2 ⟨u2, rfl, hown, hb⟩
    have HO2 := hide hown
    have HB2 : Hid (Below w.heap.size w w2) := hide (HB1.out.trans (hb.mono HB1.out.size))
    clear hb hown
    go_wp2_with fail
    refine (HSp.out _ _ (row_of_own HO2.out)).mono ?_
    rintro e w3 ⟨rfl, hb⟩
    have HB3 : Hid (Below w.heap.size w w3) := hide (HB2.out.trans (hb.mono HB2.out.size))
    clear hb
    go_wp2_with fail
    refine (HTo.out _ (row_below HR.out HB3.out)).mono ?_
    rintro e w4 ⟨u4, rfl, hown, hb⟩
    have HO4 := hide hown
    have HB4 : Hid (Below w.heap.size w w4) := hide (HB3.out.trans (hb.mono HB3.out.size))
    clear hb hown
    go_wp2_with fail
    refine (HIm.out _ _ (row_of_own HO4.out)).mono ?_
    rintro e w5 ⟨rfl, hb⟩
    have HO5 := hide (own_stays HO4.out hb)
    have HB5 : Hid (Below w.heap.size w w5) := hide (HB4.out.trans (hb.mono HB4.out.size))
    clear hb
    go_wp2_with fail
    refine (HTo.out _ (row_below HR.out HB5.out)).mono ?_
    rintro e w6 ⟨u6, rfl, hown, hb⟩
    have HO6 := hide hown
    have HOx := hide (own_stays HO5.out hb)
    have HB6 : Hid (Below w.heap.size w w6) := hide (HB5.out.trans (hb.mono HB5.out.size))
    clear hb hown
    go_wp2_with fail
    refine (HEq.out _ _ _ (row_of_own HOx.out) (row_of_own HO6.out)).mono ?_
    rintro e w7 ⟨rfl, hb⟩
    have HB7 : Hid (Below w.heap.size w w7) := hide (HB6.out.trans (hb.mono HB6.out.size))
    clear hb
    go_wp2_with fail
    go_ret
    exact ⟨rfl, HB7.out⟩
  · rw [szOut_no (by omega)] at HSz
    clear hI
    go_enter Try.func6, Try.ntmps6
    go_wp2_with fail
    refine (HSz.out _ HR.out).mono ?_
    rintro e w1 ⟨rfl, hb⟩
    go_wp2_with fail
    go_ret
    exact ⟨rfl, hb⟩

set_option maxHeartbeats 2000000 in
set_option maxRecDepth 100000 in
theorem lawSchemaText (v : Value) (fs : List (ByteArray × Int)) (bl : fs.length ≤ maxLen) (bn : ∀ f ∈ fs, f.1.size ≤ maxLen) (hI : bulkF fs ≤ 1048576 → ∀ u wx, RowAt wx 2 u fs.length (flds fs) → Calls Try.prog 21 #[u] wx fun e w' => e = .returned (.tuple #[.string (schemaO fs), .bool (schemaOkB fs)]) ∧ Below wx.heap.size wx w') (w : World) (hr : RowAt w 2 v fs.length (flds fs)) :
    Calls Try.prog 7 #[v] w fun e w' => e = .returned (.bool true) ∧ Below w.heap.size w w' := by
  have HSz := hide (fun wx h => szFieldS_any fs bl bn v 1048576 (Nat.le_refl _) wx h)
  have HR := hide hr
  clear bl bn hr
  by_cases hbk : bulkF fs ≤ 1048576
  · obtain ⟨h1, h2⟩ := bulkF_in hbk
    obtain ⟨r, hr⟩ : ∃ r : Nat, szOut 1048576 (bulkF fs) = (r : Int) := ⟨_, szOut_yes hbk⟩
    rw [hr] at HSz
    have HTo := hide (fun wx h => toFieldS_any fs h1 v wx h)
    have HSp := hide (fun u wx h => specSchemaText_any fs h1 h2 u wx h)
    have HIm := hide (hI hbk)
    have HEq := hide (fun u u' wx h h' => eqFieldS_row fs fs (by omega) (by omega) u u' wx h h')
    rw [decide_eq_true rfl] at HEq
    obtain ⟨ok, hok⟩ : ∃ ok, ok = schemaOkB fs := ⟨_, rfl⟩
    obtain ⟨tx, htx⟩ : ∃ tx, tx = schemaO fs := ⟨_, rfl⟩
    rw [← hok, ← htx] at HSp HIm
    clear hI hbk h1 h2 hr hok htx
    go_enter Try.func7, Try.ntmps7
    go_wp2_with fail
    refine (HSz.out _ HR.out).mono ?_
    rintro e w1 ⟨rfl, hb⟩
    have HB1 := hide hb
    clear hb
    go_wp2_with fail
    refine (HTo.out _ (row_below HR.out HB1.out)).mono ?_
    rintro e w2 ⟨u2, rfl, hown, hb⟩
    have HO2 := hide hown
    have HB2 : Hid (Below w.heap.size w w2) := hide (HB1.out.trans (hb.mono HB1.out.size))
    clear hb hown
    go_wp2_with fail
    refine (HSp.out _ _ (row_of_own HO2.out)).mono ?_
    rintro e w3 ⟨rfl, hb⟩
    have HB3 : Hid (Below w.heap.size w w3) := hide (HB2.out.trans (hb.mono HB2.out.size))
    clear hb
    go_wp2_with fail
    refine (HTo.out _ (row_below HR.out HB3.out)).mono ?_
    rintro e w4 ⟨u4, rfl, hown, hb⟩
    have HO4 := hide hown
    have HB4 : Hid (Below w.heap.size w w4) := hide (HB3.out.trans (hb.mono HB3.out.size))
    clear hb hown
    go_wp2_with fail
    refine (HIm.out _ _ (row_of_own HO4.out)).mono ?_
    rintro e w5 ⟨rfl, hb⟩
    have HO5 := hide (own_stays HO4.out hb)
    have HB5 : Hid (Below w.heap.size w w5) := hide (HB4.out.trans (hb.mono HB4.out.size))
    clear hb
    go_wp2_with fail
    refine (HTo.out _ (row_below HR.out HB5.out)).mono ?_
    rintro e w6 ⟨u6, rfl, hown, hb⟩
    have HO6 := hide hown
    have HOx := hide (own_stays HO5.out hb)
    have HB6 : Hid (Below w.heap.size w w6) := hide (HB5.out.trans (hb.mono HB5.out.size))
    clear hb hown
    go_wp2_with fail
    refine (HEq.out _ _ _ (row_of_own HOx.out) (row_of_own HO6.out)).mono ?_
    rintro e w7 ⟨rfl, hb⟩
    have HB7 : Hid (Below w.heap.size w w7) := hide (HB6.out.trans (hb.mono HB6.out.size))
    clear hb
    go_wp2_with fail
    go_ret
    exact ⟨rfl, HB7.out⟩
  · rw [szOut_no (by omega)] at HSz
    clear hI
    go_enter Try.func7, Try.ntmps7
    go_wp2_with fail
    refine (HSz.out _ HR.out).mono ?_
    rintro e w1 ⟨rfl, hb⟩
    go_wp2_with fail
    go_ret
    exact ⟨rfl, hb⟩

set_option maxHeartbeats 2000000 in
set_option maxRecDepth 100000 in
theorem lawFieldAt (v : Value) (fs : List (ByteArray × Int)) (name : ByteArray) (hnm : name.size ≤ maxLen) (bl : fs.length ≤ maxLen) (bn : ∀ f ∈ fs, f.1.size ≤ maxLen) (hI : bulkF fs ≤ 1048576 → ∀ u wx, RowAt wx 2 u fs.length (flds fs) → Calls Try.prog 29 #[u, .string name] wx fun e w' => e = .returned (.int .i64 (placeL name 0 fs)) ∧ Below wx.heap.size wx w') (w : World) (hr : RowAt w 2 v fs.length (flds fs)) :
    Calls Try.prog 13 #[v, .string name] w fun e w' => e = .returned (.bool true) ∧ Below w.heap.size w w' := by
  unfold maxLen at hnm
  by_cases hnm1 : 1048576 < name.size
  · clear hI
    go_enter Try.func13, Try.ntmps13
    go_wp2_with fail
    go_ret
    exact ⟨rfl, Below.refl _ _⟩
  have HSz := hide (fun wx h => szFieldS_any fs bl bn v 1048576 (Nat.le_refl _) wx h)
  have HR := hide hr
  clear bl bn hr
  by_cases hbk : bulkF fs ≤ 1048576
  · obtain ⟨h1, h2⟩ := bulkF_in hbk
    obtain ⟨r, hr⟩ : ∃ r : Nat, szOut 1048576 (bulkF fs) = (r : Int) := ⟨_, szOut_yes hbk⟩
    rw [hr] at HSz
    have HTo := hide (fun wx h => toFieldS_any fs h1 v wx h)
    have HSp := hide (fun u wx h => specFieldAt_any fs h1 name u wx h)
    have HIm := hide (hI hbk)
    have HEq := hide (fun u u' wx h h' => eqFieldS_row fs fs (by omega) (by omega) u u' wx h h')
    rw [decide_eq_true rfl] at HEq
    obtain ⟨ok, hok⟩ : ∃ ok, ok = placeL name 0 fs := ⟨_, rfl⟩
    rw [← hok] at HSp HIm
    clear hI hbk h1 h2 hr hok
    go_enter Try.func13, Try.ntmps13
    go_wp2_with fail
    refine (HSz.out _ HR.out).mono ?_
    rintro e w1 ⟨rfl, hb⟩
    have HB1 := hide hb
    clear hb
    go_wp2_with fail
    refine (HTo.out _ (row_below HR.out HB1.out)).mono ?_
    rintro e w2 ⟨u2, rfl, hown, hb⟩
    have HO2 := hide hown
    have HB2 : Hid (Below w.heap.size w w2) := hide (HB1.out.trans (hb.mono HB1.out.size))
    clear hb hown
    go_wp2_with fail
    refine (HSp.out _ _ (row_of_own HO2.out)).mono ?_
    rintro e w3 ⟨rfl, rfl⟩
    have HB3 := HB2
    go_wp2_with fail
    refine (HTo.out _ (row_below HR.out HB3.out)).mono ?_
    rintro e w4 ⟨u4, rfl, hown, hb⟩
    have HO4 := hide hown
    have HB4 : Hid (Below w.heap.size w w4) := hide (HB3.out.trans (hb.mono HB3.out.size))
    clear hb hown
    go_wp2_with fail
    refine (HIm.out _ _ (row_of_own HO4.out)).mono ?_
    rintro e w5 ⟨rfl, hb⟩
    have HO5 := hide (own_stays HO4.out hb)
    have HB5 : Hid (Below w.heap.size w w5) := hide (HB4.out.trans (hb.mono HB4.out.size))
    clear hb
    go_wp2_with fail
    refine (HTo.out _ (row_below HR.out HB5.out)).mono ?_
    rintro e w6 ⟨u6, rfl, hown, hb⟩
    have HO6 := hide hown
    have HOx := hide (own_stays HO5.out hb)
    have HB6 : Hid (Below w.heap.size w w6) := hide (HB5.out.trans (hb.mono HB5.out.size))
    clear hb hown
    go_wp2_with fail
    refine (HEq.out _ _ _ (row_of_own HOx.out) (row_of_own HO6.out)).mono ?_
    rintro e w7 ⟨rfl, hb⟩
    have HB7 : Hid (Below w.heap.size w w7) := hide (HB6.out.trans (hb.mono HB6.out.size))
    clear hb
    go_wp2_with fail
    go_ret
    exact ⟨rfl, HB7.out⟩
  · rw [szOut_no (by omega)] at HSz
    clear hI
    go_enter Try.func13, Try.ntmps13
    go_wp2_with fail
    refine (HSz.out _ HR.out).mono ?_
    rintro e w1 ⟨rfl, hb⟩
    go_wp2_with fail
    go_ret
    exact ⟨rfl, hb⟩
end Go.Proofs.Ytjldcbnoomcloaa
