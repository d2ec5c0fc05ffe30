/-
  The exact law of ReadSchema by contracts, where the program's function is as its contract says.
-/
import Derived.Test.YtjldcbnoomcloaaReadSpec2
import Derived.Test.YtjldcbnoomcloaaThingLaw2
namespace Go.Proofs.Ytjldcbnoomcloaa
open Go.RowKit

theorem readSch_len {t : ByteArray} {fs : List (ByteArray × Int)} {ok : Bool} (h : ReadSch t fs ok) : fs.length ≤ 3 := by
  rcases h with ⟨-, h, -⟩ | ⟨-, rfl, -⟩
  · exact (schema_yes h.1).2.1
  · simp

set_option maxHeartbeats 4000000 in
set_option maxRecDepth 100000 in
theorem lawReadSchema (t : ByteArray) (htm : t.size ≤ maxLen) (hI : t.size ≤ 1048576 → ∀ wx, Calls Try.prog 22 #[.string t] wx fun e w' => ∃ v fs ok, e = .returned (.tuple #[v, .bool ok]) ∧ w'.ownsRow wx.heap.size 48 2 v fs.length (flds fs) ∧ ReadSch t fs ok ∧ Below wx.heap.size wx w') (w : World) :
    Calls Try.prog 8 #[.string t] w fun e w' => e = .returned (.bool true) ∧ Below w.heap.size w w' := by
  unfold maxLen at htm
  by_cases hb : t.size ≤ 1048576
  · have HSp := hide (specReadSchema_any t hb)
    have HIm := hide (hI hb)
    clear hI
    go_enter Try.func8, Try.ntmps8
    go_wp2_with fail
    refine (HSp.out _).mono ?_
    rintro e w1 ⟨u0, fs, ok, rfl, hown, hrd, hb1⟩
    have HO0 := hide hown
    have HRd := hide hrd
    have HB1 := hide hb1
    have hfl := readSch_len hrd
    clear hown hrd hb1
    go_wp2_with fail
    refine (HIm.out _).mono ?_
    rintro e w2 ⟨u1, gs, ko, rfl, hown, hrd, hb2⟩
    obtain ⟨e1, e2⟩ := readSch_one hrd HRd.out
    subst e1 e2
    have HO1 := hide hown
    have HB2 : Hid (Below w.heap.size w w2) := hide (HB1.out.trans (hb2.mono HB1.out.size))
    have HO02 := hide (own_stays HO0.out hb2)
    have HLt0 : Hid (∀ k, u0.ownBlock = some k → w.heap.size ≤ k ∧ k < w1.heap.size) := hide HO0.out.lt
    have HLt1 : Hid (∀ k, u1.ownBlock = some k → w1.heap.size ≤ k) := hide (fun k hk => (hown.lt k hk).1)
    have HS1 : Hid (w.heap.size ≤ w1.heap.size) := hide HB1.out.size
    have HEq := hide (fun x y wx h h' => eqFieldS_row gs gs (by omega) (by omega) x y wx h h')
    rw [decide_eq_true rfl] at HEq
    have HMk := hide (fun u B wx h => markFieldS_row gs (by omega) u B 1 (by omega) (by omega) wx h)
    have HHd := hide (fun u wx h => heldFieldS_row gs.length (by omega) u 1 (by omega) (by omega) wx h)
    obtain ⟨kr, hkr⟩ : ∃ kr, kr = 1 + gs.length * 2 := ⟨_, rfl⟩
    rw [← hkr] at HMk HHd
    have hkl : kr ≤ 100 := by omega
    clear hown hrd hb2 HO0 hkr
    go_wp2_with fail
    refine (HEq.out _ _ _ (row_of_own HO1.out) (row_of_own HO02.out)).mono ?_
    rintro e w3 ⟨rfl, hb3⟩
    have HO13 := hide (own_stays HO1.out hb3)
    have HO03 := hide (own_stays HO02.out hb3)
    have HB3 : Hid (Below w.heap.size w w3) := hide (HB2.out.trans (hb3.mono HB2.out.size))
    clear hb3
    go_wp2_with fail
    refine (HMk.out _ _ _ HO13.out).mono ?_
    rintro e w4 ⟨rfl, hownM, hk⟩
    have HM4 := hide hownM
    have HO04 := hide (own_kept HO03.out hk (fun k h0 h1 => by have := HLt0.out k h0; have := HLt1.out k h1; omega))
    have HB4 : Hid (Below w.heap.size w w4) := hide (HB3.out.trans (below_of_kept hk HB3.out.size (fun k h1 => by have := HLt1.out k h1; have := HS1.out; omega)))
    clear hownM hk
    go_wp2_with fail
    refine (HHd.out _ _ (row_of_own HM4.out)).mono ?_
    rintro e w5 ⟨rfl, hb5⟩
    have HM5 := hide (own_stays HM4.out hb5)
    have HO05 := hide (own_stays HO04.out hb5)
    have HB5 : Hid (Below w.heap.size w w5) := hide (HB4.out.trans (hb5.mono HB4.out.size))
    clear hb5
    go_wp2_with fail
    refine (HIm.out _).mono ?_
    rintro e w6 ⟨u2, fs, ko2, rfl, hown, hrd, hb6⟩
    obtain ⟨e1, e2⟩ := readSch_one hrd HRd.out
    subst e1 e2
    have HO2 := hide hown
    have HM6 := hide (own_stays HM5.out hb6)
    have HO06 := hide (own_stays HO05.out hb6)
    have HB6 : Hid (Below w.heap.size w w6) := hide (HB5.out.trans (hb6.mono HB5.out.size))
    clear hown hrd hb6
    go_wp2_with fail
    refine (HEq.out _ _ _ (row_of_own HO2.out) (row_of_own HO06.out)).mono ?_
    rintro e w7 ⟨rfl, hb7⟩
    have HM7 := hide (own_stays HM6.out hb7)
    have HB7 : Hid (Below w.heap.size w w7) := hide (HB6.out.trans (hb7.mono HB6.out.size))
    clear hb7
    go_wp2_with fail
    refine (HHd.out _ _ (row_of_own HM7.out)).mono ?_
    rintro e w8 ⟨rfl, hb8⟩
    have HB8 : Hid (Below w.heap.size w w8) := hide (HB7.out.trans (hb8.mono HB7.out.size))
    clear hb8
    go_wp2_with fail
    go_ret
    exact ⟨rfl, HB8.out⟩
  · have d1 : decide ((1048576 : Int) < (t.size : Int)) = true := by simp; omega
    clear hI
    go_enter Try.func8, Try.ntmps8
    go_wp2_with fail
    go_ret
    exact ⟨rfl, Below.refl _ _⟩
end Go.Proofs.Ytjldcbnoomcloaa
