/-
  The exact law of ReadThing by contracts, where the program's function is as its contract says.
-/
import Derived.Test.YtjldcbnoomcloaaReadSpec3
import Derived.Test.YtjldcbnoomcloaaThingLaw2
namespace Go.Proofs.Ytjldcbnoomcloaa
open Go.RowKit

theorem readTh_len {fs : List (ByteArray × Int)} {t : ByteArray} {vs : List (Int × ByteArray)} {ok : Bool} (h : ReadTh fs t vs ok) : vs.length ≤ 3 := by
  rcases h with ⟨-, h, -⟩ | ⟨-, rfl, -⟩
  · have := thing_yes h.1
    omega
  · simp

set_option maxHeartbeats 4000000 in
set_option maxRecDepth 100000 in
theorem lawReadThing (v : Value) (fs : List (ByteArray × Int)) (t : ByteArray) (htm : t.size ≤ maxLen) (bl : fs.length ≤ maxLen) (bn : ∀ f ∈ fs, f.1.size ≤ maxLen) (hI : bulkF fs ≤ 1048576 → t.size ≤ 1048576 → ∀ u wx, RowAt wx 2 u fs.length (flds fs) → Calls Try.prog 33 #[u, .string t] wx fun e w' => ∃ u vs ok, e = .returned (.tuple #[u, .bool ok]) ∧ w'.ownsRow wx.heap.size 50 2 u vs.length (puts vs) ∧ ReadTh fs t vs ok ∧ Below wx.heap.size wx w') (w : World) (hr : RowAt w 2 v fs.length (flds fs)) :
    Calls Try.prog 11 #[v, .string t] w fun e w' => e = .returned (.bool true) ∧ Below w.heap.size w w' := by
  unfold maxLen at htm
  by_cases htb : t.size ≤ 1048576
  · have HSz := hide (fun wx h => szFieldS_any fs bl bn v 1048576 (Nat.le_refl _) wx h)
    have HR := hide hr
    clear bl bn hr
    by_cases hbk : bulkF fs ≤ 1048576
    · obtain ⟨h1, h2⟩ := bulkF_in hbk
      obtain ⟨r, hr⟩ : ∃ r : Nat, szOut 1048576 (bulkF fs) = (r : Int) := ⟨_, szOut_yes hbk⟩
      rw [hr] at HSz
      have HTo := hide (fun wx h => toFieldS_any fs h1 v wx h)
      have HSp := hide (fun u wx h => specReadThing_any fs h1 h2 t htb u wx h)
      have HIm := hide (hI hbk htb)
      have HEf := hide (fun u u' wx h h' => eqFieldS_row fs fs (by omega) (by omega) u u' wx h h')
      rw [decide_eq_true rfl] at HEf
      have HMf := hide (fun u B wx h => markFieldS_row fs (by omega) u B 1 (by omega) (by omega) wx h)
      obtain ⟨kf, hkf⟩ : ∃ kf, kf = 1 + fs.length * 2 := ⟨_, rfl⟩
      rw [← hkf] at HMf
      have hkfl : kf ≤ 3000000 := by omega
      clear hI hbk h1 h2 hr hkf
      have HB_w : Hid (Below w.heap.size w w) := hide (Below.refl _ _)
      go_enter Try.func11, Try.ntmps11
      go_wp2_with fail
      refine (HSz.out _ HR.out).mono ?_
      rintro e w1 ⟨rfl, hb⟩
      have HB_w1 : Hid (Below w.heap.size w w1) := hide (HB_w.out.trans (hb.mono HB_w.out.size))
      clear hb
      go_wp2_with fail
      refine (HTo.out _ (row_below HR.out HB_w1.out)).mono ?_
      rintro e w2 ⟨u_a, rfl, hown, hb⟩
      have HB_w2 : Hid (Below w.heap.size w w2) := hide (HB_w1.out.trans (hb.mono HB_w1.out.size))
      have HO_a_w2 := hide hown
      clear hb hown
      go_wp2_with fail
      refine (HSp.out _ _ (row_of_own HO_a_w2.out)).mono ?_
      rintro e w3 ⟨u_r, vs, ok, rfl, hown, hrd, hb⟩
      have HZ1 : Hid (w2.heap.size ≤ w3.heap.size) := hide hb.size
      have HRd := hide hrd
      have hvl := readTh_len hrd
      clear hrd
      have HO_a_w3 := hide (own_stays HO_a_w2.out hb)
      have HB_w3 : Hid (Below w.heap.size w w3) := hide (HB_w2.out.trans (hb.mono HB_w2.out.size))
      have HO_r_w3 := hide hown
      clear hb hown
      have HLt_r : Hid (∀ k, u_r.ownBlock = some k → w2.heap.size ≤ k ∧ k < w3.heap.size) := hide HO_r_w3.out.lt
      go_wp2_with fail
      refine (HTo.out _ (row_below HR.out HB_w3.out)).mono ?_
      rintro e w4 ⟨u_x, rfl, hown, hb⟩
      have HZ2 : Hid (w3.heap.size ≤ w4.heap.size) := hide hb.size
      have HO_a_w4 := hide (own_stays HO_a_w3.out hb)
      have HO_r_w4 := hide (own_stays HO_r_w3.out hb)
      have HB_w4 : Hid (Below w.heap.size w w4) := hide (HB_w3.out.trans (hb.mono HB_w3.out.size))
      have HO_x_w4 := hide hown
      clear hb hown
      have HLt_x : Hid (∀ k, u_x.ownBlock = some k → w3.heap.size ≤ k ∧ k < w4.heap.size) := hide HO_x_w4.out.lt
      go_wp2_with fail
      refine (HIm.out _ _ (row_of_own HO_x_w4.out)).mono ?_
      rintro e w5 ⟨u_g, us, ko, rfl, hown, hrd, hb⟩
      have HZ3 : Hid (w4.heap.size ≤ w5.heap.size) := hide hb.size
      obtain ⟨e1, e2⟩ := readTh_one hrd HRd.out
      subst e1 e2
      clear hrd
      have HO_a_w5 := hide (own_stays HO_a_w4.out hb)
      have HO_r_w5 := hide (own_stays HO_r_w4.out hb)
      have HO_x_w5 := hide (own_stays HO_x_w4.out hb)
      have HB_w5 : Hid (Below w.heap.size w w5) := hide (HB_w4.out.trans (hb.mono HB_w4.out.size))
      have HO_g_w5 := hide hown
      clear hb hown
      have HLt_g : Hid (∀ k, u_g.ownBlock = some k → w4.heap.size ≤ k ∧ k < w5.heap.size) := hide HO_g_w5.out.lt
      have HL : Hid (w.heap.size ≤ w2.heap.size ∧ w2.heap.size ≤ w3.heap.size ∧ w3.heap.size ≤ w4.heap.size ∧ w4.heap.size ≤ w5.heap.size) := hide ⟨HB_w2.out.size, HZ1.out, HZ2.out, HZ3.out⟩
      have HEv := hide (fun x y wx h h' => eqValueS_row us us (by omega) (by omega) x y wx h h')
      rw [decide_eq_true rfl] at HEv
      have HMv := hide (fun u B wx h => markValueS_row us (by omega) u B 1 (by omega) (by omega) wx h)
      have HHv := hide (fun u wx h => heldValueS_row us.length (by omega) u 1 (by omega) (by omega) wx h)
      obtain ⟨kr, hkr⟩ : ∃ kr, kr = 1 + us.length * 2 := ⟨_, rfl⟩
      rw [← hkr] at HMv HHv
      have hkl : kr ≤ 100 := by omega
      clear hkr hvl
      go_wp2_with fail
      refine (HEv.out _ _ _ (row_of_own HO_g_w5.out) (row_of_own HO_r_w5.out)).mono ?_
      rintro e w6 ⟨rfl, hb⟩
      have HO_r_w6 := hide (own_stays HO_r_w5.out hb)
      have HO_x_w6 := hide (own_stays HO_x_w5.out hb)
      have HO_g_w6 := hide (own_stays HO_g_w5.out hb)
      have HB_w6 : Hid (Below w.heap.size w w6) := hide (HB_w5.out.trans (hb.mono HB_w5.out.size))
      clear hb
      go_wp2_with fail
      refine (HTo.out _ (row_below HR.out HB_w6.out)).mono ?_
      rintro e w7 ⟨u_b, rfl, hown, hb⟩
      have HO_r_w7 := hide (own_stays HO_r_w6.out hb)
      have HO_x_w7 := hide (own_stays HO_x_w6.out hb)
      have HO_g_w7 := hide (own_stays HO_g_w6.out hb)
      have HB_w7 : Hid (Below w.heap.size w w7) := hide (HB_w6.out.trans (hb.mono HB_w6.out.size))
      have HO_b_w7 := hide hown
      clear hb hown
      go_wp2_with fail
      refine (HEf.out _ _ _ (row_of_own HO_x_w7.out) (row_of_own HO_b_w7.out)).mono ?_
      rintro e w8 ⟨rfl, hb⟩
      have HO_r_w8 := hide (own_stays HO_r_w7.out hb)
      have HO_x_w8 := hide (own_stays HO_x_w7.out hb)
      have HO_g_w8 := hide (own_stays HO_g_w7.out hb)
      have HO_b_w8 := hide (own_stays HO_b_w7.out hb)
      have HB_w8 : Hid (Below w.heap.size w w8) := hide (HB_w7.out.trans (hb.mono HB_w7.out.size))
      clear hb
      go_wp2_with fail
      refine (HMf.out _ _ _ HO_x_w8.out).mono ?_
      rintro e w9 ⟨rfl, hownM, hk⟩
      have HO_r_w9 := hide (own_kept HO_r_w8.out hk (fun k h0 h1 => by have h2 := HLt_r.out k h0; have h3 := HLt_x.out k h1; have h4 := HL.out; omega))
      have HO_g_w9 := hide (own_kept HO_g_w8.out hk (fun k h0 h1 => by have h2 := HLt_g.out k h0; have h3 := HLt_x.out k h1; have h4 := HL.out; omega))
      have HB_w9 : Hid (Below w.heap.size w w9) := hide (HB_w8.out.trans (below_of_kept hk HB_w8.out.size (fun k h1 => by have h3 := HLt_x.out k h1; have h4 := HL.out; omega)))
      have HO_x_w9 := hide hownM
      clear hownM hk
      go_wp2_with fail
      refine (HEv.out _ _ _ (row_of_own HO_g_w9.out) (row_of_own HO_r_w9.out)).mono ?_
      rintro e w10 ⟨rfl, hb⟩
      have HO_r_w10 := hide (own_stays HO_r_w9.out hb)
      have HO_x_w10 := hide (own_stays HO_x_w9.out hb)
      have HO_g_w10 := hide (own_stays HO_g_w9.out hb)
      have HB_w10 : Hid (Below w.heap.size w w10) := hide (HB_w9.out.trans (hb.mono HB_w9.out.size))
      clear hb
      go_wp2_with fail
      refine (HMv.out _ _ _ HO_g_w10.out).mono ?_
      rintro e w11 ⟨rfl, hownM, hk⟩
      have HO_r_w11 := hide (own_kept HO_r_w10.out hk (fun k h0 h1 => by have h2 := HLt_r.out k h0; have h3 := HLt_g.out k h1; have h4 := HL.out; omega))
      have HB_w11 : Hid (Below w.heap.size w w11) := hide (HB_w10.out.trans (below_of_kept hk HB_w10.out.size (fun k h1 => by have h3 := HLt_g.out k h1; have h4 := HL.out; omega)))
      have HO_g_w11 := hide hownM
      clear hownM hk
      go_wp2_with fail
      refine (HHv.out _ _ (row_of_own HO_g_w11.out)).mono ?_
      rintro e w12 ⟨rfl, hb⟩
      have HO_r_w12 := hide (own_stays HO_r_w11.out hb)
      have HO_g_w12 := hide (own_stays HO_g_w11.out hb)
      have HB_w12 : Hid (Below w.heap.size w w12) := hide (HB_w11.out.trans (hb.mono HB_w11.out.size))
      clear hb
      go_wp2_with fail
      refine (HTo.out _ (row_below HR.out HB_w12.out)).mono ?_
      rintro e w13 ⟨u_c, rfl, hown, hb⟩
      have HO_r_w13 := hide (own_stays HO_r_w12.out hb)
      have HO_g_w13 := hide (own_stays HO_g_w12.out hb)
      have HB_w13 : Hid (Below w.heap.size w w13) := hide (HB_w12.out.trans (hb.mono HB_w12.out.size))
      have HO_c_w13 := hide hown
      clear hb hown
      go_wp2_with fail
      refine (HIm.out _ _ (row_of_own HO_c_w13.out)).mono ?_
      rintro e w14 ⟨u_h, vs, ko2, rfl, hown, hrd, hb⟩
      obtain ⟨e1, e2⟩ := readTh_one hrd HRd.out
      subst e1 e2
      clear hrd
      have HO_r_w14 := hide (own_stays HO_r_w13.out hb)
      have HO_g_w14 := hide (own_stays HO_g_w13.out hb)
      have HO_c_w14 := hide (own_stays HO_c_w13.out hb)
      have HB_w14 : Hid (Below w.heap.size w w14) := hide (HB_w13.out.trans (hb.mono HB_w13.out.size))
      have HO_h_w14 := hide hown
      clear hb hown
      go_wp2_with fail
      refine (HEv.out _ _ _ (row_of_own HO_h_w14.out) (row_of_own HO_r_w14.out)).mono ?_
      rintro e w15 ⟨rfl, hb⟩
      have HO_r_w15 := hide (own_stays HO_r_w14.out hb)
      have HO_g_w15 := hide (own_stays HO_g_w14.out hb)
      have HO_h_w15 := hide (own_stays HO_h_w14.out hb)
      have HB_w15 : Hid (Below w.heap.size w w15) := hide (HB_w14.out.trans (hb.mono HB_w14.out.size))
      clear hb
      go_wp2_with fail
      refine (HHv.out _ _ (row_of_own HO_g_w15.out)).mono ?_
      rintro e w16 ⟨rfl, hb⟩
      have HO_g_w16 := hide (own_stays HO_g_w15.out hb)
      have HB_w16 : Hid (Below w.heap.size w w16) := hide (HB_w15.out.trans (hb.mono HB_w15.out.size))
      clear hb
      go_wp2_with fail
      go_ret
      exact ⟨rfl, HB_w16.out⟩
    · rw [szOut_no (by omega)] at HSz
      clear hI
      go_enter Try.func11, Try.ntmps11
      go_wp2_with fail
      refine (HSz.out _ HR.out).mono ?_
      rintro e w1 ⟨rfl, hb⟩
      go_wp2_with fail
      go_ret
      exact ⟨rfl, hb⟩
  · have d1 : decide ((1048576 : Int) < (t.size : Int)) = true := by simp; omega
    clear hI
    go_enter Try.func11, Try.ntmps11
    go_wp2_with fail
    go_ret
    exact ⟨rfl, Below.refl _ _⟩
end Go.Proofs.Ytjldcbnoomcloaa
