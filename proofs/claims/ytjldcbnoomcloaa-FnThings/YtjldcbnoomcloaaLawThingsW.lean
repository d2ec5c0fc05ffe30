/-
  laws.FnThings by contracts: it returns true at every code.
-/
import Derived.Test.YtjldcbnoomcloaaDrawThing7
import Derived.Test.YtjldcbnoomcloaaImplRead2
import Derived.Test.YtjldcbnoomcloaaImplThing3
namespace Go.Proofs.Ytjldcbnoomcloaa
open Go.RowKit

theorem thingO_th {fs : List (ByteArray × Int)} {vs : List (Int × ByteArray)} (h : thingOkB fs vs = true) : IsTh fs (thingO fs vs) vs := ⟨h, by rw [thingO, if_pos h, thT]⟩

/-- what is read of a thing's own bytes -/
theorem readTh_own {fs : List (ByteArray × Int)} {vs xs : List (Int × ByteArray)} {right : Bool} (h : ReadTh fs (thingO fs vs) xs right) (hok : thingOkB fs vs = true) : right = true ∧ xs = vs := by
  have hs := thingO_th hok
  rcases h with ⟨h1, h2, h3⟩ | ⟨h1, h2, h3⟩
  · exact ⟨h1, (h3 vs hs).symm⟩
  · exact absurd hs (h3 vs)

theorem readTh_back {fs : List (ByteArray × Int)} {t : ByteArray} {ys : List (Int × ByteArray)} (h : ReadTh fs t ys true) : thingO fs ys = t := by
  rcases h with ⟨-, h2, -⟩ | ⟨h1, -, -⟩
  · rw [thingO, if_pos h2.1]; exact h2.2
  · cases h1

theorem value_small {kind num : Int} {t : ByteArray} (h : valueB kind num t = true) : t.size ≤ 6 := by
  by_cases hk : kind = 1
  · subst hk
    rw [value_num, Bool.and_eq_true, decide_eq_true_eq, decide_eq_true_eq] at h
    rw [h.2]; exact Nat.zero_le _
  · rw [valueB, if_neg hk, Bool.and_eq_true, decide_eq_true_eq, decide_eq_true_eq] at h
    exact h.2.2.2

theorem readTh_in {fs : List (ByteArray × Int)} {t : ByteArray} {ys : List (Int × ByteArray)} {ok : Bool} (h : ReadTh fs t ys ok) : ys.length ≤ 1048576 ∧ ∀ f ∈ ys, f.2.size ≤ 1048576 := by
  rcases h with ⟨-, h2, -⟩ | ⟨-, rfl, -⟩
  · obtain ⟨h1, h3, h4, h5⟩ := thing_yes h2.1
    refine ⟨by omega, fun f hf => ?_⟩
    obtain ⟨i, hi, rfl⟩ := List.getElem_of_mem hf
    have := value_small (h5 i hi (by omega))
    omega
  · exact ⟨by simp, fun f hf => by simp at hf⟩

set_option maxHeartbeats 4000000 in
set_option maxRecDepth 100000 in
theorem lawThings (a : Option Addr) (len cap : Nat) (w : World) (hd : 1048576 < len ∨ CodeIn w w.heap.size a len) :
    Calls Try.prog 4 #[.slice a len cap] w fun e w' => e = .returned (.bool true) ∧ Below w.heap.size w w' := by
  by_cases hbig : 1048576 < len
  · go_enter Try.func4, Try.ntmps4
    go_wp2_with fail
    refine (big_yes a len cap hbig _).mono ?_
    rintro e w1 ⟨rfl, rfl⟩
    go_wp2_with fail
    go_ret
    exact ⟨rfl, Below.refl _ _⟩
  · have hd' : CodeIn w w.heap.size a len := hd.resolve_left hbig
    have HD := hide hd'
    clear hd hd'
    go_enter Try.func4, Try.ntmps4
    go_wp2_with fail
    refine (big_no a len cap (by omega) _).mono ?_
    rintro e w1 ⟨rfl, rfl⟩
    have HB_w : Hid (Below w.heap.size w w) := hide (Below.refl _ _)
    go_wp2_with fail
    refine (drawThingText_any a len cap _ HD.out).mono ?_
    rintro e w1 ⟨vl, vv, fs, vs, hsm, hsv, rfl, hrow, hrow2, hb⟩
    have HB_w1 : Hid (Below w.heap.size w w1) := hide (HB_w.out.trans (hb.mono HB_w.out.size))
    have HRl_w1 := hide hrow
    have HRv_w1 := hide hrow2
    have HSm := hide hsm
    have HSv := hide hsv
    have HTx := hide (fun wx h h2 => implThingText_any fs vs (smallF_in hsm).1 (smallF_in hsm).2 (smallV_in hsv).1 (smallV_in hsv).2 vl vv wx h h2)
    have HOs := hide (fun wx h h2 => specThingOk_any fs vs (smallF_in hsm).1 (smallF_in hsm).2 (smallV_in hsv).1 (smallV_in hsv).2 vl vv wx h h2)
    have HOi := hide (fun wx h h2 => implThingOk_any fs vs (smallF_in hsm).1 (smallF_in hsm).2 (smallV_in hsv).1 (smallV_in hsv).2 vl vv wx h h2)
    have htz := thingO_size fs vs
    obtain ⟨t, ht⟩ : ∃ t, t = thingO fs vs := ⟨_, rfl⟩
    obtain ⟨ok, hok⟩ : ∃ ok, ok = thingOkB fs vs := ⟨_, rfl⟩
    rw [← ht, ← hok] at HTx
    rw [← hok] at HOs HOi
    rw [← ht] at htz
    have HT := hide ht
    have HOk := hide hok
    clear hsm hsv hrow hrow2 ht hok
    have HRi := hide (fun wx h => implReadThing_any fs (smallF_in HSm.out).1 (smallF_in HSm.out).2 t (by omega) vl wx h)
    clear hb
    go_wp2_with fail
    refine (HTx.out _ HRl_w1.out HRv_w1.out).mono ?_
    rintro e w2 ⟨rfl, hb⟩
    have HRl_w2 := hide (row_below HRl_w1.out hb)
    have HRv_w2 := hide (row_below HRv_w1.out hb)
    have HB_w2 : Hid (Below w.heap.size w w2) := hide (HB_w1.out.trans (hb.mono HB_w1.out.size))
    clear hb
    go_wp2_with fail
    refine (HRi.out _ HRl_w2.out).mono ?_
    rintro e w3 ⟨vx, xs, right, rfl, hown, hrd, hb⟩
    have HRl_w3 := hide (row_below HRl_w2.out hb)
    have HRv_w3 := hide (row_below HRv_w2.out hb)
    have HB_w3 : Hid (Below w.heap.size w w3) := hide (HB_w2.out.trans (hb.mono HB_w2.out.size))
    have HRx_w3 := hide (row_of_own hown)
    have HYes : Hid (ok = true → right = true ∧ xs = vs) := hide (fun h => by
      rw [HT.out] at hrd
      exact readTh_own hrd (by rw [← HOk.out]; exact h))
    clear hown hrd
    clear hb
    go_wp2_with fail
    refine (drawReadThing_any a len cap _ (code_below HD.out HB_w3.out)).mono ?_
    rintro e w4 ⟨va, gs, u, hsm, hu, rfl, hrow, hb⟩
    have HRl_w4 := hide (row_below HRl_w3.out hb)
    have HRv_w4 := hide (row_below HRv_w3.out hb)
    have HRx_w4 := hide (row_below HRx_w3.out hb)
    have HB_w4 : Hid (Below w.heap.size w w4) := hide (HB_w3.out.trans (hb.mono HB_w3.out.size))
    have HRa_w4 := hide hrow
    have HSa := hide hsm
    have HAi := hide (fun wx h => implReadThing_any gs (smallF_in hsm).1 (smallF_in hsm).2 u (by omega) va wx h)
    have HAs := hide (fun wx h => specReadThing_any gs (smallF_in hsm).1 (smallF_in hsm).2 u (by omega) va wx h)
    clear hsm hrow
    clear hb
    go_wp2_with fail
    refine (HAi.out _ HRa_w4.out).mono ?_
    rintro e w5 ⟨vy, ys, may, rfl, hown, hrd, hb⟩
    have HRl_w5 := hide (row_below HRl_w4.out hb)
    have HRv_w5 := hide (row_below HRv_w4.out hb)
    have HRx_w5 := hide (row_below HRx_w4.out hb)
    have HRa_w5 := hide (row_below HRa_w4.out hb)
    have HB_w5 : Hid (Below w.heap.size w w5) := hide (HB_w4.out.trans (hb.mono HB_w4.out.size))
    have HRy_w5 := hide (row_of_own hown)
    have HRy := hide hrd
    clear hown hrd
    clear hb
    go_wp2_with fail
    refine (HAs.out _ HRa_w5.out).mono ?_
    rintro e w6 ⟨vz, zs, want, rfl, hown, hrd, hb⟩
    have HRl_w6 := hide (row_below HRl_w5.out hb)
    have HRv_w6 := hide (row_below HRv_w5.out hb)
    have HRx_w6 := hide (row_below HRx_w5.out hb)
    have HRa_w6 := hide (row_below HRa_w5.out hb)
    have HRy_w6 := hide (row_below HRy_w5.out hb)
    have HB_w6 : Hid (Below w.heap.size w w6) := hide (HB_w5.out.trans (hb.mono HB_w5.out.size))
    obtain ⟨-, e2⟩ := readTh_one hrd HRy.out
    subst e2
    clear hown hrd
    have HTy := hide (fun wx h h2 => implThingText_any gs ys (smallF_in HSa.out).1 (smallF_in HSa.out).2 (readTh_in HRy.out).1 (readTh_in HRy.out).2 va vy wx h h2)
    obtain ⟨ag, hag⟩ : ∃ ag, ag = thingO gs ys := ⟨_, rfl⟩
    obtain ⟨oky, hoky⟩ : ∃ ok, ok = thingOkB gs ys := ⟨_, rfl⟩
    rw [← hag, ← hoky] at HTy
    have HAg : Hid (want = true → ag = u) := hide (fun h => by rw [hag]; exact readTh_back (by rw [← h]; exact HRy.out))
    clear hag hoky
    clear hb
    go_wp2_with fail
    refine (HTy.out _ HRa_w6.out HRy_w6.out).mono ?_
    rintro e w7 ⟨rfl, hb⟩
    have HRl_w7 := hide (row_below HRl_w6.out hb)
    have HRv_w7 := hide (row_below HRv_w6.out hb)
    have HRx_w7 := hide (row_below HRx_w6.out hb)
    have HRa_w7 := hide (row_below HRa_w6.out hb)
    have HRy_w7 := hide (row_below HRy_w6.out hb)
    have HB_w7 : Hid (Below w.heap.size w w7) := hide (HB_w6.out.trans (hb.mono HB_w6.out.size))
    clear hb
    have HSf := hide (fun wx h h2 => sameValues_same vs (smallV_in HSv.out).1 vx vv wx h h2)
    cases ok with
    | true =>
      obtain ⟨hr1, hx1⟩ := HYes.out rfl
      subst hr1 hx1
      cases want with
      | true =>
        have hau := HAg.out rfl
        subst hau
        have hbq := ba_beq ag ag
        rw [decide_eq_true rfl] at hbq
        go_wp2_with fail
        refine (HOs.out _ HRl_w7.out HRv_w7.out).mono ?_
        rintro e w8 ⟨rfl, hb⟩
        have HRl_w8 := hide (row_below HRl_w7.out hb)
        have HRv_w8 := hide (row_below HRv_w7.out hb)
        have HRx_w8 := hide (row_below HRx_w7.out hb)
        have HB_w8 : Hid (Below w.heap.size w w8) := hide (HB_w7.out.trans (hb.mono HB_w7.out.size))
        clear hb
        go_wp2_with fail
        refine (HOi.out _ HRl_w8.out HRv_w8.out).mono ?_
        rintro e w9 ⟨rfl, hb⟩
        have HRl_w9 := hide (row_below HRl_w8.out hb)
        have HRv_w9 := hide (row_below HRv_w8.out hb)
        have HRx_w9 := hide (row_below HRx_w8.out hb)
        have HB_w9 : Hid (Below w.heap.size w w9) := hide (HB_w8.out.trans (hb.mono HB_w8.out.size))
        clear hb
        go_wp2_with fail
        refine (HSf.out _ HRx_w9.out HRv_w9.out).mono ?_
        rintro e w10 ⟨rfl, hb⟩
        have HRl_w10 := hide (row_below HRl_w9.out hb)
        have HRv_w10 := hide (row_below HRv_w9.out hb)
        have HRx_w10 := hide (row_below HRx_w9.out hb)
        have HB_w10 : Hid (Below w.heap.size w w10) := hide (HB_w9.out.trans (hb.mono HB_w9.out.size))
        clear hb
        go_wp2_with fail
        go_ret
        exact ⟨rfl, HB_w10.out⟩
      | false =>
        go_wp2_with fail
        refine (HOs.out _ HRl_w7.out HRv_w7.out).mono ?_
        rintro e w8 ⟨rfl, hb⟩
        have HRl_w8 := hide (row_below HRl_w7.out hb)
        have HRv_w8 := hide (row_below HRv_w7.out hb)
        have HRx_w8 := hide (row_below HRx_w7.out hb)
        have HB_w8 : Hid (Below w.heap.size w w8) := hide (HB_w7.out.trans (hb.mono HB_w7.out.size))
        clear hb
        go_wp2_with fail
        refine (HOi.out _ HRl_w8.out HRv_w8.out).mono ?_
        rintro e w9 ⟨rfl, hb⟩
        have HRl_w9 := hide (row_below HRl_w8.out hb)
        have HRv_w9 := hide (row_below HRv_w8.out hb)
        have HRx_w9 := hide (row_below HRx_w8.out hb)
        have HB_w9 : Hid (Below w.heap.size w w9) := hide (HB_w8.out.trans (hb.mono HB_w8.out.size))
        clear hb
        go_wp2_with fail
        refine (HSf.out _ HRx_w9.out HRv_w9.out).mono ?_
        rintro e w10 ⟨rfl, hb⟩
        have HRl_w10 := hide (row_below HRl_w9.out hb)
        have HRv_w10 := hide (row_below HRv_w9.out hb)
        have HRx_w10 := hide (row_below HRx_w9.out hb)
        have HB_w10 : Hid (Below w.heap.size w w10) := hide (HB_w9.out.trans (hb.mono HB_w9.out.size))
        clear hb
        go_wp2_with fail
        go_ret
        exact ⟨rfl, HB_w10.out⟩
    | false =>
      cases want with
      | true =>
        have hau := HAg.out rfl
        subst hau
        have hbq := ba_beq ag ag
        rw [decide_eq_true rfl] at hbq
        go_wp2_with fail
        refine (HOs.out _ HRl_w7.out HRv_w7.out).mono ?_
        rintro e w8 ⟨rfl, hb⟩
        have HRl_w8 := hide (row_below HRl_w7.out hb)
        have HRv_w8 := hide (row_below HRv_w7.out hb)
        have HRx_w8 := hide (row_below HRx_w7.out hb)
        have HB_w8 : Hid (Below w.heap.size w w8) := hide (HB_w7.out.trans (hb.mono HB_w7.out.size))
        clear hb
        go_wp2_with fail
        refine (HOi.out _ HRl_w8.out HRv_w8.out).mono ?_
        rintro e w9 ⟨rfl, hb⟩
        have HRl_w9 := hide (row_below HRl_w8.out hb)
        have HRv_w9 := hide (row_below HRv_w8.out hb)
        have HRx_w9 := hide (row_below HRx_w8.out hb)
        have HB_w9 : Hid (Below w.heap.size w w9) := hide (HB_w8.out.trans (hb.mono HB_w8.out.size))
        clear hb
        go_wp2_with fail
        go_ret
        exact ⟨rfl, HB_w9.out⟩
      | false =>
        go_wp2_with fail
        refine (HOs.out _ HRl_w7.out HRv_w7.out).mono ?_
        rintro e w8 ⟨rfl, hb⟩
        have HRl_w8 := hide (row_below HRl_w7.out hb)
        have HRv_w8 := hide (row_below HRv_w7.out hb)
        have HRx_w8 := hide (row_below HRx_w7.out hb)
        have HB_w8 : Hid (Below w.heap.size w w8) := hide (HB_w7.out.trans (hb.mono HB_w7.out.size))
        clear hb
        go_wp2_with fail
        refine (HOi.out _ HRl_w8.out HRv_w8.out).mono ?_
        rintro e w9 ⟨rfl, hb⟩
        have HRl_w9 := hide (row_below HRl_w8.out hb)
        have HRv_w9 := hide (row_below HRv_w8.out hb)
        have HRx_w9 := hide (row_below HRx_w8.out hb)
        have HB_w9 : Hid (Below w.heap.size w w9) := hide (HB_w8.out.trans (hb.mono HB_w8.out.size))
        clear hb
        go_wp2_with fail
        go_ret
        exact ⟨rfl, HB_w9.out⟩
end Go.Proofs.Ytjldcbnoomcloaa
