/-
  laws.FnSchemas by contracts: it returns true at every code.
-/
import Derived.Test.YtjldcbnoomcloaaDrawThing7
import Derived.Test.YtjldcbnoomcloaaImplRead
import Derived.Test.YtjldcbnoomcloaaImplThing3
namespace Go.Proofs.Ytjldcbnoomcloaa
open Go.RowKit

theorem schemaO_sch {fs : List (ByteArray × Int)} (h : schemaOkB fs = true) : IsSch (schemaO fs) fs := ⟨h, by rw [schemaO, if_pos h, schT]⟩

/-- what is read of a schema's own bytes -/
theorem readSch_own {fs xs : List (ByteArray × Int)} {right : Bool} (h : ReadSch (schemaO fs) xs right) (hok : schemaOkB fs = true) : right = true ∧ xs = fs := by
  have hs := schemaO_sch hok
  rcases h with ⟨h1, h2, h3⟩ | ⟨h1, h2, h3⟩
  · exact ⟨h1, (h3 fs hs).symm⟩
  · exact absurd hs (h3 fs)

theorem readSch_back {t : ByteArray} {ys : List (ByteArray × Int)} (h : ReadSch t ys true) : schemaO ys = t := by
  rcases h with ⟨-, h2, -⟩ | ⟨h1, -, -⟩
  · rw [schemaO, if_pos h2.1]; exact h2.2
  · cases h1

theorem readSch_in {t : ByteArray} {ys : List (ByteArray × Int)} {ok : Bool} (h : ReadSch t ys ok) : ys.length ≤ 1048576 ∧ ∀ f ∈ ys, f.1.size ≤ 1048576 := by
  rcases h with ⟨-, h2, -⟩ | ⟨-, rfl, -⟩
  · obtain ⟨h1, h3, h4⟩ := schema_yes h2.1
    refine ⟨by omega, fun f hf => ?_⟩
    obtain ⟨i, hi, rfl⟩ := List.getElem_of_mem hf
    have := (h4 i hi).1
    omega
  · exact ⟨by simp, fun f hf => by simp at hf⟩

set_option maxHeartbeats 4000000 in
set_option maxRecDepth 100000 in
theorem lawSchemas (a : Option Addr) (len cap : Nat) (w : World) (hd : 1048576 < len ∨ CodeIn w w.heap.size a len) :
    Calls Try.prog 3 #[.slice a len cap] w fun e w' => e = .returned (.bool true) ∧ Below w.heap.size w w' := by
  by_cases hbig : 1048576 < len
  · go_enter Try.func3, Try.ntmps3
    go_wp2_with fail
    refine (big_yes a len cap hbig _).mono ?_
    rintro e w1 ⟨rfl, rfl⟩
    go_wp2_with fail
    go_ret
    exact ⟨rfl, Below.refl _ _⟩
  · have hd' : CodeIn w w.heap.size a len := hd.resolve_left hbig
    have HD := hide hd'
    clear hd hd'
    go_enter Try.func3, Try.ntmps3
    go_wp2_with fail
    refine (big_no a len cap (by omega) _).mono ?_
    rintro e w1 ⟨rfl, rfl⟩
    go_wp2_with fail
    refine (drawSchemaText_any a len cap _ HD.out).mono ?_
    rintro e w1 ⟨vl, fs, hsm, rfl, hrow, hb⟩
    have HSm := hide hsm
    have HR1 := hide hrow
    have HB1 := hide hb
    have HTx := hide (fun wx h => implSchemaText_any fs (smallF_in hsm).1 (smallF_in hsm).2 vl wx h)
    have HOs := hide (fun wx h => specSchemaOk_any fs (smallF_in hsm).1 (smallF_in hsm).2 vl wx h)
    have HOi := hide (fun wx h => implSchemaOk_any fs (smallF_in hsm).1 (smallF_in hsm).2 vl wx h)
    have htz := schemaO_size fs
    obtain ⟨t, ht⟩ : ∃ t, t = schemaO fs := ⟨_, rfl⟩
    obtain ⟨ok, hok⟩ : ∃ ok, ok = schemaOkB fs := ⟨_, rfl⟩
    rw [← ht, ← hok] at HTx
    rw [← hok] at HOs HOi
    rw [← ht] at htz
    have HT := hide ht
    have HOk := hide hok
    clear hsm hrow hb ht hok
    go_wp2_with fail
    refine (HTx.out _ HR1.out).mono ?_
    rintro e w2 ⟨rfl, hb⟩
    have HR2 := hide (row_below HR1.out hb)
    have HB2 : Hid (Below w.heap.size w w2) := hide (HB1.out.trans (hb.mono HB1.out.size))
    clear hb
    go_wp2_with fail
    refine (implReadSchema_any t (by omega) _).mono ?_
    rintro e w3 ⟨vx, xs, right, rfl, hown, hrd, hb⟩
    have HX3 := hide (row_of_own hown)
    have HRd := hide hrd
    have HR3 := hide (row_below HR2.out hb)
    have HB3 : Hid (Below w.heap.size w w3) := hide (HB2.out.trans (hb.mono HB2.out.size))
    have HYes : Hid (ok = true → right = true ∧ xs = fs) := hide (fun h => by
      rw [HT.out] at hrd
      exact readSch_own hrd (by rw [← HOk.out]; exact h))
    clear hb hown hrd
    go_wp2_with fail
    refine (drawReadSchema_any a len cap _ (code_below HD.out HB3.out)).mono ?_
    rintro e w4 ⟨u, hu, rfl, hb⟩
    have HX4 := hide (row_below HX3.out hb)
    have HR4 := hide (row_below HR3.out hb)
    have HB4 : Hid (Below w.heap.size w w4) := hide (HB3.out.trans (hb.mono HB3.out.size))
    clear hb
    go_wp2_with fail
    refine (implReadSchema_any u (by omega) _).mono ?_
    rintro e w5 ⟨vy, ys, may, rfl, hown, hrd, hb⟩
    have HY5 := hide (row_of_own hown)
    have HRy := hide hrd
    have HX5 := hide (row_below HX4.out hb)
    have HR5 := hide (row_below HR4.out hb)
    have HB5 : Hid (Below w.heap.size w w5) := hide (HB4.out.trans (hb.mono HB4.out.size))
    clear hb hown hrd
    go_wp2_with fail
    refine (specReadSchema_any u (by omega) _).mono ?_
    rintro e w6 ⟨vz, zs, want, rfl, hown, hrd, hb⟩
    obtain ⟨-, e2⟩ := readSch_one hrd HRy.out
    subst e2
    have HY6 := hide (row_below HY5.out hb)
    have HX6 := hide (row_below HX5.out hb)
    have HR6 := hide (row_below HR5.out hb)
    have HB6 : Hid (Below w.heap.size w w6) := hide (HB5.out.trans (hb.mono HB5.out.size))
    clear hb hown hrd
    have HTy := hide (fun wx h => implSchemaText_any ys (readSch_in HRy.out).1 (readSch_in HRy.out).2 vy wx h)
    obtain ⟨ag, hag⟩ : ∃ ag, ag = schemaO ys := ⟨_, rfl⟩
    obtain ⟨oky, hoky⟩ : ∃ ok, ok = schemaOkB ys := ⟨_, rfl⟩
    rw [← hag, ← hoky] at HTy
    have HAg : Hid (want = true → ag = u) := hide (fun h => by rw [hag]; exact readSch_back (by rw [← h]; exact HRy.out))
    clear hag hoky
    go_wp2_with fail
    refine (HTy.out _ HY6.out).mono ?_
    rintro e w7 ⟨rfl, hb⟩
    have HX7 := hide (row_below HX6.out hb)
    have HR7 := hide (row_below HR6.out hb)
    have HB7 : Hid (Below w.heap.size w w7) := hide (HB6.out.trans (hb.mono HB6.out.size))
    clear hb
    go_wp2_with fail
    refine (drawFieldAt_any a len cap _ (code_below HD.out HB7.out)).mono ?_
    rintro e w8 ⟨va, gs, name, hsm, rfl, hrow, hb⟩
    have HA8 := hide hrow
    have HX8 := hide (row_below HX7.out hb)
    have HR8 := hide (row_below HR7.out hb)
    have HB8 : Hid (Below w.heap.size w w8) := hide (HB7.out.trans (hb.mono HB7.out.size))
    have HFi := hide (fun wx h => implFieldAt_any gs (smallF_in hsm).1 name va wx h)
    have HFs := hide (fun wx h => specFieldAt_any gs (smallF_in hsm).1 name va wx h)
    obtain ⟨pl, hpl⟩ : ∃ pl, pl = placeL name 0 gs := ⟨_, rfl⟩
    rw [← hpl] at HFi HFs
    clear hb hrow hsm hpl
    have HSf := hide (fun wx h h' => sameFields_same fs (smallF_in HSm.out).1 vx vl wx h h')
    cases ok with
    | true =>
      obtain ⟨hr1, hx1⟩ := HYes.out rfl
      subst hr1 hx1
      cases want with
      | true =>
        have hau := HAg.out rfl
        subst hau
        have hbq := ba_beq ag ag
        rw [decide_eq_true rfl] at hbq
        go_wp2_with fail
        refine (HOs.out _ HR8.out).mono ?_
        rintro e w9 ⟨rfl, hb⟩
        have HR9 := hide (row_below HR8.out hb)
        have HX9 := hide (row_below HX8.out hb)
        have HA9 := hide (row_below HA8.out hb)
        have HB9 : Hid (Below w.heap.size w w9) := hide (HB8.out.trans (hb.mono HB8.out.size))
        clear hb
        go_wp2_with fail
        refine (HOi.out _ HR9.out).mono ?_
        rintro e w10 ⟨rfl, hb⟩
        have HR10 := hide (row_below HR9.out hb)
        have HX10 := hide (row_below HX9.out hb)
        have HA10 := hide (row_below HA9.out hb)
        have HB10 : Hid (Below w.heap.size w w10) := hide (HB9.out.trans (hb.mono HB9.out.size))
        clear hb
        go_wp2_with fail
        refine (HSf.out _ HX10.out HR10.out).mono ?_
        rintro e w11 ⟨rfl, hb⟩
        have HA11 := hide (row_below HA10.out hb)
        have HB11 : Hid (Below w.heap.size w w11) := hide (HB10.out.trans (hb.mono HB10.out.size))
        clear hb
        go_wp2_with fail
        refine (HFi.out _ HA11.out).mono ?_
        rintro e w12 ⟨rfl, hb⟩
        have HA12 := hide (row_below HA11.out hb)
        have HB12 : Hid (Below w.heap.size w w12) := hide (HB11.out.trans (hb.mono HB11.out.size))
        clear hb
        go_wp2_with fail
        refine (HFs.out _ HA12.out).mono ?_
        rintro e w13 ⟨rfl, rfl⟩
        go_wp2_with fail
        go_ret
        exact ⟨rfl, HB12.out⟩
      | false =>
        go_wp2_with fail
        refine (HOs.out _ HR8.out).mono ?_
        rintro e w9 ⟨rfl, hb⟩
        have HR9 := hide (row_below HR8.out hb)
        have HX9 := hide (row_below HX8.out hb)
        have HA9 := hide (row_below HA8.out hb)
        have HB9 : Hid (Below w.heap.size w w9) := hide (HB8.out.trans (hb.mono HB8.out.size))
        clear hb
        go_wp2_with fail
        refine (HOi.out _ HR9.out).mono ?_
        rintro e w10 ⟨rfl, hb⟩
        have HR10 := hide (row_below HR9.out hb)
        have HX10 := hide (row_below HX9.out hb)
        have HA10 := hide (row_below HA9.out hb)
        have HB10 : Hid (Below w.heap.size w w10) := hide (HB9.out.trans (hb.mono HB9.out.size))
        clear hb
        go_wp2_with fail
        refine (HSf.out _ HX10.out HR10.out).mono ?_
        rintro e w11 ⟨rfl, hb⟩
        have HA11 := hide (row_below HA10.out hb)
        have HB11 : Hid (Below w.heap.size w w11) := hide (HB10.out.trans (hb.mono HB10.out.size))
        clear hb
        go_wp2_with fail
        refine (HFi.out _ HA11.out).mono ?_
        rintro e w12 ⟨rfl, hb⟩
        have HA12 := hide (row_below HA11.out hb)
        have HB12 : Hid (Below w.heap.size w w12) := hide (HB11.out.trans (hb.mono HB11.out.size))
        clear hb
        go_wp2_with fail
        refine (HFs.out _ HA12.out).mono ?_
        rintro e w13 ⟨rfl, rfl⟩
        go_wp2_with fail
        go_ret
        exact ⟨rfl, HB12.out⟩
    | false =>
      cases want with
      | true =>
        have hau := HAg.out rfl
        subst hau
        have hbq := ba_beq ag ag
        rw [decide_eq_true rfl] at hbq
        go_wp2_with fail
        refine (HOs.out _ HR8.out).mono ?_
        rintro e w9 ⟨rfl, hb⟩
        have HR9 := hide (row_below HR8.out hb)
        have HX9 := hide (row_below HX8.out hb)
        have HA9 := hide (row_below HA8.out hb)
        have HB9 : Hid (Below w.heap.size w w9) := hide (HB8.out.trans (hb.mono HB8.out.size))
        clear hb
        go_wp2_with fail
        refine (HOi.out _ HR9.out).mono ?_
        rintro e w10 ⟨rfl, hb⟩
        have HR10 := hide (row_below HR9.out hb)
        have HX10 := hide (row_below HX9.out hb)
        have HA10 := hide (row_below HA9.out hb)
        have HB10 : Hid (Below w.heap.size w w10) := hide (HB9.out.trans (hb.mono HB9.out.size))
        clear hb
        go_wp2_with fail
        refine (HFi.out _ HA10.out).mono ?_
        rintro e w12 ⟨rfl, hb⟩
        have HA12 := hide (row_below HA10.out hb)
        have HB12 : Hid (Below w.heap.size w w12) := hide (HB10.out.trans (hb.mono HB10.out.size))
        clear hb
        go_wp2_with fail
        refine (HFs.out _ HA12.out).mono ?_
        rintro e w13 ⟨rfl, rfl⟩
        go_wp2_with fail
        go_ret
        exact ⟨rfl, HB12.out⟩
      | false =>
        go_wp2_with fail
        refine (HOs.out _ HR8.out).mono ?_
        rintro e w9 ⟨rfl, hb⟩
        have HR9 := hide (row_below HR8.out hb)
        have HX9 := hide (row_below HX8.out hb)
        have HA9 := hide (row_below HA8.out hb)
        have HB9 : Hid (Below w.heap.size w w9) := hide (HB8.out.trans (hb.mono HB8.out.size))
        clear hb
        go_wp2_with fail
        refine (HOi.out _ HR9.out).mono ?_
        rintro e w10 ⟨rfl, hb⟩
        have HR10 := hide (row_below HR9.out hb)
        have HX10 := hide (row_below HX9.out hb)
        have HA10 := hide (row_below HA9.out hb)
        have HB10 : Hid (Below w.heap.size w w10) := hide (HB9.out.trans (hb.mono HB9.out.size))
        clear hb
        go_wp2_with fail
        refine (HFi.out _ HA10.out).mono ?_
        rintro e w12 ⟨rfl, hb⟩
        have HA12 := hide (row_below HA10.out hb)
        have HB12 : Hid (Below w.heap.size w w12) := hide (HB10.out.trans (hb.mono HB10.out.size))
        clear hb
        go_wp2_with fail
        refine (HFs.out _ HA12.out).mono ?_
        rintro e w13 ⟨rfl, rfl⟩
        go_wp2_with fail
        go_ret
        exact ⟨rfl, HB12.out⟩
end Go.Proofs.Ytjldcbnoomcloaa
