/-
  The program's ReadThing by a contract: it answers the right thing whose bytes these are, or none.
-/
import Derived.Test.YtjldcbnoomcloaaReadSpec3
import Derived.Test.YtjldcbnoomcloaaImplRead
import Derived.Test.YtjldcbnoomcloaaImplThing2
namespace Go.Proofs.Ytjldcbnoomcloaa
open Go.RowKit

set_option maxHeartbeats 4000000 in
set_option maxRecDepth 100000 in
theorem implReadThing_any (fs : List (ByteArray × Int)) (hl : fs.length ≤ 1048576) (hn : ∀ f ∈ fs, f.1.size ≤ 1048576) (t : ByteArray) (ht : t.size ≤ 1048576) (v : Value) (w : World) (hr : RowAt w 2 v fs.length (flds fs)) :
    Calls Try.prog 33 #[v, .string t] w fun e w' => ∃ u vs ok, e = .returned (.tuple #[u, .bool ok]) ∧ w'.ownsRow w.heap.size 50 2 u vs.length (puts vs) ∧ ReadTh fs t vs ok ∧ Below w.heap.size w w' := by
  obtain ⟨i0, hi, hz0, hz1, hz2⟩ := info_parts Try.infoVal
  have HS := hide (implSchemaOk_any fs hl hn v w hr)
  have HRv := hide hr
  obtain ⟨-, fa, fcap, rfl, h2⟩ := hr
  have HR := hide h2
  have HNf := hide hn
  clear h2 hn
  cases hsk : schemaOkB fs with
  | false =>
    rw [hsk] at HS
    have HNo : Hid (∀ us, ¬ IsTh fs t us) := hide (fun us hg => by
      have := (thing_yes hg.1).1
      rw [hsk] at this; cases this)
    clear hsk
    go_enter Try.func33, Try.ntmps33
    go_wp2_with fail
    refine HS.out.mono ?_
    rintro e w2 ⟨rfl, hb2⟩
    have HB2 := hide hb2
    clear hb2
    go_wp2_with fail
    go_ret2
    exact ⟨_, [], false, rfl, own_vals0 _ _ HB2.out.size, Or.inr ⟨rfl, rfl, HNo.out⟩, HB2.out.alloc HB2.out.size _⟩
  | true =>
    rw [hsk] at HS
    have HY := hide (schema_yes hsk)
    clear hsk
    go_enter Try.func33, Try.ntmps33
    go_wp2_with fail
    refine HS.out.mono ?_
    rintro e w1 ⟨rfl, hb1⟩
    have HB1 := hide hb1
    have HOw := hide (own_vals0 w1 w.heap.size hb1.size)
    have HBa : Hid (∀ o, Below w.heap.size w (w1.alloc o)) := hide (fun o => hb1.alloc hb1.size _)
    clear hb1
    go_wp2_with fail
    go_loopg [6, 7, 20] fs.length (fun r ov pv iv wr => ∃ (vs : List (Int × ByteArray)) (p : Nat), vs.length ≤ fs.length ∧ p ≤ t.size ∧ pv = .int .i64 (p : Int) ∧ iv = .int .i64 (vs.length : Int) ∧ r + vs.length = fs.length ∧ wr.ownsRow w.heap.size 50 2 ov vs.length (puts vs) ∧ Hid (Below w.heap.size w wr) ∧ Hid (ThTry fs t vs p ∧ ThHas fs t vs p))
    case atStart => exact ⟨[], 0, by simp, by omega, rfl, rfl, rfl, HOw.out, hide (HBa.out _), hide ⟨thTry_nil fs t, thHas_nil fs t⟩⟩
    case round =>
      obtain ⟨vs, p, hvl, hp, rfl, rfl, hgk, hown, HB, HT⟩ := hrel
      have HG := hide hgk
      have HOn := hide hown
      have hws := HB.out.size
      have h3 := HY.out.2.1
      obtain ⟨a, cap, hov⟩ : ∃ a cap, u6 = .slice a vs.length cap := by obtain ⟨-, a, cap, e, -⟩ := row_of_own hown; exact ⟨a, cap, e⟩
      subst hov
      clear hgk hown
      by_cases hlf : vs.length < fs.length
      · rcases HR.out with h0 | ⟨b, off, rfl, hbl, hc⟩
        · omega
        · obtain ⟨k, hkk⟩ : ∃ k, k = fs[vs.length].2 := ⟨_, rfl⟩
          obtain ⟨y, hy⟩ : ∃ y, y = fs[vs.length].1 := ⟨_, rfl⟩
          have hf0 : wr.cell? ⟨b, off + vs.length * 2, none⟩ = some (.string y) := by rw [HB.out.cell (by exact hbl), hc (vs.length * 2) (by omega), (flds_at fs vs.length hlf).1, hy]
          have hf1 : wr.cell? ⟨b, off + vs.length * 2 + 1, none⟩ = some (.int .i64 k) := by rw [HB.out.cell (by exact hbl), Nat.add_assoc, hc (vs.length * 2 + 1) (by omega), (flds_at fs vs.length hlf).2, hkk]
          have hi0 : (0 : Int) ≤ (vs.length : Int) := by omega
          have hi1 : (vs.length : Int) < (fs.length : Int) := by omega
          have HC := hide (readValue_any k t ht p)
          obtain ⟨wa, hwa⟩ : ∃ wa, wa = wr.alloc (Obj.cells #[.string y, .int .i64 k] 48) := ⟨_, rfl⟩
          have HWb : Hid (Below wr.heap.size wr wa) := hide (by rw [hwa]; exact (Below.refl _ _).alloc (Nat.le_refl _) _)
          clear hc hy
          cases ho : rdVal k t p with
          | none =>
            rw [ho, tupVal] at HC
            have HNo : Hid (∀ us, ¬ IsTh fs t us) := hide (thTry_none HT.out.1 hlf (by rw [← hkk]; exact ho))
            clear ho hkk
            go_wp2_with fail
            rw [← hwa]
            refine (HC.out _).mono ?_
            rintro e w2 ⟨rfl, hb2⟩
            have hbx : Below wr.heap.size wr w2 := HWb.out.trans (hb2.mono HWb.out.size)
            have HB2 : Hid (Below w.heap.size w w2) := hide (HB.out.trans (hbx.mono HB.out.size))
            clear hb2 hbx hwa hf0 hf1
            have HB3 : Hid (∀ o, Below w.heap.size w (w2.alloc o)) := hide (fun o => HB2.out.alloc HB2.out.size _)
            go_wp2_with fail
            go_ret2
            exact ⟨_, [], false, rfl, by simpa using own_vals0 (w2.alloc _) _ (HB3.out _).size, Or.inr ⟨rfl, rfl, HNo.out⟩, (HB3.out _).alloc (HB3.out _).size _⟩
          | some r =>
            obtain ⟨⟨un, ux⟩, q⟩ := r
            rw [ho, tupVal] at HC
            obtain ⟨k1, k2, -, -⟩ := rdVal_back ho
            have HT2 : Hid (ThTry fs t (vs ++ [(un, ux)]) q ∧ ThHas fs t (vs ++ [(un, ux)]) q) := hide ⟨thTry_some HT.out.1 hlf (by rw [← hkk]; exact ho), thHas_some HT.out.2 hlf (by rw [← hkk]; exact ho)⟩
            clear ho hkk
            go_wp2_with fail
            rw [← hwa]
            refine (HC.out _).mono ?_
            rintro e w2 ⟨rfl, hb2⟩
            have hbx : Below wr.heap.size wr w2 := HWb.out.trans (hb2.mono HWb.out.size)
            have HB2 : Hid (Below w.heap.size w w2) := hide (HB.out.trans (hbx.mono HB.out.size))
            have HO2 := hide (own_stays HOn.out hbx)
            have hws2 := HB2.out.size
            clear hb2 hbx hwa hf0 hf1
            obtain ⟨w3, hw3⟩ : ∃ w3, w3 = w2.alloc (Obj.cells #[.int .i64 un, .string ux] 50) := ⟨_, rfl⟩
            have HS3 : Hid (w2.heap.size + 1 = w3.heap.size) := hide (by rw [hw3]; simp)
            have HO3 : Hid (w3.ownsRow w.heap.size 50 2 (.slice a vs.length cap) vs.length (puts vs)) := hide (by rw [hw3]; exact HO2.out.alloc _)
            have HB3 : Hid (Below w.heap.size w w3) := hide (by rw [hw3]; exact HB2.out.alloc hws2 _)
            have hs3 := HB3.out.size
            go_wp2_with (at_builtin; (rw [← hw3]; refine wpList_append_row _ rfl _ _ 36 rfl w.heap.size 50 i0 (.agg #[.int .i64 0, .string ⟨#[]⟩]) 2 24 Try.underlying36 hi hz0 hz1 hz2 rfl (by decide) _ _ _ rfl (HO3.out.alloc _) _ 1 (puts [(un, ux)]) rfl (val_at w3 (w2.heap.size + 1) HS3.out un ux) (vals_one _) ?_ ?_ ?_ ?_))
            · unfold maxLen; omega
            · omega
            · simp; omega
            intro y6 d6 w6 hown6 hg6
            try rw [← hw3] at hg6
            have hown7 : w6.ownsRow w.heap.size 50 2 (.slice y6 (vs.length + 1) d6) (vs ++ [(un, ux)]).length (puts (vs ++ [(un, ux)])) := by
              rw [← vals_snoc, List.length_append]
              exact hown6
            have HB6 : Hid (Below w.heap.size w w6) := hide ((HB3.out.alloc hs3 _).grown hg6 (by simp; omega) (fun k hk => (HO3.out.lt k hk).1))
            clear hown6 hg6 hw3
            go_wp2_with fail
            go_roundg (gk - 1)
            case measure => have := HG.out; omega
            case rel => exact ⟨vs ++ [(un, ux)], q, by simp; omega, k2, rfl, by rw [List.length_append]; go_num, by have := HG.out; simp; omega, hown7, HB6, HT2⟩
      · have HE : Hid (∀ us, IsTh fs t us → us = vs ∧ p = t.size) := hide (thTry_end HT.out.1 (by omega))
        have HSp := hide (implThingOk_any fs vs hl HNf.out (by omega) (fun f hf => Nat.le_trans (HT.out.2.2.2 f hf) (by omega)) (.slice fa fs.length fcap) (.slice a vs.length cap) wr (row_below HRv.out HB.out) (row_of_own HOn.out))
        by_cases hpe : p = t.size
        · have HTx : Hid (thT fs vs = t) := hide (by rw [HT.out.2.2.1, extract_all t p (by omega)])
          have de : ((p : Int) != (t.size : Int)) = false := by rw [hpe]; simp
          cases hok : thingOkB fs vs with
          | false =>
            rw [hok] at HSp
            have HNo : Hid (∀ us, ¬ IsTh fs t us) := hide (fun us hg => by
              have := (HE.out us hg).1
              subst this
              rw [hg.1] at hok; cases hok)
            clear hok hpe
            go_wp2_with fail
            refine HSp.out.mono ?_
            rintro e w2 ⟨rfl, hb2⟩
            have HB2 : Hid (Below w.heap.size w w2) := hide (HB.out.trans (hb2.mono HB.out.size))
            clear hb2
            go_wp2_with fail
            go_ret2
            exact ⟨_, [], false, rfl, own_vals0 _ _ HB2.out.size, Or.inr ⟨rfl, rfl, HNo.out⟩, HB2.out.alloc HB2.out.size _⟩
          | true =>
            rw [hok] at HSp
            have HYs : Hid (IsTh fs t vs) := hide ⟨hok, HTx.out⟩
            clear hok hpe
            go_wp2_with fail
            refine HSp.out.mono ?_
            rintro e w2 ⟨rfl, hb2⟩
            have HB2 : Hid (Below w.heap.size w w2) := hide (HB.out.trans (hb2.mono HB.out.size))
            have HO2 := hide (own_stays HOn.out hb2)
            clear hb2
            go_wp2_with fail
            go_ret2
            exact ⟨_, vs, true, rfl, HO2.out, Or.inl ⟨rfl, HYs.out, fun us hg => (HE.out us hg).1⟩, HB2.out⟩
        · have HNo : Hid (∀ us, ¬ IsTh fs t us) := hide (fun us hg => hpe (HE.out us hg).2)
          have de : ((p : Int) != (t.size : Int)) = true := by simp; omega
          clear hpe
          go_wp2_with fail
          go_ret2
          exact ⟨_, [], false, rfl, own_vals0 _ _ HB.out.size, Or.inr ⟨rfl, rfl, HNo.out⟩, HB.out.alloc HB.out.size _⟩
end Go.Proofs.Ytjldcbnoomcloaa
