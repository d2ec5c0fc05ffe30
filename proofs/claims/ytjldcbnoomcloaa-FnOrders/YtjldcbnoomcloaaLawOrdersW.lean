/-
  laws.FnOrders by contracts: it returns true at every code.
-/
import Derived.Test.YtjldcbnoomcloaaDrawThing7
import Derived.Test.YtjldcbnoomcloaaImplThing2
import Derived.Test.YtjldcbnoomcloaaPlain14
namespace Go.Proofs.Ytjldcbnoomcloaa
open Go.RowKit

theorem sch3_ok {n : Nat} (h1 : 1 ≤ n) (h3 : n ≤ 3) : schemaOkB (sch3.take n) = true := by
  match n, h1, h3 with
  | 1, _, _ => decide
  | 2, _, _ => decide
  | 3, _, _ => decide

theorem sch3_age {n : Nat} (h1 : 1 ≤ n) : placeL ⟨#[97, 103, 101]⟩ 0 (sch3.take n) = 0 := by
  obtain ⟨m, rfl⟩ : ∃ m, n = m + 1 := ⟨n - 1, by omega⟩
  rw [sch3, List.take_succ_cons, placeL, if_pos rfl]; rfl

theorem value_six {kind num : Int} {t : ByteArray} (h : valueB kind num t = true) : t.size ≤ 6 := by
  by_cases hk : kind = 1
  · subst hk
    rw [value_num, Bool.and_eq_true, decide_eq_true_eq, decide_eq_true_eq] at h
    rw [h.2]; exact Nat.zero_le _
  · rw [valueB, if_neg hk, Bool.and_eq_true, decide_eq_true_eq, decide_eq_true_eq] at h
    exact h.2.2.2

theorem below_far {w w1 : World} (h : Below w.heap.size w w1) {n : Nat} : Below w.heap.size w (w1.drewN n) := below_drewN h n

/-- a field that is drawn from, and the values drawn for it -/
theorem drawn_right {fs : List (ByteArray × Int)} {vs : List (Int × ByteArray)} (hok : schemaOkB fs = true) (hd : DrawnVs fs vs) {i : Nat} (hi : i < vs.length) (hf : i < fs.length) : (fs[i].2 = 1 ∨ fs[i].2 = 2) ∧ valueB fs[i].2 vs[i].1 vs[i].2 = true := by
  have h := ((schema_yes hok).2.2 i hf).2
  exact ⟨h, (hd i hi hf).2 h⟩

theorem thing_drawn {fs : List (ByteArray × Int)} {vs : List (Int × ByteArray)} (hok : schemaOkB fs = true) (hl : vs.length = fs.length) (hd : DrawnVs fs vs) : thingOkB fs vs = true :=
  thing_all hok hl (fun _ hi hf => (drawn_right hok hd hi hf).2)

set_option maxHeartbeats 8000000 in
set_option maxRecDepth 100000 in
theorem lawOrders (a : Option Addr) (len cap : Nat) (w : World) (hd : 1048576 < len ∨ CodeIn w w.heap.size a len) :
    Calls Try.prog 5 #[.slice a len cap] w fun e w' => e = .returned (.bool true) ∧ Below w.heap.size w w' := by
  by_cases hbig : 1048576 < len
  · go_enter Try.func5, Try.ntmps5
    go_wp2_with fail
    refine (big_yes a len cap hbig _).mono ?_
    rintro e w1 ⟨rfl, rfl⟩
    go_wp2_with fail
    go_ret
    exact ⟨rfl, Below.refl _ _⟩
  · have hd' : CodeIn w w.heap.size a len := hd.resolve_left hbig
    have HD := hide hd'
    clear hd hd'
    go_enter Try.func5, Try.ntmps5
    go_wp2_with fail
    refine (big_no a len cap (by omega) _).mono ?_
    rintro e w1 ⟨rfl, rfl⟩
    go_wp2_with fail
    refine (drawSchema_any a len cap _ HD.out).mono ?_
    rintro e w1 ⟨v, x, y, n, vs, us, hn1, hn3, hvl, hul, hdv, hdu, rfl, hrv, hrx, hry, hb⟩
    have HOk := hide (sch3_ok hn1 hn3)
    have HAge := hide (sch3_age hn1)
    have HSm := hide (sch3_small n)
    obtain ⟨fs, hfs⟩ : ∃ fs, fs = sch3.take n := ⟨_, rfl⟩
    rw [← hfs] at hvl hul hdv hdu hrv HOk HAge HSm
    have HVU := hide (⟨hvl, hul, hdv, hdu⟩ : _ ∧ _ ∧ _ ∧ _)
    have HRv := hide hrv
    have HRx := hide hrx
    have HRy := hide hry
    have HB1 := hide hb
    have hf3 := HSm.out.1
    obtain ⟨xa, xc, rfl⟩ : ∃ a cap, x = .slice a vs.length cap := by obtain ⟨-, a, cap, e, -⟩ := hrx; exact ⟨a, cap, e⟩
    obtain ⟨ya, yc, rfl⟩ : ∃ a cap, y = .slice a us.length cap := by obtain ⟨-, a, cap, e, -⟩ := hry; exact ⟨a, cap, e⟩
    obtain ⟨va, vc, rfl⟩ : ∃ a cap, v = .slice a fs.length cap := by obtain ⟨-, a, cap, e, -⟩ := hrv; exact ⟨a, cap, e⟩
    clear hfs hvl hul hdv hdu hrv hrx hry hb hn1 hn3
    go_wp2_with fail
    go_loopg [6] fs.length (fun q iv wr => ∃ k : Nat, k ≤ fs.length ∧ iv = .int .i64 (k : Int) ∧ q + k = fs.length ∧ Hid (Below w1.heap.size w1 wr))
    case atStart => exact ⟨0, Nat.zero_le _, rfl, rfl, hide (Below.refl _ _)⟩
    case round =>
      obtain ⟨k, hk, rfl, hg, HBr⟩ := hrel
      have HG := hide hg
      clear hg
      by_cases hlf : k < fs.length
      · have hlx : k < vs.length := by rw [HVU.out.1]; exact hlf
        have hly : k < us.length := by rw [HVU.out.2.1]; exact hlf
        obtain ⟨hq, hv1⟩ := drawn_right HOk.out HVU.out.2.2.1 hlx hlf
        obtain ⟨-, hv2⟩ := drawn_right HOk.out HVU.out.2.2.2 hly hlf
        have hko := key_order hq hv1 hv2
        have hrv := row_below HRv.out HBr.out
        have hrx := row_below HRx.out HBr.out
        have hry := row_below HRy.out HBr.out
        obtain ⟨-, a1, c1, e1, h0 | ⟨b, off, e2, hbl, hc⟩⟩ := hrv
        · omega
        obtain ⟨-, a2, c2, e3, h0 | ⟨bx, ox, e4, hbx, hcx⟩⟩ := hrx
        · omega
        obtain ⟨-, a3, c3, e5, h0 | ⟨by', oy, e6, hby, hcy⟩⟩ := hry
        · omega
        injection e1 with e11 _ e12
        injection e3 with e31 _ e32
        injection e5 with e51 _ e52
        subst e11 e12 e31 e32 e51 e52
        subst e2 e4 e6
        obtain ⟨q, hqq⟩ : ∃ q, q = fs[k].2 := ⟨_, rfl⟩
        obtain ⟨p1, hp1⟩ : ∃ p, p = vs[k].1 := ⟨_, rfl⟩
        obtain ⟨s1, hs1⟩ : ∃ p, p = vs[k].2 := ⟨_, rfl⟩
        obtain ⟨p2, hp2⟩ : ∃ p, p = us[k].1 := ⟨_, rfl⟩
        obtain ⟨s2, hs2⟩ : ∃ p, p = us[k].2 := ⟨_, rfl⟩
        rw [← hqq] at hq
        rw [← hqq, ← hp1, ← hs1] at hv1
        rw [← hqq, ← hp2, ← hs2] at hv2
        rw [← hqq, ← hp1, ← hs1, ← hp2, ← hs2] at hko
        have HC : Hid (∀ wx, Below wr.heap.size wr wx → wx.cell? ⟨b, off + k * 2 + 1, none⟩ = some (.int .i64 q) ∧ wx.cell? ⟨bx, ox + k * 2, none⟩ = some (.int .i64 p1) ∧ wx.cell? ⟨bx, ox + k * 2 + 1, none⟩ = some (.string s1) ∧ wx.cell? ⟨by', oy + k * 2, none⟩ = some (.int .i64 p2) ∧ wx.cell? ⟨by', oy + k * 2 + 1, none⟩ = some (.string s2)) := hide (fun wx hb => ⟨by rw [hb.cell (by exact hbl), Nat.add_assoc, hc (k * 2 + 1) (by omega), (flds_at fs k hlf).2, hqq], by rw [hb.cell (by exact hbx), hcx (k * 2) (by omega), (puts_at vs k hlx).1, hp1], by rw [hb.cell (by exact hbx), Nat.add_assoc, hcx (k * 2 + 1) (by omega), (puts_at vs k hlx).2, hs1], by rw [hb.cell (by exact hby), hcy (k * 2) (by omega), (puts_at us k hly).1, hp2], by rw [hb.cell (by exact hby), Nat.add_assoc, hcy (k * 2 + 1) (by omega), (puts_at us k hly).2, hs2]⟩)
        have HK1 := hide (implKeyText_any q p1 s1 (Nat.le_trans (value_six hv1) (by omega)))
        have HK2 := hide (implKeyText_any q p2 s2 (Nat.le_trans (value_six hv2) (by omega)))
        rw [hv1] at HK1
        rw [hv2] at HK2
        obtain ⟨kx, hkx⟩ : ∃ z, z = keyO q p1 s1 := ⟨_, rfl⟩
        obtain ⟨ky, hky⟩ : ∃ z, z = keyO q p2 s2 := ⟨_, rfl⟩
        rw [← hkx, ← hky] at hko
        rw [← hkx] at HK1
        rw [← hky] at HK2
        have HKo := hide hko
        have HV := hide (⟨hv1, hv2⟩ : _ ∧ _)
        have hk0 : (0 : Int) ≤ (k : Int) := by omega
        have hkf : (k : Int) < (fs.length : Int) := by omega
        have hkv : (k : Int) < (vs.length : Int) := by omega
        have hku : (k : Int) < (us.length : Int) := by omega
        have HQ := hide hq
        clear hc hcx hcy hqq hp1 hs1 hp2 hs2 hkx hky hko hv1 hv2 hq hbl hbx hby
        have hS0 := HC.out wr (Below.refl _ _)
        go_wp2_with fail
        go_region_held3 (fun wx => wx.cell? ⟨b, off + k * 2 + 1, none⟩ = some (.int .i64 q) ∧ wx.cell? ⟨bx, ox + k * 2, none⟩ = some (.int .i64 p1) ∧ wx.cell? ⟨bx, ox + k * 2 + 1, none⟩ = some (.string s1) ∧ wx.cell? ⟨by', oy + k * 2, none⟩ = some (.int .i64 p2) ∧ wx.cell? ⟨by', oy + k * 2 + 1, none⟩ = some (.string s2)) (first | exact hS0 | exact hS2) ((go_at_call 40; refine (HK1.out _).mono ?_; rintro e w2 ⟨rfl, hb2⟩; have hA : Below wr.heap.size wr w2 := (Below.refl _ _).drew.trans hb2; have hS2 := HC.out _ hA))
        have HA := hide hA
        clear hb2 hA hS0
        go_wp2_with fail
        go_region_held3 (fun wx => wx.cell? ⟨b, off + k * 2 + 1, none⟩ = some (.int .i64 q) ∧ wx.cell? ⟨bx, ox + k * 2, none⟩ = some (.int .i64 p1) ∧ wx.cell? ⟨bx, ox + k * 2 + 1, none⟩ = some (.string s1) ∧ wx.cell? ⟨by', oy + k * 2, none⟩ = some (.int .i64 p2) ∧ wx.cell? ⟨by', oy + k * 2 + 1, none⟩ = some (.string s2)) (first | exact hS2 | exact hS3) ((go_at_call 40; refine (HK2.out _).mono ?_; rintro e w3 ⟨rfl, hb3⟩; have hA : Below wr.heap.size wr w3 := HA.out.trans (((Below.refl _ _).drew.trans hb3).mono HA.out.size); have hS3 := HC.out _ hA))
        have HA3 := hide hA
        clear hb3 hA hS2
        obtain ⟨t1, t2, t3, t4, t5⟩ := hS3
        rcases HQ.out with hq1 | hq2
        · subst hq1
          have hv := HV.out
          rw [value_num, value_num, Bool.and_eq_true, Bool.and_eq_true, decide_eq_true_eq, decide_eq_true_eq, decide_eq_true_eq, decide_eq_true_eq] at hv
          have hss : s1 = s2 := by rw [hv.1.2, hv.2.2]
          subst hss
          have hl1 : Op.bytesLess kx.toList ky.toList = decide (p1 < p2) := by rw [HKo.out.1, if_neg (by decide)]
          have hq3 : (kx.toList == ky.toList) = decide (p1 = p2) := by rw [ba_beq]; exact decide_eq_decide.2 (HKo.out.2.trans ⟨fun h => h.1, fun h => ⟨h, rfl⟩⟩)
          clear hv
          by_cases hpe : p1 = p2
          · subst hpe
            have hd1 : decide (p1 < p1) = false := decide_eq_false (by omega)
            rw [hd1] at hl1
            rw [decide_eq_true rfl] at hq3
            go_wp2_with fail
            go_quiet (fail)
            go_wp2_with fail
            go_quiet (fail)
            go_wp2_with fail
            go_roundg (gk - 1)
            case measure => have := HG.out; omega
            case rel => exact ⟨k + 1, by omega, by go_num, by have := HG.out; omega, hide (HBr.out.trans ((below_far HA3.out).mono HBr.out.size))⟩
          · have hne : decide (p1 = p2) = false := decide_eq_false hpe
            have hnb : (p1 == p2) = false := by rw [beq_eq_false_iff_ne]; exact hpe
            rw [hne] at hq3
            obtain ⟨lt, hlt⟩ : ∃ lt, decide (p1 < p2) = lt := ⟨_, rfl⟩
            rw [hlt] at hl1
            cases lt with
            | true =>
              go_wp2_with fail
              go_quiet (fail)
              go_wp2_with fail
              go_quiet (fail)
              go_wp2_with fail
              go_roundg (gk - 1)
              case measure => have := HG.out; omega
              case rel => exact ⟨k + 1, by omega, by go_num, by have := HG.out; omega, hide (HBr.out.trans ((below_far HA3.out).mono HBr.out.size))⟩
            | false =>
              go_wp2_with fail
              go_quiet (fail)
              go_wp2_with fail
              go_quiet (fail)
              go_wp2_with fail
              go_roundg (gk - 1)
              case measure => have := HG.out; omega
              case rel => exact ⟨k + 1, by omega, by go_num, by have := HG.out; omega, hide (HBr.out.trans ((below_far HA3.out).mono HBr.out.size))⟩
        · subst hq2
          have hv := HV.out
          rw [valueB, valueB, if_neg (by decide), if_neg (by decide), Bool.and_eq_true, Bool.and_eq_true, decide_eq_true_eq, decide_eq_true_eq, decide_eq_true_eq, decide_eq_true_eq] at hv
          have hpp : p1 = p2 := by rw [hv.1.2.2.1, hv.2.2.2.1]
          subst hpp
          have hl1 : Op.bytesLess kx.toList ky.toList = Op.bytesLess s1.toList s2.toList := by rw [HKo.out.1, if_pos rfl]
          have hq3 : (kx.toList == ky.toList) = decide (s1 = s2) := by rw [ba_beq]; exact decide_eq_decide.2 (HKo.out.2.trans ⟨fun h => h.2, fun h => ⟨rfl, h⟩⟩)
          have hd1 : decide (p1 < p1) = false := decide_eq_false (by omega)
          clear hv
          obtain ⟨lt, hlt⟩ : ∃ lt, Op.bytesLess s1.toList s2.toList = lt := ⟨_, rfl⟩
          rw [hlt] at hl1
          by_cases hse : s1 = s2
          · subst hse
            rw [decide_eq_true rfl] at hq3
            cases lt with
            | true =>
              go_wp2_with fail
              go_quiet (fail)
              go_wp2_with fail
              go_quiet (fail)
              go_wp2_with fail
              go_quiet (fail)
              go_wp2_with fail
              go_roundg (gk - 1)
              case measure => have := HG.out; omega
              case rel => exact ⟨k + 1, by omega, by go_num, by have := HG.out; omega, hide (HBr.out.trans ((below_far HA3.out).mono HBr.out.size))⟩
            | false =>
              go_wp2_with fail
              go_quiet (fail)
              go_wp2_with fail
              go_quiet (fail)
              go_wp2_with fail
              go_quiet (fail)
              go_wp2_with fail
              go_roundg (gk - 1)
              case measure => have := HG.out; omega
              case rel => exact ⟨k + 1, by omega, by go_num, by have := HG.out; omega, hide (HBr.out.trans ((below_far HA3.out).mono HBr.out.size))⟩
          · have hnb := ba_beq s1 s2
            rw [decide_eq_false hse] at hnb hq3
            cases lt with
            | true =>
              go_wp2_with fail
              go_quiet (fail)
              go_wp2_with fail
              go_quiet (fail)
              go_wp2_with fail
              go_quiet (fail)
              go_wp2_with fail
              go_roundg (gk - 1)
              case measure => have := HG.out; omega
              case rel => exact ⟨k + 1, by omega, by go_num, by have := HG.out; omega, hide (HBr.out.trans ((below_far HA3.out).mono HBr.out.size))⟩
            | false =>
              go_wp2_with fail
              go_quiet (fail)
              go_wp2_with fail
              go_quiet (fail)
              go_wp2_with fail
              go_quiet (fail)
              go_wp2_with fail
              go_roundg (gk - 1)
              case measure => have := HG.out; omega
              case rel => exact ⟨k + 1, by omega, by go_num, by have := HG.out; omega, hide (HBr.out.trans ((below_far HA3.out).mono HBr.out.size))⟩
      · have HB4 : Hid (Below w.heap.size w wr) := hide (HB1.out.trans (HBr.out.mono HB1.out.size))
        have HRv2 := hide (row_below HRv.out HBr.out)
        have HRx2 := hide (row_below HRx.out HBr.out)
        have hvl : vs.length ≤ 3 := by rw [HVU.out.1]; exact hf3
        have HTo := hide (fun wx h h2 => implThingOk_any fs vs (by omega) (fun f hf => Nat.le_trans (HSm.out.2 f hf) (by omega)) (by omega) (fun f hf => by
          obtain ⟨i, hi, rfl⟩ := List.getElem_of_mem hf
          exact Nat.le_trans (value_six (drawn_right HOk.out HVU.out.2.2.1 hi (by rw [← HVU.out.1]; exact hi)).2) (by omega)) (.slice va fs.length vc) (.slice xa vs.length xc) wx h h2)
        rw [thing_drawn HOk.out HVU.out.1 HVU.out.2.2.1] at HTo
        have HFa := hide (fun wx h => implFieldAt_any fs (by omega) ⟨#[97, 103, 101]⟩ (.slice va fs.length vc) wx h)
        rw [HAge.out] at HFa
        go_wp2_with fail
        refine (drawKeyText_any a len cap _ (code_below HD.out HB4.out)).mono ?_
        rintro e w5 ⟨kind, num, t, ht, rfl, hb⟩
        have HRv3 := hide (row_below HRv2.out hb)
        have HRx3 := hide (row_below HRx2.out hb)
        have HB5 : Hid (Below w.heap.size w w5) := hide (HB4.out.trans (hb.mono HB4.out.size))
        have HKi := hide (implKeyText_any kind num t (by omega))
        have HKs := hide (specKeyText_any kind num t (by omega))
        obtain ⟨kt, hkt⟩ : ∃ z, z = keyO kind num t := ⟨_, rfl⟩
        obtain ⟨ok, hok⟩ : ∃ z, z = valueB kind num t := ⟨_, rfl⟩
        rw [← hkt, ← hok] at HKi HKs
        obtain ⟨w6, hw6⟩ : ∃ w6, w6 = w5.alloc (Obj.cells #[.int .i64 num, .string t] 50) := ⟨_, rfl⟩
        have hb6 : Below w5.heap.size w5 w6 := by rw [hw6]; exact (Below.refl _ _).alloc (Nat.le_refl _) _
        have HV6 : Hid (w6.heap[w5.heap.size]? = some (Obj.cells #[.int .i64 num, .string t] 50)) := hide (by rw [hw6]; exact heap_alloc_new w5 _)
        have HRv4 := hide (row_below HRv3.out hb6)
        have HRx4 := hide (row_below HRx3.out hb6)
        have HB6 : Hid (Below w.heap.size w w6) := hide (HB5.out.trans (hb6.mono HB5.out.size))
        clear hb hkt hok ht hb6
        go_wp2_with fail
        rw [← hw6]
        clear hw6
        refine (HKi.out _).mono ?_
        rintro e w7 ⟨rfl, hb⟩
        have HRv5 := hide (row_below HRv4.out hb)
        have HRx5 := hide (row_below HRx4.out hb)
        have HB7 : Hid (Below w.heap.size w w7) := hide (HB6.out.trans (hb.mono HB6.out.size))
        have hV7 := (hb.block _ (Array.getElem?_eq_some_iff.1 HV6.out).1).trans HV6.out
        have q0 : w7.cell? ⟨w5.heap.size, 0, none⟩ = some (.int .i64 num) := (cell_at hV7 0).1
        have q1 : w7.cell? ⟨w5.heap.size, 1, none⟩ = some (.string t) := (cell_at hV7 1).1
        clear hb hV7
        go_wp2_with fail
        refine (HKs.out _).mono ?_
        rintro e w8 ⟨rfl, hb⟩
        have HRv6 := hide (row_below HRv5.out hb)
        have HRx6 := hide (row_below HRx5.out hb)
        have HB8 : Hid (Below w.heap.size w w8) := hide (HB7.out.trans (hb.mono HB7.out.size))
        have hbq := ba_beq kt kt
        rw [decide_eq_true rfl] at hbq
        clear hb q0 q1
        go_wp2_with fail
        refine (HTo.out _ HRv6.out HRx6.out).mono ?_
        rintro e w9 ⟨rfl, hb⟩
        have HRv7 := hide (row_below HRv6.out hb)
        have HB9 : Hid (Below w.heap.size w w9) := hide (HB8.out.trans (hb.mono HB8.out.size))
        clear hb
        go_wp2_with fail
        refine (HFa.out _ HRv7.out).mono ?_
        rintro e w10 ⟨rfl, hb⟩
        have HB10 : Hid (Below w.heap.size w w10) := hide (HB9.out.trans (hb.mono HB9.out.size))
        clear hb
        go_wp2_with fail
        go_ret
        exact ⟨rfl, HB10.out⟩
end Go.Proofs.Ytjldcbnoomcloaa
