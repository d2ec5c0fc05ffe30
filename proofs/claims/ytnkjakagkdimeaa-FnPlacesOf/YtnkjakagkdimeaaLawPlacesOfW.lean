/-
  laws.FnPlacesOf returns true at every code of at most 1048576 bytes (and at a longer one at once): a key of a drawn node is found at its own place, and so is what comes right behind it; what is above all keys at the last place; a node without keys has no place; what is told of a drawn node is what the document tells.
-/
import Derived.Test.YtnkjakagkdimeaaDrawNode3
import Derived.Test.YtnkjakagkdimeaaPlaceFacts
import Derived.Test.YtnkjakagkdimeaaImplNode
import Derived.Test.YtnkjakagkdimeaaNodeSpec3
import Derived.Test.YtnkjakagkdimeaaDraw4
import Derived.Deep.RegionHeld3
namespace Go.Proofs.Ytnkjakagkdimeaa
open Go.RowKit

theorem node_none (w : World) : NodeAt w (.agg #[.bool false, .slice none 0 0, .slice none 0 0, .slice none 0 0]) false [] [] [] :=
  ⟨_, _, _, rfl, ⟨rfl, none, 0, rfl, Or.inl rfl⟩, ⟨rfl, none, 0, rfl, Or.inl rfl⟩, ⟨rfl, none, 0, rfl, Or.inl rfl⟩⟩

set_option maxHeartbeats 16000000 in
set_option maxRecDepth 100000 in
theorem lawPlacesOf (a : Option Addr) (len cap : Nat) (w : World) (hd : 1048576 < len ∨ CodeIn w w.heap.size a len) :
    Calls Try.prog 3 #[.slice a len cap] w fun e w' => e = .returned (.bool true) ∧ Below w.heap.size w w' := by
  by_cases hbig : 1048576 < len
  · clear hd
    go_enter Try.func3, Try.ntmps3
    go_wp2_with fail
    refine (big_yes a len cap hbig _).mono ?_
    rintro e w1 ⟨rfl, rfl⟩
    go_wp2_with fail
    go_ret
    exact ⟨rfl, Below.refl _ _⟩
  · have HD : Hid (CodeIn w w.heap.size a len) := hide (hd.resolve_left hbig)
    have HLn : Hid (len ≤ 1048576) := hide (by omega)
    clear hd
    go_enter Try.func3, Try.ntmps3
    go_wp2_with fail
    refine (big_no a len cap HLn.out _).mono ?_
    rintro e w1 ⟨rfl, rfl⟩
    go_wp2_with fail
    refine (drawNode_any a len cap _ HD.out).mono ?_
    rintro e w1 ⟨n, v, rfl, hn, hown, hb1⟩
    obtain ⟨v1, v2, v3, rfl, h1, h2, h3, h4⟩ := hown
    obtain ⟨a1, c1, rfl⟩ := own_slice h1
    obtain ⟨a2, c2, rfl⟩ := own_slice h2
    obtain ⟨a3, c3, rfl⟩ := own_slice h3
    have HB1 := hide hb1
    obtain ⟨L, hL⟩ : ∃ L, L = n.ks.length := ⟨_, rfl⟩
    obtain ⟨M2, hM2⟩ : ∃ L, L = n.vs.length := ⟨_, rfl⟩
    obtain ⟨M3, hM3⟩ : ∃ L, L = n.cs.length := ⟨_, rfl⟩
    obtain ⟨lf, hlf⟩ : ∃ lf, lf = n.lf := ⟨_, rfl⟩
    have HAt : Hid (NodeAt w1 (.agg #[.bool lf, .slice a1 L c1, .slice a2 M2 c2, .slice a3 M3 c3]) n.lf n.ks n.vs n.cs) := hide (by rw [hL, hM2, hM3, hlf]; exact node_of_own ⟨_, _, _, rfl, h1, h2, h3, h4⟩)
    have HRow : Hid (RowAt w1 1 (.slice a1 L c1) L (strs n.ks)) := hide (by rw [hL]; exact row_of_own h1)
    have HL := hide hL
    have hL1 : 1 ≤ L := by rw [hL]; exact hn.1
    have hL4 : L ≤ 4 := by rw [hL]; exact hn.2.1
    have HKf := hide hn.2.2.2.1
    rw [← hL, ← hM2, ← hM3, ← hlf]
    have HKs : Hid (∀ i, i < L → (n.ks.getD i ⟨#[]⟩).size ≤ 4) := hide (fun i hi => by have := keyAt_size (hn.2.2.2.1.1 i (by omega)); omega)
    clear h1 h2 h3 h4 hb1 hn hL hM2 hM3 hlf
    obtain ⟨wn, hwn⟩ : ∃ wn, wn = w1.alloc (.cells #[.bool lf, .slice a1 L c1, .slice a2 M2 c2, .slice a3 M3 c3] 27 (0, 0)) := ⟨_, rfl⟩
    have hbn : Below w1.heap.size w1 wn := by rw [hwn]; exact (Below.refl _ _).alloc (Nat.le_refl _) _
    obtain ⟨gn, hgn⟩ : ∃ gn, gn = w1.heap.size := ⟨_, rfl⟩
    have HVn : Hid (wn.heap[gn]? = some (.cells #[.bool lf, .slice a1 L c1, .slice a2 M2 c2, .slice a3 M3 c3] 27 (0, 0))) := hide (by rw [hwn, hgn]; exact heap_alloc_new w1 _)
    have HBn : Hid (Below w.heap.size w wn) := hide (HB1.out.trans (hbn.mono HB1.out.size))
    have HAn := hide (node_below HAt.out hbn)
    have HRn := hide (row_below HRow.out hbn)
    have HCl : Hid (∀ wx, Below wn.heap.size wn wx → wx.cell? ⟨gn, 0, none⟩ = some (.bool lf) ∧ wx.cell? ⟨gn, 1, none⟩ = some (.slice a1 L c1) ∧ wx.cell? ⟨gn, 2, none⟩ = some (.slice a2 M2 c2) ∧ wx.cell? ⟨gn, 3, none⟩ = some (.slice a3 M3 c3)) := hide (fun wx h => by
      have hq := (h.block gn (Array.getElem?_eq_some_iff.1 HVn.out).1).trans HVn.out
      exact ⟨(cell_at hq 0).1, (cell_at hq 1).1, (cell_at hq 2).1, (cell_at hq 3).1⟩)
    have HIm := hide (fun key wx h => implPlaceOf_any (.agg #[.bool lf, .slice a1 L c1, .slice a2 M2 c2, .slice a3 M3 c3]) n.lf n.ks n.vs n.cs (by have := HL.out; omega) key wx h)
    have HGm := hide hgn
    clear hbn HAt HRow
    go_wp2_with fail
    rw [← HGm.out]
    try rw [← hwn]
    clear hwn hgn
    go_loopg [4] L (fun q iv wr => ∃ i : Nat, i ≤ L ∧ iv = .int .i64 (i : Int) ∧ q + i = L ∧ Hid (Below wn.heap.size wn wr))
    case atStart => exact ⟨0, Nat.zero_le _, rfl, by omega, hide (Below.refl _ _)⟩
    case round =>
      obtain ⟨i, hi, rfl, hg, HBr⟩ := hrel
      have HG := hide hg
      clear hg
      obtain ⟨p0, p1, p2, p3⟩ := HCl.out wr HBr.out
      by_cases hlt : i < L
      · obtain ⟨-, x1, cp1, e1, h0 | ⟨bk, ok, e0, hbk, hck⟩⟩ := HRn.out
        · omega
        injection e1 with e11 _ e12
        subst e11 e12
        subst e0
        obtain ⟨x, hx⟩ : ∃ x, x = n.ks.getD i ⟨#[]⟩ := ⟨_, rfl⟩
        have HK : Hid (∀ wx, Below wn.heap.size wn wx → wx.cell? ⟨bk, ok + i, none⟩ = some (.string x)) := hide (fun wx hb => by rw [hb.cell (by exact hbk), hck i (by omega), strs_at n.ks i (by have := HL.out; omega), hx]; simp [List.getD, show i < n.ks.length by have := HL.out; omega])
        have hxs : x.size ≤ 4 := by rw [hx]; exact HKs.out i hlt
        have HI1 := hide (fun wx h => HIm.out x wx h)
        have HI2 := hide (fun wx h => HIm.out (x ++ ⟨#[48]⟩) wx h)
        rw [hx, place_own HKf.out (by have := HL.out; omega) i (by have := HL.out; omega), ← hx] at HI1
        rw [hx, place_zero HKf.out (by have := HL.out; omega) i (by have := HL.out; omega), ← hx] at HI2
        have hS0 : wr.cell? ⟨gn, 0, none⟩ = some (.bool lf) ∧ wr.cell? ⟨gn, 1, none⟩ = some (.slice (some ⟨bk, ok, none⟩) L c1) ∧ wr.cell? ⟨gn, 2, none⟩ = some (.slice a2 M2 c2) ∧ wr.cell? ⟨gn, 3, none⟩ = some (.slice a3 M3 c3) ∧ wr.cell? ⟨bk, ok + i, none⟩ = some (.string x) := ⟨p0, p1, p2, p3, HK.out wr HBr.out⟩
        have di : ((i : Int) != (i : Int)) = false := by simp
        have hi0 : (0 : Int) ≤ (i : Int) := by omega
        have hi1 : (i : Int) < (L : Int) := by omega
        have HSB : Hid (∀ wx, Below wr.heap.size wr wx → wx.cell? ⟨gn, 0, none⟩ = some (.bool lf) ∧ wx.cell? ⟨gn, 1, none⟩ = some (.slice (some ⟨bk, ok, none⟩) L c1) ∧ wx.cell? ⟨gn, 2, none⟩ = some (.slice a2 M2 c2) ∧ wx.cell? ⟨gn, 3, none⟩ = some (.slice a3 M3 c3) ∧ wx.cell? ⟨bk, ok + i, none⟩ = some (.string x)) := hide (fun wx h => by
          have hb := HBr.out.trans (h.mono HBr.out.size)
          obtain ⟨q0, q1, q2, q3⟩ := HCl.out wx hb
          exact ⟨q0, q1, q2, q3, HK.out wx hb⟩)
        clear hx hck p0 p1 p2 p3
        go_wp2_with fail
        go_region_held3 (fun wx => wx.cell? ⟨gn, 0, none⟩ = some (.bool lf) ∧ wx.cell? ⟨gn, 1, none⟩ = some (.slice (some ⟨bk, ok, none⟩) L c1) ∧ wx.cell? ⟨gn, 2, none⟩ = some (.slice a2 M2 c2) ∧ wx.cell? ⟨gn, 3, none⟩ = some (.slice a3 M3 c3) ∧ wx.cell? ⟨bk, ok + i, none⟩ = some (.string x)) (first | exact hS0 | exact hSa | exact hSb) (first | (go_at_call 8; (with_reducible refine (HI1.out _ ?_).mono ?_); exact node_below HAn.out (HBr.out.trans ((Below.refl _ _).drew.mono HBr.out.size)); rintro e wA ⟨rfl, hba⟩; have hAa : Below wr.heap.size wr wA := (Below.refl _ _).drew.trans hba; have hSa := HSB.out _ hAa; have ha1 : ∀ wx : World, (Op.stringOp .add x ⟨#[48]⟩).run Try.prog wx = .ok (.string (x ++ ⟨#[48]⟩)) wx := fun wx => run_string_add_sum wx _ _ (by show x.size + 1 ≤ _; omega)) | (go_at_call 8; have hgE := hAa; (with_reducible refine (HI2.out _ ?_).mono ?_); exact node_below HAn.out (HBr.out.trans (hAa.mono HBr.out.size)); rintro e wB ⟨rfl, hbb⟩; have hAb : Below wr.heap.size wr wB := hAa.trans (hbb.mono hAa.size); have hSb := HSB.out _ hAb))
        have HBb : Hid (Below wn.heap.size wn wB) := hide (HBr.out.trans (hAb.mono HBr.out.size))
        clear hba hAa hSa hbb hAb hSb hS0 ha1
        go_wp2_with fail
        go_roundg (gk - 1)
        case measure => have := HG.out; omega
        case rel => exact ⟨i + 1, by omega, by go_num, by have := HG.out; omega, HBb⟩
      · have HBw : Hid (Below w.heap.size w wr) := hide (HBn.out.trans (HBr.out.mono HBn.out.size))
        have HDr := hide (code_below HD.out HBw.out)
        have HDp := hide (drawPlaceOf_any a len cap wr (code_below HD.out HBw.out))
        have hi1 : ¬ ((i : Int) < (L : Int)) := by omega
        clear hlt hi
        go_wp2_with fail
        refine HDp.out.mono ?_
        rintro e w5 ⟨m, v, k, rfl, hkz, hsm, hown, hb5⟩
        obtain ⟨u1, u2, u3, rfl, h1, h2, h3, h4⟩ := hown
        obtain ⟨b1, d1, rfl⟩ := own_slice h1
        obtain ⟨b2, d2, rfl⟩ := own_slice h2
        obtain ⟨b3, d3, rfl⟩ := own_slice h3
        obtain ⟨N1, hN1⟩ : ∃ L, L = m.ks.length := ⟨_, rfl⟩
        obtain ⟨N2, hN2⟩ : ∃ L, L = m.vs.length := ⟨_, rfl⟩
        obtain ⟨N3, hN3⟩ : ∃ L, L = m.cs.length := ⟨_, rfl⟩
        obtain ⟨mf, hmf⟩ : ∃ lf, lf = m.lf := ⟨_, rfl⟩
        have HAx : Hid (NodeAt w5 (.agg #[.bool mf, .slice b1 N1 d1, .slice b2 N2 d2, .slice b3 N3 d3]) m.lf m.ks m.vs m.cs) := hide (by rw [hN1, hN2, hN3, hmf]; exact node_of_own ⟨_, _, _, rfl, h1, h2, h3, h4⟩)
        rw [← hN1, ← hN2, ← hN3, ← hmf]
        have HXi := hide (fun wx h => implPlaceOf_any (.agg #[.bool mf, .slice b1 N1 d1, .slice b2 N2 d2, .slice b3 N3 d3]) m.lf m.ks m.vs m.cs (by have := hsm.1; omega) k wx h)
        have HXs := hide (fun wx h => specPlaceOf_any (.agg #[.bool mf, .slice b1 N1 d1, .slice b2 N2 d2, .slice b3 N3 d3]) m.lf m.ks m.vs m.cs (by have := hsm.1; omega) k wx h)
        obtain ⟨pk, hpk⟩ : ∃ pk, pk = placeK m.ks k m.ks.length := ⟨_, rfl⟩
        rw [← hpk] at HXi HXs
        have HZ := hide (fun wx h => HIm.out ⟨#[122, 122, 122, 122]⟩ wx h)
        rw [place_top HKf.out (by have := HL.out; omega) (by have := HL.out; omega), ← HL.out] at HZ
        have HE := hide (fun wx => implPlaceOf_any (.agg #[.bool false, .slice none 0 0, .slice none 0 0, .slice none 0 0]) false [] [] [] (by simp) ⟨#[97]⟩ wx (node_none wx))
        rw [show placeK [] ⟨#[97]⟩ ([] : List ByteArray).length = -1 from rfl] at HE
        obtain ⟨w6, hw6⟩ : ∃ w6, w6 = w5.alloc (.cells #[.bool mf, .slice b1 N1 d1, .slice b2 N2 d2, .slice b3 N3 d3] 27 (0, 0)) := ⟨_, rfl⟩
        have hb6 : Below w5.heap.size w5 w6 := by rw [hw6]; exact (Below.refl _ _).alloc (Nat.le_refl _) _
        obtain ⟨gx, hgx⟩ : ∃ g, g = w5.heap.size := ⟨_, rfl⟩
        have HV6 : Hid (w6.heap[gx]? = some (.cells #[.bool mf, .slice b1 N1 d1, .slice b2 N2 d2, .slice b3 N3 d3] 27 (0, 0))) := hide (by rw [hw6, hgx]; exact heap_alloc_new w5 _)
        have HB6 : Hid (Below wn.heap.size wn w6) := hide ((HBr.out.trans (hb5.mono HBr.out.size)).trans (hb6.mono (by have := HBr.out.size; have := hb5.size; omega)))
        have HBw6 : Hid (Below w.heap.size w w6) := hide (HBn.out.trans (HB6.out.mono HBn.out.size))
        have HA6 := hide (node_below HAx.out hb6)
        have HSB : Hid (∀ wx, Below w6.heap.size w6 wx → wx.cell? ⟨gn, 0, none⟩ = some (.bool lf) ∧ wx.cell? ⟨gn, 1, none⟩ = some (.slice a1 L c1) ∧ wx.cell? ⟨gn, 2, none⟩ = some (.slice a2 M2 c2) ∧ wx.cell? ⟨gn, 3, none⟩ = some (.slice a3 M3 c3) ∧ wx.cell? ⟨gx, 0, none⟩ = some (.bool mf) ∧ wx.cell? ⟨gx, 1, none⟩ = some (.slice b1 N1 d1) ∧ wx.cell? ⟨gx, 2, none⟩ = some (.slice b2 N2 d2) ∧ wx.cell? ⟨gx, 3, none⟩ = some (.slice b3 N3 d3)) := hide (fun wx h => by
          obtain ⟨q0, q1, q2, q3⟩ := HCl.out wx (HB6.out.trans (h.mono HB6.out.size))
          have hq := (h.block gx (Array.getElem?_eq_some_iff.1 HV6.out).1).trans HV6.out
          exact ⟨q0, q1, q2, q3, (cell_at hq 0).1, (cell_at hq 1).1, (cell_at hq 2).1, (cell_at hq 3).1⟩)
        have hS0 := HSB.out w6 (Below.refl _ _)
        have hwl : IntKind.i64.wrap ((L : Int) - 1) = (L : Int) - 1 := IntWalk.i64_in _ ⟨by omega, by omega⟩
        have e1 : (((L : Int) - 1) == ((L : Int) - 1)) = true := by simp
        have e2 : (pk == pk) = true := by simp
        have e3 : decide ((0 : Int) < (L : Int)) = true := decide_eq_true (by omega)
        have e4 : decide (0 < L) = true := decide_eq_true (by omega)
        have HGx := hide hgx
        clear h1 h2 h3 h4 hb5 hb6 hsm hkz hN1 hN2 hN3 hmf hpk p0 p1 p2 p3
        go_wp2_with fail
        rw [← HGx.out]
        try rw [← hw6]
        clear hw6 hgx
        go_region_held3 (fun wx => wx.cell? ⟨gn, 0, none⟩ = some (.bool lf) ∧ wx.cell? ⟨gn, 1, none⟩ = some (.slice a1 L c1) ∧ wx.cell? ⟨gn, 2, none⟩ = some (.slice a2 M2 c2) ∧ wx.cell? ⟨gn, 3, none⟩ = some (.slice a3 M3 c3) ∧ wx.cell? ⟨gx, 0, none⟩ = some (.bool mf) ∧ wx.cell? ⟨gx, 1, none⟩ = some (.slice b1 N1 d1) ∧ wx.cell? ⟨gx, 2, none⟩ = some (.slice b2 N2 d2) ∧ wx.cell? ⟨gx, 3, none⟩ = some (.slice b3 N3 d3)) (first | exact hS0 | exact hSa | exact hSb | exact hSc | exact hSd) (first | (go_at_call 8; (with_reducible refine (HZ.out _ ?_).mono ?_); exact node_below HAn.out (HB6.out.trans ((Below.refl _ _).drew.mono HB6.out.size)); rintro e wA ⟨rfl, hba⟩; have hAa : Below w6.heap.size w6 wA := (Below.refl _ _).drew.trans hba; have hSa := HSB.out _ hAa) | (go_at_call 8; have hgE := hAa; (with_reducible refine (HE.out _).mono ?_); rintro e wB ⟨rfl, hbb⟩; have hAb : Below w6.heap.size w6 wB := hAa.trans (hbb.mono hAa.size); have hSb := HSB.out _ hAb) | (go_at_call 8; have hgE := hAb; (with_reducible refine (HXi.out _ ?_).mono ?_); exact node_below HA6.out hAb; rintro e wC ⟨rfl, hbc⟩; have hAc : Below w6.heap.size w6 wC := hAb.trans (hbc.mono hAb.size); have hSc := HSB.out _ hAc) | (go_at_call 10; have hgE := hAc; (with_reducible refine (HXs.out _ ?_).mono ?_); exact node_below HA6.out hAc; rintro e wD ⟨rfl, hbd⟩; have hAd : Below w6.heap.size w6 wD := hAc.trans (hbd.mono hAc.size); have hSd := HSB.out _ hAd))
        have HBd : Hid (Below w.heap.size w wD) := hide (HBw6.out.trans (hAd.mono HBw6.out.size))
        clear hba hAa hSa hbb hAb hSb hbc hAc hSc hbd hAd hSd hS0
        go_wp2_with fail
        go_ret
        exact ⟨rfl, HBd.out⟩
end Go.Proofs.Ytnkjakagkdimeaa
