/-
  The draws of nodes by contracts: l05Key, l05Node.
-/
import Derived.Test.YtglcfaibgjiigaaDoorDrawPick
import Derived.Test.YtglcfaibgjiigaaDoorPlain17
import Derived.Test.YtglcfaibgjiigaaDoorNodeGrow
import Derived.Deep.RegionLaw
import Derived.Laws.Cover1
namespace Go.Proofs.YtglcfaibgjiigaaDoor
open Go.RowKit

set_option maxHeartbeats 1000000 in
set_option maxRecDepth 100000 in
theorem l05Key_any (g B : Nat) (a : Option Addr) (len cap : Nat) (w : World) (hc : CurAt w g a len cap) (hd : CodeIn w B a len) (hB : B ≤ g) :
    Calls Tryd.prog 141 #[.pointer (some ⟨g, 0, none⟩)] w fun e w' => ∃ z : ByteArray, z ∈ bases ∧ e = .returned (.string z) ∧ Drawn w w' g B a len cap := by
  have HP := hide (pick_strs g B a len cap bases 16 rfl (by omega) (by omega) w w.heap.size rfl hc hd hB _ rfl)
  clear hc hd
  go_enter Tryd.func141, Tryd.ntmps141
  go_wp2_with fail
  refine HP.out.mono ?_
  rintro e w1 ⟨z, hz, rfl, h1⟩
  have H1 := hide h1
  have HZ := hide hz
  clear h1 hz
  go_wp2_with fail
  go_ret
  exact ⟨z, HZ.out, rfl, H1.out⟩
/-! l05Node -/

theorem drawn_low {w0 w1 w2 : World} {g gn B : Nat} {a : Option Addr} {len cap : Nat} (h : Drawn w0 w1 g B a len cap) (hb : Below gn w1 w2) (hle : w0.heap.size ≤ gn) (hlt : g < gn) (hB : B ≤ g) : Drawn w0 w2 g B a len cap := by
  obtain ⟨⟨i, x, hi, hc⟩, hg, hd⟩ := h
  refine ⟨⟨i, x, hi, (hb.block g hlt).trans hc⟩, grown_low hg hb hle, hd.1, ?_⟩
  rcases hd.2 with h0 | ⟨b, off, e, hbl, hz⟩
  · exact Or.inl h0
  · refine Or.inr ⟨b, off, e, hbl, fun j hj => ?_⟩
    obtain ⟨z, h1, h2⟩ := hz j hj
    exact ⟨z, h1, by rw [hb.cell (by show b < gn; omega)]; exact h2⟩

/-- how l05Node ends -/
def DnPost (w : World) (g B : Nat) (a : Option Addr) (len cap : Nat) (e : Ending) (w' : World) : Prop := ∃ n v, e = .returned v ∧ DrawnN n ∧ NodeOwn w' w.heap.size v n.lf n.ks n.vs n.cs ∧ Drawn w w' g B a len cap

theorem drawn_dr {w0 w1 : World} {g B : Nat} {a : Option Addr} {len cap : Nat} (h : Drawn w0 w1 g B a len cap) : Drawn w0 w1.drew g B a len cap := ⟨h.1, grown_trans h.2.1 ⟨rfl, rfl, rfl, Nat.le_refl _, fun _ _ _ => rfl⟩, h.2.2⟩

set_option maxHeartbeats 8000000 in
set_option maxRecDepth 100000 in
theorem l05Node_any (g B : Nat) (a : Option Addr) (len cap : Nat) (w : World) (hc : CurAt w g a len cap) (hd : CodeIn w B a len) (hB : B ≤ g) :
    Calls Tryd.prog 111 #[.pointer (some ⟨g, 0, none⟩)] w fun e w' => DnPost w g B a len cap e w' := by
  obtain ⟨i0, HI_string1, HI_string2, HI_string3, HI_string4⟩ := info_parts Tryd.infoStrR
  obtain ⟨i1, HI_int1, HI_int2, HI_int3, HI_int4⟩ := info_parts Tryd.infoIntR
  have hgl := cur_lt hc
  obtain ⟨wa, hwa⟩ : ∃ wa, wa = w.alloc (Obj.cells #[.bool false, .slice none 0 0, .slice none 0 0, .slice none 0 0] 27) := ⟨_, rfl⟩
  have hga : w.grownBy wa (some g) := by rw [hwa]; exact World.grownBy_alloc w _ _
  have HDa : Hid (Drawn w wa g B a len cap) := hide ⟨by rw [hwa]; exact cur_grown hc (World.grownBy_alloc w _ none) (by simp), hga, code_grown hd hga hB hgl⟩
  have HVa : Hid (wa.heap[w.heap.size]? = some (.cells #[.bool false, .slice none 0 0, .slice none 0 0, .slice none 0 0] 27 (0, 0))) := hide (by rw [hwa]; exact heap_alloc_new w _)
  have HSa : Hid (wa.heap.size = w.heap.size + 1) := hide (by rw [hwa]; simp)
  clear hc hd hga
  go_enter Tryd.func111, Tryd.ntmps111
  go_wp2_with fail
  rw [← hwa]
  clear hwa
  refine (l01Once_any g B a len cap 2 (by omega) (by omega) wa HDa.out.1 HDa.out.2.2 hB).mono ?_
  rintro e w1 ⟨b, rfl, hd1⟩
  have HD1 := hide hd1
  clear hd1
  cases b with
  | true =>
    obtain ⟨gn, hgn⟩ : ∃ gn, gn = w1.heap.size := ⟨_, rfl⟩
    obtain ⟨wb, hwb⟩ : ∃ wb, wb = w1.alloc (Obj.cells #[.bool true, .slice none 0 0, .slice none 0 0, .slice none 0 0] 27) := ⟨_, rfl⟩
    have HNb : Hid (NSt wb gn ⟨true, [], [], []⟩ (.slice none 0 0) (.slice none 0 0) (.slice none 0 0)) := hide ⟨by rw [hwb, hgn]; exact heap_alloc_new w1 _, ⟨rfl, Or.inl ⟨rfl, rfl⟩⟩, ⟨rfl, Or.inl ⟨rfl, rfl⟩⟩, ⟨rfl, Or.inl ⟨rfl, rfl⟩⟩, fun k e => by cases e⟩
    have HLw : Hid (wa.heap.size ≤ gn) := hide (by have := HD1.out.2.1.size; omega)
    have HLt : Hid (g < gn) := hide (by have := HLw.out; have := HSa.out; omega)
    have HDb : Hid (Drawn wa wb g B a len cap) := hide (drawn_low HD1.out (by rw [hwb, hgn]; exact (Below.refl _ _).alloc (Nat.le_refl _) _) HLw.out HLt.out hB)
    go_wp2_with fail
    rw [← hwb, ← hgn]
    clear hwb hgn HD1
    go_loopg [4, 5] 4 (fun q lv iv wr => ∃ (n : Nd) (v1 v2 v3 : Value), lv = .string (lastK n.ks) ∧ iv = .int .i64 (n.ks.length : Int) ∧ q + n.ks.length = 4 ∧ n.lf = true ∧ Hid n.even ∧ Hid (NSt wr gn n v1 v2 v3) ∧ Hid (Drawn wa wr g B a len cap) ∧ Hid (KeysF n.ks) ∧ Hid (∀ v ∈ n.vs, v.size ≤ 3))
    case atStart => exact ⟨⟨true, [], [], []⟩, _, _, _, rfl, rfl, rfl, rfl, hide ⟨fun _ => ⟨rfl, rfl⟩, fun _ => ⟨rfl, rfl⟩⟩, HNb, HDb, hide ⟨fun i hi => by simp at hi, fun i hi => by simp at hi⟩, hide (fun v hv => by simp at hv)⟩
    case round =>
      obtain ⟨n, v1, v2, v3, rfl, rfl, hgk, hlf, HEv, HNs, HDr, HKf, HVz⟩ := hrel
      have HG := hide hgk
      have HLf := hide hlf
      have HNk : Hid (n.ks.length ≤ 4 ∧ n.vs.length ≤ 4 ∧ n.cs.length ≤ 4) := hide (by
        obtain ⟨e1, e2⟩ := HEv.out
        rw [(e1 HLf.out).1, (e1 HLf.out).2]; simp; omega)
      have hkl : n.ks.length ≤ 4 := HNk.out.1
      obtain ⟨a1, c1, rfl⟩ := own_slice HNs.out.2.1
      obtain ⟨a2, c2, rfl⟩ := own_slice HNs.out.2.2.1
      obtain ⟨a3, c3, rfl⟩ := own_slice HNs.out.2.2.2.1
      obtain ⟨last, hlast⟩ : ∃ l, l = lastK n.ks := ⟨_, rfl⟩
      have hls : last.size ≤ 5 := by
        rw [hlast, lastK]
        by_cases hz : n.ks.length = 0
        · rw [List.length_eq_zero_iff.1 hz]; exact Nat.zero_le _
        · have := keyAt_size (HKf.out.1 (n.ks.length - 1) (by omega)); omega
      rw [← hlast]
      have HLa := hide hlast
      clear hgk hlf hlast
      obtain ⟨L, hL⟩ : ∃ L, L = n.ks.length := ⟨_, rfl⟩
      rw [← hL]
      rw [← hL] at hkl
      have HL := hide hL
      clear hL
      go_wp2_with fail
      refine (l01Below_any g B a len cap 4 (by omega) (by omega) wr HDr.out.1 HDr.out.2.2 hB).mono ?_
      rintro e w2 ⟨k, hk, rfl, hd2⟩
      have HD2 := hide (drawn_trans HDr.out hd2)
      have HN2 := hide (nst_grown HNs.out hd2.2.1 HLt.out)
      clear hd2 HNs HDr
      by_cases hgo : L < 1 + k
      · have hi1 : (L : Int) < 1 + (k : Int) := by omega
        have e1 : decide ((L : Int) < 1 + (k : Int)) = true := decide_eq_true hi1
        go_wp2_with fail
        refine (l05Key_any g B a len cap w2 HD2.out.1 HD2.out.2.2 hB).mono ?_
        rintro e w3 ⟨x, hx, rfl, hd3⟩
        have HD3 := hide (drawn_trans HD2.out hd3)
        have HN3 := hide (nst_grown HN2.out hd3.2.1 HLt.out)
        have HXb := hide hx
        have hxs := bases_size hx
        have x1 : w3.cell? ⟨gn, 1, none⟩ = some (.slice a1 n.ks.length c1) := (cell_at HN3.out.1 1).1
        clear hd3 hx HD2 HN2
        by_cases hz : L = 0
        · subst hz
          have HZ0 : Hid (n.ks.length = 0) := hide HL.out.symm
          have HKs := hide (keysF_snoc (x := x) HKf.out (fun _ => HXb.out) (fun h => by have := HZ0.out; omega))
          go_wp2_with (at_builtin; refine wpList_append_lies _ rfl _ _ 24 rfl (gn + 1) 9 i0 (.string ⟨#[]⟩) 1 16 Tryd.underlying24 HI_string1 HI_string2 HI_string3 HI_string4 rfl (by decide) _ n.ks.length (strs n.ks) rfl (HN3.out.2.1.alloc _) ⟨w3.heap.size, 0, none⟩ 1 1 [.string x] rfl rfl (one_new w3 _ rfl _ _) ?c1 (by decide) ?c3 ?c4 ?c5 _ rfl ?_)
          case c1 => intro u hu; simp at hu; subst hu; rfl
          case c3 => have := HNk.out; unfold maxLen; omega
          case c4 => have := HNk.out; omega
          case c5 => have := nst_lt HN3.out; simp; omega
          intro b4 d4 w4 hown4 hg4 hb4 hl4
          have hst := key_step HN3.out hown4 hg4 (by simpa using hb4)
          have cc4 := hst.2.2.1
          have cf4 := hst.2.2.2
          obtain ⟨w5, hw5⟩ : ∃ w5, w5 = w4.setCell ⟨gn, 1, none⟩ (.slice (some ⟨b4, 0, none⟩) (n.ks.length + 1) d4) := ⟨_, rfl⟩
          rw [← hw5] at hst
          have HN5 := hide hst.1
          have HD5 := hide (drawn_low HD3.out hst.2.1 HLw.out HLt.out hB)
          have x0 : w5.cell? ⟨gn, 0, none⟩ = some (.bool true) := by rw [(cell_at hst.1.1 0).1, HLf.out]; rfl
          have x2 : w5.cell? ⟨gn, 2, none⟩ = some (.slice a2 n.vs.length c2) := (cell_at hst.1.1 2).1
          have x2o := fun o => (cell_at (nst_below hst.1 ((Below.refl _ _).alloc (Nat.le_refl _) o)).1 2).1
          have HPk : Hid (Calls Tryd.prog 142 #[.pointer (some ⟨g, 0, none⟩), .slice (some ⟨w5.heap.size, 0, none⟩) 3 3] (w5.alloc (Obj.cells #[.string ⟨#[]⟩, .string ⟨#[118]⟩, .string ⟨#[118, 97, 108]⟩] 9)).drew fun e w' => ∃ z : ByteArray, z ∈ vals3 ∧ e = .returned (.string z) ∧ Drawn w5.drew w' g B a len cap) := hide (pick_strs g B a len cap vals3 3 rfl (by omega) (by omega) w5.drew w5.heap.size rfl HD5.out.1 HD5.out.2.2 hB _ rfl)
          have HX5 := hide hw5
          rw [hw5] at x0
          clear hown4 hg4 hb4 hl4 hst hw5 x1
          go_wp2_with fail
          rw [← HX5.out]
          rw [← HX5.out] at x0
          clear cc4 cf4
          go_region_law (first | (refine step_call2 _ ?_ 142 Tryd.f142 Tryd.func142 ?_ ?_ (.tmp 39) (.tmp 40) #[79, 24] ?_ (.pointer (some ⟨g, 0, none⟩)) (.slice (some ⟨w5.heap.size, 0, none⟩) 3 3) ?_ ?_ _ HPk.out ?_; exact rfl; decide; exact Option.some_ne_none _; exact rfl; exact rfl; exact rfl; rintro e w6 ⟨y, hy, rfl, hd6⟩; refine ⟨_, rfl, ?_⟩; have HY := hide (vals3_size hy); have HN6 := hide (nst_grown (show NSt w5.drew gn _ _ _ _ from HN5.out) hd6.2.1 HLt.out); have HD6 := hide (drawn_trans (drawn_dr HD5.out) hd6); have cl6 : w6.cell? ⟨gn, 2, none⟩ = some (.slice a2 n.vs.length c2) := (cell_at HN6.out.1 2).1; have cm6 := fun o => (cell_at (nst_below HN6.out ((Below.refl _ _).alloc (Nat.le_refl _) o)).1 2).1; clear hd6) | (refine step_append_lies _ ?_ (.tmp 38) (.tmp 42) 24 ?_ (gn + 1) 9 i0 (.string ⟨#[]⟩) 1 16 Tryd.underlying24 HI_string1 HI_string2 HI_string3 HI_string4 ?_ ?_ (.slice a2 n.vs.length c2) n.vs.length (strs n.vs) ?_ ((HN6.out.2.2.1).alloc _) ⟨w6.heap.size, 0, none⟩ 1 1 [.string y] ?_ ?_ (one_new w6 _ rfl _ _) ?_ ?_ ?_ ?_ ?_ _ rfl ?_; exact rfl; exact rfl; exact rfl; decide; exact rfl; exact rfl; exact rfl; (intro u hu; simp at hu; subst hu; rfl); decide; (have := HNk.out; unfold maxLen; omega); (have := HNk.out; omega); (have := nst_lt HN6.out; simp; omega); intro b7 d7 w7 hown4 hg4 hb4 hl4; have HS7 := hide (val_step HN6.out hown4 hg4 hb4); have cc7 := HS7.out.2.2.1; have cf7 := HS7.out.2.2.2; clear hown4 hg4 hb4 hl4))
          all_goals
            have hst := HS7.out
            have HN8 := hide hst.1
            have HD8 := hide (drawn_low HD6.out hst.2.1 HLw.out HLt.out hB)
            obtain ⟨w8, hw8⟩ : ∃ w8, w8 = w7.setCell ⟨gn, 2, none⟩ (.slice (some ⟨b7, 0, none⟩) (n.vs.length + 1) d7) := ⟨_, rfl⟩
            rw [← hw8] at HN8 HD8 ⊢
            clear hw8 hst HS7 cc7 cf7 HN6 HD6 cl6 cm6 x0 x2
            go_wp2_with fail
            go_roundg (gk - 1)
            case measure => have := HG.out; have := HL.out; omega
            case rel => exact ⟨n.snocV x y, _, _, _, by rw [show (n.snocV x y).ks = n.ks ++ [x] from rfl, HKs.out.2], by have := HL.out; simp [Nd.snocV]; omega, by have := HG.out; have := HL.out; simp [Nd.snocV]; omega, HLf.out, hide (even_snocV HEv.out HLf.out x y), HN8, HD8, hide HKs.out.1, hide (fun v hv => by rcases List.mem_append.1 hv with hv | hv; exact HVz.out v hv; obtain rfl := List.mem_singleton.1 hv; exact HY.out)⟩
        · have e2 : decide ((0 : Int) < (L : Int)) = true := decide_eq_true (by omega)
          obtain ⟨le, hle⟩ : ∃ le, (Op.bytesLess x.toList last.toList || x.toList == last.toList) = le := ⟨_, rfl⟩
          have HZ0 : Hid (¬ n.ks.length = 0) := hide (by rw [← HL.out]; exact hz)
          have hLp : 0 < L := by omega
          clear hz
          cases le with
          | true =>
            have HKs := hide (keysF_snoc (x := (last ++ ⟨#[49]⟩)) HKf.out (fun h => absurd h HZ0.out) (fun _ => Or.inr (by rw [← HLa.out])))
            go_wp2_with (at_builtin; refine wpList_append_lies _ rfl _ _ 24 rfl (gn + 1) 9 i0 (.string ⟨#[]⟩) 1 16 Tryd.underlying24 HI_string1 HI_string2 HI_string3 HI_string4 rfl (by decide) _ n.ks.length (strs n.ks) rfl (HN3.out.2.1.alloc _) ⟨w3.heap.size, 0, none⟩ 1 1 [.string (last ++ ⟨#[49]⟩)] rfl rfl (one_new w3 _ rfl _ _) ?c1 (by decide) ?c3 ?c4 ?c5 _ rfl ?_)
            case c1 => intro u hu; simp at hu; subst hu; rfl
            case c3 => have := HNk.out; unfold maxLen; omega
            case c4 => have := HNk.out; omega
            case c5 => have := nst_lt HN3.out; simp; omega
            intro b4 d4 w4 hown4 hg4 hb4 hl4
            have hst := key_step HN3.out hown4 hg4 (by simpa using hb4)
            have cc4 := hst.2.2.1
            have cf4 := hst.2.2.2
            obtain ⟨w5, hw5⟩ : ∃ w5, w5 = w4.setCell ⟨gn, 1, none⟩ (.slice (some ⟨b4, 0, none⟩) (n.ks.length + 1) d4) := ⟨_, rfl⟩
            rw [← hw5] at hst
            have HN5 := hide hst.1
            have HD5 := hide (drawn_low HD3.out hst.2.1 HLw.out HLt.out hB)
            have x0 : w5.cell? ⟨gn, 0, none⟩ = some (.bool true) := by rw [(cell_at hst.1.1 0).1, HLf.out]; rfl
            have x2 : w5.cell? ⟨gn, 2, none⟩ = some (.slice a2 n.vs.length c2) := (cell_at hst.1.1 2).1
            have x2o := fun o => (cell_at (nst_below hst.1 ((Below.refl _ _).alloc (Nat.le_refl _) o)).1 2).1
            have HPk : Hid (Calls Tryd.prog 142 #[.pointer (some ⟨g, 0, none⟩), .slice (some ⟨w5.heap.size, 0, none⟩) 3 3] (w5.alloc (Obj.cells #[.string ⟨#[]⟩, .string ⟨#[118]⟩, .string ⟨#[118, 97, 108]⟩] 9)).drew fun e w' => ∃ z : ByteArray, z ∈ vals3 ∧ e = .returned (.string z) ∧ Drawn w5.drew w' g B a len cap) := hide (pick_strs g B a len cap vals3 3 rfl (by omega) (by omega) w5.drew w5.heap.size rfl HD5.out.1 HD5.out.2.2 hB _ rfl)
            have HX5 := hide hw5
            rw [hw5] at x0
            clear hown4 hg4 hb4 hl4 hst hw5 x1
            go_wp2_with fail
            rw [← HX5.out]
            rw [← HX5.out] at x0
            clear cc4 cf4
            go_region_law (first | (refine step_call2 _ ?_ 142 Tryd.f142 Tryd.func142 ?_ ?_ (.tmp 39) (.tmp 40) #[79, 24] ?_ (.pointer (some ⟨g, 0, none⟩)) (.slice (some ⟨w5.heap.size, 0, none⟩) 3 3) ?_ ?_ _ HPk.out ?_; exact rfl; decide; exact Option.some_ne_none _; exact rfl; exact rfl; exact rfl; rintro e w6 ⟨y, hy, rfl, hd6⟩; refine ⟨_, rfl, ?_⟩; have HY := hide (vals3_size hy); have HN6 := hide (nst_grown (show NSt w5.drew gn _ _ _ _ from HN5.out) hd6.2.1 HLt.out); have HD6 := hide (drawn_trans (drawn_dr HD5.out) hd6); have cl6 : w6.cell? ⟨gn, 2, none⟩ = some (.slice a2 n.vs.length c2) := (cell_at HN6.out.1 2).1; have cm6 := fun o => (cell_at (nst_below HN6.out ((Below.refl _ _).alloc (Nat.le_refl _) o)).1 2).1; clear hd6) | (refine step_append_lies _ ?_ (.tmp 38) (.tmp 42) 24 ?_ (gn + 1) 9 i0 (.string ⟨#[]⟩) 1 16 Tryd.underlying24 HI_string1 HI_string2 HI_string3 HI_string4 ?_ ?_ (.slice a2 n.vs.length c2) n.vs.length (strs n.vs) ?_ ((HN6.out.2.2.1).alloc _) ⟨w6.heap.size, 0, none⟩ 1 1 [.string y] ?_ ?_ (one_new w6 _ rfl _ _) ?_ ?_ ?_ ?_ ?_ _ rfl ?_; exact rfl; exact rfl; exact rfl; decide; exact rfl; exact rfl; exact rfl; (intro u hu; simp at hu; subst hu; rfl); decide; (have := HNk.out; unfold maxLen; omega); (have := HNk.out; omega); (have := nst_lt HN6.out; simp; omega); intro b7 d7 w7 hown4 hg4 hb4 hl4; have HS7 := hide (val_step HN6.out hown4 hg4 hb4); have cc7 := HS7.out.2.2.1; have cf7 := HS7.out.2.2.2; clear hown4 hg4 hb4 hl4))
            all_goals
              have hst := HS7.out
              have HN8 := hide hst.1
              have HD8 := hide (drawn_low HD6.out hst.2.1 HLw.out HLt.out hB)
              obtain ⟨w8, hw8⟩ : ∃ w8, w8 = w7.setCell ⟨gn, 2, none⟩ (.slice (some ⟨b7, 0, none⟩) (n.vs.length + 1) d7) := ⟨_, rfl⟩
              rw [← hw8] at HN8 HD8 ⊢
              clear hw8 hst HS7 cc7 cf7 HN6 HD6 cl6 cm6 x0 x2
              go_wp2_with fail
              go_roundg (gk - 1)
              case measure => have := HG.out; have := HL.out; omega
              case rel => exact ⟨n.snocV (last ++ ⟨#[49]⟩) y, _, _, _, by rw [show (n.snocV (last ++ ⟨#[49]⟩) y).ks = n.ks ++ [(last ++ ⟨#[49]⟩)] from rfl, HKs.out.2], by have := HL.out; simp [Nd.snocV]; omega, by have := HG.out; have := HL.out; simp [Nd.snocV]; omega, HLf.out, hide (even_snocV HEv.out HLf.out (last ++ ⟨#[49]⟩) y), HN8, HD8, hide HKs.out.1, hide (fun v hv => by rcases List.mem_append.1 hv with hv | hv; exact HVz.out v hv; obtain rfl := List.mem_singleton.1 hv; exact HY.out)⟩
          | false =>
            have HLs : Hid (Op.bytesLess last.toList x.toList = true) := hide (by
              rw [Bool.or_eq_false_iff] at hle
              exact less_total _ _ hle.1 hle.2)
            have HKs := hide (keysF_snoc (x := x) HKf.out (fun h => absurd h HZ0.out) (fun _ => Or.inl ⟨HXb.out, by rw [← HLa.out]; exact HLs.out⟩))
            go_wp2_with (at_builtin; refine wpList_append_lies _ rfl _ _ 24 rfl (gn + 1) 9 i0 (.string ⟨#[]⟩) 1 16 Tryd.underlying24 HI_string1 HI_string2 HI_string3 HI_string4 rfl (by decide) _ n.ks.length (strs n.ks) rfl (HN3.out.2.1.alloc _) ⟨w3.heap.size, 0, none⟩ 1 1 [.string x] rfl rfl (one_new w3 _ rfl _ _) ?c1 (by decide) ?c3 ?c4 ?c5 _ rfl ?_)
            case c1 => intro u hu; simp at hu; subst hu; rfl
            case c3 => have := HNk.out; unfold maxLen; omega
            case c4 => have := HNk.out; omega
            case c5 => have := nst_lt HN3.out; simp; omega
            intro b4 d4 w4 hown4 hg4 hb4 hl4
            have hst := key_step HN3.out hown4 hg4 (by simpa using hb4)
            have cc4 := hst.2.2.1
            have cf4 := hst.2.2.2
            obtain ⟨w5, hw5⟩ : ∃ w5, w5 = w4.setCell ⟨gn, 1, none⟩ (.slice (some ⟨b4, 0, none⟩) (n.ks.length + 1) d4) := ⟨_, rfl⟩
            rw [← hw5] at hst
            have HN5 := hide hst.1
            have HD5 := hide (drawn_low HD3.out hst.2.1 HLw.out HLt.out hB)
            have x0 : w5.cell? ⟨gn, 0, none⟩ = some (.bool true) := by rw [(cell_at hst.1.1 0).1, HLf.out]; rfl
            have x2 : w5.cell? ⟨gn, 2, none⟩ = some (.slice a2 n.vs.length c2) := (cell_at hst.1.1 2).1
            have x2o := fun o => (cell_at (nst_below hst.1 ((Below.refl _ _).alloc (Nat.le_refl _) o)).1 2).1
            have HPk : Hid (Calls Tryd.prog 142 #[.pointer (some ⟨g, 0, none⟩), .slice (some ⟨w5.heap.size, 0, none⟩) 3 3] (w5.alloc (Obj.cells #[.string ⟨#[]⟩, .string ⟨#[118]⟩, .string ⟨#[118, 97, 108]⟩] 9)).drew fun e w' => ∃ z : ByteArray, z ∈ vals3 ∧ e = .returned (.string z) ∧ Drawn w5.drew w' g B a len cap) := hide (pick_strs g B a len cap vals3 3 rfl (by omega) (by omega) w5.drew w5.heap.size rfl HD5.out.1 HD5.out.2.2 hB _ rfl)
            have HX5 := hide hw5
            rw [hw5] at x0
            clear hown4 hg4 hb4 hl4 hst hw5 x1
            go_wp2_with fail
            rw [← HX5.out]
            rw [← HX5.out] at x0
            clear cc4 cf4
            go_region_law (first | (refine step_call2 _ ?_ 142 Tryd.f142 Tryd.func142 ?_ ?_ (.tmp 39) (.tmp 40) #[79, 24] ?_ (.pointer (some ⟨g, 0, none⟩)) (.slice (some ⟨w5.heap.size, 0, none⟩) 3 3) ?_ ?_ _ HPk.out ?_; exact rfl; decide; exact Option.some_ne_none _; exact rfl; exact rfl; exact rfl; rintro e w6 ⟨y, hy, rfl, hd6⟩; refine ⟨_, rfl, ?_⟩; have HY := hide (vals3_size hy); have HN6 := hide (nst_grown (show NSt w5.drew gn _ _ _ _ from HN5.out) hd6.2.1 HLt.out); have HD6 := hide (drawn_trans (drawn_dr HD5.out) hd6); have cl6 : w6.cell? ⟨gn, 2, none⟩ = some (.slice a2 n.vs.length c2) := (cell_at HN6.out.1 2).1; have cm6 := fun o => (cell_at (nst_below HN6.out ((Below.refl _ _).alloc (Nat.le_refl _) o)).1 2).1; clear hd6) | (refine step_append_lies _ ?_ (.tmp 38) (.tmp 42) 24 ?_ (gn + 1) 9 i0 (.string ⟨#[]⟩) 1 16 Tryd.underlying24 HI_string1 HI_string2 HI_string3 HI_string4 ?_ ?_ (.slice a2 n.vs.length c2) n.vs.length (strs n.vs) ?_ ((HN6.out.2.2.1).alloc _) ⟨w6.heap.size, 0, none⟩ 1 1 [.string y] ?_ ?_ (one_new w6 _ rfl _ _) ?_ ?_ ?_ ?_ ?_ _ rfl ?_; exact rfl; exact rfl; exact rfl; decide; exact rfl; exact rfl; exact rfl; (intro u hu; simp at hu; subst hu; rfl); decide; (have := HNk.out; unfold maxLen; omega); (have := HNk.out; omega); (have := nst_lt HN6.out; simp; omega); intro b7 d7 w7 hown4 hg4 hb4 hl4; have HS7 := hide (val_step HN6.out hown4 hg4 hb4); have cc7 := HS7.out.2.2.1; have cf7 := HS7.out.2.2.2; clear hown4 hg4 hb4 hl4))
            all_goals
              have hst := HS7.out
              have HN8 := hide hst.1
              have HD8 := hide (drawn_low HD6.out hst.2.1 HLw.out HLt.out hB)
              obtain ⟨w8, hw8⟩ : ∃ w8, w8 = w7.setCell ⟨gn, 2, none⟩ (.slice (some ⟨b7, 0, none⟩) (n.vs.length + 1) d7) := ⟨_, rfl⟩
              rw [← hw8] at HN8 HD8 ⊢
              clear hw8 hst HS7 cc7 cf7 HN6 HD6 cl6 cm6 x0 x2
              go_wp2_with fail
              go_roundg (gk - 1)
              case measure => have := HG.out; have := HL.out; omega
              case rel => exact ⟨n.snocV x y, _, _, _, by rw [show (n.snocV x y).ks = n.ks ++ [x] from rfl, HKs.out.2], by have := HL.out; simp [Nd.snocV]; omega, by have := HG.out; have := HL.out; simp [Nd.snocV]; omega, HLf.out, hide (even_snocV HEv.out HLf.out x y), HN8, HD8, hide HKs.out.1, hide (fun v hv => by rcases List.mem_append.1 hv with hv | hv; exact HVz.out v hv; obtain rfl := List.mem_singleton.1 hv; exact HY.out)⟩
      · have e1 : decide ((L : Int) < 1 + (k : Int)) = false := decide_eq_false (by omega)
        have hi1 : ¬ (L : Int) < 1 + (k : Int) := by omega
        have HDn : Hid (DrawnN n) := hide ⟨by have := HL.out; omega, HNk.out.1, HEv.out, HKf.out, HVz.out⟩
        have hv6 : w2.heap[w.heap.size]? = _ := (HD2.out.2.1.block w.heap.size (by rw [HSa.out]; omega) (fun e => by injection e with e; omega)).trans HVa.out
        have q0 : w2.cell? ⟨gn, 0, none⟩ = some (.bool true) := by rw [(cell_at HN2.out.1 0).1, HLf.out]; rfl
        have q1 : w2.cell? ⟨gn, 1, none⟩ = some (.slice a1 n.ks.length c1) := (cell_at HN2.out.1 1).1
        have q2 : w2.cell? ⟨gn, 2, none⟩ = some (.slice a2 n.vs.length c2) := (cell_at HN2.out.1 2).1
        have q3 : w2.cell? ⟨gn, 3, none⟩ = some (.slice a3 n.cs.length c3) := (cell_at HN2.out.1 3).1
        have o0 : w2.cell? ⟨w.heap.size, 0, none⟩ = some (.bool false) := (cell_at hv6 0).1
        have o1 : w2.cell? ⟨w.heap.size, 1, none⟩ = some (.slice none 0 0) := (cell_at hv6 1).1
        have o2 : w2.cell? ⟨w.heap.size, 2, none⟩ = some (.slice none 0 0) := (cell_at hv6 2).1
        have o3 : w2.cell? ⟨w.heap.size, 3, none⟩ = some (.slice none 0 0) := (cell_at hv6 3).1
        have z0 := (cell_at hv6 0).2
        have z1 := (cell_at hv6 1).2
        have z2 := (cell_at hv6 2).2
        have z3 := (cell_at hv6 3).2
        have hnw := nst_node HN2.out
        rw [HLf.out] at hnw
        have HRt := hide (ret_node hv6 hnw (by have := HLw.out; rw [HSa.out] at this; omega))
        clear hnw hv6 hgo
        go_wp2_with fail
        have hrt := HRt.out
        have t0 := (cell_at hrt.1 0).1
        have t1 := (cell_at hrt.1 1).1
        have t2 := (cell_at hrt.1 2).1
        have t3 := (cell_at hrt.1 3).1
        refine bodyPost_ret (v := .agg #[.bool true, .slice a1 n.ks.length c1, .slice a2 n.vs.length c2, .slice a3 n.cs.length c3]) (by simp [results, Tryd.results111, go_sem, t0, t1, t2, t3]) rfl ⟨n, _, rfl, HDn.out, ?_, drawn_low (drawn_trans HDa.out HD2.out) hrt.2.2 (Nat.le_refl _) hgl hB⟩
        rw [HLf.out]
        exact nodeOwn_down hrt.2.1 (by have := HLw.out; rw [HSa.out] at this; omega)

  | false =>
    obtain ⟨gn, hgn⟩ : ∃ gn, gn = w1.heap.size := ⟨_, rfl⟩
    obtain ⟨wb, hwb⟩ : ∃ wb, wb = w1.alloc (Obj.cells #[.bool false, .slice none 0 0, .slice none 0 0, .slice none 0 0] 27) := ⟨_, rfl⟩
    have HNb : Hid (NSt wb gn ⟨false, [], [], []⟩ (.slice none 0 0) (.slice none 0 0) (.slice none 0 0)) := hide ⟨by rw [hwb, hgn]; exact heap_alloc_new w1 _, ⟨rfl, Or.inl ⟨rfl, rfl⟩⟩, ⟨rfl, Or.inl ⟨rfl, rfl⟩⟩, ⟨rfl, Or.inl ⟨rfl, rfl⟩⟩, fun k e => by cases e⟩
    have HLw : Hid (wa.heap.size ≤ gn) := hide (by have := HD1.out.2.1.size; omega)
    have HLt : Hid (g < gn) := hide (by have := HLw.out; have := HSa.out; omega)
    have HDb : Hid (Drawn wa wb g B a len cap) := hide (drawn_low HD1.out (by rw [hwb, hgn]; exact (Below.refl _ _).alloc (Nat.le_refl _) _) HLw.out HLt.out hB)
    go_wp2_with fail
    rw [← hwb, ← hgn]
    clear hwb hgn HD1
    go_loopg [4, 5] 4 (fun q lv iv wr => ∃ (n : Nd) (v1 v2 v3 : Value), lv = .string (lastK n.ks) ∧ iv = .int .i64 (n.ks.length : Int) ∧ q + n.ks.length = 4 ∧ n.lf = false ∧ Hid n.even ∧ Hid (NSt wr gn n v1 v2 v3) ∧ Hid (Drawn wa wr g B a len cap) ∧ Hid (KeysF n.ks) ∧ Hid (∀ v ∈ n.vs, v.size ≤ 3))
    case atStart => exact ⟨⟨false, [], [], []⟩, _, _, _, rfl, rfl, rfl, rfl, hide ⟨fun _ => ⟨rfl, rfl⟩, fun _ => ⟨rfl, rfl⟩⟩, HNb, HDb, hide ⟨fun i hi => by simp at hi, fun i hi => by simp at hi⟩, hide (fun v hv => by simp at hv)⟩
    case round =>
      obtain ⟨n, v1, v2, v3, rfl, rfl, hgk, hlf, HEv, HNs, HDr, HKf, HVz⟩ := hrel
      have HG := hide hgk
      have HLf := hide hlf
      have HNk : Hid (n.ks.length ≤ 4 ∧ n.vs.length ≤ 4 ∧ n.cs.length ≤ 4) := hide (by
        obtain ⟨e1, e2⟩ := HEv.out
        rw [(e2 HLf.out).1, (e2 HLf.out).2]; simp; omega)
      have hkl : n.ks.length ≤ 4 := HNk.out.1
      obtain ⟨a1, c1, rfl⟩ := own_slice HNs.out.2.1
      obtain ⟨a2, c2, rfl⟩ := own_slice HNs.out.2.2.1
      obtain ⟨a3, c3, rfl⟩ := own_slice HNs.out.2.2.2.1
      obtain ⟨last, hlast⟩ : ∃ l, l = lastK n.ks := ⟨_, rfl⟩
      have hls : last.size ≤ 5 := by
        rw [hlast, lastK]
        by_cases hz : n.ks.length = 0
        · rw [List.length_eq_zero_iff.1 hz]; exact Nat.zero_le _
        · have := keyAt_size (HKf.out.1 (n.ks.length - 1) (by omega)); omega
      rw [← hlast]
      have HLa := hide hlast
      clear hgk hlf hlast
      obtain ⟨L, hL⟩ : ∃ L, L = n.ks.length := ⟨_, rfl⟩
      rw [← hL]
      rw [← hL] at hkl
      have HL := hide hL
      clear hL
      go_wp2_with fail
      refine (l01Below_any g B a len cap 4 (by omega) (by omega) wr HDr.out.1 HDr.out.2.2 hB).mono ?_
      rintro e w2 ⟨k, hk, rfl, hd2⟩
      have HD2 := hide (drawn_trans HDr.out hd2)
      have HN2 := hide (nst_grown HNs.out hd2.2.1 HLt.out)
      clear hd2 HNs HDr
      by_cases hgo : L < 1 + k
      · have hi1 : (L : Int) < 1 + (k : Int) := by omega
        have e1 : decide ((L : Int) < 1 + (k : Int)) = true := decide_eq_true hi1
        go_wp2_with fail
        refine (l05Key_any g B a len cap w2 HD2.out.1 HD2.out.2.2 hB).mono ?_
        rintro e w3 ⟨x, hx, rfl, hd3⟩
        have HD3 := hide (drawn_trans HD2.out hd3)
        have HN3 := hide (nst_grown HN2.out hd3.2.1 HLt.out)
        have HXb := hide hx
        have hxs := bases_size hx
        have x1 : w3.cell? ⟨gn, 1, none⟩ = some (.slice a1 n.ks.length c1) := (cell_at HN3.out.1 1).1
        clear hd3 hx HD2 HN2
        by_cases hz : L = 0
        · subst hz
          have HZ0 : Hid (n.ks.length = 0) := hide HL.out.symm
          have HKs := hide (keysF_snoc (x := x) HKf.out (fun _ => HXb.out) (fun h => by have := HZ0.out; omega))
          go_wp2_with (at_builtin; refine wpList_append_lies _ rfl _ _ 24 rfl (gn + 1) 9 i0 (.string ⟨#[]⟩) 1 16 Tryd.underlying24 HI_string1 HI_string2 HI_string3 HI_string4 rfl (by decide) _ n.ks.length (strs n.ks) rfl (HN3.out.2.1.alloc _) ⟨w3.heap.size, 0, none⟩ 1 1 [.string x] rfl rfl (one_new w3 _ rfl _ _) ?c1 (by decide) ?c3 ?c4 ?c5 _ rfl ?_)
          case c1 => intro u hu; simp at hu; subst hu; rfl
          case c3 => have := HNk.out; unfold maxLen; omega
          case c4 => have := HNk.out; omega
          case c5 => have := nst_lt HN3.out; simp; omega
          intro b4 d4 w4 hown4 hg4 hb4 hl4
          have hst := key_step HN3.out hown4 hg4 (by simpa using hb4)
          have cc4 := hst.2.2.1
          have cf4 := hst.2.2.2
          obtain ⟨w5, hw5⟩ : ∃ w5, w5 = w4.setCell ⟨gn, 1, none⟩ (.slice (some ⟨b4, 0, none⟩) (n.ks.length + 1) d4) := ⟨_, rfl⟩
          rw [← hw5] at hst
          have HN5 := hide hst.1
          have HD5 := hide (drawn_low HD3.out hst.2.1 HLw.out HLt.out hB)
          have x0 : w5.cell? ⟨gn, 0, none⟩ = some (.bool false) := by rw [(cell_at hst.1.1 0).1, HLf.out]; rfl
          have x2 : w5.cell? ⟨gn, 3, none⟩ = some (.slice a3 n.cs.length c3) := (cell_at hst.1.1 3).1
          have x2o := fun o => (cell_at (nst_below hst.1 ((Below.refl _ _).alloc (Nat.le_refl _) o)).1 3).1
          have HPk : Hid (Calls Tryd.prog 81 #[.pointer (some ⟨g, 0, none⟩), .int .i64 4] w5.drew fun e w' => ∃ x : Nat, x < 4 ∧ e = .returned (.int .i64 (x : Int)) ∧ Drawn w5.drew w' g B a len cap) := hide (l01Below_any g B a len cap 4 (by omega) (by omega) w5.drew HD5.out.1 HD5.out.2.2 hB)
          have HX5 := hide hw5
          rw [hw5] at x0
          clear hown4 hg4 hb4 hl4 hst hw5 x1
          go_wp2_with fail
          rw [← HX5.out]
          rw [← HX5.out] at x0
          clear cc4 cf4
          go_region_law (first | (refine step_call2 _ ?_ 81 Tryd.f81 Tryd.func81 ?_ ?_ (.tmp 49) (.const (.int .i64 4)) #[79, 3] ?_ (.pointer (some ⟨g, 0, none⟩)) (.int .i64 4) ?_ ?_ _ HPk.out ?_; exact rfl; decide; exact Option.some_ne_none _; exact rfl; exact rfl; exact rfl; rintro e w6 ⟨y, hy, rfl, hd6⟩; refine ⟨_, rfl, ?_⟩; have hyb : y < 4 := hy; have HN6 := hide (nst_grown (show NSt w5.drew gn _ _ _ _ from HN5.out) hd6.2.1 HLt.out); have HD6 := hide (drawn_trans (drawn_dr HD5.out) hd6); have cl6 : w6.cell? ⟨gn, 3, none⟩ = some (.slice a3 n.cs.length c3) := (cell_at HN6.out.1 3).1; have cm6 := fun o => (cell_at (nst_below HN6.out ((Below.refl _ _).alloc (Nat.le_refl _) o)).1 3).1; clear hd6) | (refine step_append_lies _ ?_ (.tmp 46) (.tmp 53) 25 ?_ (gn + 1) 3 i1 (.int .i64 0) 1 8 Tryd.underlying25 HI_int1 HI_int2 HI_int3 HI_int4 ?_ ?_ (.slice a3 n.cs.length c3) n.cs.length (ints n.cs) ?_ ((HN6.out.2.2.2.1).alloc _) ⟨w6.heap.size, 0, none⟩ 1 1 [.int .i64 (IntKind.i64.wrap (IntKind.i64.wrap 2 + IntKind.i64.wrap ((y : Int) * 4)))] ?_ ?_ (one_new w6 _ rfl _ _) ?_ ?_ ?_ ?_ ?_ _ rfl ?_; exact rfl; exact rfl; exact rfl; decide; exact rfl; exact rfl; exact rfl; (intro u hu; simp at hu; subst hu; rfl); decide; (have := HNk.out; unfold maxLen; omega); (have := HNk.out; omega); (have := nst_lt HN6.out; simp; omega); intro b7 d7 w7 hown4 hg4 hb4 hl4; have HS7 := hide (kid_step HN6.out hown4 hg4 hb4); have cc7 := HS7.out.2.2.1; have cf7 := HS7.out.2.2.2; clear hown4 hg4 hb4 hl4))
          all_goals
            have hst := HS7.out
            have HN8 := hide hst.1
            have HD8 := hide (drawn_low HD6.out hst.2.1 HLw.out HLt.out hB)
            obtain ⟨w8, hw8⟩ : ∃ w8, w8 = w7.setCell ⟨gn, 3, none⟩ (.slice (some ⟨b7, 0, none⟩) (n.cs.length + 1) d7) := ⟨_, rfl⟩
            rw [← hw8] at HN8 HD8 ⊢
            clear hw8 hst HS7 cc7 cf7 HN6 HD6 cl6 cm6 x0 x2
            go_wp2_with fail
            go_roundg (gk - 1)
            case measure => have := HG.out; have := HL.out; omega
            case rel => exact ⟨n.snocC x (IntKind.i64.wrap (IntKind.i64.wrap 2 + IntKind.i64.wrap ((y : Int) * 4))), _, _, _, by rw [show (n.snocC x (IntKind.i64.wrap (IntKind.i64.wrap 2 + IntKind.i64.wrap ((y : Int) * 4)))).ks = n.ks ++ [x] from rfl, HKs.out.2], by have := HL.out; simp [Nd.snocC]; omega, by have := HG.out; have := HL.out; simp [Nd.snocC]; omega, HLf.out, hide (even_snocC HEv.out HLf.out x _), HN8, HD8, hide HKs.out.1, hide (HVz.out)⟩
        · have e2 : decide ((0 : Int) < (L : Int)) = true := decide_eq_true (by omega)
          obtain ⟨le, hle⟩ : ∃ le, (Op.bytesLess x.toList last.toList || x.toList == last.toList) = le := ⟨_, rfl⟩
          have HZ0 : Hid (¬ n.ks.length = 0) := hide (by rw [← HL.out]; exact hz)
          have hLp : 0 < L := by omega
          clear hz
          cases le with
          | true =>
            have HKs := hide (keysF_snoc (x := (last ++ ⟨#[49]⟩)) HKf.out (fun h => absurd h HZ0.out) (fun _ => Or.inr (by rw [← HLa.out])))
            go_wp2_with (at_builtin; refine wpList_append_lies _ rfl _ _ 24 rfl (gn + 1) 9 i0 (.string ⟨#[]⟩) 1 16 Tryd.underlying24 HI_string1 HI_string2 HI_string3 HI_string4 rfl (by decide) _ n.ks.length (strs n.ks) rfl (HN3.out.2.1.alloc _) ⟨w3.heap.size, 0, none⟩ 1 1 [.string (last ++ ⟨#[49]⟩)] rfl rfl (one_new w3 _ rfl _ _) ?c1 (by decide) ?c3 ?c4 ?c5 _ rfl ?_)
            case c1 => intro u hu; simp at hu; subst hu; rfl
            case c3 => have := HNk.out; unfold maxLen; omega
            case c4 => have := HNk.out; omega
            case c5 => have := nst_lt HN3.out; simp; omega
            intro b4 d4 w4 hown4 hg4 hb4 hl4
            have hst := key_step HN3.out hown4 hg4 (by simpa using hb4)
            have cc4 := hst.2.2.1
            have cf4 := hst.2.2.2
            obtain ⟨w5, hw5⟩ : ∃ w5, w5 = w4.setCell ⟨gn, 1, none⟩ (.slice (some ⟨b4, 0, none⟩) (n.ks.length + 1) d4) := ⟨_, rfl⟩
            rw [← hw5] at hst
            have HN5 := hide hst.1
            have HD5 := hide (drawn_low HD3.out hst.2.1 HLw.out HLt.out hB)
            have x0 : w5.cell? ⟨gn, 0, none⟩ = some (.bool false) := by rw [(cell_at hst.1.1 0).1, HLf.out]; rfl
            have x2 : w5.cell? ⟨gn, 3, none⟩ = some (.slice a3 n.cs.length c3) := (cell_at hst.1.1 3).1
            have x2o := fun o => (cell_at (nst_below hst.1 ((Below.refl _ _).alloc (Nat.le_refl _) o)).1 3).1
            have HPk : Hid (Calls Tryd.prog 81 #[.pointer (some ⟨g, 0, none⟩), .int .i64 4] w5.drew fun e w' => ∃ x : Nat, x < 4 ∧ e = .returned (.int .i64 (x : Int)) ∧ Drawn w5.drew w' g B a len cap) := hide (l01Below_any g B a len cap 4 (by omega) (by omega) w5.drew HD5.out.1 HD5.out.2.2 hB)
            have HX5 := hide hw5
            rw [hw5] at x0
            clear hown4 hg4 hb4 hl4 hst hw5 x1
            go_wp2_with fail
            rw [← HX5.out]
            rw [← HX5.out] at x0
            clear cc4 cf4
            go_region_law (first | (refine step_call2 _ ?_ 81 Tryd.f81 Tryd.func81 ?_ ?_ (.tmp 49) (.const (.int .i64 4)) #[79, 3] ?_ (.pointer (some ⟨g, 0, none⟩)) (.int .i64 4) ?_ ?_ _ HPk.out ?_; exact rfl; decide; exact Option.some_ne_none _; exact rfl; exact rfl; exact rfl; rintro e w6 ⟨y, hy, rfl, hd6⟩; refine ⟨_, rfl, ?_⟩; have hyb : y < 4 := hy; have HN6 := hide (nst_grown (show NSt w5.drew gn _ _ _ _ from HN5.out) hd6.2.1 HLt.out); have HD6 := hide (drawn_trans (drawn_dr HD5.out) hd6); have cl6 : w6.cell? ⟨gn, 3, none⟩ = some (.slice a3 n.cs.length c3) := (cell_at HN6.out.1 3).1; have cm6 := fun o => (cell_at (nst_below HN6.out ((Below.refl _ _).alloc (Nat.le_refl _) o)).1 3).1; clear hd6) | (refine step_append_lies _ ?_ (.tmp 46) (.tmp 53) 25 ?_ (gn + 1) 3 i1 (.int .i64 0) 1 8 Tryd.underlying25 HI_int1 HI_int2 HI_int3 HI_int4 ?_ ?_ (.slice a3 n.cs.length c3) n.cs.length (ints n.cs) ?_ ((HN6.out.2.2.2.1).alloc _) ⟨w6.heap.size, 0, none⟩ 1 1 [.int .i64 (IntKind.i64.wrap (IntKind.i64.wrap (2 + (L : Int)) + IntKind.i64.wrap ((y : Int) * 4)))] ?_ ?_ (one_new w6 _ rfl _ _) ?_ ?_ ?_ ?_ ?_ _ rfl ?_; exact rfl; exact rfl; exact rfl; decide; exact rfl; exact rfl; exact rfl; (intro u hu; simp at hu; subst hu; rfl); decide; (have := HNk.out; unfold maxLen; omega); (have := HNk.out; omega); (have := nst_lt HN6.out; simp; omega); intro b7 d7 w7 hown4 hg4 hb4 hl4; have HS7 := hide (kid_step HN6.out hown4 hg4 hb4); have cc7 := HS7.out.2.2.1; have cf7 := HS7.out.2.2.2; clear hown4 hg4 hb4 hl4))
            all_goals
              have hst := HS7.out
              have HN8 := hide hst.1
              have HD8 := hide (drawn_low HD6.out hst.2.1 HLw.out HLt.out hB)
              obtain ⟨w8, hw8⟩ : ∃ w8, w8 = w7.setCell ⟨gn, 3, none⟩ (.slice (some ⟨b7, 0, none⟩) (n.cs.length + 1) d7) := ⟨_, rfl⟩
              rw [← hw8] at HN8 HD8 ⊢
              clear hw8 hst HS7 cc7 cf7 HN6 HD6 cl6 cm6 x0 x2
              go_wp2_with fail
              go_roundg (gk - 1)
              case measure => have := HG.out; have := HL.out; omega
              case rel => exact ⟨n.snocC (last ++ ⟨#[49]⟩) (IntKind.i64.wrap (IntKind.i64.wrap (2 + (L : Int)) + IntKind.i64.wrap ((y : Int) * 4))), _, _, _, by rw [show (n.snocC (last ++ ⟨#[49]⟩) (IntKind.i64.wrap (IntKind.i64.wrap (2 + (L : Int)) + IntKind.i64.wrap ((y : Int) * 4)))).ks = n.ks ++ [(last ++ ⟨#[49]⟩)] from rfl, HKs.out.2], by have := HL.out; simp [Nd.snocC]; omega, by have := HG.out; have := HL.out; simp [Nd.snocC]; omega, HLf.out, hide (even_snocC HEv.out HLf.out (last ++ ⟨#[49]⟩) _), HN8, HD8, hide HKs.out.1, hide (HVz.out)⟩
          | false =>
            have HLs : Hid (Op.bytesLess last.toList x.toList = true) := hide (by
              rw [Bool.or_eq_false_iff] at hle
              exact less_total _ _ hle.1 hle.2)
            have HKs := hide (keysF_snoc (x := x) HKf.out (fun h => absurd h HZ0.out) (fun _ => Or.inl ⟨HXb.out, by rw [← HLa.out]; exact HLs.out⟩))
            go_wp2_with (at_builtin; refine wpList_append_lies _ rfl _ _ 24 rfl (gn + 1) 9 i0 (.string ⟨#[]⟩) 1 16 Tryd.underlying24 HI_string1 HI_string2 HI_string3 HI_string4 rfl (by decide) _ n.ks.length (strs n.ks) rfl (HN3.out.2.1.alloc _) ⟨w3.heap.size, 0, none⟩ 1 1 [.string x] rfl rfl (one_new w3 _ rfl _ _) ?c1 (by decide) ?c3 ?c4 ?c5 _ rfl ?_)
            case c1 => intro u hu; simp at hu; subst hu; rfl
            case c3 => have := HNk.out; unfold maxLen; omega
            case c4 => have := HNk.out; omega
            case c5 => have := nst_lt HN3.out; simp; omega
            intro b4 d4 w4 hown4 hg4 hb4 hl4
            have hst := key_step HN3.out hown4 hg4 (by simpa using hb4)
            have cc4 := hst.2.2.1
            have cf4 := hst.2.2.2
            obtain ⟨w5, hw5⟩ : ∃ w5, w5 = w4.setCell ⟨gn, 1, none⟩ (.slice (some ⟨b4, 0, none⟩) (n.ks.length + 1) d4) := ⟨_, rfl⟩
            rw [← hw5] at hst
            have HN5 := hide hst.1
            have HD5 := hide (drawn_low HD3.out hst.2.1 HLw.out HLt.out hB)
            have x0 : w5.cell? ⟨gn, 0, none⟩ = some (.bool false) := by rw [(cell_at hst.1.1 0).1, HLf.out]; rfl
            have x2 : w5.cell? ⟨gn, 3, none⟩ = some (.slice a3 n.cs.length c3) := (cell_at hst.1.1 3).1
            have x2o := fun o => (cell_at (nst_below hst.1 ((Below.refl _ _).alloc (Nat.le_refl _) o)).1 3).1
            have HPk : Hid (Calls Tryd.prog 81 #[.pointer (some ⟨g, 0, none⟩), .int .i64 4] w5.drew fun e w' => ∃ x : Nat, x < 4 ∧ e = .returned (.int .i64 (x : Int)) ∧ Drawn w5.drew w' g B a len cap) := hide (l01Below_any g B a len cap 4 (by omega) (by omega) w5.drew HD5.out.1 HD5.out.2.2 hB)
            have HX5 := hide hw5
            rw [hw5] at x0
            clear hown4 hg4 hb4 hl4 hst hw5 x1
            go_wp2_with fail
            rw [← HX5.out]
            rw [← HX5.out] at x0
            clear cc4 cf4
            go_region_law (first | (refine step_call2 _ ?_ 81 Tryd.f81 Tryd.func81 ?_ ?_ (.tmp 49) (.const (.int .i64 4)) #[79, 3] ?_ (.pointer (some ⟨g, 0, none⟩)) (.int .i64 4) ?_ ?_ _ HPk.out ?_; exact rfl; decide; exact Option.some_ne_none _; exact rfl; exact rfl; exact rfl; rintro e w6 ⟨y, hy, rfl, hd6⟩; refine ⟨_, rfl, ?_⟩; have hyb : y < 4 := hy; have HN6 := hide (nst_grown (show NSt w5.drew gn _ _ _ _ from HN5.out) hd6.2.1 HLt.out); have HD6 := hide (drawn_trans (drawn_dr HD5.out) hd6); have cl6 : w6.cell? ⟨gn, 3, none⟩ = some (.slice a3 n.cs.length c3) := (cell_at HN6.out.1 3).1; have cm6 := fun o => (cell_at (nst_below HN6.out ((Below.refl _ _).alloc (Nat.le_refl _) o)).1 3).1; clear hd6) | (refine step_append_lies _ ?_ (.tmp 46) (.tmp 53) 25 ?_ (gn + 1) 3 i1 (.int .i64 0) 1 8 Tryd.underlying25 HI_int1 HI_int2 HI_int3 HI_int4 ?_ ?_ (.slice a3 n.cs.length c3) n.cs.length (ints n.cs) ?_ ((HN6.out.2.2.2.1).alloc _) ⟨w6.heap.size, 0, none⟩ 1 1 [.int .i64 (IntKind.i64.wrap (IntKind.i64.wrap (2 + (L : Int)) + IntKind.i64.wrap ((y : Int) * 4)))] ?_ ?_ (one_new w6 _ rfl _ _) ?_ ?_ ?_ ?_ ?_ _ rfl ?_; exact rfl; exact rfl; exact rfl; decide; exact rfl; exact rfl; exact rfl; (intro u hu; simp at hu; subst hu; rfl); decide; (have := HNk.out; unfold maxLen; omega); (have := HNk.out; omega); (have := nst_lt HN6.out; simp; omega); intro b7 d7 w7 hown4 hg4 hb4 hl4; have HS7 := hide (kid_step HN6.out hown4 hg4 hb4); have cc7 := HS7.out.2.2.1; have cf7 := HS7.out.2.2.2; clear hown4 hg4 hb4 hl4))
            all_goals
              have hst := HS7.out
              have HN8 := hide hst.1
              have HD8 := hide (drawn_low HD6.out hst.2.1 HLw.out HLt.out hB)
              obtain ⟨w8, hw8⟩ : ∃ w8, w8 = w7.setCell ⟨gn, 3, none⟩ (.slice (some ⟨b7, 0, none⟩) (n.cs.length + 1) d7) := ⟨_, rfl⟩
              rw [← hw8] at HN8 HD8 ⊢
              clear hw8 hst HS7 cc7 cf7 HN6 HD6 cl6 cm6 x0 x2
              go_wp2_with fail
              go_roundg (gk - 1)
              case measure => have := HG.out; have := HL.out; omega
              case rel => exact ⟨n.snocC x (IntKind.i64.wrap (IntKind.i64.wrap (2 + (L : Int)) + IntKind.i64.wrap ((y : Int) * 4))), _, _, _, by rw [show (n.snocC x (IntKind.i64.wrap (IntKind.i64.wrap (2 + (L : Int)) + IntKind.i64.wrap ((y : Int) * 4)))).ks = n.ks ++ [x] from rfl, HKs.out.2], by have := HL.out; simp [Nd.snocC]; omega, by have := HG.out; have := HL.out; simp [Nd.snocC]; omega, HLf.out, hide (even_snocC HEv.out HLf.out x _), HN8, HD8, hide HKs.out.1, hide (HVz.out)⟩
      · have e1 : decide ((L : Int) < 1 + (k : Int)) = false := decide_eq_false (by omega)
        have hi1 : ¬ (L : Int) < 1 + (k : Int) := by omega
        have HDn : Hid (DrawnN n) := hide ⟨by have := HL.out; omega, HNk.out.1, HEv.out, HKf.out, HVz.out⟩
        have hv6 : w2.heap[w.heap.size]? = _ := (HD2.out.2.1.block w.heap.size (by rw [HSa.out]; omega) (fun e => by injection e with e; omega)).trans HVa.out
        have q0 : w2.cell? ⟨gn, 0, none⟩ = some (.bool false) := by rw [(cell_at HN2.out.1 0).1, HLf.out]; rfl
        have q1 : w2.cell? ⟨gn, 1, none⟩ = some (.slice a1 n.ks.length c1) := (cell_at HN2.out.1 1).1
        have q2 : w2.cell? ⟨gn, 2, none⟩ = some (.slice a2 n.vs.length c2) := (cell_at HN2.out.1 2).1
        have q3 : w2.cell? ⟨gn, 3, none⟩ = some (.slice a3 n.cs.length c3) := (cell_at HN2.out.1 3).1
        have o0 : w2.cell? ⟨w.heap.size, 0, none⟩ = some (.bool false) := (cell_at hv6 0).1
        have o1 : w2.cell? ⟨w.heap.size, 1, none⟩ = some (.slice none 0 0) := (cell_at hv6 1).1
        have o2 : w2.cell? ⟨w.heap.size, 2, none⟩ = some (.slice none 0 0) := (cell_at hv6 2).1
        have o3 : w2.cell? ⟨w.heap.size, 3, none⟩ = some (.slice none 0 0) := (cell_at hv6 3).1
        have z0 := (cell_at hv6 0).2
        have z1 := (cell_at hv6 1).2
        have z2 := (cell_at hv6 2).2
        have z3 := (cell_at hv6 3).2
        have hnw := nst_node HN2.out
        rw [HLf.out] at hnw
        have HRt := hide (ret_node hv6 hnw (by have := HLw.out; rw [HSa.out] at this; omega))
        clear hnw hv6 hgo
        go_wp2_with fail
        have hrt := HRt.out
        have t0 := (cell_at hrt.1 0).1
        have t1 := (cell_at hrt.1 1).1
        have t2 := (cell_at hrt.1 2).1
        have t3 := (cell_at hrt.1 3).1
        refine bodyPost_ret (v := .agg #[.bool false, .slice a1 n.ks.length c1, .slice a2 n.vs.length c2, .slice a3 n.cs.length c3]) (by simp [results, Tryd.results111, go_sem, t0, t1, t2, t3]) rfl ⟨n, _, rfl, HDn.out, ?_, drawn_low (drawn_trans HDa.out HD2.out) hrt.2.2 (Nat.le_refl _) hgl hB⟩
        rw [HLf.out]
        exact nodeOwn_down hrt.2.1 (by have := HLw.out; rw [HSa.out] at this; omega)
end Go.Proofs.YtglcfaibgjiigaaDoor
