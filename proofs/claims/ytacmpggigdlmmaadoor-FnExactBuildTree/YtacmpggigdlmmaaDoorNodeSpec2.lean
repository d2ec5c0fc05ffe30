/-
  spec.l05Bytes and spec.NodeText by contracts; spec.PlaceOf.
-/
import Derived.Test.YtacmpggigdlmmaaDoorNodeSpec
import Derived.Test.YtacmpggigdlmmaaDoorSumS
namespace Go.Proofs.YtacmpggigdlmmaaDoor
open Go.RowKit

set_option maxHeartbeats 400000 in
theorem l04Short_b (s : ByteArray) (h : s.size ≤ 20000) (w : World) :
    Calls Tryd.prog 69 #[.string s] w fun e w' => e = .returned (.string (shortB s)) ∧ Below w.heap.size w w' := by
  have hlen := (vtext_length s.size).2
  have HO : Hid (shortB s = ⟨(vtext s.size).toArray⟩ ++ s) := hide rfl
  go_enter Tryd.func69, Tryd.ntmps69
  go_wp2_with fail
  refine (l01Var_any s.size (by omega) (by omega) _).mono ?_
  rintro e w2 ⟨rfl, hb⟩
  rw [Int.toNat_natCast]
  go_wp2
  go_ret
  rw [HO.out]
  exact ⟨rfl, hb⟩

set_option maxHeartbeats 4000000 in
set_option maxRecDepth 100000 in
theorem l05Bytes_any (v : Value) (lf : Bool) (ks vs : List ByteArray) (cs : List Int) (hok : nodeOkB lf ks vs cs = true) (w : World) (hd : NodeAt w v lf ks vs cs) :
    Calls Tryd.prog 55 #[v] w fun e w' => e = .returned (.string (nodeB lf ks vs cs)) ∧ Below w.heap.size w w' := by
  obtain ⟨vk, vv, vc, rfl, h1, h2, h3⟩ := hd
  obtain ⟨xk, ck, rfl⟩ : ∃ a cap, vk = .slice a ks.length cap := by obtain ⟨-, a, cap, e, -⟩ := h1; exact ⟨a, cap, e⟩
  obtain ⟨xv, cv, rfl⟩ : ∃ a cap, vv = .slice a vs.length cap := by obtain ⟨-, a, cap, e, -⟩ := h2; exact ⟨a, cap, e⟩
  obtain ⟨xc, cc, rfl⟩ : ∃ a cap, vc = .slice a cs.length cap := by obtain ⟨-, a, cap, e, -⟩ := h3; exact ⟨a, cap, e⟩
  obtain ⟨w0, hw0⟩ : ∃ w0, w0 = w.alloc (Obj.cells #[.bool lf, .slice xk ks.length ck, .slice xv vs.length cv, .slice xc cs.length cc] 55) := ⟨_, rfl⟩
  have hb0 : Below w.heap.size w w0 := by rw [hw0]; exact (Below.refl w.heap.size w).alloc (Nat.le_refl _) _
  have hblk : w0.heap[w.heap.size]? = some (Obj.cells #[.bool lf, .slice xk ks.length ck, .slice xv vs.length cv, .slice xc cs.length cc] 55) := by rw [hw0]; exact heap_alloc_new w _
  have HB0 := hide hb0
  have HR := hide (⟨row_below h1 hb0, row_below h2 hb0, row_below h3 hb0⟩ : _ ∧ _ ∧ _)
  have HPb : Hid (∀ wx, Below w0.heap.size w0 wx → wx.cell? ⟨w.heap.size, 0, none⟩ = some (.bool lf) ∧ wx.cell? ⟨w.heap.size, 1, none⟩ = some (.slice xk ks.length ck) ∧ wx.cell? ⟨w.heap.size, 2, none⟩ = some (.slice xv vs.length cv) ∧ wx.cell? ⟨w.heap.size, 3, none⟩ = some (.slice xc cs.length cc)) := hide (fun wx hb => by
    have hq := (hb.block _ (Array.getElem?_eq_some_iff.1 hblk).1).trans hblk
    exact ⟨(cell_at hq 0).1, (cell_at hq 1).1, (cell_at hq 2).1, (cell_at hq 3).1⟩)
  obtain ⟨c0, c1, -, -⟩ := HPb.out w0 (Below.refl _ _)
  have HOk := hide hok
  have HY := hide (node_yes hok)
  have HCn := hide (cnt_yes (node_yes hok).1)
  have hk4 := HCn.out.2.1
  have HVk := hide (l01Var_any (ks.length : Int) (by omega) (by omega))
  rw [Int.toNat_natCast] at HVk
  obtain ⟨z0, hz0⟩ : ∃ z : ByteArray, z = ⟨(vtext ks.length).toArray⟩ := ⟨_, rfl⟩
  rw [← hz0] at HVk
  have hzs : z0.size ≤ 5 := by rw [hz0, vtB_size]; exact (vtext_length _).2
  have HS0 : Hid (nodeP lf ks.length ks vs cs 0 = headB lf ++ z0) := hide (by rw [nodeP, hz0])
  clear h1 h2 h3 hb0 hblk hok hz0
  cases lf with
  | true =>
    have HLn : Hid (vs.length = ks.length) := hide (HCn.out.2.2.1 rfl).1
    go_enter Tryd.func55, Tryd.ntmps55
    go_wp2_with fail
    rw [← hw0]
    clear hw0
    refine (HVk.out _).mono ?_
    rintro e w1 ⟨rfl, hb1⟩
    have HB1 := hide hb1
    have HP0 : Hid (headB true ++ z0 = nodeP true ks.length ks vs cs 0) := hide HS0.out.symm
    clear hb1 c0 c1
    go_wp2_with fail
    go_loopg [3, 4] ks.length (fun q sv iv wr => ∃ i : Nat, i ≤ ks.length ∧ sv = .string (nodeP true ks.length ks vs cs i) ∧ iv = .int .i64 (i : Int) ∧ q + i = ks.length ∧ Hid (Below w0.heap.size w0 wr))
    case atStart => exact ⟨0, Nat.zero_le _, by rw [← HP0.out]; rfl, rfl, rfl, HB1⟩
    case round =>
      obtain ⟨i, hi, rfl, rfl, hg, HB⟩ := hrel
      have HG := hide hg
      have hsz := nodeP_size HOk.out i hi
      clear hg
      obtain ⟨p0, p1, p2, p3⟩ := HPb.out wr HB.out
      by_cases hlt : i < ks.length
      · obtain ⟨-, a1, cp1, e1, h0 | ⟨bk, ok, e0, hbk, hck⟩⟩ := HR.out.1
        · omega
        injection e1 with e11 _ e12
        subst e11 e12
        subst e0
        obtain ⟨x, hx⟩ : ∃ x, x = ks.getD i ⟨#[]⟩ := ⟨_, rfl⟩
        have hxc : wr.cell? ⟨bk, ok + i, none⟩ = some (.string x) := by rw [HB.out.cell (by exact hbk), hck i (by omega), strs_at ks i hlt, hx]; simp [List.getD, hlt]
        have hx24 : x.size ≤ 24 := by rw [hx]; exact key_short (HY.out.2.1 i hlt)
        have hi0 : (0 : Int) ≤ (i : Int) := by omega
        have hi1 : (i : Int) < (ks.length : Int) := by omega
        have HV1 := hide (l04Short_b x (by omega))
        have hs1 := shortB_size2 x
        obtain ⟨b1, hb1⟩ : ∃ b, b = shortB x := ⟨_, rfl⟩
        rw [← hb1] at HV1 hs1
        have hlv : i < vs.length := by have := HLn.out; omega
        obtain ⟨-, a2, cp2, e2, h0 | ⟨bv, ov, e3, hbv, hcv⟩⟩ := HR.out.2.1
        · omega
        injection e2 with e21 _ e22
        subst e21 e22
        subst e3
        obtain ⟨z, hz⟩ : ∃ z, z = vs.getD i ⟨#[]⟩ := ⟨_, rfl⟩
        have HZc : Hid (∀ wx, Below w0.heap.size w0 wx → wx.cell? ⟨bv, ov + i, none⟩ = some (.string z)) := hide (fun wx hb => by rw [hb.cell (by exact hbv), hcv i (by omega), strs_at vs i hlv, hz]; simp [List.getD, hlv])
        have hz24 : z.size ≤ 24 := by rw [hz]; exact HY.out.2.2.1 i hlv
        have hiv : (i : Int) < (vs.length : Int) := by omega
        have HV2 := hide (l04Short_b z (by omega))
        have hSd : sideT true vs cs i = shortB z := by rw [sideT, if_pos rfl, hz]
        have hs2 := shortB_size2 z
        obtain ⟨b2, hb2⟩ : ∃ b, b = shortB z := ⟨_, rfl⟩
        rw [← hb2] at HV2 hSd hs2
        clear hcv hz hb2
        have HK : Hid (nodeP true ks.length ks vs cs (i + 1) = nodeP true ks.length ks vs cs i ++ b1 ++ b2) := hide (by rw [nodeP, ← hx, ← hb1, hSd])
        obtain ⟨s, hs⟩ : ∃ s, s = nodeP true ks.length ks vs cs i := ⟨_, rfl⟩
        rw [← hs] at HK hsz ⊢
        clear hck hx hb1 hSd hs
        go_wp2_with fail
        refine (HV1.out _).mono ?_
        rintro e w2 ⟨rfl, hb2⟩
        have HB2 : Hid (Below w0.heap.size w0 w2) := hide (HB.out.trans (hb2.mono HB.out.size))
        obtain ⟨r0, r1, r2, r3⟩ := HPb.out w2 HB2.out
        have hzc := HZc.out w2 HB2.out
        clear hb2 p0 p1 p2 p3 hxc
        go_wp2_with fail
        refine (HV2.out _).mono ?_
        rintro e w3 ⟨rfl, hb3⟩
        have HB3 : Hid (Below w0.heap.size w0 w3) := hide (HB2.out.trans (hb3.mono HB2.out.size))
        clear hb3 r0 r1 r2 r3 hzc
        go_wp2_with fail
        go_roundg (gk - 1)
        case measure => have := HG.out; omega
        case rel => exact ⟨i + 1, by omega, by rw [HK.out], by go_num, by have := HG.out; omega, HB3⟩
      · obtain rfl : i = ks.length := by omega
        have HO : Hid (nodeB true ks vs cs = nodeP true ks.length ks vs cs ks.length) := hide rfl
        go_wp2_with fail
        go_ret
        rw [HO.out]
        exact ⟨rfl, HB0.out.trans (HB.out.mono HB0.out.size)⟩
  | false =>
    have HLn : Hid (cs.length = ks.length) := hide (HCn.out.2.2.2 rfl).1
    go_enter Tryd.func55, Tryd.ntmps55
    go_wp2_with fail
    rw [← hw0]
    clear hw0
    refine (HVk.out _).mono ?_
    rintro e w1 ⟨rfl, hb1⟩
    have HB1 := hide hb1
    have HP0 : Hid (headB false ++ z0 = nodeP false ks.length ks vs cs 0) := hide HS0.out.symm
    clear hb1 c0 c1
    go_wp2_with fail
    go_loopg [3, 4] ks.length (fun q sv iv wr => ∃ i : Nat, i ≤ ks.length ∧ sv = .string (nodeP false ks.length ks vs cs i) ∧ iv = .int .i64 (i : Int) ∧ q + i = ks.length ∧ Hid (Below w0.heap.size w0 wr))
    case atStart => exact ⟨0, Nat.zero_le _, by rw [← HP0.out]; rfl, rfl, rfl, HB1⟩
    case round =>
      obtain ⟨i, hi, rfl, rfl, hg, HB⟩ := hrel
      have HG := hide hg
      have hsz := nodeP_size HOk.out i hi
      clear hg
      obtain ⟨p0, p1, p2, p3⟩ := HPb.out wr HB.out
      by_cases hlt : i < ks.length
      · obtain ⟨-, a1, cp1, e1, h0 | ⟨bk, ok, e0, hbk, hck⟩⟩ := HR.out.1
        · omega
        injection e1 with e11 _ e12
        subst e11 e12
        subst e0
        obtain ⟨x, hx⟩ : ∃ x, x = ks.getD i ⟨#[]⟩ := ⟨_, rfl⟩
        have hxc : wr.cell? ⟨bk, ok + i, none⟩ = some (.string x) := by rw [HB.out.cell (by exact hbk), hck i (by omega), strs_at ks i hlt, hx]; simp [List.getD, hlt]
        have hx24 : x.size ≤ 24 := by rw [hx]; exact key_short (HY.out.2.1 i hlt)
        have hi0 : (0 : Int) ≤ (i : Int) := by omega
        have hi1 : (i : Int) < (ks.length : Int) := by omega
        have HV1 := hide (l04Short_b x (by omega))
        have hs1 := shortB_size2 x
        obtain ⟨b1, hb1⟩ : ∃ b, b = shortB x := ⟨_, rfl⟩
        rw [← hb1] at HV1 hs1
        have hlv : i < cs.length := by have := HLn.out; omega
        obtain ⟨-, a2, cp2, e2, h0 | ⟨bv, ov, e3, hbv, hcv⟩⟩ := HR.out.2.2
        · omega
        injection e2 with e21 _ e22
        subst e21 e22
        subst e3
        obtain ⟨z, hz⟩ : ∃ z, z = cs.getD i 0 := ⟨_, rfl⟩
        have HZc : Hid (∀ wx, Below w0.heap.size w0 wx → wx.cell? ⟨bv, ov + i, none⟩ = some (.int .i64 z)) := hide (fun wx hb => by rw [hb.cell (by exact hbv), hcv i (by omega), ints_at cs i hlv, hz]; simp [List.getD, hlv])
        have hz24 : 2 ≤ z ∧ z ≤ 39 := by rw [hz]; exact kid_page (HY.out.2.2.2 i hlv)
        have hiv : (i : Int) < (cs.length : Int) := by omega
        have HV2 := hide (l01Var_any z (by omega) (by omega))
        have hSd : sideT false vs cs i = ⟨(vtext z.toNat).toArray⟩ := by rw [sideT, if_neg (by decide), hz]
        have hs2 : (⟨(vtext z.toNat).toArray⟩ : ByteArray).size ≤ 29 := by rw [vtB_size]; have := (vtext_length z.toNat).2; omega
        obtain ⟨b2, hb2⟩ : ∃ b : ByteArray, b = ⟨(vtext z.toNat).toArray⟩ := ⟨_, rfl⟩
        rw [← hb2] at HV2 hSd hs2
        clear hcv hz hb2
        have HK : Hid (nodeP false ks.length ks vs cs (i + 1) = nodeP false ks.length ks vs cs i ++ b1 ++ b2) := hide (by rw [nodeP, ← hx, ← hb1, hSd])
        obtain ⟨s, hs⟩ : ∃ s, s = nodeP false ks.length ks vs cs i := ⟨_, rfl⟩
        rw [← hs] at HK hsz ⊢
        clear hck hx hb1 hSd hs
        go_wp2_with fail
        refine (HV1.out _).mono ?_
        rintro e w2 ⟨rfl, hb2⟩
        have HB2 : Hid (Below w0.heap.size w0 w2) := hide (HB.out.trans (hb2.mono HB.out.size))
        obtain ⟨r0, r1, r2, r3⟩ := HPb.out w2 HB2.out
        have hzc := HZc.out w2 HB2.out
        clear hb2 p0 p1 p2 p3 hxc
        go_wp2_with fail
        refine (HV2.out _).mono ?_
        rintro e w3 ⟨rfl, hb3⟩
        have HB3 : Hid (Below w0.heap.size w0 w3) := hide (HB2.out.trans (hb3.mono HB2.out.size))
        clear hb3 r0 r1 r2 r3 hzc
        go_wp2_with fail
        go_roundg (gk - 1)
        case measure => have := HG.out; omega
        case rel => exact ⟨i + 1, by omega, by rw [HK.out], by go_num, by have := HG.out; omega, HB3⟩
      · obtain rfl : i = ks.length := by omega
        have HO : Hid (nodeB false ks vs cs = nodeP false ks.length ks vs cs ks.length) := hide rfl
        go_wp2_with fail
        go_ret
        rw [HO.out]
        exact ⟨rfl, HB0.out.trans (HB.out.mono HB0.out.size)⟩

theorem sealed_any (s : ByteArray) (h : s.size ≤ 20000) (w : World) : Calls Tryd.prog 54 #[.string s] w fun e w' => e = .returned (.tuple #[.string ⟨(sealL s.data.toList).toArray⟩, .bool true]) ∧ Below w.heap.size w w' := specSealed_yes s h w

set_option maxHeartbeats 1000000 in
set_option maxRecDepth 100000 in
theorem specNodeText_any (v : Value) (lf : Bool) (ks vs : List ByteArray) (cs : List Int) (hk : ks.length ≤ 1048576) (hv : vs.length ≤ 1048576) (hc : cs.length ≤ 1048576) (hks : ∀ s ∈ ks, s.size ≤ 1048576) (hvs : ∀ s ∈ vs, s.size ≤ 1048576) (w : World) (hd : NodeAt w v lf ks vs cs) :
    Calls Tryd.prog 36 #[v] w fun e w' => e = .returned (.tuple #[.string (nodeO lf ks vs cs), .bool (nodeOkB lf ks vs cs)]) ∧ Below w.heap.size w w' := by
  have HS := hide (fun wx h => specNodeOk_any v lf ks vs cs hk hv hc hks hvs wx h)
  have HD := hide hd
  obtain ⟨vk, vv, vc, rfl, -, -, -⟩ := hd
  obtain ⟨w0, hw0⟩ : ∃ w0, w0 = w.alloc (Obj.cells #[.bool lf, vk, vv, vc] 55) := ⟨_, rfl⟩
  have HB0 : Hid (Below w.heap.size w w0) := hide (by rw [hw0]; exact (Below.refl w.heap.size w).alloc (Nat.le_refl _) _)
  have HQ0 : Hid (w0.heap[w.heap.size]? = some (Obj.cells #[.bool lf, vk, vv, vc] 55)) := hide (by rw [hw0]; exact heap_alloc_new w _)
  clear hk hv hc hks hvs
  cases hok : nodeOkB lf ks vs cs with
  | false =>
    rw [hok] at HS
    have HO : Hid (nodeO lf ks vs cs = ⟨#[]⟩) := hide (by rw [nodeO, hok]; rfl)
    clear hok
    go_enter Tryd.func36, Tryd.ntmps36
    go_wp2_with fail
    rw [← hw0]
    clear hw0
    refine (HS.out _ (node_below HD.out HB0.out)).mono ?_
    rintro e w1 ⟨rfl, hb⟩
    go_wp2_with fail
    go_ret2
    rw [HO.out]
    exact ⟨rfl, HB0.out.trans (hb.mono HB0.out.size)⟩
  | true =>
    rw [hok] at HS
    have HBy := hide (fun wx h => l05Bytes_any (.agg #[.bool lf, vk, vv, vc]) lf ks vs cs hok wx h)
    have HO : Hid (nodeO lf ks vs cs = nodeT lf ks vs cs) := hide (by rw [nodeO, hok]; rfl)
    have HSe := hide (sealed_any (nodeB lf ks vs cs) (by have := (nodeB_size hok).1; omega))
    have HTt : Hid (nodeT lf ks vs cs = ⟨(sealL (nodeB lf ks vs cs).data.toList).toArray⟩) := hide rfl
    obtain ⟨bs, hbs⟩ : ∃ b, b = nodeB lf ks vs cs := ⟨_, rfl⟩
    rw [← hbs] at HBy HSe HTt
    clear hok hbs
    go_enter Tryd.func36, Tryd.ntmps36
    go_wp2_with fail
    rw [← hw0]
    clear hw0
    refine (HS.out _ (node_below HD.out HB0.out)).mono ?_
    rintro e w1 ⟨rfl, hb⟩
    have HB1 : Hid (Below w.heap.size w w1) := hide (HB0.out.trans (hb.mono HB0.out.size))
    have hq := (hb.block _ (Array.getElem?_eq_some_iff.1 HQ0.out).1).trans HQ0.out
    have c0 : w1.cell? ⟨w.heap.size, 0, none⟩ = some (.bool lf) := (cell_at hq 0).1
    have c1 : w1.cell? ⟨w.heap.size, 1, none⟩ = some vk := (cell_at hq 1).1
    have c2 : w1.cell? ⟨w.heap.size, 2, none⟩ = some vv := (cell_at hq 2).1
    have c3 : w1.cell? ⟨w.heap.size, 3, none⟩ = some vc := (cell_at hq 3).1
    clear hb hq
    go_wp2_with fail
    refine (HBy.out _ (node_below HD.out HB1.out)).mono ?_
    rintro e w2 ⟨rfl, hb2⟩
    have HB2 : Hid (Below w.heap.size w w2) := hide (HB1.out.trans (hb2.mono HB1.out.size))
    clear hb2 c0 c1 c2 c3
    go_wp2_with fail
    refine (HSe.out _).mono ?_
    rintro e w3 ⟨rfl, hb3⟩
    have HB3 : Hid (Below w.heap.size w w3) := hide (HB2.out.trans (hb3.mono HB2.out.size))
    clear hb3
    go_wp2_with fail
    go_ret2
    rw [HO.out, HTt.out]
    exact ⟨rfl, HB3.out⟩
end Go.Proofs.YtacmpggigdlmmaaDoor
