/-
  spec.PlaceOf by a contract.
-/
import Derived.Test.YtglcfaibgjiigaaDoorNodeSpec
namespace Go.Proofs.YtglcfaibgjiigaaDoor
open Go.RowKit

set_option maxHeartbeats 1000000 in
set_option maxRecDepth 100000 in
theorem specPlaceOf_any (v : Value) (lf : Bool) (ks vs : List ByteArray) (cs : List Int) (hk : ks.length ≤ 1048576) (key : ByteArray) (w : World) (hd : NodeAt w v lf ks vs cs) :
    Calls Tryd.prog 96 #[v, .string key] w fun e w' => e = .returned (.int .i64 (placeK ks key ks.length)) ∧ Below w.heap.size w w' := by
  obtain ⟨vk, vv, vc, rfl, h1, -, -⟩ := hd
  obtain ⟨xk, ck, rfl⟩ : ∃ a cap, vk = .slice a ks.length cap := by obtain ⟨-, a, cap, e, -⟩ := h1; exact ⟨a, cap, e⟩
  obtain ⟨w0, hw0⟩ : ∃ w0, w0 = w.alloc (Obj.cells #[.bool lf, .slice xk ks.length ck, vv, vc] 27) := ⟨_, rfl⟩
  have hb0 : Below w.heap.size w w0 := by rw [hw0]; exact (Below.refl w.heap.size w).alloc (Nat.le_refl _) _
  have hblk : w0.heap[w.heap.size]? = some (Obj.cells #[.bool lf, .slice xk ks.length ck, vv, vc] 27) := by rw [hw0]; exact heap_alloc_new w _
  have HB0 := hide hb0
  have HR := hide (row_below h1 hb0)
  have HP : Hid (∀ wx, Below w0.heap.size w0 wx → wx.cell? ⟨w.heap.size, 1, none⟩ = some (.slice xk ks.length ck)) := hide (fun wx hb => by
    have hq := (hb.block _ (Array.getElem?_eq_some_iff.1 hblk).1).trans hblk
    exact (cell_at hq 1).1)
  clear h1 hb0 hblk
  go_enter Tryd.func96, Tryd.ntmps96
  go_wp2_with fail
  rw [← hw0]
  clear hw0
  go_loopg [5, 6] ks.length (fun q av iv wr => ∃ i : Nat, i ≤ ks.length ∧ av = .int .i64 (placeK ks key i) ∧ iv = .int .i64 (i : Int) ∧ q + i = ks.length ∧ Hid (Below w0.heap.size w0 wr))
  case atStart => exact ⟨0, Nat.zero_le _, rfl, rfl, rfl, hide (Below.refl _ _)⟩
  case round =>
    obtain ⟨i, hi, rfl, rfl, hg, HB⟩ := hrel
    have HG := hide hg
    clear hg
    have p1 := HP.out wr HB.out
    by_cases hlt : i < ks.length
    · obtain ⟨-, a1, cp1, e1, h0 | ⟨bk, ok, e0, hbk, hck⟩⟩ := HR.out
      · omega
      injection e1 with e11 _ e12
      subst e11 e12
      subst e0
      obtain ⟨x, hx⟩ : ∃ x, x = ks.getD i ⟨#[]⟩ := ⟨_, rfl⟩
      have hxc : wr.cell? ⟨bk, ok + i, none⟩ = some (.string x) := by rw [HB.out.cell (by exact hbk), hck i (by omega), strs_at ks i hlt, hx]; simp [List.getD, hlt]
      have hi0 : (0 : Int) ≤ (i : Int) := by omega
      have hi1 : (i : Int) < (ks.length : Int) := by omega
      obtain ⟨le, hle⟩ : ∃ le, (Op.bytesLess x.toList key.toList || x.toList == key.toList) = le := ⟨_, rfl⟩
      have hK : placeK ks key (i + 1) = if le = true then (i : Int) else placeK ks key i := by rw [placeK, ← hx, hle]
      obtain ⟨z, hz⟩ : ∃ z, z = placeK ks key i := ⟨_, rfl⟩
      rw [← hz] at hK ⊢
      clear hck hx hz
      cases le with
      | true =>
        rw [if_pos rfl] at hK
        have HK := hide hK
        clear hK
        go_wp2_with fail
        try (go_quiet (fail); go_wp2_with fail)
        go_roundg (gk - 1)
        case measure => have := HG.out; omega
        case rel => exact ⟨i + 1, by omega, by rw [HK.out], by go_num, by have := HG.out; omega, by first | exact HB | exact hide (bel_n HB.out)⟩
      | false =>
        rw [if_neg (by decide)] at hK
        have HK := hide hK
        clear hK
        go_wp2_with fail
        try (go_quiet (fail); go_wp2_with fail)
        go_roundg (gk - 1)
        case measure => have := HG.out; omega
        case rel => exact ⟨i + 1, by omega, by rw [HK.out], by go_num, by have := HG.out; omega, by first | exact HB | exact hide (bel_n HB.out)⟩
    · obtain rfl : i = ks.length := by omega
      go_wp2_with fail
      go_ret
      exact ⟨rfl, HB0.out.trans (HB.out.mono HB0.out.size)⟩
end Go.Proofs.YtglcfaibgjiigaaDoor
