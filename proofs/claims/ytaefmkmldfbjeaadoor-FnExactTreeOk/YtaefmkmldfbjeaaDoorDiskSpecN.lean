/-
  spec's functions over disks by contracts: ReadPage, DiskOk, SyncDisk, FallDisk, WritePage, DiskNew.
-/
import Derived.Test.YtaefmkmldfbjeaaDoorDiskN
import Derived.Test.YtaefmkmldfbjeaaDoorVar
import Derived.Test.YtaefmkmldfbjeaaDoorPlJ
namespace Go.Proofs.YtaefmkmldfbjeaaDoor
open Go.RowKit

theorem l01In_any (x a b : Int) (w : World) : Calls Tryd.prog 35 #[.int .i64 x, .int .i64 a, .int .i64 b] w fun e w' => e = .returned (.bool (decide (a ≤ x ∧ x ≤ b))) ∧ w = w' := by
  by_cases h : a ≤ x ∧ x ≤ b
  · rw [decide_eq_true h]; exact l01In_yes x a b w h.1 h.2
  · rw [decide_eq_false h]; exact l01In_no x a b w (by omega)

set_option maxHeartbeats 1000000 in
theorem specReadPage_any (v : Value) (ps : List ByteArray) (ls : List (Int × ByteArray)) (hp : ps.length ≤ 1048576) (hl : ls.length ≤ 1048576) (page : Int) (w : World) (hd : DiskAt w v ps ls) :
    Calls Tryd.prog 25 #[v, .int .i64 page] w fun e w' => e = .returned (.string (readD ps ls page)) ∧ Below w.heap.size w w' := by
  obtain ⟨vp, vl, rfl, h1, h2⟩ := hd
  obtain ⟨x1, c1, rfl⟩ : ∃ a cap, vp = .slice a ps.length cap := by obtain ⟨-, a, cap, e, -⟩ := h1; exact ⟨a, cap, e⟩
  obtain ⟨x2, c2, rfl⟩ : ∃ a cap, vl = .slice a ls.length cap := by obtain ⟨-, a, cap, e, -⟩ := h2; exact ⟨a, cap, e⟩
  have H1 := hide h1
  have H2 := hide h2
  clear h1 h2
  have HC := hide (l01In_any page 0 ((ps.length : Int) - 1))
  have hb0 : Below w.heap.size w (w.alloc (Obj.cells #[.slice x1 ps.length c1, .slice x2 ls.length c2] 30)) := (Below.refl w.heap.size w).alloc (Nat.le_refl _) _
  have HB0 := hide hb0
  clear hb0
  by_cases hin : 0 ≤ page ∧ page ≤ (ps.length : Int) - 1
  · rw [decide_eq_true hin] at HC
    go_enter Tryd.func25, Tryd.ntmps25
    go_wp2_with fail
    refine (HC.out _).mono ?_
    rintro e w1 ⟨rfl, rfl⟩
    go_wp2_with fail
    obtain ⟨w0, hw0⟩ : ∃ w0, w0 = w.alloc (Obj.cells #[.slice x1 ps.length c1, .slice x2 ls.length c2] 30) := ⟨_, rfl⟩
    rw [← hw0]
    rw [← hw0] at HB0
    have hblk : w0.heap[w.heap.size]? = some (Obj.cells #[.slice x1 ps.length c1, .slice x2 ls.length c2] 30) := by rw [hw0]; exact heap_alloc_new w _
    have cb0 : w0.cell? ⟨w.heap.size, 0, none⟩ = some (.slice x1 ps.length c1) := (cell_at hblk 0).1
    have cb1 : w0.cell? ⟨w.heap.size, 1, none⟩ = some (.slice x2 ls.length c2) := (cell_at hblk 1).1
    clear hw0 hblk
    go_loopg [5] ls.length (fun q iv wr => ∃ k : Nat, k ≤ ls.length ∧ iv = .int .i64 ((k : Int) - 1) ∧ q = k ∧ Hid (lateAt ls page ls.length = lateAt ls page k) ∧ w0 = wr)
    case atStart => exact ⟨ls.length, Nat.le_refl _, rfl, rfl, hide rfl, rfl⟩
    case round =>
      obtain ⟨k, hk, rfl, hgk, HL, rfl⟩ := hrel
      have HGk := hide hgk
      clear hgk
      by_cases hk0 : k = 0
      · subst hk0
        have HO : Hid (readD ps ls page = ps.getD page.toNat ⟨#[]⟩) := hide (readD_page (by omega) (by rw [HL.out]; rfl))
        obtain ⟨n, hn⟩ := Int.eq_ofNat_of_zero_le hin.1
        have hnl : n < ps.length := by omega
        obtain ⟨x, hx⟩ : ∃ x, x = ps.getD page.toNat ⟨#[]⟩ := ⟨_, rfl⟩
        rcases H1.out.2 with ⟨a, cap, e, h0 | ⟨b, off, e2, hbl, hc⟩⟩
        · omega
        · injection e with e1 e3 e4
          subst e1 e4
          subst e2
          have hcell : w0.cell? ⟨b, off + n, none⟩ = some (.string x) := by
            rw [HB0.out.cell (by exact hbl), hc n (by omega), strs_at ps n hnl, hx, hn]
            simp [List.getD, hnl]
          rw [← hx] at HO
          subst hn
          have hi0 : (0 : Int) ≤ (n : Int) := by omega
          have hi1 : (n : Int) < (ps.length : Int) := by omega
          clear hx hc
          go_wp2_with fail
          go_ret
          rw [HO.out]
          exact ⟨rfl, HB0.out⟩
      · obtain ⟨j, rfl⟩ : ∃ j, k = j + 1 := ⟨k - 1, by omega⟩
        have hjl : j < ls.length := by omega
        rcases H2.out.2 with ⟨a, cap, e, h0 | ⟨b, off, e2, hbl, hc⟩⟩
        · omega
        · injection e with e1 e3 e4
          subst e1 e4
          subst e2
          obtain ⟨q, t, hqt⟩ : ∃ q t, (q, t) = ls[j] := ⟨_, _, rfl⟩
          have hget : ls[j]? = some (q, t) := by rw [List.getElem?_eq_getElem hjl, hqt]
          have hc0 : w0.cell? ⟨b, off + j * 2, none⟩ = some (.int .i64 q) := by rw [HB0.out.cell (by exact hbl), hc (j * 2) (by omega), (puts_at ls j hjl).1, ← hqt]
          have hc1 : w0.cell? ⟨b, off + j * 2 + 1, none⟩ = some (.string t) := by rw [HB0.out.cell (by exact hbl), Nat.add_assoc, hc (j * 2 + 1) (by omega), (puts_at ls j hjl).2, ← hqt]
          have hi0 : (0 : Int) ≤ (j : Int) := by omega
          have hi1 : (j : Int) < (ls.length : Int) := by omega
          have hij : ((j + 1 : Nat) : Int) - 1 = (j : Int) := by omega
          rw [hij]
          have HGet := hide hget
          clear hc hqt hget hij
          by_cases hq : q = page
          · subst hq
            have HO : Hid (readD ps ls q = t) := hide (readD_late (by omega) (by rw [HL.out]; exact lateAt_hit HGet.out))
            go_wp2_with fail
            go_ret
            rw [HO.out]
            exact ⟨rfl, HB0.out⟩
          · have HL2 : Hid (lateAt ls page ls.length = lateAt ls page j) := hide (by rw [HL.out]; exact lateAt_miss HGet.out hq)
            go_wp2_with fail
            go_roundg j
            case measure => have := HGk.out; omega
            case rel => exact ⟨j, by omega, by go_num, rfl, HL2, rfl⟩
  · rw [decide_eq_false hin] at HC
    have HO : Hid (readD ps ls page = ⟨#[]⟩) := hide (readD_out (by omega))
    go_enter Tryd.func25, Tryd.ntmps25
    go_wp2_with fail
    refine (HC.out _).mono ?_
    rintro e w1 ⟨rfl, rfl⟩
    go_wp2_with fail
    go_ret
    rw [HO.out]
    exact ⟨rfl, HB0.out⟩

end Go.Proofs.YtaefmkmldfbjeaaDoor
