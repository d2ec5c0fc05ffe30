/-
  laws.sameDisk by a contract: the same disks are told the same.
-/
import Derived.Test.YtjjjnloimpehbaaSame
namespace Go.Proofs.Ytjjjnloimpehbaa
open Go.RowKit

theorem below_drewN {n : Nat} {w wr : World} (h : Below n w wr) (k : Nat) : Below n w (wr.drewN k) := by
  cases h
  constructor <;> assumption

set_option maxHeartbeats 2000000 in
set_option maxRecDepth 100000 in
theorem sameDisk_yes (v u : Value) (ps : List ByteArray) (ls : List (Int × ByteArray)) (hp : ps.length ≤ 1048576) (hl : ls.length ≤ 1048576) (w : World) (hd : DiskAt w v ps ls) (hu : DiskAt w u ps ls) :
    Calls Try.prog 24 #[v, u] w fun e w' => e = .returned (.bool true) ∧ Below w.heap.size w w' := by
  obtain ⟨vp, vl, rfl, h1, h2⟩ := hd
  obtain ⟨up, ul, rfl, h3, h4⟩ := hu
  have HC1 := hide (fun wx h h' => sameTexts_row ps ps (by omega) (by omega) vp up wx h h')
  rw [decide_eq_true rfl] at HC1
  have HR := hide (⟨h1, h3⟩ : RowAt w 1 vp ps.length (strs ps) ∧ RowAt w 1 up ps.length (strs ps))
  obtain ⟨-, x, c, rfl, h5⟩ := h2
  obtain ⟨-, x', c', rfl, h6⟩ := h4
  have H5 := hide h5
  have H6 := hide h6
  clear h1 h3 h5 h6
  obtain ⟨w0, hw0⟩ : ∃ w0, w0 = (w.alloc (Obj.cells #[vp, .slice x ls.length c] 27)).alloc (Obj.cells #[up, .slice x' ls.length c'] 27) := ⟨_, rfl⟩
  have hb0 : Below w.heap.size w w0 := by rw [hw0]; exact ((Below.refl w.heap.size w).alloc (Nat.le_refl _) _).alloc (by simp) _
  obtain ⟨q0, q1, hs0⟩ := two_allocs w (Obj.cells #[vp, .slice x ls.length c] 27) (Obj.cells #[up, .slice x' ls.length c'] 27)
  rw [← hw0] at q0 q1 hs0
  have HB0 := hide hb0
  have HQ := hide (⟨q0, q1, hs0⟩ : w0.heap[w.heap.size]? = some (Obj.cells #[vp, .slice x ls.length c] 27) ∧ w0.heap[w.heap.size + 1]? = some (Obj.cells #[up, .slice x' ls.length c'] 27) ∧ w0.heap.size = w.heap.size + 2)
  clear hb0 q0 q1 hs0
  go_enter Try.func24, Try.ntmps24
  go_wp2_with fail
  rw [← hw0]
  refine (HC1.out _ (row_below HR.out.1 HB0.out) (row_below HR.out.2 HB0.out)).mono ?_
  rintro e w1 ⟨rfl, hb1⟩
  have HB1 : Hid (Below w.heap.size w w1) := hide (HB0.out.trans (hb1.mono HB0.out.size))
  have c0 : w1.cell? ⟨w.heap.size, 1, none⟩ = some (.slice x ls.length c) := (cell_at ((hb1.block _ (by rw [HQ.out.2.2]; omega)).trans HQ.out.1) 1).1
  have c1 : w1.cell? ⟨w.heap.size + 1, 1, none⟩ = some (.slice x' ls.length c') := (cell_at ((hb1.block _ (by rw [HQ.out.2.2]; omega)).trans HQ.out.2.1) 1).1
  clear hb1 hw0
  go_wp2_with fail
  go_loopg [5] ls.length (fun q iv wr => ∃ k : Nat, k ≤ ls.length ∧ iv = .int .i64 (k : Int) ∧ q + k = ls.length ∧ Hid (wr.heap = w1.heap) ∧ Hid (Below w.heap.size w wr))
  case atStart => exact ⟨0, Nat.zero_le _, rfl, rfl, hide rfl, HB1⟩
  case round =>
    obtain ⟨k, hk, rfl, hg, HE, HBr⟩ := hrel
    have HG := hide hg
    have d0 : wr.cell? ⟨w.heap.size, 1, none⟩ = some (.slice x ls.length c) := (World.cell?_of_block (congrArg (·[w.heap.size]?) HE.out)).trans c0
    have d1 : wr.cell? ⟨w.heap.size + 1, 1, none⟩ = some (.slice x' ls.length c') := (World.cell?_of_block (congrArg (·[w.heap.size + 1]?) HE.out)).trans c1
    clear hg c0 c1
    by_cases hlt : k < ls.length
    · rcases H5.out with hn0 | ⟨b, off, rfl, hbl, hc⟩
      · omega
      · rcases H6.out with hn0 | ⟨b', off', rfl, hbl', hc'⟩
        · omega
        · obtain ⟨q, t, hqt⟩ : ∃ q t, (q, t) = ls[k] := ⟨_, _, rfl⟩
          have e0 : wr.cell? ⟨b, off + k * 2, none⟩ = some (.int .i64 q) := by rw [HBr.out.cell (by exact hbl), hc (k * 2) (by omega), (puts_at ls k hlt).1, ← hqt]
          have e1 : wr.cell? ⟨b, off + k * 2 + 1, none⟩ = some (.string t) := by rw [HBr.out.cell (by exact hbl), Nat.add_assoc, hc (k * 2 + 1) (by omega), (puts_at ls k hlt).2, ← hqt]
          have e2 : wr.cell? ⟨b', off' + k * 2, none⟩ = some (.int .i64 q) := by rw [HBr.out.cell (by exact hbl'), hc' (k * 2) (by omega), (puts_at ls k hlt).1, ← hqt]
          have e3 : wr.cell? ⟨b', off' + k * 2 + 1, none⟩ = some (.string t) := by rw [HBr.out.cell (by exact hbl'), Nat.add_assoc, hc' (k * 2 + 1) (by omega), (puts_at ls k hlt).2, ← hqt]
          have hi0 : (0 : Int) ≤ (k : Int) := by omega
          have hi1 : (k : Int) < (ls.length : Int) := by omega
          have hbq := ba_beq t t
          rw [decide_eq_true rfl] at hbq
          clear hc hc' hqt
          go_wp2_with fail
          go_quiet (fail)
          go_wp2_with fail
          go_roundg (gk - 1)
          case measure => have := HG.out; omega
          case rel => exact ⟨k + 1, by omega, by go_num, by have := HG.out; omega, HE, hide (below_drewN HBr.out _)⟩
    · go_wp2_with fail
      go_ret
      exact ⟨rfl, HBr.out⟩

end Go.Proofs.Ytjjjnloimpehbaa
