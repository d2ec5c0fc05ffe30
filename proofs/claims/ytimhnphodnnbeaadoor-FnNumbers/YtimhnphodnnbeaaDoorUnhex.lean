/-
  spec.Unhex and impl.Unhex by their contracts: for an even number of at most 40000 figures both give the pairs' bytes and true; else the empty text and false.
-/
import Derived.Test.YtimhnphodnnbeaaDoorOwn
import Derived.Test.YtimhnphodnnbeaaDoorPlain4
import Derived.Laws.Shifts
import Derived.WalkSpells
import Derived.WalkSmall
import Derived.Deep.LoopGhost
import Derived.Laws.OwnMore
namespace Go.Proofs.YtimhnphodnnbeaaDoor
open Go.RowKit

/-- a row of our own behind 'append' of one byte -/
theorem own_snoc {w1 : World} {B n : Nat} {v : Value} {l : List UInt8} {k : Nat} (hk : k < 256) (hn : n = l.length) (h : w1.ownsRow B 5 1 v (n + 1) (Lib.byteCells l ++ [.int .u8 (k : Int)])) :
    w1.ownsRow B 5 1 v (l ++ [UInt8.ofNat k]).length (Lib.byteCells (l ++ [UInt8.ofNat k])) := by
  subst hn
  rw [cells_snoc l k hk] at h
  rw [List.length_append]
  exact h

theorem one_new (w : World) (x : Value) : ∀ (j : Nat) (u : Value), [x][j]? = some u → (w.alloc (Obj.cells #[x] 5)).cell? ((⟨w.heap.size, 0, none⟩ : Addr).add j) = some u := by
  intro j u hj
  match j, hj with
  | 0, hj => simp at hj; subst hj; simp [Addr.add]

theorem unhex_step {wr : World} {B n k ov hv : Nat} {s : ByteArray} {z : Int} (hown : wr.ownsRow B 5 1 (.slice (some ⟨B, 0, none⟩) n n) n (cellsAt s n k)) (hp : pv s (k + 1) (k / 2) = 16 * ov + hv) (ho : ov < 16) (hh : hv < 16) (hz : z = (hv : Int)) :
    (wr.setCell ⟨B, k / 2, none⟩ (.int .u8 (bits BinOp.or IntKind.u8 ((ov : Int) * 16) z))).ownsRow B 5 1 (.slice (some ⟨B, 0, none⟩) n n) n (cellsAt s n (k + 1)) := by
  subst hz
  rw [show ((ov : Int) * 16) = ((16 * ov : Nat) : Int) from by omega, or_four ov hv ho hh, cellsAt_step, hp]
  exact (hown.stored (k / 2) _).1

set_option maxHeartbeats 2000000 in
set_option maxRecDepth 100000 in
theorem implUnhex_even (s : ByteArray) (n : Nat) (hn : s.size = 2 * n) (hs : s.size ≤ 40000) (w : World) :
    Calls Tryd.prog 14 #[.string s] w fun e w' => ((∀ i, i < s.size → hexAt s i < 16) → e = .returned (.tuple #[.string ⟨(outS s n).toArray⟩, .bool true])) ∧
      ((∃ i, i < s.size ∧ ¬ hexAt s i < 16) → e = .returned (.tuple #[.string ⟨#[]⟩, .bool false])) ∧ Below w.heap.size w w' := by
  obtain ⟨i0, hi, hz0, hz1, hz2⟩ := info_parts Tryd.infoByte
  have hn1 : s.size ≤ 2 * n := by omega
  have hn2 : 2 * n ≤ s.size := by omega
  have hq2 : ((s.size : Int) % 2 != 0) = false := by rw [hn]; simp
  have hq1 : decide ((40000 : Int) < (s.size : Int)) = false := by simp; omega
  have hq3 : (s.size : Int) / 2 = (n : Int) := by omega
  clear hn
  go_enter Tryd.func14, Tryd.ntmps14
  go_wp2
  go_step3
  go_wp2_with (at_make; refine wpList_make_full _ rfl _ _ 22 rfl w.heap.size 5 i0 (.int .u8 0) 1 Tryd.underlying22 hi hz0 hz1 .i64 .i64 _ _ n rfl rfl (by simp) (by simp) (by rw [hz2]; omega) (by unfold maxLen; omega) (Nat.le_refl _) ?_)
  intro w1 hown1 hg1
  have hb1 : Below w.heap.size w w1 := (Below.refl _ _).grown hg1 (Nat.le_refl _) (fun k hk => by cases hk)
  have hown1' : w1.ownsRow w.heap.size 5 1 (.slice (some ⟨w.heap.size, 0, none⟩) n n) n (cellsAt s n 0) := by
    rw [cellsAt_zero]
    simpa [Value.cells, toList_madeCells_one] using hown1
  clear hg1 hown1
  go_wp2
  go_step3
  go_wp2
  go_loopg [5] s.size (fun g iv wr => ∃ k : Nat, k ≤ s.size ∧ iv = .int .i64 (k : Int) ∧ g + k = s.size ∧ Hid (∀ i, i < k → hexAt s i < 16) ∧ wr.ownsRow w.heap.size 5 1 (.slice (some ⟨w.heap.size, 0, none⟩) n n) n (cellsAt s n k) ∧ Below w.heap.size w wr)
  case atStart => exact ⟨0, Nat.zero_le _, rfl, rfl, hide (fun i h => by omega), hown1', hb1⟩
  case round =>
    obtain ⟨k, hk, rfl, hg, HI, hown, hb⟩ := hrel
    have HG := hide hg
    clear hg hown1' hb1
    by_cases hlt : k < s.size
    · obtain ⟨y, hy⟩ : ∃ y, y = byt s k := ⟨_, rfl⟩
      have hyb : y < 256 := by rw [hy]; exact byt_lt s _
      have hs1 : s[k].toNat = y := by rw [hy]; exact byt_eq s _ hlt
      obtain ⟨ov, hov⟩ : ∃ ov, ov = pv s k (k / 2) := ⟨_, rfl⟩
      obtain ⟨hv, hhv⟩ : ∃ v, v = hvN y := ⟨_, rfl⟩
      have HA : Hid (hexAt s k = hv) := hide (by rw [hexAt, ← hy, hhv])
      have hpn := pv_next s k HI.out
      rw [← hov, HA.out] at hpn
      obtain ⟨ho16, hpn⟩ := hpn
      have HP := hide hpn
      have hcell : wr.cell? ⟨w.heap.size, k / 2, none⟩ = some (.int .u8 (ov : Int)) := by rw [hown.cellAt (k / 2) (by omega), cellsAt_get s n k (k / 2) (by omega), ← hov]
      have hfz : wr.frozen? ⟨w.heap.size, k / 2, none⟩ = false := hown.frozenAt _
      clear hpn hov hy
      rcases hvN_cases y with hc | hc | ⟨h1, h2⟩
      · have hd : hv = y - 48 := by rw [hhv, hvN_digit y hc.1 hc.2]
        obtain ⟨h1, h2⟩ := hc
        have HD := hide hd
        clear hd hhv
        go_wp2
        go_roundg (gk - 1)
        case measure => have := HG.out; omega
        case rel => exact ⟨k + 1, by omega, by go_num, by have := HG.out; omega, hide (fun i h => by by_cases e1 : i = k; (rw [e1, HA.out, HD.out]; omega); exact HI.out i (by omega)), unhex_step hown HP.out ho16 (by rw [HD.out]; omega) (by rw [HD.out]; omega), hb.setCell (Nat.le_refl _) _⟩
      · have hd : hv = y - 87 := by rw [hhv, hvN_letter y hc.1 hc.2]
        obtain ⟨h1, h2⟩ := hc
        have h3 : ¬ y ≤ 57 := by omega
        have HD := hide hd
        clear hd hhv
        go_wp2
        go_roundg (gk - 1)
        case measure => have := HG.out; omega
        case rel => exact ⟨k + 1, by omega, by go_num, by have := HG.out; omega, hide (fun i h => by by_cases e1 : i = k; (rw [e1, HA.out, HD.out]; omega); exact HI.out i (by omega)), unhex_step hown HP.out ho16 (by rw [HD.out]; omega) (by rw [HD.out]; omega), hb.setCell (Nat.le_refl _) _⟩
      · have hbad : ¬ hv < 16 := by rw [hhv, hvN_bad y h1 h2]; omega
        clear hhv
        go_wp2
        all_goals (try (exfalso; omega))
        all_goals (try rw [Exit.noGoto_ret])
        all_goals go_ret2
        all_goals exact ⟨fun hall => absurd (hall k hlt) (by rw [HA.out]; exact hbad), fun _ => rfl, hb⟩
    · have hk2 : k = 2 * n := by omega
      rw [hk2] at HI hown
      have hown' : wr.ownsRow w.heap.size 5 1 (.slice (some ⟨w.heap.size, 0, none⟩) n n) (outS s n).length (Lib.byteCells (outS s n)) := by
        rw [outS_length, ← cellsAt_end s n HI.out]; exact hown
      have hcv := string_own (dst := 9) (src := 22) Tryd.underlying22 Tryd.underlying5 Tryd.underlying9 hown'
      clear hk2 hown hown'
      go_wp2
      all_goals (try rw [Exit.noGoto_ret])
      all_goals go_ret2
      exact ⟨fun _ => rfl, fun ⟨i, h1, h2⟩ => absurd (HI.out i (by omega)) h2, hb⟩

set_option maxHeartbeats 400000 in
theorem implUnhex_no (s : ByteArray) (h : s.size % 2 = 1 ∨ 40000 < s.size) (_hs : s.size ≤ 9223372036854775807) (w : World) :
    Calls Tryd.prog 14 #[.string s] w fun e w' => e = .returned (.tuple #[.string ⟨#[]⟩, .bool false]) ∧ w = w' := by
  by_cases h1 : s.size % 2 = 1
  · have h2 : ((s.size : Int) % 2 != 0) = true := by rw [bne_iff_ne]; omega
    clear h h1
    go_enter Tryd.func14, Tryd.ntmps14
    go_wp2
    go_step3
    go_wp2
    all_goals (try rw [Exit.noGoto_ret])
    go_ret2
    exact ⟨rfl, rfl⟩
  · have h2 : ((s.size : Int) % 2 != 0) = false := by rw [bne_eq_false_iff_eq]; omega
    have h3 : 40000 < s.size := by omega
    clear h h1
    go_enter Tryd.func14, Tryd.ntmps14
    go_wp2
    go_step3
    go_wp2
    all_goals (try rw [Exit.noGoto_ret])
    go_ret2
    exact ⟨rfl, rfl⟩
end Go.Proofs.YtimhnphodnnbeaaDoor
