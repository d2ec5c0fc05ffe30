/-
  spec.Hex and impl.Hex by one contract: for a text of at most 20000 bytes both give 'hexOf' its bytes, and true; for a longer one the empty text and false.
-/
import Derived.Test.YtimhnphodnnbeaaDoorOwn
import Derived.Test.YtimhnphodnnbeaaDoorPlain3
import Derived.Laws.Shifts
import Derived.WalkSpells
import Derived.WalkSmall
import Derived.Deep.LoopGhost
import Derived.Deep.RegionHeld3
import Derived.Deep.AppendLies
import Derived.Deep.DrawnRows
namespace Go.Proofs.YtimhnphodnnbeaaDoor
open Go.RowKit
attribute [local go_sem ↓] Go.wp_at_zero Go.wp_at_succ

theorem hex_step {w2 : World} {B gg cap k f1 f2 : Nat} {s : ByteArray} (hsn : hexOf (s.data.toList.take (k + 1)) = hexOf (s.data.toList.take k) ++ [UInt8.ofNat (fig (byt s k / 16)), UInt8.ofNat (fig (byt s k % 16))])
    (h1 : f1 = fig (byt s k / 16)) (h2 : f2 = fig (byt s k % 16)) (hy : byt s k < 256)
    (h : w2.ownsRow B 5 1 (.slice (some ⟨gg, 0, none⟩) ((hexOf (s.data.toList.take k)).length + 2) cap) ((hexOf (s.data.toList.take k)).length + 2) (Lib.byteCells (hexOf (s.data.toList.take k)) ++ [.int .u8 (f1 : Int), .int .u8 (f2 : Int)])) :
    w2.ownsRow B 5 1 (.slice (some ⟨gg, 0, none⟩) ((hexOf (s.data.toList.take k)).length + 2) cap) (hexOf (s.data.toList.take (k + 1))).length (Lib.byteCells (hexOf (s.data.toList.take (k + 1)))) := by
  rw [cells_two _ _ _ (by rw [h1]; exact fig_lt _ (by omega)) (by rw [h2]; exact fig_lt _ (by omega)), h1, h2] at h
  rw [hsn, List.length_append]
  exact h

set_option maxHeartbeats 2000000 in
set_option maxRecDepth 100000 in
theorem implHex_yes (s : ByteArray) (hs : s.size ≤ 20000) (w : World) :
    Calls Tryd.prog 13 #[.string s] w fun e w' => e = .returned (.tuple #[.string ⟨(hexOf s.data.toList).toArray⟩, .bool true]) ∧ Below w.heap.size w w' := by
  obtain ⟨i0, hi, hz0, hz1, hz2⟩ := info_parts Tryd.infoByte
  go_enter Tryd.func13, Tryd.ntmps13
  go_wp2_with (at_make; refine wpList_make_own _ rfl _ _ 22 rfl w.heap.size 5 i0 (.int .u8 0) 1 Tryd.underlying22 hi hz0 hz1 .i64 .i64 _ (2 * s.size) rfl rfl (by simp) (by rw [hz2]; omega) (by unfold maxLen; omega) (Nat.le_refl _) ?_)
  intro w1 hown1 hg1
  have hb1 : Below w.heap.size w w1 := (Below.refl _ _).grown hg1 (Nat.le_refl _) (fun k hk => by cases hk)
  clear hg1
  go_wp2
  go_loopg [4, 5] s.size (fun g v iv wr => ∃ k : Nat, k ≤ s.size ∧ iv = .int .i64 k ∧ g + k = s.size ∧ wr.ownsRow w.heap.size 5 1 v (hexOf (s.data.toList.take k)).length (Lib.byteCells (hexOf (s.data.toList.take k))) ∧ Below w.heap.size w wr)
  case atStart => exact ⟨0, Nat.zero_le _, rfl, rfl, by simpa [hexOf, Lib.byteCells] using hown1, hb1⟩
  case round =>
    obtain ⟨k, hk, rfl, hg, hown, hb⟩ := hrel
    have HG := hide hg
    clear hg hown1 hb1
    have hB := hb.size
    have hlen : (hexOf (s.data.toList.take k)).length = 2 * k := by rw [hexOf_length, List.length_take, Array.length_toList]; have : s.data.size = s.size := rfl; omega
    by_cases hlt : k < s.size
    · obtain ⟨y, hy⟩ : ∃ y, y = byt s k := ⟨_, rfl⟩
      have hyb : y < 256 := by rw [hy]; exact byt_lt s k
      have hsj : s[k].toNat = y := by rw [hy]; exact byt_eq s k hlt
      have HS := hide (hexOf_snoc s k hlt)
      have HY := hide hy
      have HL := hide hlen
      clear hy hlen
      have hk0 : (0 : Int) ≤ (k : Int) := by omega
      have hk1 : (k : Int) < (s.size : Int) := by omega
      have hq0 : (0 : Int) ≤ (y : Int) / 16 := by omega
      have hq1 : (y : Int) / 16 < 16 := by omega
      have hr0 : (0 : Int) ≤ (y : Int) % 16 := by omega
      have hr1 : (y : Int) % 16 < 16 := by omega
      have hand := and15 y hyb
      obtain ⟨f1, hf1⟩ : ∃ f, f = fig (y / 16) := ⟨_, rfl⟩
      obtain ⟨f2, hf2⟩ : ∃ f, f = fig (y % 16) := ⟨_, rfl⟩
      have hi1 := fun h => figs_int ((y : Int) / 16) (y / 16) (by omega) (by omega) h
      have hi2 := fun h => figs_int ((y : Int) % 16) (y % 16) (by omega) (by omega) h
      rw [← hf1] at hi1
      rw [← hf2] at hi2
      have HF1 := hide hf1
      have HF2 := hide hf2
      clear hf1 hf2
      go_wp2
      go_region_held3 (fun _ => True) (trivial) ((refine step_append_lies _ (by rfl) _ _ _ (by rfl) w.heap.size 5 i0 (.int .u8 0) 1 1 Tryd.underlying22 hi hz0 hz1 hz2 rfl (by decide) _ _ _ (by rfl) ((hown.alloc _).drew) ⟨wr.heap.size, 0, none⟩ 2 2 [.int .u8 (f1 : Int), .int .u8 (f2 : Int)] (by rfl) (by rfl) (World.news_of_block (cs := #[.int .u8 (f1 : Int), .int .u8 (f2 : Int)]) (t := 5) (fr := (0, 0)) (heap_alloc_new wr _)) (by simp [Value.oneCell']) (by decide) (by rw [HL.out]; unfold maxLen; omega) (by rw [HL.out]; omega) (by simp; omega) (wr.heap.size + 1) (by simp) ?_; intro gg cap w2 hown2 hgrow2 hat2 hlt2))
      all_goals
        have hb2 : Below w.heap.size w w2 := below_grow hb hB hown ((Below.refl _ _).alloc hB _).drew hgrow2
        have hown3 := hex_step (HS.out) (by rw [← HY.out]; exact HF1.out) (by rw [← HY.out]; exact HF2.out) (byt_lt s k) hown2
        clear hown2 hgrow2 hat2 hlt2
        go_wp2
        go_roundg (gk - 1)
        case measure => have := HG.out; omega
        case rel => exact ⟨k + 1, by omega, by go_num, by have := HG.out; omega, hown3, hb2⟩
    · have hk' : s.data.toList.take k = s.data.toList := List.take_of_length_le (by rw [Array.length_toList]; have : s.data.size = s.size := rfl; omega)
      rw [hk'] at hown
      have hcv := string_own (dst := 9) (src := 22) Tryd.underlying22 Tryd.underlying5 Tryd.underlying9 hown
      clear hk' hlen hown
      go_wp2
      go_ret2
      exact ⟨rfl, hb⟩

set_option maxHeartbeats 400000 in
theorem implHex_no (s : ByteArray) (h : 20000 < s.size) (_hs : s.size ≤ 9223372036854775807) (w : World) :
    Calls Tryd.prog 13 #[.string s] w fun e w' => e = .returned (.tuple #[.string ⟨#[]⟩, .bool false]) ∧ w = w' := by
  go_enter Tryd.func13, Tryd.ntmps13
  go_wp2
  go_ret2
  exact ⟨rfl, rfl⟩
end Go.Proofs.YtimhnphodnnbeaaDoor
