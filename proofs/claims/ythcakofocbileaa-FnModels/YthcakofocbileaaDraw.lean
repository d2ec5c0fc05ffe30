/-
  The draws' cursor by contracts: l01Byte, l01Below, l01Once give some number within their bounds and turn nothing but the cursor's own block. Which number is drawn is not said.
-/
import Derived.Test.YthcakofocbileaaProg
import Derived.Test.YthcakofocbileaaPlain2
import Derived.Laws.OwnMore
import Derived.Laws.Pointers
import Derived.Laws.BitsAllLaws
import Derived.Laws.Shifts
import Derived.OwnWalk
import Derived.WalkKit
import Derived.WalkSpells
import Derived.WalkSmall
import Derived.BigQuiet
import Derived.Deep.QuietTactic
import Derived.Outline
namespace Go.Proofs.Ythcakofocbileaa
open Go.RowKit

/-- the code that came in: no byte, or bytes that lie below block B -/
def CodeIn (w : World) (B : Nat) (a : Option Addr) (len : Nat) : Prop :=
  len ≤ 1048576 ∧ (len = 0 ∨ ∃ b off, a = some ⟨b, off, none⟩ ∧ b < B ∧ ∀ j, j < len → ∃ z : Nat, z < 256 ∧ w.cell? ⟨b, off + j, none⟩ = some (.int .u8 (z : Int)))

/-- the cursor at block g -/
def CurAt (w : World) (g : Nat) (a : Option Addr) (len cap : Nat) : Prop :=
  ∃ (i : Nat) (h : Int), i ≤ len ∧ w.heap[g]? = some (.cells #[.slice a len cap, .int .i64 (i : Int), .int .i64 h] 65 (0, 0))

/-- a slice of bytes that came in and was read, as the draws take it -/
theorem codeIn_of {W : World} {x : Addr} {len cap : Nat} {zs : List Int} (hl : len ≤ cap) (hz : zs.length = cap) (hcell : ∀ i, i < zs.length → W.cell? (x.add i) = some (.int .u8 (zs.getD i 0))) (hwz : ∀ n ∈ zs, (Lit.int .u8 n).wf = true) :
    1048576 < len ∨ CodeIn W W.heap.size (some x) len := by
  by_cases hbig : 1048576 < len
  · exact Or.inl hbig
  · refine Or.inr ⟨by omega, ?_⟩
    by_cases h0 : len = 0
    · exact Or.inl h0
    · obtain ⟨b, off, spot⟩ := x
      have hc := hcell 0 (by omega)
      obtain rfl : spot = none := by simpa [Addr.add] using World.cell?_spot hc
      have hb : b < W.heap.size := World.block_lt_of_cell? W _ (by simpa [Addr.add] using hc : W.cell? ⟨b, off, none⟩ = _)
      refine Or.inr ⟨b, off, rfl, hb, fun j hj => ?_⟩
      have hj' : j < zs.length := by omega
      have hm : zs.getD j 0 ∈ zs := by rw [List.getD, List.getElem?_eq_getElem hj']; exact List.getElem_mem hj'
      have hw := hwz _ hm
      have hbd : 0 ≤ zs.getD j 0 ∧ zs.getD j 0 ≤ 255 := by simpa [Lit.wf, IntKind.min, IntKind.max, IntKind.signed, IntKind.bits] using hw
      refine ⟨(zs.getD j 0).toNat, by omega, ?_⟩
      have hcj := hcell j hj'
      rw [Addr.add_lit] at hcj
      rw [Int.toNat_of_nonneg hbd.1]
      exact hcj

theorem and255 (z : Int) : 0 ≤ bits BinOp.and IntKind.i64 z 255 ∧ bits BinOp.and IntKind.i64 z 255 ≤ 255 := by
  have e : bits BinOp.and IntKind.i64 z 255 = IntKind.i64.wrap ((BitVec.ofInt 64 z &&& BitVec.ofInt 64 255).toNat : Int) := rfl
  have h : (BitVec.ofInt 64 z &&& BitVec.ofInt 64 255).toNat ≤ 255 := by
    rw [BitVec.toNat_and]
    exact Nat.le_trans Nat.and_le_right (by decide)
  rw [e, IntWalk.i64_in _ ⟨by omega, by omega⟩]
  omega

theorem and255_nat (z : Int) : ∃ x : Nat, x < 256 ∧ bits BinOp.and IntKind.i64 z 255 = (x : Int) := by
  have := and255 z
  exact ⟨(bits BinOp.and IntKind.i64 z 255).toNat, by omega, by omega⟩

theorem cur_cells {w : World} {g : Nat} {cs : Array Value} (h : w.heap[g]? = some (.cells cs 65 (0, 0))) (j : Nat) : w.cell? ⟨g, j, none⟩ = cs[j]? ∧ w.frozen? ⟨g, j, none⟩ = false :=
  ⟨cell_of_row w g j cs 65 (0, 0) h, frozen_of_row w g j cs 65 h⟩

theorem grown_setCell (w : World) (g j : Nat) (u : Value) : w.grownBy (w.setCell ⟨g, j, none⟩ u) (some g) :=
  ⟨rfl, rfl, rfl, by simp, fun k _ hk => heap_setCell_other w ⟨g, j, none⟩ k u (fun e => hk (by simp [e]))⟩

theorem grown_trans {a b c : World} {r : Option Nat} (h : a.grownBy b r) (k : b.grownBy c r) : a.grownBy c r :=
  ⟨k.os.trans h.os, k.tape.trans h.tape, k.output.trans h.output, Nat.le_trans h.size k.size, fun j hj hne => (k.block j (Nat.lt_of_lt_of_le hj h.size) hne).trans (h.block j hj hne)⟩

theorem grown_drewN {a b : World} {r : Option Nat} (h : a.grownBy b r) (n : Nat) : a.grownBy (b.drewN n) r := grown_trans h ⟨rfl, rfl, rfl, Nat.le_refl _, fun _ _ _ => rfl⟩

set_option maxHeartbeats 2000000 in
set_option maxRecDepth 100000 in
theorem l01Byte_any (g B : Nat) (a : Option Addr) (len cap : Nat) (w : World) (hc : CurAt w g a len cap) (hd : CodeIn w B a len) (hB : B ≤ g) :
    Calls Try.prog 42 #[.pointer (some ⟨g, 0, none⟩)] w fun e w' => ∃ x : Nat, x < 256 ∧ e = .returned (.int .i64 (x : Int)) ∧ CurAt w' g a len cap ∧ w.grownBy w' (some g) := by
  obtain ⟨i, h, hi, hblk⟩ := hc
  have c0 : w.cell? ⟨g, 0, none⟩ = some (.slice a len cap) := (cur_cells hblk 0).1
  have c1 : w.cell? ⟨g, 1, none⟩ = some (.int .i64 (i : Int)) := (cur_cells hblk 1).1
  have c2 : w.cell? ⟨g, 2, none⟩ = some (.int .i64 h) := (cur_cells hblk 2).1
  have f1 := (cur_cells hblk 1).2
  have f2 := (cur_cells hblk 2).2
  have HBlk := hide hblk
  have HD := hide hd
  clear hblk hd
  have hlen : len ≤ 1048576 := HD.out.1
  by_cases hlt : i < len
  · rcases HD.out.2 with h0 | ⟨b, off, rfl, hb, hz⟩
    · omega
    · obtain ⟨z, hz256, hzc⟩ := hz i hlt
      have hne : b ≠ g := by omega
      have hcode : ∀ u, (w.setCell ⟨g, 2, none⟩ u).cell? ⟨b, off + i, none⟩ = some (.int .u8 (z : Int)) := fun u => by
        rw [World.cell?_of_block (heap_setCell_other w ⟨g, 2, none⟩ b u hne)]; exact hzc
      have HN := hide hne
      clear hz hzc hne
      have hi0 : (0 : Int) ≤ (i : Int) := by omega
      have hi1 : (i : Int) < (len : Int) := by omega
      have hw1 := (wrap64_small ((z : Int)) (by omega) (by omega))
      go_enter Try.func42, Try.ntmps42
      go_wp2
      go_quiet (fail)
      go_wp2
      go_quiet (fail)
      go_wp2
      go_quiet (fail)
      go_wp2
      go_ret
      obtain ⟨x, hx, e⟩ := and255_nat (wrap64 (bits BinOp.and IntKind.i64 (bits BinOp.xor IntKind.i64 (wrap64 (wrap64 (h * 6364136223846793005) + 1442695040888963407) / 8589934592) (wrap64 (wrap64 (h * 6364136223846793005) + 1442695040888963407) / 35184372088832)) 255 + (z : Int)))
      refine ⟨x, hx, by rw [← e]; rfl, ⟨i + 1, wrap64 (wrap64 (h * 6364136223846793005) + 1442695040888963407), by omega, ?_⟩, ?_⟩
      · exact heap_setCell_same (w.setCell ⟨g, 2, none⟩ _) g 1 _ _ _ (heap_setCell_same w g 2 _ _ _ HBlk.out)
      · exact grown_trans (grown_drewN (grown_setCell w g 2 _) _) (grown_setCell _ g 1 _)
  · have hnl : decide ((i : Int) < (len : Int)) = false := by simp; omega
    go_enter Try.func42, Try.ntmps42
    go_wp2
    go_quiet (fail)
    go_wp2
    go_quiet (fail)
    go_wp2
    go_ret
    obtain ⟨x, hx, e⟩ := and255_nat (bits BinOp.xor IntKind.i64 (wrap64 (wrap64 (h * 6364136223846793005) + 1442695040888963407) / 8589934592) (wrap64 (wrap64 (h * 6364136223846793005) + 1442695040888963407) / 35184372088832))
    refine ⟨x, hx, by rw [← e]; rfl, ⟨i, wrap64 (wrap64 (h * 6364136223846793005) + 1442695040888963407), hi, ?_⟩, ?_⟩
    · exact heap_setCell_same w g 2 _ _ _ HBlk.out
    · exact grown_drewN (grown_drewN (grown_setCell w g 2 _) _) _

/-- what a draw leaves: the cursor, and all but its block as it was -/
def Drawn (w w' : World) (g B : Nat) (a : Option Addr) (len cap : Nat) : Prop := CurAt w' g a len cap ∧ w.grownBy w' (some g) ∧ CodeIn w' B a len

theorem code_grown {w w' : World} {g B : Nat} {a : Option Addr} {len : Nat} (h : CodeIn w B a len) (hg : w.grownBy w' (some g)) (hB : B ≤ g) (hs : g < w.heap.size) : CodeIn w' B a len := by
  refine ⟨h.1, ?_⟩
  rcases h.2 with h0 | ⟨b, off, e, hb, hz⟩
  · exact Or.inl h0
  · refine Or.inr ⟨b, off, e, hb, fun j hj => ?_⟩
    obtain ⟨z, h1, h2⟩ := hz j hj
    exact ⟨z, h1, by rw [World.cell?_of_block (hg.block b (by omega) (by simp; omega))]; exact h2⟩

theorem cur_lt {w : World} {g : Nat} {a : Option Addr} {len cap : Nat} (h : CurAt w g a len cap) : g < w.heap.size := by
  obtain ⟨i, x, _, hb⟩ := h
  exact (Array.getElem?_eq_some_iff.1 hb).1

theorem byte_drawn (g B : Nat) (a : Option Addr) (len cap : Nat) (w : World) (hc : CurAt w g a len cap) (hd : CodeIn w B a len) (hB : B ≤ g) :
    Calls Try.prog 42 #[.pointer (some ⟨g, 0, none⟩)] w fun e w' => ∃ x : Nat, x < 256 ∧ e = .returned (.int .i64 (x : Int)) ∧ Drawn w w' g B a len cap := by
  refine (l01Byte_any g B a len cap w hc hd hB).mono ?_
  rintro e w1 ⟨x, hx, rfl, h1, h2⟩
  exact ⟨x, hx, rfl, h1, h2, code_grown hd h2 hB (cur_lt hc)⟩

theorem drawn_trans {a b c : World} {g B : Nat} {ad : Option Addr} {len cap : Nat} (h : Drawn a b g B ad len cap) (k : Drawn b c g B ad len cap) : Drawn a c g B ad len cap := ⟨k.1, grown_trans h.2.1 k.2.1, k.2.2⟩

set_option maxHeartbeats 1000000 in
theorem l01Below_any (g B : Nat) (a : Option Addr) (len cap n : Nat) (hn : 0 < n) (hn1 : n ≤ 4294967296) (w : World) (hc : CurAt w g a len cap) (hd : CodeIn w B a len) (hB : B ≤ g) :
    Calls Try.prog 40 #[.pointer (some ⟨g, 0, none⟩), .int .i64 (n : Int)] w fun e w' => ∃ x : Nat, x < n ∧ e = .returned (.int .i64 (x : Int)) ∧ Drawn w w' g B a len cap := by
  have HD := hide hd
  have HC := hide hc
  clear hd hc
  by_cases h256 : n ≤ 256
  · go_enter Try.func40, Try.ntmps40
    go_wp2_with fail
    refine (byte_drawn g B a len cap _ HC.out HD.out hB).mono ?_
    rintro e w1 ⟨x, hx, rfl, h1⟩
    have H1 := hide h1
    have hnz : ((n : Int) == 0) = false := by rw [beq_eq_false_iff_ne]; omega
    clear h1
    go_wp2_with fail
    go_ret
    exact ⟨x % n, Nat.mod_lt _ hn, by simp, H1.out⟩
  · go_enter Try.func40, Try.ntmps40
    go_wp2_with fail
    refine (byte_drawn g B a len cap _ HC.out HD.out hB).mono ?_
    rintro e w1 ⟨x1, hx1, rfl, h1⟩
    have H1 := hide h1
    clear h1
    go_wp2_with fail
    refine (byte_drawn g B a len cap _ H1.out.1 H1.out.2.2 hB).mono ?_
    rintro e w2 ⟨x2, hx2, rfl, h2⟩
    have H2 := hide h2
    clear h2
    go_wp2_with fail
    refine (byte_drawn g B a len cap _ H2.out.1 H2.out.2.2 hB).mono ?_
    rintro e w3 ⟨x3, hx3, rfl, h3⟩
    have H3 := hide h3
    clear h3
    go_wp2_with fail
    refine (byte_drawn g B a len cap _ H3.out.1 H3.out.2.2 hB).mono ?_
    rintro e w4 ⟨x4, hx4, rfl, h4⟩
    have H4 := hide h4
    clear h4
    have hnz : ((n : Int) == 0) = false := by rw [beq_eq_false_iff_ne]; omega
    go_wp2_with fail
    go_ret
    exact ⟨(x1 * 16777216 + x2 * 65536 + x3 * 256 + x4) % n, Nat.mod_lt _ hn, by simp, drawn_trans H1.out (drawn_trans H2.out (drawn_trans H3.out H4.out))⟩
end Go.Proofs.Ythcakofocbileaa
