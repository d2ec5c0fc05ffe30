/-
  The draws' cursor by contracts: l01Byte, l01Below, l01Once give some number within their bounds and turn nothing but the cursor's own block. Which number is drawn is not said.
-/
import Derived.Test.YtmmepgincbngeaaProg
import Derived.Test.YtmmepgincbngeaaPlain2
import Derived.Laws.OwnMore
import Derived.Laws.Pointers
import Derived.Laws.BitsAllLaws
import Derived.Laws.Shifts
import Derived.OwnWalk
import Derived.WalkKit
import Derived.WalkSpells
import Derived.WalkSmall
import Derived.BigQuiet
import Derived.Deep.QuietTactic
import Derived.Outline
namespace Go.Proofs.Ytmmepgincbngeaa
open Go.RowKit

/-- the code that came in: no byte, or bytes that lie below block B -/
def CodeIn (w : World) (B : Nat) (a : Option Addr) (len : Nat) : Prop :=
  len ≤ 1048576 ∧ (len = 0 ∨ ∃ b off, a = some ⟨b, off, none⟩ ∧ b < B ∧ ∀ j, j < len → ∃ z : Nat, z < 256 ∧ w.cell? ⟨b, off + j, none⟩ = some (.int .u8 (z : Int)))

/-- a slice of bytes that came in and was read, as the draws take it -/
theorem codeIn_of {W : World} {x : Addr} {len cap : Nat} {zs : List Int} (hl : len ≤ cap) (hz : zs.length = cap) (hcell : ∀ i, i < zs.length → W.cell? (x.add i) = some (.int .u8 (zs.getD i 0))) (hwz : ∀ n ∈ zs, (Lit.int .u8 n).wf = true) :
    1048576 < len ∨ CodeIn W W.heap.size (some x) len := by
  by_cases hbig : 1048576 < len
  · exact Or.inl hbig
  · refine Or.inr ⟨by omega, ?_⟩
    by_cases h0 : len = 0
    · exact Or.inl h0
    · obtain ⟨b, off, spot⟩ := x
      have hc := hcell 0 (by omega)
      obtain rfl : spot = none := by simpa [Addr.add] using World.cell?_spot hc
      have hb : b < W.heap.size := World.block_lt_of_cell? W _ (by simpa [Addr.add] using hc : W.cell? ⟨b, off, none⟩ = _)
      refine Or.inr ⟨b, off, rfl, hb, fun j hj => ?_⟩
      have hj' : j < zs.length := by omega
      have hm : zs.getD j 0 ∈ zs := by rw [List.getD, List.getElem?_eq_getElem hj']; exact List.getElem_mem hj'
      have hw := hwz _ hm
      have hbd : 0 ≤ zs.getD j 0 ∧ zs.getD j 0 ≤ 255 := by simpa [Lit.wf, IntKind.min, IntKind.max, IntKind.signed, IntKind.bits] using hw
      refine ⟨(zs.getD j 0).toNat, by omega, ?_⟩
      have hcj := hcell j hj'
      rw [Addr.add_lit] at hcj
      rw [Int.toNat_of_nonneg hbd.1]
      exact hcj

theorem and255 (z : Int) : 0 ≤ bits BinOp.and IntKind.i64 z 255 ∧ bits BinOp.and IntKind.i64 z 255 ≤ 255 := by
  have e : bits BinOp.and IntKind.i64 z 255 = IntKind.i64.wrap ((BitVec.ofInt 64 z &&& BitVec.ofInt 64 255).toNat : Int) := rfl
  have h : (BitVec.ofInt 64 z &&& BitVec.ofInt 64 255).toNat ≤ 255 := by
    rw [BitVec.toNat_and]
    exact Nat.le_trans Nat.and_le_right (by decide)
  rw [e, IntWalk.i64_in _ ⟨by omega, by omega⟩]
  omega

theorem and255_nat (z : Int) : ∃ x : Nat, x < 256 ∧ bits BinOp.and IntKind.i64 z 255 = (x : Int) := by
  have := and255 z
  exact ⟨(bits BinOp.and IntKind.i64 z 255).toNat, by omega, by omega⟩

theorem grown_setCell (w : World) (g j : Nat) (u : Value) : w.grownBy (w.setCell ⟨g, j, none⟩ u) (some g) :=
  ⟨rfl, rfl, rfl, by simp, fun k _ hk => heap_setCell_other w ⟨g, j, none⟩ k u (fun e => hk (by simp [e]))⟩

theorem grown_trans {a b c : World} {r : Option Nat} (h : a.grownBy b r) (k : b.grownBy c r) : a.grownBy c r :=
  ⟨k.os.trans h.os, k.tape.trans h.tape, k.output.trans h.output, Nat.le_trans h.size k.size, fun j hj hne => (k.block j (Nat.lt_of_lt_of_le hj h.size) hne).trans (h.block j hj hne)⟩

theorem grown_drewN {a b : World} {r : Option Nat} (h : a.grownBy b r) (n : Nat) : a.grownBy (b.drewN n) r := grown_trans h ⟨rfl, rfl, rfl, Nat.le_refl _, fun _ _ _ => rfl⟩

theorem code_grown {w w' : World} {g B : Nat} {a : Option Addr} {len : Nat} (h : CodeIn w B a len) (hg : w.grownBy w' (some g)) (hB : B ≤ g) (hs : g < w.heap.size) : CodeIn w' B a len := by
  refine ⟨h.1, ?_⟩
  rcases h.2 with h0 | ⟨b, off, e, hb, hz⟩
  · exact Or.inl h0
  · refine Or.inr ⟨b, off, e, hb, fun j hj => ?_⟩
    obtain ⟨z, h1, h2⟩ := hz j hj
    exact ⟨z, h1, by rw [World.cell?_of_block (hg.block b (by omega) (by simp; omega))]; exact h2⟩

end Go.Proofs.Ytmmepgincbngeaa
