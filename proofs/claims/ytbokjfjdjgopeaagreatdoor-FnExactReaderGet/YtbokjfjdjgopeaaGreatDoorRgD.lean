/-
  Several texts in one. The draws' cursor by contracts: l01Byte, l01Below, l01Once give some number within their bounds and turn nothing but the cursor's own block. Which number is drawn is not said. · More draws by contracts: l01Once, l01New, l01Text, l01Long. Which text is drawn is not said but its length's bound. · A node that grows in a variable of its own, row by row: what stays and what is new behind an append and a store. No function of the program. · A node among things that lie side by side; an append of a text. No function of the program. · An append of a whole row to a row among things that lie side by side. No function of the program. · What GivePage makes of a work, as plain data. No program. · A disk that is laid into the variable of an answer, and rows that lie apart by their types. No function of the program. · A work in a variable while GivePage of the specification turns it: its cells, its rows, what lies beside it. No function of the program. · A region that draws its order, where two operations may come up either way round and leave the same behind them: both ways are walked to one goal. No program. · The region in which a work is copied: whatever order is drawn, from state to state. No function of the program. · spec.l08Copy by a contract: the same work, in memory of its own.
-/
import Derived.Test.YtbokjfjdjgopeaaGreatDoorProg
import Derived.Test.YtbokjfjdjgopeaaGreatDoorPlain2
import Derived.Laws.OwnMore
import Derived.Laws.Pointers
import Derived.Laws.BitsAllLaws
import Derived.Laws.Shifts
import Derived.OwnWalk
import Derived.WalkKit
import Derived.WalkSpells
import Derived.WalkSmall
import Derived.BigQuiet
import Derived.Deep.QuietTactic
import Derived.Outline
import Derived.Test.YtbokjfjdjgopeaaGreatDoorOwn
import Derived.Deep.LoopGhost
import Derived.Test.YtbokjfjdjgopeaaGreatDoorNode
import Derived.Test.YtbokjfjdjgopeaaGreatDoorRgP
import Derived.Test.YtbokjfjdjgopeaaGreatDoorRgC
import Derived.Deep.AppendLies
import Derived.Maps.AppendAt
import Derived.Test.YtbokjfjdjgopeaaGreatDoorRgB
import Derived.Deep.RegionHeld3
import Derived.Deep.RegionHeld
namespace Go.Proofs.YtbokjfjdjgopeaaGreatDoor
open Go.RowKit

/-- the code that came in: no byte, or bytes that lie below block B -/
def CodeIn (w : World) (B : Nat) (a : Option Addr) (len : Nat) : Prop :=
  len ≤ 1048576 ∧ (len = 0 ∨ ∃ b off, a = some ⟨b, off, none⟩ ∧ b < B ∧ ∀ j, j < len → ∃ z : Nat, z < 256 ∧ w.cell? ⟨b, off + j, none⟩ = some (.int .u8 (z : Int)))

/-- a slice of bytes that came in and was read, as the draws take it -/
theorem codeIn_of {W : World} {x : Addr} {len cap : Nat} {zs : List Int} (hl : len ≤ cap) (hz : zs.length = cap) (hcell : ∀ i, i < zs.length → W.cell? (x.add i) = some (.int .u8 (zs.getD i 0))) (hwz : ∀ n ∈ zs, (Lit.int .u8 n).wf = true) :
    1048576 < len ∨ CodeIn W W.heap.size (some x) len := by
  by_cases hbig : 1048576 < len
  · exact Or.inl hbig
  · refine Or.inr ⟨by omega, ?_⟩
    by_cases h0 : len = 0
    · exact Or.inl h0
    · obtain ⟨b, off, spot⟩ := x
      have hc := hcell 0 (by omega)
      obtain rfl : spot = none := by simpa [Addr.add] using World.cell?_spot hc
      have hb : b < W.heap.size := World.block_lt_of_cell? W _ (by simpa [Addr.add] using hc : W.cell? ⟨b, off, none⟩ = _)
      refine Or.inr ⟨b, off, rfl, hb, fun j hj => ?_⟩
      have hj' : j < zs.length := by omega
      have hm : zs.getD j 0 ∈ zs := by rw [List.getD, List.getElem?_eq_getElem hj']; exact List.getElem_mem hj'
      have hw := hwz _ hm
      have hbd : 0 ≤ zs.getD j 0 ∧ zs.getD j 0 ≤ 255 := by simpa [Lit.wf, IntKind.min, IntKind.max, IntKind.signed, IntKind.bits] using hw
      refine ⟨(zs.getD j 0).toNat, by omega, ?_⟩
      have hcj := hcell j hj'
      rw [Addr.add_lit] at hcj
      rw [Int.toNat_of_nonneg hbd.1]
      exact hcj

theorem and255 (z : Int) : 0 ≤ bits BinOp.and IntKind.i64 z 255 ∧ bits BinOp.and IntKind.i64 z 255 ≤ 255 := by
  have e : bits BinOp.and IntKind.i64 z 255 = IntKind.i64.wrap ((BitVec.ofInt 64 z &&& BitVec.ofInt 64 255).toNat : Int) := rfl
  have h : (BitVec.ofInt 64 z &&& BitVec.ofInt 64 255).toNat ≤ 255 := by
    rw [BitVec.toNat_and]
    exact Nat.le_trans Nat.and_le_right (by decide)
  rw [e, IntWalk.i64_in _ ⟨by omega, by omega⟩]
  omega

theorem and255_nat (z : Int) : ∃ x : Nat, x < 256 ∧ bits BinOp.and IntKind.i64 z 255 = (x : Int) := by
  have := and255 z
  exact ⟨(bits BinOp.and IntKind.i64 z 255).toNat, by omega, by omega⟩

theorem grown_setCell (w : World) (g j : Nat) (u : Value) : w.grownBy (w.setCell ⟨g, j, none⟩ u) (some g) :=
  ⟨rfl, rfl, rfl, by simp, fun k _ hk => heap_setCell_other w ⟨g, j, none⟩ k u (fun e => hk (by simp [e]))⟩

theorem grown_trans {a b c : World} {r : Option Nat} (h : a.grownBy b r) (k : b.grownBy c r) : a.grownBy c r :=
  ⟨k.os.trans h.os, k.tape.trans h.tape, k.output.trans h.output, Nat.le_trans h.size k.size, fun j hj hne => (k.block j (Nat.lt_of_lt_of_le hj h.size) hne).trans (h.block j hj hne)⟩

theorem grown_drewN {a b : World} {r : Option Nat} (h : a.grownBy b r) (n : Nat) : a.grownBy (b.drewN n) r := grown_trans h ⟨rfl, rfl, rfl, Nat.le_refl _, fun _ _ _ => rfl⟩

theorem code_grown {w w' : World} {g B : Nat} {a : Option Addr} {len : Nat} (h : CodeIn w B a len) (hg : w.grownBy w' (some g)) (hB : B ≤ g) (hs : g < w.heap.size) : CodeIn w' B a len := by
  refine ⟨h.1, ?_⟩
  rcases h.2 with h0 | ⟨b, off, e, hb, hz⟩
  · exact Or.inl h0
  · refine Or.inr ⟨b, off, e, hb, fun j hj => ?_⟩
    obtain ⟨z, h1, h2⟩ := hz j hj
    exact ⟨z, h1, by rw [World.cell?_of_block (hg.block b (by omega) (by simp; omega))]; exact h2⟩

end Go.Proofs.YtbokjfjdjgopeaaGreatDoor

namespace Go.Proofs.YtbokjfjdjgopeaaGreatDoor
open Go.RowKit

theorem grown_alloc {a b : World} {r : Option Nat} (h : a.grownBy b r) (o : Obj) : a.grownBy (b.alloc o) r := grown_trans h (World.grownBy_alloc b o r)

/-- an append to a row of our own that was laid behind w turns nothing that w had -/
theorem grown_app {w wr w1 : World} {g : Nat} {row : Option Nat} {o : Obj} (h : w.grownBy wr (some g)) (ha : (wr.alloc o).grownBy w1 row) (hr : ∀ k, row = some k → w.heap.size ≤ k) : w.grownBy w1 (some g) := by
  have h2 := grown_alloc h o
  exact ⟨ha.os.trans h2.os, ha.tape.trans h2.tape, ha.output.trans h2.output, Nat.le_trans h2.size ha.size, fun k hk hne =>
    (ha.block k (Nat.lt_of_lt_of_le hk h2.size) (fun e => by have := hr k e.symm; omega)).trans (h2.block k hk hne)⟩

end Go.Proofs.YtbokjfjdjgopeaaGreatDoor

namespace Go.Proofs.YtbokjfjdjgopeaaGreatDoor
open Go.RowKit

/-- a node in the variable at block gn, its rows in memory behind it -/
def NSt (w : World) (gn : Nat) (n : Nd) (v1 v2 v3 : Value) : Prop :=
  w.heap[gn]? = some (.cells #[.bool n.lf, v1, v2, v3] 94 (0, 0)) ∧ w.ownsRow (gn + 1) 9 1 v1 n.ks.length (strs n.ks) ∧ w.ownsRow (gn + 1) 9 1 v2 n.vs.length (strs n.vs) ∧ w.ownsRow (gn + 1) 3 1 v3 n.cs.length (ints n.cs) ∧ ∀ k, v1.ownBlock = some k → v2.ownBlock ≠ some k

theorem nst_lt {w : World} {gn : Nat} {n : Nd} {v1 v2 v3 : Value} (h : NSt w gn n v1 v2 v3) : gn < w.heap.size := (Array.getElem?_eq_some_iff.1 h.1).1

theorem nst_grown {w w' : World} {g gn : Nat} {n : Nd} {v1 v2 v3 : Value} (h : NSt w gn n v1 v2 v3) (hg : w.grownBy w' (some g)) (hlt : g < gn) : NSt w' gn n v1 v2 v3 := by
  have hl := nst_lt h
  obtain ⟨h0, h1, h2, h3, h4⟩ := h
  refine ⟨(hg.block gn hl (fun e => by injection e with e; omega)).trans h0, h1.kept hg (Or.inr (fun e => by have := (h1.lt _ e).1; omega)), h2.kept hg (Or.inr (fun e => by have := (h2.lt _ e).1; omega)), h3.kept hg (Or.inr (fun e => by have := (h3.lt _ e).1; omega)), h4⟩

theorem nst_below {w w' : World} {gn : Nat} {n : Nd} {v1 v2 v3 : Value} (h : NSt w gn n v1 v2 v3) (hb : Below w.heap.size w w') : NSt w' gn n v1 v2 v3 := by
  have hl := nst_lt h
  obtain ⟨h0, h1, h2, h3, h4⟩ := h
  exact ⟨(hb.block gn hl).trans h0, own_stays h1 hb, own_stays h2 hb, own_stays h3 hb, h4⟩

theorem nst_node {w : World} {gn : Nat} {n : Nd} {v1 v2 v3 : Value} (h : NSt w gn n v1 v2 v3) : NodeOwn w (gn + 1) (.agg #[.bool n.lf, v1, v2, v3]) n.lf n.ks n.vs n.cs := ⟨v1, v2, v3, rfl, h.2.1, h.2.2.1, h.2.2.2.1, h.2.2.2.2⟩

/-- an append to a row that lies behind gn: the rest stays -/
theorem grown_high {a b c : World} {g : Nat} {r : Option Nat} (h : a.grownBy b (some g)) (k : b.grownBy c r) (hr : ∀ j, r = some j → a.heap.size ≤ j) : a.grownBy c (some g) :=
  ⟨k.os.trans h.os, k.tape.trans h.tape, k.output.trans h.output, Nat.le_trans h.size k.size, fun j hj hne => by
    rw [k.block j (Nat.lt_of_lt_of_le hj h.size) (fun e => by have := hr j e.symm; omega)]
    exact h.block j hj hne⟩

theorem str_snoc (l : List ByteArray) (x : ByteArray) : strs l ++ [.string x] = strs (l ++ [x]) := by simp [strs]

theorem int_snoc (l : List Int) (x : Int) : ints l ++ [.int .i64 x] = ints (l ++ [x]) := by simp [ints]

theorem one_new (w : World) (n : Nat) (hn : n = w.heap.size) (x : Value) (T : TypeId) : ∀ (j : Nat) (u : Value), [x][j]? = some u → (w.alloc (Obj.cells #[x] T)).cell? ((⟨n, 0, none⟩ : Addr).add j) = some u := by
  subst hn
  intro j u hj
  obtain rfl : j = 0 := by have := (List.getElem?_eq_some_iff.1 hj).1; simp at this; omega
  rw [Addr.add_lit, ← hj]
  exact (cell_at (heap_alloc_new w _) 0).1

theorem apart {u v : Value} (h : ∀ k, u.ownBlock = some k → v.ownBlock ≠ some k) : v.ownBlock = none ∨ v.ownBlock ≠ u.ownBlock := by
  cases hv : v.ownBlock with
  | none => exact Or.inl rfl
  | some k => exact Or.inr (fun e => h k e.symm hv)

theorem away {u : Value} {gn : Nat} (h : ∀ k, u.ownBlock = some k → gn < k) : some gn ≠ u.ownBlock := fun e => by have := h gn e.symm; omega

theorem nst_key {w w' : World} {gn b cap : Nat} {n : Nd} {v1 v2 v3 : Value} {x : ByteArray} (h : NSt w gn n v1 v2 v3) (hown : w'.ownsRow (gn + 1) 9 1 (.slice (some ⟨b, 0, none⟩) (n.ks.length + 1) cap) (n.ks.length + 1) (strs n.ks ++ [.string x])) (hg : w.grownBy w' v1.ownBlock) (hb : v1.ownBlock = some b ∨ b = w.heap.size) :
    NSt (w'.setCell ⟨gn, 1, none⟩ (.slice (some ⟨b, 0, none⟩) (n.ks.length + 1) cap)) gn ⟨n.lf, n.ks ++ [x], n.vs, n.cs⟩ (.slice (some ⟨b, 0, none⟩) (n.ks.length + 1) cap) v2 v3 := by
  have hl := nst_lt h
  obtain ⟨h0, h1, h2, h3, h4⟩ := h
  have hgn : w'.heap[gn]? = _ := (hg.block gn hl (away (fun k e => by have := (h1.lt k e).1; omega))).trans h0
  have hs := grown_setCell w' gn 1 (.slice (some ⟨b, 0, none⟩) (n.ks.length + 1) cap)
  have k2 := h2.kept hg (apart h4)
  have k3 := h3.kept hg (apart (fun k e => one_type h1 h3 Tryz.str_int k e))
  refine ⟨heap_setCell_same w' gn 1 _ _ _ hgn, ?_, k2.kept hs (Or.inr (fun e => by have := (h2.lt _ e).1; omega)), k3.kept hs (Or.inr (fun e => by have := (h3.lt _ e).1; omega)), ?_⟩
  · rw [List.length_append, ← str_snoc]
    exact hown.kept hs (Or.inr (fun e => by have := (hown.lt _ e).1; omega))
  · intro k e1 e2
    have e1 : b = k := Option.some.inj e1
    subst e1
    rcases hb with hb | hb
    · exact h4 b hb e2
    · have := (h2.lt b e2).2; omega

theorem nst_val {w w' : World} {gn b cap : Nat} {n : Nd} {v1 v2 v3 : Value} {x : ByteArray} (h : NSt w gn n v1 v2 v3) (hown : w'.ownsRow (gn + 1) 9 1 (.slice (some ⟨b, 0, none⟩) (n.vs.length + 1) cap) (n.vs.length + 1) (strs n.vs ++ [.string x])) (hg : w.grownBy w' v2.ownBlock) (hb : v2.ownBlock = some b ∨ b = w.heap.size) :
    NSt (w'.setCell ⟨gn, 2, none⟩ (.slice (some ⟨b, 0, none⟩) (n.vs.length + 1) cap)) gn ⟨n.lf, n.ks, n.vs ++ [x], n.cs⟩ v1 (.slice (some ⟨b, 0, none⟩) (n.vs.length + 1) cap) v3 := by
  have hl := nst_lt h
  obtain ⟨h0, h1, h2, h3, h4⟩ := h
  have hgn : w'.heap[gn]? = _ := (hg.block gn hl (away (fun k e => by have := (h2.lt k e).1; omega))).trans h0
  have hs := grown_setCell w' gn 2 (.slice (some ⟨b, 0, none⟩) (n.vs.length + 1) cap)
  have k1 := h1.kept hg (apart (fun k e e' => h4 k e' e))
  have k3 := h3.kept hg (apart (fun k e => one_type h2 h3 Tryz.str_int k e))
  refine ⟨heap_setCell_same w' gn 2 _ _ _ hgn, k1.kept hs (Or.inr (fun e => by have := (h1.lt _ e).1; omega)), ?_, k3.kept hs (Or.inr (fun e => by have := (h3.lt _ e).1; omega)), ?_⟩
  · rw [List.length_append, ← str_snoc]
    exact hown.kept hs (Or.inr (fun e => by have := (hown.lt _ e).1; omega))
  · intro k e1 e2
    have e2 : b = k := Option.some.inj e2
    subst e2
    rcases hb with hb | hb
    · exact h4 b e1 hb
    · have := (h1.lt b e1).2; omega

theorem nst_kid {w w' : World} {gn b cap : Nat} {n : Nd} {v1 v2 v3 : Value} {x : Int} (h : NSt w gn n v1 v2 v3) (hown : w'.ownsRow (gn + 1) 3 1 (.slice (some ⟨b, 0, none⟩) (n.cs.length + 1) cap) (n.cs.length + 1) (ints n.cs ++ [.int .i64 x])) (hg : w.grownBy w' v3.ownBlock) :
    NSt (w'.setCell ⟨gn, 3, none⟩ (.slice (some ⟨b, 0, none⟩) (n.cs.length + 1) cap)) gn ⟨n.lf, n.ks, n.vs, n.cs ++ [x]⟩ v1 v2 (.slice (some ⟨b, 0, none⟩) (n.cs.length + 1) cap) := by
  have hl := nst_lt h
  obtain ⟨h0, h1, h2, h3, h4⟩ := h
  have hgn : w'.heap[gn]? = _ := (hg.block gn hl (away (fun k e => by have := (h3.lt k e).1; omega))).trans h0
  have hs := grown_setCell w' gn 3 (.slice (some ⟨b, 0, none⟩) (n.cs.length + 1) cap)
  have k1 := h1.kept hg (apart (fun k e => one_type h3 h1 Tryz.str_int.symm k e))
  have k2 := h2.kept hg (apart (fun k e => one_type h3 h2 Tryz.str_int.symm k e))
  refine ⟨heap_setCell_same w' gn 3 _ _ _ hgn, k1.kept hs (Or.inr (fun e => by have := (h1.lt _ e).1; omega)), k2.kept hs (Or.inr (fun e => by have := (h2.lt _ e).1; omega)), ?_, h4⟩
  rw [List.length_append, ← int_snoc]
  exact hown.kept hs (Or.inr (fun e => by have := (hown.lt _ e).1; omega))

theorem key_step {w w' : World} {gn b cap : Nat} {n : Nd} {v1 v2 v3 : Value} {x : ByteArray} {o : Obj} (h : NSt w gn n v1 v2 v3) (hown : w'.ownsRow (gn + 1) 9 1 (.slice (some ⟨b, 0, none⟩) (n.ks.length + 1) cap) (n.ks.length + 1) (strs n.ks ++ [.string x])) (hg : (w.alloc o).grownBy w' v1.ownBlock) (hb : v1.ownBlock = some b ∨ b = (w.alloc o).heap.size) :
    NSt (w'.setCell ⟨gn, 1, none⟩ (.slice (some ⟨b, 0, none⟩) (n.ks.length + 1) cap)) gn ⟨n.lf, n.ks ++ [x], n.vs, n.cs⟩ (.slice (some ⟨b, 0, none⟩) (n.ks.length + 1) cap) v2 v3 ∧ Below gn w (w'.setCell ⟨gn, 1, none⟩ (.slice (some ⟨b, 0, none⟩) (n.ks.length + 1) cap)) ∧ w'.cell? ⟨gn, 1, none⟩ = some v1 ∧ w'.frozen? ⟨gn, 1, none⟩ = false := by
  have hl := nst_lt h
  have hba : Below w.heap.size w (w.alloc o) := (Below.refl _ _).alloc (Nat.le_refl _) _
  have hA := nst_below h hba
  have hlt := fun k e => (h.2.1.lt k e).1
  have cg : w'.heap[gn]? = _ := (hg.block gn (nst_lt hA) (away (fun k e => by have := hlt k e; omega))).trans hA.1
  refine ⟨nst_key hA hown hg hb, ?_, (cell_at cg 1).1, (cell_at cg 1).2⟩
  have h1 : Below gn w w' := ((Below.refl gn w).alloc (by omega) o).grown hg (by have := nst_lt hA; omega) (fun k e => by have := hlt k e; omega)
  exact h1.grown (grown_setCell w' gn 1 _) (by have := h1.size; omega) (fun k e => by injection e with e; omega)

theorem val_step {w w' : World} {gn b cap : Nat} {n : Nd} {v1 v2 v3 : Value} {x : ByteArray} {o : Obj} (h : NSt w gn n v1 v2 v3) (hown : w'.ownsRow (gn + 1) 9 1 (.slice (some ⟨b, 0, none⟩) (n.vs.length + 1) cap) (n.vs.length + 1) (strs n.vs ++ [.string x])) (hg : (w.alloc o).grownBy w' v2.ownBlock) (hb : v2.ownBlock = some b ∨ b = (w.alloc o).heap.size) :
    NSt (w'.setCell ⟨gn, 2, none⟩ (.slice (some ⟨b, 0, none⟩) (n.vs.length + 1) cap)) gn ⟨n.lf, n.ks, n.vs ++ [x], n.cs⟩ v1 (.slice (some ⟨b, 0, none⟩) (n.vs.length + 1) cap) v3 ∧ Below gn w (w'.setCell ⟨gn, 2, none⟩ (.slice (some ⟨b, 0, none⟩) (n.vs.length + 1) cap)) ∧ w'.cell? ⟨gn, 2, none⟩ = some v2 ∧ w'.frozen? ⟨gn, 2, none⟩ = false := by
  have hl := nst_lt h
  have hba : Below w.heap.size w (w.alloc o) := (Below.refl _ _).alloc (Nat.le_refl _) _
  have hA := nst_below h hba
  have hlt := fun k e => (h.2.2.1.lt k e).1
  have cg : w'.heap[gn]? = _ := (hg.block gn (nst_lt hA) (away (fun k e => by have := hlt k e; omega))).trans hA.1
  refine ⟨nst_val hA hown hg hb, ?_, (cell_at cg 2).1, (cell_at cg 2).2⟩
  have h1 : Below gn w w' := ((Below.refl gn w).alloc (by omega) o).grown hg (by have := nst_lt hA; omega) (fun k e => by have := hlt k e; omega)
  exact h1.grown (grown_setCell w' gn 2 _) (by have := h1.size; omega) (fun k e => by injection e with e; omega)

theorem kid_step {w w' : World} {gn b cap : Nat} {n : Nd} {v1 v2 v3 : Value} {x : Int} {o : Obj} (h : NSt w gn n v1 v2 v3) (hown : w'.ownsRow (gn + 1) 3 1 (.slice (some ⟨b, 0, none⟩) (n.cs.length + 1) cap) (n.cs.length + 1) (ints n.cs ++ [.int .i64 x])) (hg : (w.alloc o).grownBy w' v3.ownBlock) (_hb : v3.ownBlock = some b ∨ b = (w.alloc o).heap.size) :
    NSt (w'.setCell ⟨gn, 3, none⟩ (.slice (some ⟨b, 0, none⟩) (n.cs.length + 1) cap)) gn ⟨n.lf, n.ks, n.vs, n.cs ++ [x]⟩ v1 v2 (.slice (some ⟨b, 0, none⟩) (n.cs.length + 1) cap) ∧ Below gn w (w'.setCell ⟨gn, 3, none⟩ (.slice (some ⟨b, 0, none⟩) (n.cs.length + 1) cap)) ∧ w'.cell? ⟨gn, 3, none⟩ = some v3 ∧ w'.frozen? ⟨gn, 3, none⟩ = false := by
  have hl := nst_lt h
  have hba : Below w.heap.size w (w.alloc o) := (Below.refl _ _).alloc (Nat.le_refl _) _
  have hA := nst_below h hba
  have hlt := fun k e => (h.2.2.2.1.lt k e).1
  have cg : w'.heap[gn]? = _ := (hg.block gn (nst_lt hA) (away (fun k e => by have := hlt k e; omega))).trans hA.1
  refine ⟨nst_kid hA hown hg, ?_, (cell_at cg 3).1, (cell_at cg 3).2⟩
  have h1 : Below gn w w' := ((Below.refl gn w).alloc (by omega) o).grown hg (by have := nst_lt hA; omega) (fun k e => by have := hlt k e; omega)
  exact h1.grown (grown_setCell w' gn 3 _) (by have := h1.size; omega) (fun k e => by injection e with e; omega)

theorem grown_low {a b c : World} {g gn : Nat} (h : a.grownBy b (some g)) (k : Below gn b c) (hle : a.heap.size ≤ gn) : a.grownBy c (some g) :=
  ⟨k.os.trans h.os, k.tape.trans h.tape, k.output.trans h.output, Nat.le_trans h.size k.size, fun j hj hne => by
    rw [k.block j (by omega)]
    exact h.block j hj hne⟩

/-- a node stored into another variable -/
theorem ret_node {w : World} {a B : Nat} {lf : Bool} {v1 v2 v3 c0 c1 c2 c3 : Value} {ks vs : List ByteArray} {cs : List Int} (hq : w.heap[a]? = some (.cells #[c0, c1, c2, c3] 94 (0, 0))) (hn : NodeOwn w B (.agg #[.bool lf, v1, v2, v3]) lf ks vs cs) (hlt : a < B) :
    ((((w.setCell ⟨a, 0, none⟩ (.bool lf)).setCell ⟨a, 1, none⟩ v1).setCell ⟨a, 2, none⟩ v2).setCell ⟨a, 3, none⟩ v3).heap[a]? = some (.cells #[.bool lf, v1, v2, v3] 94 (0, 0)) ∧
    NodeOwn ((((w.setCell ⟨a, 0, none⟩ (.bool lf)).setCell ⟨a, 1, none⟩ v1).setCell ⟨a, 2, none⟩ v2).setCell ⟨a, 3, none⟩ v3) B (.agg #[.bool lf, v1, v2, v3]) lf ks vs cs ∧
    Below a w ((((w.setCell ⟨a, 0, none⟩ (.bool lf)).setCell ⟨a, 1, none⟩ v1).setCell ⟨a, 2, none⟩ v2).setCell ⟨a, 3, none⟩ v3) := by
  have hal : a < w.heap.size := (Array.getElem?_eq_some_iff.1 hq).1
  have g1 := grown_trans (grown_trans (grown_trans (grown_setCell w a 0 (.bool lf)) (grown_setCell _ a 1 v1)) (grown_setCell _ a 2 v2)) (grown_setCell _ a 3 v3)
  refine ⟨heap_setCell_same _ a 3 _ _ _ (heap_setCell_same _ a 2 _ _ _ (heap_setCell_same _ a 1 _ _ _ (heap_setCell_same w a 0 _ _ _ hq))), ?_, (Below.refl a w).grown g1 (by omega) (fun k e => by injection e with e; omega)⟩
  obtain ⟨u1, u2, u3, e, h1, h2, h3, h4⟩ := hn
  obtain ⟨-, rfl, rfl, rfl⟩ := agg4 e
  exact ⟨_, _, _, rfl, h1.kept g1 (Or.inr (fun e => by have := (h1.lt _ e).1; omega)), h2.kept g1 (Or.inr (fun e => by have := (h2.lt _ e).1; omega)), h3.kept g1 (Or.inr (fun e => by have := (h3.lt _ e).1; omega)), h4⟩

theorem nodeOwn_down {w : World} {B B' : Nat} {v : Value} {lf : Bool} {ks vs : List ByteArray} {cs : List Int} (h : NodeOwn w B v lf ks vs cs) (hb : B' ≤ B) : NodeOwn w B' v lf ks vs cs := by
  obtain ⟨u1, u2, u3, e, h1, h2, h3, h4⟩ := h
  exact ⟨u1, u2, u3, e, own_down h1 hb, own_down h2 hb, own_down h3 hb, h4⟩
end Go.Proofs.YtbokjfjdjgopeaaGreatDoor

namespace Go.Proofs.YtbokjfjdjgopeaaGreatDoor
open Go.RowKit

def nodeA (B : Nat) (v : Value) (lf : Bool) (ks vs : List ByteArray) (cs : List Int) : Ast := ⟨nodeBlocks v, fun W => NodeOwn W B v lf ks vs cs, fun W W' h hk => by
  obtain ⟨vk, vv, vc, rfl, h1, h2, h3, h4⟩ := h
  exact ⟨vk, vv, vc, rfl, (rowA B 9 1 vk ks.length (strs ks)).loc W W' h1 (fun k e => hk k ⟨_, _, _, _, rfl, Or.inl e⟩), (rowA B 9 1 vv vs.length (strs vs)).loc W W' h2 (fun k e => hk k ⟨_, _, _, _, rfl, Or.inr (Or.inl e)⟩), (rowA B 3 1 vc cs.length (ints cs)).loc W W' h3 (fun k e => hk k ⟨_, _, _, _, rfl, Or.inr (Or.inr e)⟩), h4⟩⟩

def workA (B : Nat) (v : Value) (k : Wk) : Ast := ⟨workBlocks v, fun W => WorkOwn W B v k, fun W W' h hk => by
  obtain ⟨vp, vl, vu, vg, vf, rfl, h1, h2, h3, h4, h5⟩ := h
  have hi : ∀ {u : Value} {l : List Int}, IntOwn W B u l → (∀ j, u.ownBlock = some j → W'.heap[j]? = W.heap[j]?) → IntOwn W' B u l := fun {u l} h hk => by
    obtain ⟨a, cap, e, hc, h⟩ := h
    refine ⟨a, cap, e, hc, ?_⟩
    rcases h with h | ⟨g, off, cs, e2, hB, hh, hr⟩
    · exact Or.inl h
    · subst e e2
      exact Or.inr ⟨g, off, cs, rfl, hB, (hk g rfl).trans hh, hr⟩
  exact ⟨vp, vl, vu, vg, vf, rfl, (diskA B (.agg #[vp, vl]) k.ps k.ls).loc W W' h1 (fun j e => hk j ⟨_, _, _, _, _, _, rfl, Or.inl e⟩), hi h2 (fun j e => hk j ⟨_, _, _, _, _, _, rfl, Or.inr (Or.inl e)⟩), hi h3 (fun j e => hk j ⟨_, _, _, _, _, _, rfl, Or.inr (Or.inr (Or.inl e))⟩), hi h4 (fun j e => hk j ⟨_, _, _, _, _, _, rfl, Or.inr (Or.inr (Or.inr e))⟩), h5⟩⟩

theorem strs_snocN (l : List ByteArray) (x : ByteArray) : strs l ++ [.string x] = strs (l ++ [x]) := by simp [strs]

theorem strs_lenN (l : List ByteArray) : (strs l).length = l.length := by simp [strs]

theorem row_nS {W : World} {B e n : Nat} {v : Value} {l : List ByteArray} (h : W.ownsRow B e 1 v n (strs l)) : n = l.length := by
  have := h.1
  rw [strs_lenN] at this
  omega

/-- the rows of a node, their lengths as letters -/
abbrev nodeN (B : Nat) (v1 v2 v3 : Value) (ks vs : List ByteArray) (cs : List Int) (nk nv nc : Nat) : List Ast := [rowA B 9 1 v1 nk (strs ks), rowA B 9 1 v2 nv (strs vs), rowA B 3 1 v3 nc (ints cs)]

theorem sep_node {W : World} {B B' : Nat} {v1 v2 v3 : Value} {lf : Bool} {ks vs : List ByteArray} {cs : List Int} {nk nv nc : Nat} (h : Sep B W (nodeN B' v1 v2 v3 ks vs cs nk nv nc)) : NodeOwn W B' (.agg #[.bool lf, v1, v2, v3]) lf ks vs cs := by
  have h1 : W.ownsRow B' 9 1 v1 nk (strs ks) := sep_get h 0 rfl
  have h2 : W.ownsRow B' 9 1 v2 nv (strs vs) := sep_get h 1 rfl
  have h3 : W.ownsRow B' 3 1 v3 nc (ints cs) := sep_get h 2 rfl
  exact ⟨v1, v2, v3, rfl, by rw [← row_nS h1]; exact h1, by rw [← row_nS h2]; exact h2, by rw [← row_n h3]; exact h3, fun j => sep_apart h 0 1 rfl rfl (by decide) j⟩

theorem wpList_str1 {ops : Array Oper} {rest : List Oper} {o : Oper} {a : Act} {Q : Exit → Act → World → Prop} {B : Nat} {W : World} {l : List Ast} (h : Sep B W l) (i : Nat) {B' n : Nat} {v : Value} {xs : List ByteArray} (hi : l[i]? = some (rowA B' 9 1 v n (strs xs))) (hBB : B ≤ B') (hBW : B ≤ W.heap.size) (hBW' : B' ≤ W.heap.size)
    (hgd : o.guard = none) (s x : Operand) (ho : o.op = .call { callee := .builtin .append, args := #[s, x], argTypes := #[22, 22] }) (hs : a.eval s = v) (p : ByteArray) {H : Nat} (hH : H = W.heap.size) (hx : a.eval x = .slice (some ⟨H, 0, none⟩) 1 1) (hn : n ≤ 3000000)
    (hK : ∀ b c w', Sep B w' (l.set i (rowA B' 9 1 (.slice (some ⟨b, 0, none⟩) (n + 1) c) (n + 1) (strs (xs ++ [p])))) → Below B W w' → wpList Tryz.prog ops Q rest (a.put o.dst (.slice (some ⟨b, 0, none⟩) (n + 1) c)) w') :
    wpList Tryz.prog ops Q (o :: rest) a (W.alloc (Obj.cells #[.string p] 9)) := by
  obtain ⟨i0, hinf, hz0, hz1, hz2⟩ := info_parts Tryz.infoStrR
  refine wpList_sep1 h i hi hBB hBW hBW' hgd s x 22 ho i0 (.string ⟨#[]⟩) 16 Tryz.underlying22 hinf hz0 hz1 hz2 rfl (by decide) hs #[.string p] hH hx rfl (fun u hu => by simp at hu; subst hu; rfl) (by unfold maxLen; omega) (by omega) (fun b c w' k1 k2 => hK b c w' ?_ k2)
  rw [← strs_snocN]
  exact k1

theorem step_str1 {ops : Array Oper} {o : Oper} {a : Act} {K : Act → World → Prop} {Q : Exit → Act → World → Prop} {E : Prop} {B : Nat} {W : World} {l : List Ast} (h : Sep B W l) (i : Nat) {B' n : Nat} {v : Value} {xs : List ByteArray} (hi : l[i]? = some (rowA B' 9 1 v n (strs xs))) (hBB : B ≤ B') (hBW : B ≤ W.heap.size) (hBW' : B' ≤ W.heap.size)
    (hgd : o.guard = none) (s x : Operand) (ho : o.op = .call { callee := .builtin .append, args := #[s, x], argTypes := #[22, 22] }) (hs : a.eval s = v) (p : ByteArray) {H : Nat} (hH : H = W.heap.size) (hx : a.eval x = .slice (some ⟨H, 0, none⟩) 1 1) (hn : n ≤ 3000000)
    (hK : ∀ b c w', Sep B w' (l.set i (rowA B' 9 1 (.slice (some ⟨b, 0, none⟩) (n + 1) c) (n + 1) (strs (xs ++ [p])))) → Below B W w' → K (a.put o.dst (.slice (some ⟨b, 0, none⟩) (n + 1) c)) w') :
    if Region.wanted o (yielded ops a.tmps) = true then Oper.wp Tryz.prog o a (W.alloc (Obj.cells #[.string p] 9)) K Q else E := by
  obtain ⟨i0, hinf, hz0, hz1, hz2⟩ := info_parts Tryz.infoStrR
  refine step_sep1 h i hi hBB hBW hBW' hgd s x 22 ho i0 (.string ⟨#[]⟩) 16 Tryz.underlying22 hinf hz0 hz1 hz2 rfl (by decide) hs #[.string p] hH hx rfl (fun u hu => by simp at hu; subst hu; rfl) (by unfold maxLen; omega) (by omega) (fun b c w' k1 k2 => hK b c w' ?_ k2)
  rw [← strs_snocN]
  exact k1

theorem rowat_cellS {w wx : World} {n c b off : Nat} {l : List ByteArray} (h : RowAt w 1 (.slice (some ⟨b, off, none⟩) n c) n (strs l)) (hb : Below w.heap.size w wx) (i : Nat) (hi : i < n) (hn : n = l.length) : wx.cell? ⟨b, off + i, none⟩ = some (.string (l.getD i ⟨#[]⟩)) := by
  obtain ⟨-, a', cap, e, h⟩ := h
  injection e with e1 e2 e3
  subst e1
  rcases h with h0 | ⟨b', off', e, hlt, hc⟩
  · omega
  · injection e with e
    injection e with e e'
    subst e e'
    rw [hb.cell (by exact hlt), hc i (by omega)]
    simp [strs, List.getD_eq_getElem?_getD, show i < l.length by omega]

theorem blk4c {W : World} {g : Nat} {c0 c1 c2 c3 : Value} {t : TypeId} (h : W.heap[g]? = some (Obj.cells #[c0, c1, c2, c3] t)) :
    W.cell? ⟨g, 0, none⟩ = some c0 ∧ W.cell? ⟨g, 1, none⟩ = some c1 ∧ W.cell? ⟨g, 2, none⟩ = some c2 ∧ W.cell? ⟨g, 3, none⟩ = some c3 :=
  ⟨(cell_at h 0).1, (cell_at h 1).1, (cell_at h 2).1, (cell_at h 3).1⟩

theorem blk4z {W : World} {g : Nat} {c0 c1 c2 c3 : Value} {t : TypeId} (h : W.heap[g]? = some (Obj.cells #[c0, c1, c2, c3] t)) :
    W.frozen? ⟨g, 0, none⟩ = false ∧ W.frozen? ⟨g, 1, none⟩ = false ∧ W.frozen? ⟨g, 2, none⟩ = false ∧ W.frozen? ⟨g, 3, none⟩ = false :=
  ⟨(cell_at h 0).2, (cell_at h 1).2, (cell_at h 2).2, (cell_at h 3).2⟩

abbrev set4 (wr : World) (a : Nat) (u0 u1 u2 u3 : Value) : World := (((wr.setCell ⟨a, 0, none⟩ u0).setCell ⟨a, 1, none⟩ u1).setCell ⟨a, 2, none⟩ u2).setCell ⟨a, 3, none⟩ u3

/-- an answer that is a node: it is laid into the answer's variable -/
theorem ret_sepN {w wr : World} {b0 a1 B : Nat} {r0 r1 r2 r3 v1 v2 v3 : Value} {t : TypeId} {lf : Bool} {ks vs : List ByteArray} {cs : List Int} {nk nv nc : Nat} {l : List Ast} (h : Sep b0 wr l) (r : Nat) (hr : l[r]? = some (cellA a1 (Obj.cells #[r0, r1, r2, r3] t))) (hs : (nodeN B v1 v2 v3 ks vs cs nk nv nc).Sublist l) (hB : a1 < B) (hw : w.heap.size ≤ a1) (hb : Below w.heap.size w wr) :
    (set4 wr a1 (.bool lf) v1 v2 v3).heap[a1]? = some (Obj.cells #[.bool lf, v1, v2, v3] t) ∧ NodeOwn (set4 wr a1 (.bool lf) v1 v2 v3) w.heap.size (.agg #[.bool lf, v1, v2, v3]) lf ks vs cs ∧ Below w.heap.size w (set4 wr a1 (.bool lf) v1 v2 v3) := by
  have h1 := sep_get h r hr
  have hk : Kept wr (set4 wr a1 (.bool lf) v1 v2 v3) (fun k => k = a1) := kept_trans (kept_trans (kept_trans (kept_setCell _ _ _ _) (kept_setCell _ _ _ _) (fun _ _ h => h)) (kept_setCell _ _ _ _) (fun _ _ h => h)) (kept_setCell _ _ _ _) (fun _ _ h => h)
  have hN := sep_take h _ hs
  have hN2 : Sep b0 (set4 wr a1 (.bool lf) v1 v2 v3) (nodeN B v1 v2 v3 ks vs cs nk nv nc) := sep_kept hN hk (fun A hA k hF e => by
    have : B ≤ k := by
      rcases List.mem_cons.1 hA with rfl | hA
      · exact ((sep_get hN 0 rfl : wr.ownsRow B 9 1 v1 nk (strs ks)).lt k hF).1
      rcases List.mem_cons.1 hA with rfl | hA
      · exact ((sep_get hN 1 rfl : wr.ownsRow B 9 1 v2 nv (strs vs)).lt k hF).1
      rcases List.mem_cons.1 hA with rfl | hA
      · exact ((sep_get hN 2 rfl : wr.ownsRow B 3 1 v3 nc (ints cs)).lt k hF).1
      · cases hA
    omega)
  refine ⟨heap_setCell_same _ a1 3 _ _ _ (heap_setCell_same _ a1 2 _ _ _ (heap_setCell_same _ a1 1 _ _ _ (heap_setCell_same wr a1 0 _ _ _ h1))), ?_, hb.trans (below_of_kept hk hb.size (fun k e => by omega))⟩
  obtain ⟨x1, x2, x3, e, d1, d2, d3, d4⟩ := sep_node (lf := lf) hN2
  exact ⟨x1, x2, x3, e, own_down d1 (by omega), own_down d2 (by omega), own_down d3 (by omega), d4⟩

theorem node_formS {w : World} {B : Nat} {v : Value} {lf : Bool} {ks vs : List ByteArray} {cs : List Int} (h : NodeOwn w B v lf ks vs cs) : ∃ a1 c1 a2 c2 a3 c3, v = .agg #[.bool lf, .slice a1 ks.length c1, .slice a2 vs.length c2, .slice a3 cs.length c3] := by
  obtain ⟨v1, v2, v3, rfl, h1, h2, h3, -⟩ := h
  obtain ⟨a1, c1, rfl⟩ := own_slice h1
  obtain ⟨a2, c2, rfl⟩ := own_slice h2
  obtain ⟨a3, c3, rfl⟩ := own_slice h3
  exact ⟨a1, c1, a2, c2, a3, c3, rfl⟩

theorem nodeOwn_downP {w : World} {B B' : Nat} {v : Value} {lf : Bool} {ks vs : List ByteArray} {cs : List Int} (h : NodeOwn w B v lf ks vs cs) (hB : B' ≤ B) : NodeOwn w B' v lf ks vs cs := by
  obtain ⟨v1, v2, v3, e, h1, h2, h3, h4⟩ := h
  exact ⟨v1, v2, v3, e, own_down h1 hB, own_down h2 hB, own_down h3 hB, h4⟩

theorem sep_swap {B : Nat} {W : World} {A A' : Ast} {l : List Ast} (h : Sep B W (A :: A' :: l)) : Sep B W (A' :: A :: l) := sep_perm h (List.Perm.swap _ _ _)

/-- a work is laid into a variable -/
theorem sep_store6 {B : Nat} {W : World} {l : List Ast} (h : Sep B W l) (i : Nat) {g : Nat} {r0 r1 r2 r3 r4 r5 : Value} {T : TypeId} (hi : l[i]? = some (cellA g (Obj.cells #[r0, r1, r2, r3, r4, r5] T))) (u0 u1 u2 u3 u4 u5 : Value) : Sep B (set6 W g u0 u1 u2 u3 u4 u5) (l.set i (cellA g (Obj.cells #[u0, u1, u2, u3, u4, u5] T))) := by
  have h1 : W.heap[g]? = some (Obj.cells #[r0, r1, r2, r3, r4, r5] T) := sep_get h i hi
  have h2 := sep_lt h i hi g rfl
  refine sep_set h i hi (set6_kept W g u0 u1 u2 u3 u4 u5) _ (set6_blk h1) (fun k hk => ⟨Or.inl hk, ?_⟩) (Nat.le_of_lt (Nat.lt_of_le_of_lt h2.1 h2.2))
  have hk : k = g := hk
  subst hk
  simpa using h2.2

/-- a node is laid into a variable -/
theorem sep_store4 {B : Nat} {W : World} {l : List Ast} (h : Sep B W l) (i : Nat) {g : Nat} {r0 r1 r2 r3 : Value} {T : TypeId} (hi : l[i]? = some (cellA g (Obj.cells #[r0, r1, r2, r3] T))) (u0 u1 u2 u3 : Value) : Sep B (set4 W g u0 u1 u2 u3) (l.set i (cellA g (Obj.cells #[u0, u1, u2, u3] T))) := by
  have h1 : W.heap[g]? = some (Obj.cells #[r0, r1, r2, r3] T) := sep_get h i hi
  have h2 := sep_lt h i hi g rfl
  have hk : Kept W (set4 W g u0 u1 u2 u3) (fun k => k = g) := kept_trans (kept_trans (kept_trans (kept_setCell _ _ _ _) (kept_setCell _ _ _ _) (fun _ _ h => h)) (kept_setCell _ _ _ _) (fun _ _ h => h)) (kept_setCell _ _ _ _) (fun _ _ h => h)
  refine sep_set h i hi hk _ (heap_setCell_same _ g 3 _ _ _ (heap_setCell_same _ g 2 _ _ _ (heap_setCell_same _ g 1 _ _ _ (heap_setCell_same W g 0 _ _ _ h1)))) (fun k hk => ⟨Or.inl hk, ?_⟩) (Nat.le_of_lt (Nat.lt_of_le_of_lt h2.1 h2.2))
  have hk : k = g := hk
  subst hk
  simpa using h2.2

theorem blk6z {W : World} {g : Nat} {c0 c1 c2 c3 c4 c5 : Value} {t : TypeId} (h : W.heap[g]? = some (Obj.cells #[c0, c1, c2, c3, c4, c5] t)) :
    W.frozen? ⟨g, 0, none⟩ = false ∧ W.frozen? ⟨g, 1, none⟩ = false ∧ W.frozen? ⟨g, 2, none⟩ = false ∧ W.frozen? ⟨g, 3, none⟩ = false ∧ W.frozen? ⟨g, 4, none⟩ = false ∧ W.frozen? ⟨g, 5, none⟩ = false :=
  ⟨(cell_at h 0).2, (cell_at h 1).2, (cell_at h 2).2, (cell_at h 3).2, (cell_at h 4).2, (cell_at h 5).2⟩

/-- the first m of a row, and what is behind them -/
theorem rowat_take {w : World} {a : Option Addr} {n c c' : Nat} {xs : List Value} (h : RowAt w 1 (.slice a n c) n xs) (m : Nat) (hm : m ≤ n) : RowAt w 1 (.slice a m c') m (xs.take m) := by
  obtain ⟨hl, a', cap, e, h⟩ := h
  injection e with e1
  subst e1
  refine ⟨by rw [List.length_take]; omega, _, _, rfl, ?_⟩
  rcases h with h0 | ⟨b, off, rfl, hlt, hc⟩
  · exact Or.inl (by omega)
  · exact Or.inr ⟨b, off, rfl, hlt, fun j hj => by rw [hc j (by omega), List.getElem?_take, if_pos (by omega)]⟩

theorem rowat_drop {w : World} {b off n c c' : Nat} {xs : List Value} (h : RowAt w 1 (.slice (some ⟨b, off, none⟩) n c) n xs) (m : Nat) (hm : m ≤ n) : RowAt w 1 (.slice (some ⟨b, off + m, none⟩) (n - m) c') (n - m) (xs.drop m) := by
  obtain ⟨hl, a', cap, e, h⟩ := h
  injection e with e1
  subst e1
  refine ⟨by rw [List.length_drop]; omega, _, _, rfl, ?_⟩
  rcases h with h0 | ⟨b', off', e, hlt, hc⟩
  · exact Or.inl (by omega)
  · injection e with e
    injection e with e e'
    subst e e'
    exact Or.inr ⟨b, off + m, rfl, hlt, fun j hj => by rw [Nat.add_assoc, hc (m + j) (by omega), List.getElem?_drop]⟩

theorem strs_take (l : List ByteArray) (m : Nat) : (strs l).take m = strs (l.take m) := by simp [strs, List.map_take]
theorem strs_drop (l : List ByteArray) (m : Nat) : (strs l).drop m = strs (l.drop m) := by simp [strs, List.map_drop]
theorem ints_take (l : List Int) (m : Nat) : (ints l).take m = ints (l.take m) := by simp [ints, List.map_take]
theorem ints_drop (l : List Int) (m : Nat) : (ints l).drop m = ints (l.drop m) := by simp [ints, List.map_drop]
end Go.Proofs.YtbokjfjdjgopeaaGreatDoor

namespace Go.Proofs.YtbokjfjdjgopeaaGreatDoor
open Go.RowKit

theorem run_append_sep {P : Program} (w : World) (t ty : TypeId) (base : Nat) (e : TypeId) (i : TypeInfo) (z : Value) (size bytes : Nat) (ht : P.underlying t = some (.slice e)) (hi : P.info? e = some i) (hz : i.zero = some z)
    (hsize : i.size = size) (hby : i.bytes = bytes) (hzs : z.cells.size = size) (hsz : 0 < size)
    (v : Value) (n : Nat) (xs : List Value) (hown : w.ownsRow base e size v n xs)
    (u : Value) (m : Nat) (ys : List Value) (hrow : RowAt w size u m ys) (h1 : ∀ y ∈ ys, y.oneCell' = true)
    (h63 : n + m ≤ maxLen) (hbytes : (n + m) * bytes ≤ 140737488355328) (hbase : base ≤ w.heap.size) :
    ∃ x c w', (Builtin.append_ #[t, t] ty #[v, u]).run P w = .ok (.slice x (n + m) c) w' ∧ w'.ownsRow base e size (.slice x (n + m) c) (n + m) (xs ++ ys) ∧ w.grownBy w' v.ownBlock ∧ ∀ j, (Value.slice x (n + m) c).ownBlock = some j → v.ownBlock = some j ∨ j = w.heap.size := by
  have key : ∀ (v' : Value) (w' : World), w'.ownsRow base e size v' (n + m) (xs ++ ys) → ∃ x c, v' = Value.slice x (n + m) c := fun v' w' h => by
    obtain ⟨-, a, cap, ee, -⟩ := row_of_own h
    exact ⟨a, cap, ee⟩
  obtain ⟨hl, a, cap, rfl, h2⟩ := hrow
  rcases a with _ | ad
  · rcases h2 with h0 | ⟨b, off, e, _⟩
    · subst h0
      have hy : ys = [] := List.length_eq_zero_iff.1 (by rw [hl]; omega)
      subst hy
      obtain ⟨x, c, hx⟩ := key v w (by rw [List.append_nil]; exact hown)
      refine ⟨x, c, w, ?_, ?_, ⟨rfl, rfl, rfl, Nat.le_refl _, fun _ _ _ => rfl⟩, fun j hj => Or.inl (by rw [hx]; exact hj)⟩
      · rw [← hx]
        rcases hown.2 with ⟨rfl, rfl⟩ | ⟨g, cap, cur, rfl, _, _, hnc, _⟩
        · simp [Builtin.append_, run_underlying ht, sizeOf, typeInfo, hi, Builtin.lenOf, Builtin.firstCells]
        · simp [Builtin.append_, run_underlying ht, sizeOf, typeInfo, hi, Builtin.lenOf, Builtin.firstCells, hnc, storeCells]
      · rw [← hx, List.append_nil]; exact hown
    · cases e
  · have hnews : ∀ j y, ys[j]? = some y → w.cell? (ad.add j) = some y := fun j y hj => by
      have hjl : j < m * size := by rw [← hl]; exact (List.getElem?_eq_some_iff.1 hj).1
      rcases h2 with h0 | ⟨b, off, e, hlt, hc⟩
      · subst h0; simp at hjl
      · injection e with e
        subst e
        rw [Addr.add_lit, hc j hjl, hj]
    obtain ⟨v', w', hr, g2, g3, g4, g5⟩ := run_append_own_at (P := P) w base t ty e i z size bytes ht hi hz hsize hby hzs hsz v n xs hown ad m cap ys hl hnews h1 h63 hbytes hbase
    obtain ⟨x, c, rfl⟩ := key v' w' g2
    refine ⟨x, c, w', hr, g2, g3, fun j hj => ?_⟩
    rcases g5 with g5 | g5
    · exact Or.inl (by rw [← g5]; exact hj)
    · rw [g5] at hj
      injection hj with hj
      exact Or.inr hj.symm

/-- a row that has grown by another -/
theorem row_sep {B : Nat} {W W' : World} {l : List Ast} (h : Sep B W l) (i : Nat) {B' e sz n n' c : Nat} {x : Option Addr} {v : Value} {xs xs' : List Value} (hi : l[i]? = some (rowA B' e sz v n xs)) (hBB : B ≤ B') (hBW : B ≤ W.heap.size) (hgr : W.grownBy W' v.ownBlock) (hown : W'.ownsRow B' e sz (.slice x n' c) n' xs') (hb : ∀ j, (Value.slice x n' c).ownBlock = some j → v.ownBlock = some j ∨ j = W.heap.size) :
    Sep B W' (l.set i (rowA B' e sz (.slice x n' c) n' xs')) ∧ Below B W W' := by
  refine ⟨sep_set h i hi ⟨hgr.os, hgr.tape, hgr.output, hgr.size, fun j hj hn => hgr.block j hj (fun e => hn e.symm)⟩ _ hown (fun k hk => ⟨?_, (hown.lt k hk).2⟩) hBW, grown_below (Below.refl _ _) hgr (sep_get h i hi) hBB hBW⟩
  rcases hb k hk with h | h
  · exact Or.inl h
  · exact Or.inr (by omega)

theorem wpList_intR {ops : Array Oper} {rest : List Oper} {o : Oper} {a : Act} {Q : Exit → Act → World → Prop} {B : Nat} {W : World} {l : List Ast} (h : Sep B W l) (i : Nat) {B' n : Nat} {v : Value} {xs : List Int} (hi : l[i]? = some (rowA B' 3 1 v n (ints xs))) (hBB : B ≤ B') (hBW : B ≤ W.heap.size) (hBW' : B' ≤ W.heap.size)
    (hgd : o.guard = none) (s x : Operand) (ho : o.op = .call { callee := .builtin .append, args := #[s, x], argTypes := #[30, 30] }) (hs : a.eval s = v) (u : Value) (m : Nat) (ys : List Int) (hx : a.eval x = u) (hrow : RowAt W 1 u m (ints ys)) (hn : n + m ≤ 3000000)
    (hK : ∀ y c w', Sep B w' (l.set i (rowA B' 3 1 (.slice y (n + m) c) (n + m) (ints (xs ++ ys)))) → Below B W w' → wpList Tryz.prog ops Q rest (a.put o.dst (.slice y (n + m) c)) w') :
    wpList Tryz.prog ops Q (o :: rest) a W :=
  wpList_plain hgd fun _ hK' => by
    obtain ⟨i0, hinf, hz0, hz1, hz2⟩ := info_parts Tryz.infoIntC
    obtain ⟨y, c, w', hr, h2, h3, h4⟩ := run_append_sep (P := Tryz.prog) W 30 o.type B' 3 i0 (.int .i64 0) 1 8 Tryz.underlying30 hinf hz0 hz1 hz2 rfl (by decide) v n (ints xs) (sep_get h i hi) u m (ints ys) hrow (ints_one ys) (by unfold maxLen; omega) (by omega) hBW'
    obtain ⟨k1, k2⟩ := row_sep h i hi hBB hBW h3 h2 h4
    unfold Oper.wp execOp
    simp only [ho, resolve, invoke, builtin, Sem.run_bind, Sem.run_pure, Result.andThen_ok, List.map_toArray, List.map_cons, List.map_nil, hs, hx, hr]
    refine hK' _ _ (hK y c w' ?_ k2)
    rw [show ints (xs ++ ys) = ints xs ++ ints ys from by simp [ints]]
    exact k1

theorem step_strR {ops : Array Oper} {o : Oper} {a : Act} {K : Act → World → Prop} {Q : Exit → Act → World → Prop} {E : Prop} {B : Nat} {W : World} {l : List Ast} (h : Sep B W l) (i : Nat) {B' n : Nat} {v : Value} {xs : List ByteArray} (hi : l[i]? = some (rowA B' 9 1 v n (strs xs))) (hBB : B ≤ B') (hBW : B ≤ W.heap.size) (hBW' : B' ≤ W.heap.size)
    (hgd : o.guard = none) (s x : Operand) (ho : o.op = .call { callee := .builtin .append, args := #[s, x], argTypes := #[22, 22] }) (hs : a.eval s = v) (u : Value) (m : Nat) (ys : List ByteArray) (hx : a.eval x = u) (hrow : RowAt W 1 u m (strs ys)) (hn : n + m ≤ 3000000)
    (hK : ∀ y c w', Sep B w' (l.set i (rowA B' 9 1 (.slice y (n + m) c) (n + m) (strs (xs ++ ys)))) → Below B W w' → K (a.put o.dst (.slice y (n + m) c)) w') :
    if Region.wanted o (yielded ops a.tmps) = true then Oper.wp Tryz.prog o a W K Q else E := by
  have hw : Region.wanted o (yielded ops a.tmps) = true := by simp [Region.wanted, hgd]
  rw [if_pos hw]
  obtain ⟨i0, hinf, hz0, hz1, hz2⟩ := info_parts Tryz.infoStrR
  obtain ⟨y, c, w', hr, h2, h3, h4⟩ := run_append_sep (P := Tryz.prog) W 22 o.type B' 9 i0 (.string ⟨#[]⟩) 1 16 Tryz.underlying22 hinf hz0 hz1 hz2 rfl (by decide) v n (strs xs) (sep_get h i hi) u m (strs ys) hrow (strs_one ys) (by unfold maxLen; omega) (by omega) hBW'
  obtain ⟨k1, k2⟩ := row_sep h i hi hBB hBW h3 h2 h4
  unfold Oper.wp execOp
  simp only [ho, resolve, invoke, builtin, Sem.run_bind, Sem.run_pure, Result.andThen_ok, List.map_toArray, List.map_cons, List.map_nil, hs, hx, hr]
  refine hK y c w' ?_ k2
  rw [show strs (xs ++ ys) = strs xs ++ strs ys from by simp [strs]]
  exact k1

/-- a row that is nil stands in no block -/
theorem sep_none {B : Nat} {W : World} {l : List Ast} (h : Sep B W l) (B' e : Nat) : Sep B W (rowA B' e 1 (.slice none 0 0) 0 [] :: l) :=
  sep_cons.2 ⟨⟨⟨rfl, Or.inl ⟨rfl, rfl⟩⟩, fun j hj => by cases hj⟩, fun _ _ j hj => (by cases hj), h⟩

/-- keys and kids in rows of their own are a node -/
theorem sep_fuse {B : Nat} {W : World} {l : List Ast} {v1 v3 : Value} {ks : List ByteArray} {cs : List Int} {n1 n3 : Nat} (h : Sep B W (rowA B 9 1 v1 n1 (strs ks) :: rowA B 3 1 v3 n3 (ints cs) :: l)) : Sep B W (nodeA B (.agg #[.bool false, v1, .slice none 0 0, v3]) false ks [] cs :: l) := by
  have h1 : W.ownsRow B 9 1 v1 n1 (strs ks) := sep_get h 0 rfl
  have h3 : W.ownsRow B 3 1 v3 n3 (ints cs) := sep_get h 1 rfl
  obtain ⟨q1, q2, q3⟩ := sep_cons.1 h
  obtain ⟨r1, r2, r3⟩ := sep_cons.1 q3
  have hF : ∀ k, nodeBlocks (.agg #[.bool false, v1, .slice none 0 0, v3]) k → v1.ownBlock = some k ∨ v3.ownBlock = some k := fun k hk => by
    obtain ⟨b, vk, vv, vc, e, hk⟩ := hk
    obtain ⟨-, rfl, rfl, rfl⟩ := agg4 e
    rcases hk with hk | hk | hk
    · exact Or.inl hk
    · cases hk
    · exact Or.inr hk
  refine sep_cons.2 ⟨⟨⟨v1, _, v3, rfl, by rw [← row_nS h1]; exact h1, ⟨rfl, Or.inl ⟨rfl, rfl⟩⟩, by rw [← row_n h3]; exact h3, fun k _ hk => (by cases hk)⟩, fun k hk => ?_⟩, fun A hA k hk => ?_, r3⟩
  · rcases hF k hk with hk | hk
    · exact q1.2 k hk
    · exact r1.2 k hk
  · rcases hF k hk with hk | hk
    · exact q2 A (List.mem_cons_of_mem _ hA) k hk
    · exact r2 A hA k hk

/-- a row behind its first one, as a slice from 1 on tells it -/
theorem rowat_one {w : World} {b n c : Nat} {xs : List Value} (h : RowAt w 1 (.slice (some ⟨b, 0, none⟩) n c) n xs) (hn : 1 ≤ n) (hc : n ≤ c) : RowAt w 1 (.slice (if c = 1 then some ⟨b, 0, none⟩ else some ⟨b, 1, none⟩) (n - 1) (c - 1)) (n - 1) (xs.drop 1) := by
  by_cases h1 : c = 1
  · rw [if_pos h1]
    obtain ⟨hl, -⟩ := h
    exact ⟨by rw [List.length_drop]; omega, _, _, rfl, Or.inl (by omega)⟩
  · rw [if_neg h1]
    exact rowat_drop h 1 hn
end Go.Proofs.YtbokjfjdjgopeaaGreatDoor

namespace Go.Proofs.YtbokjfjdjgopeaaGreatDoor
open Go.RowKit

def giveK (k : Wk) : Wk := match k.us with
  | x :: t => { k with us := t, fs := k.fs ++ [x] }
  | [] => if k.next < (k.ps.length : Int) then { k with next := wrap64 (k.next + 1), fs := k.fs ++ [k.next] } else k

def giveP (k : Wk) : Int := match k.us with
  | x :: _ => x
  | [] => if k.next < (k.ps.length : Int) then k.next else 0

theorem give_cons {k : Wk} {x : Int} {t : List Int} (h : k.us = x :: t) : giveK k = { k with us := t, fs := k.fs ++ [x] } ∧ giveP k = x := by
  unfold giveK giveP
  rw [h]
  exact ⟨rfl, rfl⟩

theorem give_next {k : Wk} (h : k.us = []) (hn : k.next < (k.ps.length : Int)) : giveK k = { k with next := wrap64 (k.next + 1), fs := k.fs ++ [k.next] } ∧ giveP k = k.next := by
  unfold giveK giveP
  rw [h]
  simp [hn]

theorem give_none {k : Wk} (h : k.us = []) (hn : ¬ k.next < (k.ps.length : Int)) : giveK k = k ∧ giveP k = 0 := by
  unfold giveK giveP
  rw [h]
  simp [hn]

theorem give_small {k : Wk} (h : k.bulk ≤ 1048576) : (giveK k).small := by
  obtain ⟨h1, h2, h3, h4, h5, h6, h7⟩ := bulkW_in h
  unfold Wk.bulk at h
  cases hu : k.us with
  | cons x t =>
    rw [(give_cons hu).1]
    rw [hu] at h h5
    simp at h h5
    exact ⟨h1, h2, h3, h4, by simp; omega, h6, by simp; omega⟩
  | nil =>
    by_cases hn : k.next < (k.ps.length : Int)
    · rw [(give_next hu hn).1]
      exact ⟨h1, h2, h3, h4, by simp [hu], h6, by simp; omega⟩
    · rw [(give_none hu hn).1]
      exact ⟨h1, h2, h3, h4, h5, h6, h7⟩

theorem small_of_bulk {k : Wk} (h : k.bulk ≤ 1048576) : k.small := bulkW_in h

/-- the work with its rows as they lie in a variable -/
theorem nw_rows {w : World} {B : Nat} {u0 u1 u2 u3 u4 u5 : Value} {k : Wk} (h : WorkNw w B (.agg #[u0, u1, u2, u3, u4, u5]) k) : DiskOwn w B (.agg #[u0, u1]) k.ps k.ls ∧ u2 = .int .i64 k.next ∧ w.ownsRow B 3 1 u3 k.us.length (ints k.us) ∧ w.ownsRow B 3 1 u4 k.gs.length (ints k.gs) ∧ w.ownsRow B 3 1 u5 k.fs.length (ints k.fs) ∧
    (∀ j, u3.ownBlock = some j → u4.ownBlock ≠ some j) ∧ (∀ j, u3.ownBlock = some j → u5.ownBlock ≠ some j) ∧ (∀ j, u4.ownBlock = some j → u5.ownBlock ≠ some j) := by
  obtain ⟨vp, vl, vu, vg, vf, e, h1, h2, h3, h4, h5⟩ := h
  obtain ⟨rfl, rfl, rfl, rfl, rfl, rfl⟩ := agg6 e
  exact ⟨h1, rfl, h2, h3, h4, h5⟩

theorem nw_form {w : World} {B : Nat} {v : Value} {k : Wk} (h : WorkNw w B v k) : ∃ a1 c1 a2 c2 a3 c3 a4 c4 a5 c5, v = .agg #[.slice a1 k.ps.length c1, .slice a2 k.ls.length c2, .int .i64 k.next, .slice a3 k.us.length c3, .slice a4 k.gs.length c4, .slice a5 k.fs.length c5] := work_form (nw_own h)

theorem staysW {w w' : World} {a : Nat} {o : Obj} (h : w.heap[a]? = some o) (hb : Below w.heap.size w w') : w'.heap[a]? = some o := (hb.block _ (Array.getElem?_eq_some_iff.1 h).1).trans h

theorem one_newC (w : World) (n : Nat) (hn : n = w.heap.size) (x : Value) (T : TypeId) : ∀ (j : Nat) (u : Value), [x][j]? = some u → (w.alloc (Obj.cells #[x] T)).cell? ((⟨n, 0, none⟩ : Addr).add j) = some u := by
  subst hn
  intro j u hj
  obtain rfl : j = 0 := by have := (List.getElem?_eq_some_iff.1 hj).1; simp at this; omega
  simp at hj
  subst hj
  simp [Addr.add]

theorem stays_grown {w w' : World} {a : Nat} {o : Obj} {r : Option Nat} (h : w.heap[a]? = some o) (hg : w.grownBy w' r) (hr : r ≠ some a) : w'.heap[a]? = some o := (hg.block _ (Array.getElem?_eq_some_iff.1 h).1 (fun e => hr e.symm)).trans h

/-- a page that goes behind the fresh ones of a work in a variable -/
theorem give_app {w w1 w5 : World} {k : Wk} {a0 g B b d nf c5 : Nat} {a5 : Option Addr} {u0 u1 u3 u3' u4 : Value} {us' : List Int} {n' : Int} {p : Int} {rs : Obj} {t : TypeId} (hnf : nf = k.fs.length)
    (hnw : WorkNw w1 B (.agg #[u0, u1, .int .i64 k.next, u3, u4, .slice a5 nf c5]) k) (hu : IntOwn w1 B u3' us') (hub : ∀ j, u3'.ownBlock = some j → u3.ownBlock = some j) (hg : g = w1.heap.size) (hres : w1.heap[a0 + 1]? = some rs) (hB : a0 + 2 ≤ B) (ha : a0 = w.heap.size) (_hBg : B ≤ g) (hlow : Below w.heap.size w w1)
    (hown : w5.ownsRow B 3 1 (.slice (some ⟨b, 0, none⟩) (nf + 1) d) (nf + 1) (ints k.fs ++ [.int .i64 p]))
    (hgr : ((w1.alloc (Obj.cells #[u0, u1, .int .i64 n', u3', u4, .slice a5 nf c5] t)).alloc (Obj.cells #[.int .i64 p] 3)).grownBy w5 (Value.slice a5 nf c5).ownBlock)
    (hb : (Value.slice a5 nf c5).ownBlock = some b ∨ b = g + 2) :
    w5.heap[g]? = some (Obj.cells #[u0, u1, .int .i64 n', u3', u4, .slice a5 nf c5] t) ∧
    (w5.setCell ⟨g, 5, none⟩ (.slice (some ⟨b, 0, none⟩) (nf + 1) d)).heap[g]? = some (Obj.cells #[u0, u1, .int .i64 n', u3', u4, .slice (some ⟨b, 0, none⟩) (nf + 1) d] t) ∧
    (w5.setCell ⟨g, 5, none⟩ (.slice (some ⟨b, 0, none⟩) (nf + 1) d)).heap[a0 + 1]? = some rs ∧
    WorkOwn (w5.setCell ⟨g, 5, none⟩ (.slice (some ⟨b, 0, none⟩) (nf + 1) d)) B (.agg #[u0, u1, .int .i64 n', u3', u4, .slice (some ⟨b, 0, none⟩) (nf + 1) d]) { k with next := n', us := us', fs := k.fs ++ [p] } ∧
    Below w.heap.size w (w5.setCell ⟨g, 5, none⟩ (.slice (some ⟨b, 0, none⟩) (nf + 1) d)) ∧
    ∀ j o, w1.heap[j]? = some o → j < B → (w5.setCell ⟨g, 5, none⟩ (.slice (some ⟨b, 0, none⟩) (nf + 1) d)).heap[j]? = some o := by
  subst hnf
  obtain ⟨hd, -, h3, h4, h5, n1, n2, n3⟩ := nw_rows hnw
  have l5 : ∀ j, (Value.slice a5 k.fs.length c5).ownBlock = some j → B ≤ j ∧ j < g := fun j e => by rw [hg]; exact h5.lt j e
  have l4 : ∀ j, u4.ownBlock = some j → B ≤ j ∧ j < g := fun j e => by rw [hg]; exact h4.lt j e
  have l3 : ∀ j, u3'.ownBlock = some j → B ≤ j ∧ j < g := fun j e => by rw [hg]; exact h3.lt j (hub j e)
  have ld := diskOwn_lt hd
  have hlt1 : a0 + 1 < w1.heap.size := (Array.getElem?_eq_some_iff.1 hres).1
  have hb1 : Below w1.heap.size w1 ((w1.alloc (Obj.cells #[u0, u1, .int .i64 n', u3', u4, .slice a5 k.fs.length c5] t)).alloc (Obj.cells #[.int .i64 p] 3)) := ((Below.refl _ _).alloc (Nat.le_refl _) _).alloc (by simp) _
  obtain ⟨q0, q1, hs⟩ := two_allocs w1 (Obj.cells #[u0, u1, .int .i64 n', u3', u4, .slice a5 k.fs.length c5] t) (Obj.cells #[.int .i64 p] 3)
  rw [← hg] at q0 hs
  have hk : Kept w1 w5 (fun j => (Value.slice a5 k.fs.length c5).ownBlock = some j) := ⟨hgr.os.trans hb1.os, hgr.tape.trans hb1.tape, hgr.output.trans hb1.output, Nat.le_trans hb1.size hgr.size, fun j hj hn => (hgr.block j (Nat.lt_of_lt_of_le hj hb1.size) (fun e => hn e.symm)).trans (hb1.block j hj)⟩
  have e5 : w5.heap[g]? = some (Obj.cells #[u0, u1, .int .i64 n', u3', u4, .slice a5 k.fs.length c5] t) := stays_grown q0 hgr (fun e => by have := l5 g e; omega)
  have hk6 : Kept w5 (w5.setCell ⟨g, 5, none⟩ (.slice (some ⟨b, 0, none⟩) (k.fs.length + 1) d)) (fun j => j = g) := kept_setCell _ _ _ _
  have hkk : Kept w1 (w5.setCell ⟨g, 5, none⟩ (.slice (some ⟨b, 0, none⟩) (k.fs.length + 1) d)) (fun j => (Value.slice a5 k.fs.length c5).ownBlock = some j) := kept_trans hk hk6 (fun j hj e => by omega)
  refine ⟨e5, heap_setCell_same w5 g 5 _ _ _ e5, (hkk.2.2.2.2 _ hlt1 (fun e => by have := l5 _ e; omega)).trans hres, ⟨u0, u1, u3', u4, _, rfl, ?_, ?_, ?_, ?_, ?_, ?_, ?_⟩, hlow.trans (below_of_kept hkk hlow.size (fun j e => by have := l5 j e; omega)), fun j o hj hlt => (hkk.2.2.2.2 j (Array.getElem?_eq_some_iff.1 hj).1 (fun e => by have := l5 j e; omega)).trans hj⟩
  · exact diskOwn_kept hd hkk (fun j e h => disk_int_apart hd (intOwn_of_own h5) j e h)
  · exact intOwn_kept hu hkk (fun j e h => n2 j (hub j e) h)
  · exact intOwn_kept (intOwn_of_own h4) hkk (fun j e h => n3 j e h)
  · refine intOwn_kept (intOwn_of_own (l := k.fs ++ [p]) ?_) hk6 (fun j e h => ?_)
    · have e1 : (k.fs ++ [p]).length = k.fs.length + 1 := by simp
      have e2 : ints (k.fs ++ [p]) = ints k.fs ++ [.int .i64 p] := by simp [ints]
      rw [e1, e2]
      exact hown
    · injection e with e
      have e : b = j := e
      rcases hb with hb | hb
      · have := l5 b hb; omega
      · omega
  · exact fun j e1 e2 => n1 j (hub j e1) e2
  · intro j e1 e2
    injection e2 with e2
    have e2 : b = j := e2
    rcases hb with hb | hb
    · exact n2 j (hub j e1) (by rw [← e2]; exact hb)
    · have := l3 j e1; omega
  · intro j e1 e2
    injection e2 with e2
    have e2 : b = j := e2
    rcases hb with hb | hb
    · exact n3 j e1 (by rw [← e2]; exact hb)
    · have := l4 j e1; omega
end Go.Proofs.YtbokjfjdjgopeaaGreatDoor

namespace Go.Proofs.YtbokjfjdjgopeaaGreatDoor
open Go.RowKit

theorem disk_rows {w : World} {B : Nat} {u0 u1 : Value} {ps : List ByteArray} {ls : List (Int × ByteArray)} (h : DiskOwn w B (.agg #[u0, u1]) ps ls) : w.ownsRow B 9 1 u0 ps.length (strs ps) ∧ w.ownsRow B 126 2 u1 ls.length (puts ls) := by
  obtain ⟨vp, vl, e, h1, h2⟩ := h
  injection e with e
  injection e with e
  injection e with e1 e
  injection e with e2
  subst e1 e2
  exact ⟨h1, h2⟩

/-- a disk is laid into the variable of the answer -/
theorem ret_disk {w wr : World} {a1 B : Nat} {r0 r1 u0 u1 : Value} {t : TypeId} {ps : List ByteArray} {ls : List (Int × ByteArray)} (hres : wr.heap[a1]? = some (Obj.cells #[r0, r1] t)) (hd : DiskOwn wr B (.agg #[u0, u1]) ps ls) (hB : a1 < B) (hw : w.heap.size ≤ a1) (hb : Below w.heap.size w wr) :
    ((wr.setCell ⟨a1, 0, none⟩ u0).setCell ⟨a1, 1, none⟩ u1).cell? ⟨a1, 0, none⟩ = some u0 ∧ ((wr.setCell ⟨a1, 0, none⟩ u0).setCell ⟨a1, 1, none⟩ u1).cell? ⟨a1, 1, none⟩ = some u1 ∧
    DiskOwn ((wr.setCell ⟨a1, 0, none⟩ u0).setCell ⟨a1, 1, none⟩ u1) w.heap.size (.agg #[u0, u1]) ps ls ∧ Below w.heap.size w ((wr.setCell ⟨a1, 0, none⟩ u0).setCell ⟨a1, 1, none⟩ u1) := by
  have y1 : (wr.setCell ⟨a1, 0, none⟩ u0).heap[a1]? = some (Obj.cells #[u0, r1] t) := heap_setCell_same _ a1 0 _ _ _ hres
  have y2 : ((wr.setCell ⟨a1, 0, none⟩ u0).setCell ⟨a1, 1, none⟩ u1).heap[a1]? = some (Obj.cells #[u0, u1] t) := heap_setCell_same _ a1 1 _ _ _ y1
  have k2 : Kept wr ((wr.setCell ⟨a1, 0, none⟩ u0).setCell ⟨a1, 1, none⟩ u1) (fun k => k = a1) := kept_trans (kept_setCell _ _ _ _) (kept_setCell _ _ _ _) (fun j _ h => h)
  obtain ⟨o1, o2⟩ := disk_rows hd
  refine ⟨(cell_at y2 0).1, (cell_at y2 1).1, ⟨_, _, rfl, ?_, ?_⟩, ?_⟩
  · exact own_down (own_kept o1 k2 (fun k hk => by have := (o1.lt k hk).1; omega)) (by omega)
  · exact own_down (own_kept o2 k2 (fun k hk => by have := (o2.lt k hk).1; omega)) (by omega)
  · exact (hb.setCell (by exact hw) _).setCell (by exact hw) _

theorem own_ne_type {w : World} {B e sz n g : Nat} {v : Value} {xs : List Value} {cs : Array Value} {t : TypeId} {fr : Nat × Nat} (h : w.ownsRow B e sz v n xs) (hg : w.heap[g]? = some (.cells cs t fr)) (hne : e ≠ t) : v.ownBlock ≠ some g := by
  intro h1
  rcases h.2 with ⟨rfl, -⟩ | ⟨k, cap, cur, rfl, -, hh, -⟩
  · cases h1
  · injection h1 with h1
    have h1 : k = g := h1
    subst h1
    rw [hh] at hg
    injection hg with hg
    injection hg with _ he _
    exact hne he

theorem own_apart {w w' : World} {B B' e e' sz sz' n n' : Nat} {v v' : Value} {xs xs' : List Value} (h : w.ownsRow B e sz v n xs) (h' : w.ownsRow B' e' sz' v' n' xs') (hne : e ≠ e') (hg : w.grownBy w' v'.ownBlock) : w'.ownsRow B e sz v n xs := by
  cases hv : v.ownBlock with
  | none => exact h.kept hg (Or.inl hv)
  | some k => exact h.kept hg (Or.inr (by rw [hv]; exact fun e1 => one_type h h' hne k hv e1.symm))

end Go.Proofs.YtbokjfjdjgopeaaGreatDoor

namespace Go.Proofs.YtbokjfjdjgopeaaGreatDoor
open Go.RowKit

/-- the variable g of a work k, its rows u0 .. u5; the box and the answer's variable beside it -/
structure GV (w W : World) (a0 g B : Nat) (bx rs : Obj) (u0 u1 u3 u4 u5 : Value) (k : Wk) : Prop where
  var : W.heap[g]? = some (Obj.cells #[u0, u1, .int .i64 k.next, u3, u4, u5] 48)
  res : W.heap[a0 + 1]? = some rs
  box : W.heap[a0]? = some bx
  low : Below w.heap.size w W
  ha : a0 = w.heap.size
  hB : a0 + 2 ≤ B
  hg : a0 + 2 ≤ g
  hBW : B ≤ W.heap.size
  nw : WorkNw W B (.agg #[u0, u1, .int .i64 k.next, u3, u4, u5]) k

theorem gv_away {w W : World} {a0 g B : Nat} {bx rs : Obj} {u0 u1 u3 u4 u5 : Value} {k : Wk} (h : GV w W a0 g B bx rs u0 u1 u3 u4 u5 k) : ∀ j, workBlocks (.agg #[u0, u1, .int .i64 k.next, u3, u4, u5]) j → j ≠ g ∧ j ≠ a0 ∧ j ≠ a0 + 1 ∧ B ≤ j ∧ j < W.heap.size := fun j hj => by
  have hl := workOwn_lt (nw_own h.nw) j hj
  have hB := h.hB
  refine ⟨fun e => ?_, by omega, by omega, hl.1, hl.2⟩
  subst e
  obtain ⟨vp, vl, n, vu, vg, vf, e, hj⟩ := hj
  obtain ⟨rfl, rfl, rfl, rfl, rfl, rfl⟩ := agg6 e
  obtain ⟨hd, -, h3, h4, h5, -⟩ := nw_rows h.nw
  obtain ⟨vp', vl', e, d1, d2⟩ := hd
  injection e with e
  injection e with e
  injection e with e1 e
  injection e with e2
  subst e1 e2
  rcases hj with ⟨vp2, vl2, e, hj⟩ | hj | hj | hj
  · injection e with e
    injection e with e
    injection e with e1 e
    injection e with e2
    subst e1 e2
    rcases hj with hj | hj
    · exact own_ne_type d1 h.var (by decide) hj
    · exact own_ne_type d2 h.var (by decide) hj
  · exact own_ne_type h3 h.var (by decide) hj
  · exact own_ne_type h4 h.var (by decide) hj
  · exact own_ne_type h5 h.var (by decide) hj

theorem gv_below {w W W' : World} {a0 g B : Nat} {bx rs : Obj} {u0 u1 u3 u4 u5 : Value} {k : Wk} (h : GV w W a0 g B bx rs u0 u1 u3 u4 u5 k) (hb : Below W.heap.size W W') : GV w W' a0 g B bx rs u0 u1 u3 u4 u5 k :=
  ⟨staysW h.var hb, staysW h.res hb, staysW h.box hb, h.low.trans (hb.mono h.low.size), h.ha, h.hB, h.hg, Nat.le_trans h.hBW hb.size, nw_below h.nw hb⟩

/-- the row of the usable ones is another -/
theorem gv_us {w W W' : World} {a0 g B e b c : Nat} {bx rs : Obj} {u0 u1 u3 u4 u5 : Value} {k : Wk} {l : List Int} (h : GV w W a0 g B bx rs u0 u1 u3 u4 u5 k) (he : W.heap.size ≤ e) (hgr : (W.alloc (Obj.cells #[] 3)).grownBy W' (some e)) (hown : W'.ownsRow e 3 1 (.slice (some ⟨b, 0, none⟩) l.length c) l.length (ints l)) :
    W'.heap[g]? = some (Obj.cells #[u0, u1, .int .i64 k.next, u3, u4, u5] 48) ∧ GV w (W'.setCell ⟨g, 3, none⟩ (.slice (some ⟨b, 0, none⟩) l.length c)) a0 g B bx rs u0 u1 (.slice (some ⟨b, 0, none⟩) l.length c) u4 u5 { k with us := l } := by
  have hb1 : Below W.heap.size W (W.alloc (Obj.cells #[] 3)) := (Below.refl _ _).alloc (Nat.le_refl _) _
  have hb2 : Below W.heap.size W W' := ⟨hgr.os.trans hb1.os, hgr.tape.trans hb1.tape, hgr.output.trans hb1.output, Nat.le_trans hb1.size hgr.size, fun j hj => (hgr.block j (Nat.lt_of_lt_of_le hj hb1.size) (by intro e'; injection e' with e'; omega)).trans (hb1.block j hj)⟩
  have h2 := gv_below h hb2
  have aw := gv_away h
  have hk : Kept W' (W'.setCell ⟨g, 3, none⟩ (.slice (some ⟨b, 0, none⟩) l.length c)) (fun j => j = g) := kept_setCell _ _ _ _
  have hgl : g < W.heap.size := (Array.getElem?_eq_some_iff.1 h.var).1
  have hal : a0 + 1 < W.heap.size := (Array.getElem?_eq_some_iff.1 h.res).1
  have hbl : a0 < W.heap.size := (Array.getElem?_eq_some_iff.1 h.box).1
  have hg2 := h.hg
  obtain ⟨hd, -, h3, h4, h5, n1, n2, n3⟩ := nw_rows h2.nw
  have hbe : ∀ j, (Value.slice (some (⟨b, 0, none⟩ : Addr)) l.length c).ownBlock = some j → W.heap.size ≤ j := fun j e' => Nat.le_trans he (hown.lt j e').1
  refine ⟨h2.var, heap_setCell_same W' g 3 _ _ _ h2.var, (hk.2.2.2.2 _ (Nat.lt_of_lt_of_le hal hb2.size) (by omega)).trans h2.res, (hk.2.2.2.2 _ (Nat.lt_of_lt_of_le hbl hb2.size) (by omega)).trans h2.box, h2.low.trans (below_of_kept hk h2.low.size (fun j e' => by have := h.ha; omega)), h.ha, h.hB, h.hg, Nat.le_trans h2.hBW hk.2.2.2.1, ⟨u0, u1, _, u4, u5, rfl, ?_, ?_, ?_, ?_, ?_, ?_, n3⟩⟩
  · exact diskOwn_kept hd hk (fun j e' => (aw j ⟨_, _, _, _, _, _, rfl, Or.inl e'⟩).1)
  · exact own_kept (own_down hown (Nat.le_trans h.hBW he)) hk (fun j e' h' => by have := hbe j e'; omega)
  · exact own_kept h4 hk (fun j e' => (aw j ⟨_, _, _, _, _, _, rfl, Or.inr (Or.inr (Or.inl e'))⟩).1)
  · exact own_kept h5 hk (fun j e' => (aw j ⟨_, _, _, _, _, _, rfl, Or.inr (Or.inr (Or.inr e'))⟩).1)
  · intro j e1 e2
    have := hbe j e1
    have := (aw j ⟨_, _, _, _, _, _, rfl, Or.inr (Or.inr (Or.inl e2))⟩).2.2.2.2
    omega
  · intro j e1 e2
    have := hbe j e1
    have := (aw j ⟨_, _, _, _, _, _, rfl, Or.inr (Or.inr (Or.inr e2))⟩).2.2.2.2
    omega

/-- a page goes behind the fresh ones -/
theorem gv_fs {w W W' : World} {a0 g B b d : Nat} {bx rs : Obj} {u0 u1 u3 u4 u5 : Value} {k : Wk} {p : Int} (h : GV w W a0 g B bx rs u0 u1 u3 u4 u5 k) (hgr : (W.alloc (Obj.cells #[.int .i64 p] 3)).grownBy W' u5.ownBlock) (hown : W'.ownsRow B 3 1 (.slice (some ⟨b, 0, none⟩) (k.fs.length + 1) d) (k.fs.length + 1) (ints k.fs ++ [.int .i64 p])) (hb : u5.ownBlock = some b ∨ b = W.heap.size + 1) :
    W'.heap[g]? = some (Obj.cells #[u0, u1, .int .i64 k.next, u3, u4, u5] 48) ∧ GV w (W'.setCell ⟨g, 5, none⟩ (.slice (some ⟨b, 0, none⟩) (k.fs.length + 1) d)) a0 g B bx rs u0 u1 u3 u4 (.slice (some ⟨b, 0, none⟩) (k.fs.length + 1) d) { k with fs := k.fs ++ [p] } := by
  have hb1 : Below W.heap.size W (W.alloc (Obj.cells #[.int .i64 p] 3)) := (Below.refl _ _).alloc (Nat.le_refl _) _
  have aw := gv_away h
  obtain ⟨hd, -, h3, h4, h5, n1, n2, n3⟩ := nw_rows h.nw
  have hk0 : Kept W W' (fun j => u5.ownBlock = some j) := ⟨hgr.os.trans hb1.os, hgr.tape.trans hb1.tape, hgr.output.trans hb1.output, Nat.le_trans hb1.size hgr.size, fun j hj hn => (hgr.block j (Nat.lt_of_lt_of_le hj hb1.size) (fun e => hn e.symm)).trans (hb1.block j hj)⟩
  have hk1 : Kept W' (W'.setCell ⟨g, 5, none⟩ (.slice (some ⟨b, 0, none⟩) (k.fs.length + 1) d)) (fun j => j = g) := kept_setCell _ _ _ _
  have hk : Kept W (W'.setCell ⟨g, 5, none⟩ (.slice (some ⟨b, 0, none⟩) (k.fs.length + 1) d)) (fun j => j = g ∨ u5.ownBlock = some j) := kept_trans (kept_mono hk0 (fun j _ e => Or.inr e)) hk1 (fun j _ e => Or.inl e)
  have hgl : g < W.heap.size := (Array.getElem?_eq_some_iff.1 h.var).1
  have hal : a0 + 1 < W.heap.size := (Array.getElem?_eq_some_iff.1 h.res).1
  have hbl : a0 < W.heap.size := (Array.getElem?_eq_some_iff.1 h.box).1
  have w5 : ∀ j, u5.ownBlock = some j → j ≠ g ∧ j ≠ a0 ∧ j ≠ a0 + 1 ∧ B ≤ j ∧ j < W.heap.size := fun j e => aw j ⟨_, _, _, _, _, _, rfl, Or.inr (Or.inr (Or.inr e))⟩
  have hv : W'.heap[g]? = some (Obj.cells #[u0, u1, .int .i64 k.next, u3, u4, u5] 48) := (hk0.2.2.2.2 g hgl (fun e => (w5 g e).1 rfl)).trans h.var
  have hg2 := h.hg
  have hB := h.hB
  refine ⟨hv, heap_setCell_same W' g 5 _ _ _ hv, (hk.2.2.2.2 _ hal (fun e => by rcases e with e | e; omega; exact (w5 _ e).2.2.1 rfl)).trans h.res, (hk.2.2.2.2 _ hbl (fun e => by rcases e with e | e; omega; exact (w5 _ e).2.1 rfl)).trans h.box, h.low.trans (below_of_kept hk h.low.size (fun j e => by have := h.ha; rcases e with e | e; omega; have := (w5 j e).2.2.2.1; omega)), h.ha, h.hB, h.hg, Nat.le_trans h.hBW hk.2.2.2.1, ⟨u0, u1, u3, u4, _, rfl, ?_, ?_, ?_, ?_, n1, ?_, ?_⟩⟩
  · exact diskOwn_kept hd hk (fun j e h' => by rcases h' with h' | h'; exact (aw j ⟨_, _, _, _, _, _, rfl, Or.inl e⟩).1 h'; exact disk_int_apart hd (intOwn_of_own h5) j e h')
  · exact own_kept h3 hk (fun j e h' => by rcases h' with h' | h'; exact (aw j ⟨_, _, _, _, _, _, rfl, Or.inr (Or.inl e)⟩).1 h'; exact n2 j e h')
  · exact own_kept h4 hk (fun j e h' => by rcases h' with h' | h'; exact (aw j ⟨_, _, _, _, _, _, rfl, Or.inr (Or.inr (Or.inl e))⟩).1 h'; exact n3 j e h')
  · have e1 : (k.fs ++ [p]).length = k.fs.length + 1 := by simp
    have e2 : ints (k.fs ++ [p]) = ints k.fs ++ [.int .i64 p] := by simp [ints]
    show World.ownsRow _ B _ 1 _ (k.fs ++ [p]).length (ints (k.fs ++ [p]))
    rw [e1, e2]
    refine own_kept hown hk1 (fun j e h' => ?_)
    injection e with e
    have e : b = j := e
    rcases hb with hb | hb
    · exact (w5 b hb).1 (by omega)
    · omega
  · intro j e1 e2
    injection e2 with e2
    have e2 : b = j := e2
    rcases hb with hb | hb
    · exact n2 j e1 (by rw [← e2]; exact hb)
    · have := (aw j ⟨_, _, _, _, _, _, rfl, Or.inr (Or.inl e1)⟩).2.2.2.2; omega
  · intro j e1 e2
    injection e2 with e2
    have e2 : b = j := e2
    rcases hb with hb | hb
    · exact n3 j e1 (by rw [← e2]; exact hb)
    · have := (aw j ⟨_, _, _, _, _, _, rfl, Or.inr (Or.inr (Or.inl e1))⟩).2.2.2.2; omega

theorem nfrow {W : World} {B nf c5 : Nat} {a5 : Option Addr} {l : List Int} (hn : nf = l.length) (h : W.ownsRow B 3 1 (.slice a5 nf c5) l.length (ints l)) : W.ownsRow B 3 1 (.slice a5 nf c5) nf (ints l) := by
  subst hn; exact h

theorem gv_fs_kept {w W W' : World} {a0 g B : Nat} {bx rs : Obj} {u0 u1 u3 u4 u5 : Value} {k : Wk} {o : Obj} (h : GV w W a0 g B bx rs u0 u1 u3 u4 u5 k) (hgr : (W.alloc o).grownBy W' u5.ownBlock) : Kept W W' (fun j => u5.ownBlock = some j) ∧ ∀ j, u5.ownBlock = some j → j ≠ a0 ∧ B ≤ j := by
  have hb1 : Below W.heap.size W (W.alloc o) := (Below.refl _ _).alloc (Nat.le_refl _) _
  refine ⟨⟨hgr.os.trans hb1.os, hgr.tape.trans hb1.tape, hgr.output.trans hb1.output, Nat.le_trans hb1.size hgr.size, fun j hj hn => (hgr.block j (Nat.lt_of_lt_of_le hj hb1.size) (fun e => hn e.symm)).trans (hb1.block j hj)⟩, fun j e => ?_⟩
  have := gv_away h j ⟨_, _, _, _, _, _, rfl, Or.inr (Or.inr (Or.inr e))⟩
  exact ⟨this.2.1, this.2.2.2.1⟩

theorem gv_fs_box {w W W' : World} {a0 g B : Nat} {bx rs : Obj} {u0 u1 u3 u4 u5 : Value} {k : Wk} {o : Obj} (h : GV w W a0 g B bx rs u0 u1 u3 u4 u5 k) (hgr : (W.alloc o).grownBy W' u5.ownBlock) : W'.heap[a0]? = some bx := by
  obtain ⟨hk, hn⟩ := gv_fs_kept h hgr
  exact (hk.2.2.2.2 a0 (Array.getElem?_eq_some_iff.1 h.box).1 (fun e => (hn a0 e).1 rfl)).trans h.box

theorem gv_fs_low {w W W' : World} {a0 g B : Nat} {bx rs : Obj} {u0 u1 u3 u4 u5 : Value} {k : Wk} {o : Obj} (h : GV w W a0 g B bx rs u0 u1 u3 u4 u5 k) (hgr : (W.alloc o).grownBy W' u5.ownBlock) : Below w.heap.size w W' := by
  obtain ⟨hk, hn⟩ := gv_fs_kept h hgr
  exact h.low.trans (below_of_kept hk h.low.size (fun j e => by have := (hn j e).2; have := h.hB; have := h.ha; omega))

theorem keep6 {W : World} {g a : Nat} {o : Obj} {u0 u1 u2 u3 u4 u5 : Value} (h : W.heap[g]? = some o) (hne : g ≠ a) : (set6 W a u0 u1 u2 u3 u4 u5).heap[g]? = some o :=
  ((set6_kept W a u0 u1 u2 u3 u4 u5).2.2.2.2 g (Array.getElem?_eq_some_iff.1 h).1 hne).trans h

theorem s8 {W : World} {g a0 : Nat} {c0 c1 c2 c3 c4 c5 d0 d1 d2 d3 d4 d5 : Value} {t t' : TypeId} (h : W.heap[g]? = some (Obj.cells #[c0, c1, c2, c3, c4, c5] t)) (hb : W.heap[a0]? = some (Obj.cells #[d0, d1, d2, d3, d4, d5] t')) :
    W.cell? ⟨g, 0, none⟩ = some c0 ∧ W.cell? ⟨g, 1, none⟩ = some c1 ∧ W.cell? ⟨g, 2, none⟩ = some c2 ∧ W.cell? ⟨g, 3, none⟩ = some c3 ∧ W.cell? ⟨g, 4, none⟩ = some c4 ∧ W.cell? ⟨g, 5, none⟩ = some c5 ∧ W.cell? ⟨a0, 2, none⟩ = some d2 ∧ W.cell? ⟨a0, 3, none⟩ = some d3 :=
  ⟨(cell_at h 0).1, (cell_at h 1).1, (cell_at h 2).1, (cell_at h 3).1, (cell_at h 4).1, (cell_at h 5).1, (cell_at hb 2).1, (cell_at hb 3).1⟩

theorem s3 {W : World} {a0 b off : Nat} {d0 d1 d2 d3 d4 d5 x : Value} {t' : TypeId} (hb : W.heap[a0]? = some (Obj.cells #[d0, d1, d2, d3, d4, d5] t')) (hr : W.cell? ⟨b, off, none⟩ = some x) : W.cell? ⟨a0, 3, none⟩ = some d3 ∧ W.cell? ⟨b, off, none⟩ = some x := ⟨(cell_at hb 3).1, hr⟩

theorem wpList_copy {P : Program} (w : World) {ops : Array Oper} {rest : List Oper} {o : Oper} {a : Act} {Q : Exit → Act → World → Prop} (hgd : o.guard = none) (s x : Operand) (t : TypeId) (ho : o.op = .call { callee := .builtin .append, args := #[s, x], argTypes := #[t, t] })
    (e : TypeId) (i : TypeInfo) (z : Value) (ht : P.underlying t = some (.slice e)) (hi : P.info? e = some i) (hz : i.zero = some z) (hsize : i.size = 1) (hby : i.bytes = 8) (hzs : z.cells.size = 1)
    (g : Nat) (hs : a.eval s = .slice (some ⟨g, 0, none⟩) 0 0) (hge : w.heap[g]? = some (.cells #[] e (0, 0))) (u : Value) (m : Nat) (ys : List Value) (hx : a.eval x = u) (hrow : RowAt w 1 u m ys) (h1 : ∀ y ∈ ys, y.oneCell' = true) (hm : m ≤ 2000000)
    (h : ∀ b c w', w'.ownsRow g e 1 (.slice (some ⟨b, 0, none⟩) m c) m ys → w.grownBy w' (some g) → (b = g ∨ b = w.heap.size) → wpList P ops Q rest (a.put o.dst (.slice (some ⟨b, 0, none⟩) m c)) w') : wpList P ops Q (o :: rest) a w :=
  wpList_plain hgd fun _ hK => by
    obtain ⟨b, c, w', hr, q2, q3, q4⟩ := run_copy (P := P) w t o.type e i z ht hi hz hsize hby hzs g hge u m ys hrow h1 hm
    unfold Oper.wp execOp
    simp only [ho, resolve, invoke, builtin, Sem.run_bind, Sem.run_pure, Result.andThen_ok, List.map_toArray, List.map_cons, List.map_nil, hs, hx, hr]
    exact hK _ _ (h b c w' q2 q3 q4)

/-- the row without its first one, as a slice from 1 on tells it -/
theorem row_tail {w : World} {b off n c c' : Nat} {x : Int} {l : List Int} {y : Option Addr} (hn : n = l.length + 1) (h : RowAt w 1 (.slice (some ⟨b, off, none⟩) n c) n (ints (x :: l))) (hy : y = some ⟨b, off + 1, none⟩ ∨ l.length = 0) : RowAt w 1 (.slice y (n - 1) c') (n - 1) (ints l) := by
  obtain ⟨-, a, cap, e, h2⟩ := h
  injection e with e1 e2 e3
  subst e1
  refine ⟨by rw [ints_length]; omega, _, _, rfl, ?_⟩
  rcases hy with rfl | hy
  · rcases h2 with h0 | ⟨b', off', e, hlt, hc⟩
    · omega
    · injection e with e
      injection e with e1 e2
      subst e1 e2
      refine Or.inr ⟨b, off + 1, rfl, hlt, fun j hj => ?_⟩
      have := hc (j + 1) (by omega)
      rw [Nat.add_assoc, Nat.add_comm 1 j, this]
      simp [ints]
  · exact Or.inl (by omega)
end Go.Proofs.YtbokjfjdjgopeaaGreatDoor

namespace Go.Proofs.YtbokjfjdjgopeaaGreatDoor
open Go.RowKit

theorem branch2 {G A B : Prop} (hA : G → A) (hB : G → B) (h : G) : A ∧ B := ⟨hA h, hB h⟩

theorem ready2 {P : Program} {md : Region.Mode} {ops : Array Oper} {Q : Exit → Act → World → Prop} {S : World → Prop} {fuel : Nat} {listed : Array Bool} {a : Act} {w : World} {i j : Nat} {oi oj : Oper} (hi : ops[i]? = some oi) (hj : ops[j]? = some oj)
    (h : (∀ K' : Act → World → Prop, Shut (∀ a w, S w → (S w → wpAnyH P md ops Q S fuel (listed.setIfInBounds i true) a w) → K' a w) → if Region.wanted oi (yielded ops a.tmps) = true then Oper.wp P oi a w K' Q else K' (a.put oi.dst undef) w) ∧
      (∀ K' : Act → World → Prop, Shut (∀ a w, S w → (S w → wpAnyH P md ops Q S fuel (listed.setIfInBounds j true) a w) → K' a w) → if Region.wanted oj (yielded ops a.tmps) = true then Oper.wp P oj a w K' Q else K' (a.put oj.dst undef) w)) :
    AllReadyH P md ops Q S fuel listed a w [i, j] := AllReadyH.cons hi h.1 (AllReadyH.cons hj h.2 AllReadyH.nil)

theorem step_call3 {P : Program} (w : World) {ops : Array Oper} {o : Oper} {a : Act} {K : Act → World → Prop} {Q : Exit → Act → World → Prop} {E : Prop} (hgd : o.guard = none) (f : FuncId) (fn : Func) (hfn : P.funcs[f]? = some fn) (hname : ¬ fn.name = "runtime.NumGoroutine") (hbody : ¬ fn.body = none) (s x y : Operand) (ts : Array TypeId)
    (ho : o.op = .call { callee := .value (.func f), args := #[s, x, y], argTypes := ts }) (u v z : Value) (hs : a.eval s = u) (hx : a.eval x = v) (hy : a.eval y = z)
    (R : Ending → World → Prop) (hc : Calls P f #[u, v, z] w R) (hR : ∀ e w', R e w' → ∃ r, e = .returned r ∧ K (a.put o.dst r) w') :
    if Region.wanted o (yielded ops a.tmps) = true then Oper.wp P o a w K Q else E := by
  have hw : Region.wanted o (yielded ops a.tmps) = true := by simp [Region.wanted, hgd]
  rw [if_pos hw]
  unfold Oper.wp execOp
  have hf : a.eval (.func f) = .func (.func f) #[] #[] := rfl
  simp only [ho, resolve, invoke, hf, Deferred.ofValue, callFunc, Sem.run_bind, Sem.run_pure, Result.andThen_ok, List.map_toArray, List.map_cons, List.map_nil, hs, hx, hy]
  simp [go_sem, hfn, hname, hbody]
  refine hc.mono ?_
  intro e w' h
  obtain ⟨r, rfl, hk⟩ := hR e w' h
  exact hk

/-- 'wpAnyH_take' with the slot named -/
theorem takeW {P : Program} {md : Region.Mode} {ops : Array Oper} {Q : Exit → Act → World → Prop} {S : World → Prop} (i d : Nat) {oi : Oper} (v : Value) {fuel : Nat} {listed : Array Bool} {a : Act} {w : World} (hi : ops[i]? = some oi) (hd : oi.dst = some d)
    (hs : Region.noSelect ops = true) (hf : Region.free md ops listed i = true) (hr : (Region.ready md ops listed).contains i = true)
    (hQ : ∀ c a w, Q (.panic c) (a.put oi.dst v) w → Q (.panic c) a w) (hy : YieldsIf P ops S oi v a) (hS : S w)
    (h : wpAnyH P md ops Q S fuel (listed.setIfInBounds i true) ⟨a.tmps.setIfInBounds d v, a.defers⟩ w) : wpAnyH P md ops Q S (fuel + 1) listed a w :=
  wpAnyH_take hi hs hf hr hQ hy hS (by rw [hd]; exact h)

theorem step_call7 {P : Program} (w : World) {ops : Array Oper} {o : Oper} {a : Act} {K : Act → World → Prop} {Q : Exit → Act → World → Prop} {E : Prop} (hgd : o.guard = none) (f : FuncId) (fn : Func) (hfn : P.funcs[f]? = some fn) (hname : ¬ fn.name = "runtime.NumGoroutine") (hbody : ¬ fn.body = none) (s x y p q r t : Operand) (ts : Array TypeId)
    (ho : o.op = .call { callee := .value (.func f), args := #[s, x, y, p, q, r, t], argTypes := ts }) (u v z z1 z2 z3 z4 : Value) (hs : a.eval s = u) (hx : a.eval x = v) (hy : a.eval y = z) (hp : a.eval p = z1) (hq : a.eval q = z2) (hr : a.eval r = z3) (ht : a.eval t = z4)
    (R : Ending → World → Prop) (hc : Calls P f #[u, v, z, z1, z2, z3, z4] w R) (hR : ∀ e w', R e w' → ∃ r', e = .returned r' ∧ K (a.put o.dst r') w') :
    if Region.wanted o (yielded ops a.tmps) = true then Oper.wp P o a w K Q else E := by
  have hw : Region.wanted o (yielded ops a.tmps) = true := by simp [Region.wanted, hgd]
  rw [if_pos hw]
  unfold Oper.wp execOp
  have hf : a.eval (.func f) = .func (.func f) #[] #[] := rfl
  simp only [ho, resolve, invoke, hf, Deferred.ofValue, callFunc, Sem.run_bind, Sem.run_pure, Result.andThen_ok, List.map_toArray, List.map_cons, List.map_nil, hs, hx, hy, hp, hq, hr, ht]
  simp [go_sem, hfn, hname, hbody]
  refine hc.mono ?_
  intro e w' h
  obtain ⟨r, rfl, hk⟩ := hR e w' h
  exact hk
end Go.Proofs.YtbokjfjdjgopeaaGreatDoor

namespace Go.Proofs.YtbokjfjdjgopeaaGreatDoor
open Go.RowKit

/-- what lies in the slots that are read alone -/
structure CpC where
  (c0 c1 c2 c3 c4 c6 c7 c9 c10 c13 c14 c17 c18 c20 : Value)

abbrev cpTm (c : CpC) (t5 e1 a1 e2 a2 e3 a3 : Value) : Array Value := #[c.c0, c.c1, c.c2, c.c3, c.c4, t5, c.c6, c.c7, e1, c.c9, c.c10, a1, e2, c.c13, c.c14, a2, e3, c.c17, c.c18, a3, c.c20]

theorem step_build0 {ops : Array Oper} {o : Oper} {a : Act} {K : Act → World → Prop} {Q : Exit → Act → World → Prop} {E : Prop} {W : World} (hgd : o.guard = none) (ho : o.op = .buildSlice 30 0 #[]) (h : K (a.put o.dst (.slice (some ⟨W.heap.size, 0, none⟩) 0 0)) (W.alloc (.cells #[] 3 (0, 0)))) :
    if Region.wanted o (yielded ops a.tmps) = true then Oper.wp Tryz.prog o a W K Q else E := by
  have hw : Region.wanted o (yielded ops a.tmps) = true := by simp [Region.wanted, hgd]
  rw [if_pos hw]
  unfold Oper.wp execOp
  simp only [ho]
  simp [go_sem]
  exact h

set_option maxHeartbeats 8000000 in
theorem copy_walk {ops : Array Oper} {Q : Exit → Act → World → Prop} {S : World → Prop} {w : World} {n0 : Nat} {bx rs : Obj} {ps : List ByteArray} {ls : List (Int × ByteArray)} {us gs fs : List Int} (c : CpC)
    (lu : us.length ≤ 2000000) (lg : gs.length ≤ 2000000) (lf : fs.length ≤ 2000000) (hS : ∀ W Em R D, CS w n0 bx rs ps ls W Em R D → S W)
    (f : FuncId) (fn : Func) (hfn : Tryz.prog.funcs[f]? = some fn) (hname : ¬ fn.name = "runtime.NumGoroutine") (hbody : ¬ fn.body = none) (ts : Array TypeId)
    (hc : ∀ wx, DiskAt wx c.c4 ps ls → Calls Tryz.prog f #[c.c4] wx fun e w' => ∃ v', e = .returned v' ∧ DiskOwn w' wx.heap.size v' ps ls ∧ Below wx.heap.size wx w') (hd : DiskAt w c.c4 ps ls)
    (ru : RowAt w 1 c.c10 us.length (ints us)) (rg : RowAt w 1 c.c14 gs.length (ints gs)) (rf : RowAt w 1 c.c18 fs.length (ints fs))
    {oC : Oper} (iC : ops[2]? = some oC) (jC : oC.guard = none) (dC : oC.dst = some 5) (pC : oC.op = .call { callee := .value (.func f), args := #[.tmp 4], argTypes := ts })
    {oE1 : Oper} (iE1 : ops[5]? = some oE1) (jE1 : oE1.guard = none) (dE1 : oE1.dst = some 8) (pE1 : oE1.op = .buildSlice 30 0 #[])
    {oA1 : Oper} (iA1 : ops[8]? = some oA1) (jA1 : oA1.guard = none) (dA1 : oA1.dst = some 11) (pA1 : oA1.op = .call { callee := .builtin .append, args := #[.tmp 8, .tmp 10], argTypes := #[30, 30] })
    {oE2 : Oper} (iE2 : ops[9]? = some oE2) (jE2 : oE2.guard = none) (dE2 : oE2.dst = some 12) (pE2 : oE2.op = .buildSlice 30 0 #[])
    {oA2 : Oper} (iA2 : ops[12]? = some oA2) (jA2 : oA2.guard = none) (dA2 : oA2.dst = some 15) (pA2 : oA2.op = .call { callee := .builtin .append, args := #[.tmp 12, .tmp 14], argTypes := #[30, 30] })
    {oE3 : Oper} (iE3 : ops[13]? = some oE3) (jE3 : oE3.guard = none) (dE3 : oE3.dst = some 16) (pE3 : oE3.op = .buildSlice 30 0 #[])
    {oA3 : Oper} (iA3 : ops[16]? = some oA3) (jA3 : oA3.guard = none) (dA3 : oA3.dst = some 19) (pA3 : oA3.op = .call { callee := .builtin .append, args := #[.tmp 16, .tmp 18], argTypes := #[30, 30] })
    (r0_000 : Region.ready .any ops #[true, true, false, true, true, false, true, true, false, false, true, true, false, false, true, true, false, false, false] = [2, 5, 9, 13])
    (r1_000 : Region.ready .any ops #[true, true, true, true, true, false, true, true, false, false, true, true, false, false, true, true, false, false, false] = [5, 9, 13])
    (r0_100 : Region.ready .any ops #[true, true, false, true, true, true, true, true, false, false, true, true, false, false, true, true, false, false, false] = [2, 9, 13])
    (r0_010 : Region.ready .any ops #[true, true, false, true, true, false, true, true, false, true, true, true, false, false, true, true, false, false, false] = [2, 5, 13])
    (r0_001 : Region.ready .any ops #[true, true, false, true, true, false, true, true, false, false, true, true, false, true, true, true, false, false, false] = [2, 5, 9])
    (r1_100 : Region.ready .any ops #[true, true, true, true, true, true, true, true, false, false, true, true, false, false, true, true, false, false, false] = [8, 9, 13])
    (r1_010 : Region.ready .any ops #[true, true, true, true, true, false, true, true, false, true, true, true, false, false, true, true, false, false, false] = [5, 13])
    (r1_001 : Region.ready .any ops #[true, true, true, true, true, false, true, true, false, false, true, true, false, true, true, true, false, false, false] = [5, 9])
    (r0_110 : Region.ready .any ops #[true, true, false, true, true, true, true, true, false, true, true, true, false, false, true, true, false, false, false] = [2, 13])
    (r0_101 : Region.ready .any ops #[true, true, false, true, true, true, true, true, false, false, true, true, false, true, true, true, false, false, false] = [2, 9])
    (r0_011 : Region.ready .any ops #[true, true, false, true, true, false, true, true, false, true, true, true, false, true, true, true, false, false, false] = [2, 5])
    (r1_200 : Region.ready .any ops #[true, true, true, true, true, true, true, true, true, false, true, true, false, false, true, true, false, false, false] = [9, 13])
    (r1_110 : Region.ready .any ops #[true, true, true, true, true, true, true, true, false, true, true, true, false, false, true, true, false, false, false] = [8, 13])
    (r1_101 : Region.ready .any ops #[true, true, true, true, true, true, true, true, false, false, true, true, false, true, true, true, false, false, false] = [8, 9])
    (r1_011 : Region.ready .any ops #[true, true, true, true, true, false, true, true, false, true, true, true, false, true, true, true, false, false, false] = [5])
    (r0_111 : Region.ready .any ops #[true, true, false, true, true, true, true, true, false, true, true, true, false, true, true, true, false, false, false] = [2])
    (r1_210 : Region.ready .any ops #[true, true, true, true, true, true, true, true, true, true, true, true, false, false, true, true, false, false, false] = [12, 13])
    (r1_201 : Region.ready .any ops #[true, true, true, true, true, true, true, true, true, false, true, true, false, true, true, true, false, false, false] = [9])
    (r1_111 : Region.ready .any ops #[true, true, true, true, true, true, true, true, false, true, true, true, false, true, true, true, false, false, false] = [8])
    (r1_220 : Region.ready .any ops #[true, true, true, true, true, true, true, true, true, true, true, true, true, false, true, true, false, false, false] = [13])
    (r1_211 : Region.ready .any ops #[true, true, true, true, true, true, true, true, true, true, true, true, false, true, true, true, false, false, false] = [12])
    (r1_221 : Region.ready .any ops #[true, true, true, true, true, true, true, true, true, true, true, true, true, true, true, true, false, false, false] = [16])
    (hfin : ∀ (W : World) (Em : Nat → Prop) (x1 : Option Addr) (p1 : Nat) (y1 : Option Addr) (p2 : Nat) (te1 : Value) (b1 q1 : Nat) (te2 : Value) (b2 q2 : Nat) (te3 : Value) (b3 q3 : Nat) (_ : CS w n0 bx rs ps ls W Em [(.slice (some ⟨b3, 0, none⟩) fs.length q3, fs), (.slice (some ⟨b2, 0, none⟩) gs.length q2, gs), (.slice (some ⟨b1, 0, none⟩) us.length q1, us)] [.agg #[.slice x1 ps.length p1, .slice y1 ls.length p2]]), wpAnyH Tryz.prog .any ops Q S 2 #[true, true, true, true, true, true, true, true, true, true, true, true, true, true, true, true, true, false, false] ⟨(cpTm c (.agg #[.slice x1 ps.length p1, .slice y1 ls.length p2]) te1 (.slice (some ⟨b1, 0, none⟩) us.length q1) te2 (.slice (some ⟨b2, 0, none⟩) gs.length q2) te3 (.slice (some ⟨b3, 0, none⟩) fs.length q3)), []⟩ W) :
    ∀ W, CS w n0 bx rs ps ls W (fun y => y < 0) [] [] → wpAnyH Tryz.prog .any ops Q S 9 #[true, true, false, true, true, false, true, true, false, false, true, true, false, false, true, true, false, false, false] ⟨cpTm c undef undef undef undef undef undef undef, []⟩ W := by
  have hlt : ∀ {W Em R D}, CS w n0 bx rs ps ls W Em R D → ∀ y, Em y → y ≠ W.heap.size := fun h y hy => Nat.ne_of_lt (Array.getElem?_eq_some_iff.1 (h.emp y hy).2).1
  have G1_221 : ∀ (W : World) (Em : Nat → Prop) (x1 : Option Addr) (p1 : Nat) (y1 : Option Addr) (p2 : Nat) (te1 : Value) (b1 q1 : Nat) (te2 : Value) (b2 q2 : Nat) (g3 : Nat) (ta3 : Value) (_ : CS w n0 bx rs ps ls W Em [(.slice (some ⟨b2, 0, none⟩) gs.length q2, gs), (.slice (some ⟨b1, 0, none⟩) us.length q1, us)] [.agg #[.slice x1 ps.length p1, .slice y1 ls.length p2]]) (h3 : Em g3), wpAnyH Tryz.prog .any ops Q S 3 #[true, true, true, true, true, true, true, true, true, true, true, true, true, true, true, true, false, false, false] ⟨(cpTm c (.agg #[.slice x1 ps.length p1, .slice y1 ls.length p2]) te1 (.slice (some ⟨b1, 0, none⟩) us.length q1) te2 (.slice (some ⟨b2, 0, none⟩) gs.length q2) (.slice (some ⟨g3, 0, none⟩) 0 0) ta3), []⟩ W := by
    intro W Em x1 p1 y1 p2 te1 b1 q1 te2 b2 q2 g3 ta3 hcs h3
    refine wpAnyH_ready r1_221 (by simp) ?_
    refine AllReadyH.cons iA3 (fun K hK => ?_) ?_
    · refine step_copy hcs jA3 (.tmp 16) (.tmp 18) pA3 rfl rfl fs lf rf h3 (fun b3 q3 W' _ hcs' => ?_)
      rw [dA3]
      exact hK.out _ _ (hS _ _ _ _ hcs') (fun _ => hfin W' _ x1 p1 y1 p2 te1 b1 q1 te2 b2 q2 _ b3 q3 hcs' )
    exact AllReadyH.nil
  have G1_220 : ∀ (W : World) (Em : Nat → Prop) (x1 : Option Addr) (p1 : Nat) (y1 : Option Addr) (p2 : Nat) (te1 : Value) (b1 q1 : Nat) (te2 : Value) (b2 q2 : Nat) (te3 : Value) (ta3 : Value) (_ : CS w n0 bx rs ps ls W Em [(.slice (some ⟨b2, 0, none⟩) gs.length q2, gs), (.slice (some ⟨b1, 0, none⟩) us.length q1, us)] [.agg #[.slice x1 ps.length p1, .slice y1 ls.length p2]]), wpAnyH Tryz.prog .any ops Q S 4 #[true, true, true, true, true, true, true, true, true, true, true, true, true, false, true, true, false, false, false] ⟨(cpTm c (.agg #[.slice x1 ps.length p1, .slice y1 ls.length p2]) te1 (.slice (some ⟨b1, 0, none⟩) us.length q1) te2 (.slice (some ⟨b2, 0, none⟩) gs.length q2) te3 ta3), []⟩ W := by
    intro W Em x1 p1 y1 p2 te1 b1 q1 te2 b2 q2 te3 ta3 hcs
    refine wpAnyH_ready r1_220 (by simp) ?_
    refine AllReadyH.cons iE3 (fun K hK => ?_) ?_
    · refine step_build0 jE3 pE3 ?_
      rw [dE3]
      exact hK.out _ _ (hS _ _ _ _ (cs_alloc hcs)) (fun _ => G1_221 _ _ x1 p1 y1 p2 te1 b1 q1 te2 b2 q2 W.heap.size ta3 (cs_alloc hcs) (Or.inl rfl))
    exact AllReadyH.nil
  have G1_211 : ∀ (W : World) (Em : Nat → Prop) (x1 : Option Addr) (p1 : Nat) (y1 : Option Addr) (p2 : Nat) (te1 : Value) (b1 q1 : Nat) (g2 : Nat) (ta2 : Value) (g3 : Nat) (ta3 : Value) (_ : CS w n0 bx rs ps ls W Em [(.slice (some ⟨b1, 0, none⟩) us.length q1, us)] [.agg #[.slice x1 ps.length p1, .slice y1 ls.length p2]]) (h2 : Em g2) (h3 : Em g3) (n23 : g2 ≠ g3), wpAnyH Tryz.prog .any ops Q S 4 #[true, true, true, true, true, true, true, true, true, true, true, true, false, true, true, true, false, false, false] ⟨(cpTm c (.agg #[.slice x1 ps.length p1, .slice y1 ls.length p2]) te1 (.slice (some ⟨b1, 0, none⟩) us.length q1) (.slice (some ⟨g2, 0, none⟩) 0 0) ta2 (.slice (some ⟨g3, 0, none⟩) 0 0) ta3), []⟩ W := by
    intro W Em x1 p1 y1 p2 te1 b1 q1 g2 ta2 g3 ta3 hcs h2 h3 n23
    refine wpAnyH_ready r1_211 (by simp) ?_
    refine AllReadyH.cons iA2 (fun K hK => ?_) ?_
    · refine step_copy hcs jA2 (.tmp 12) (.tmp 14) pA2 rfl rfl gs lg rg h2 (fun b2 q2 W' _ hcs' => ?_)
      rw [dA2]
      exact hK.out _ _ (hS _ _ _ _ hcs') (fun _ => G1_221 W' _ x1 p1 y1 p2 te1 b1 q1 _ b2 q2 g3 ta3 hcs' (⟨h3, n23.symm⟩))
    exact AllReadyH.nil
  have G1_210 : ∀ (W : World) (Em : Nat → Prop) (x1 : Option Addr) (p1 : Nat) (y1 : Option Addr) (p2 : Nat) (te1 : Value) (b1 q1 : Nat) (g2 : Nat) (ta2 : Value) (te3 : Value) (ta3 : Value) (_ : CS w n0 bx rs ps ls W Em [(.slice (some ⟨b1, 0, none⟩) us.length q1, us)] [.agg #[.slice x1 ps.length p1, .slice y1 ls.length p2]]) (h2 : Em g2), wpAnyH Tryz.prog .any ops Q S 5 #[true, true, true, true, true, true, true, true, true, true, true, true, false, false, true, true, false, false, false] ⟨(cpTm c (.agg #[.slice x1 ps.length p1, .slice y1 ls.length p2]) te1 (.slice (some ⟨b1, 0, none⟩) us.length q1) (.slice (some ⟨g2, 0, none⟩) 0 0) ta2 te3 ta3), []⟩ W := by
    intro W Em x1 p1 y1 p2 te1 b1 q1 g2 ta2 te3 ta3 hcs h2
    refine wpAnyH_ready r1_210 (by simp) ?_
    refine AllReadyH.cons iA2 (fun K hK => ?_) ?_
    · refine step_copy hcs jA2 (.tmp 12) (.tmp 14) pA2 rfl rfl gs lg rg h2 (fun b2 q2 W' _ hcs' => ?_)
      rw [dA2]
      exact hK.out _ _ (hS _ _ _ _ hcs') (fun _ => G1_220 W' _ x1 p1 y1 p2 te1 b1 q1 _ b2 q2 te3 ta3 hcs' )
    refine AllReadyH.cons iE3 (fun K hK => ?_) ?_
    · refine step_build0 jE3 pE3 ?_
      rw [dE3]
      exact hK.out _ _ (hS _ _ _ _ (cs_alloc hcs)) (fun _ => G1_211 _ _ x1 p1 y1 p2 te1 b1 q1 g2 ta2 W.heap.size ta3 (cs_alloc hcs) (Or.inr h2) (Or.inl rfl) (hlt hcs g2 h2))
    exact AllReadyH.nil
  have G1_201 : ∀ (W : World) (Em : Nat → Prop) (x1 : Option Addr) (p1 : Nat) (y1 : Option Addr) (p2 : Nat) (te1 : Value) (b1 q1 : Nat) (te2 : Value) (ta2 : Value) (g3 : Nat) (ta3 : Value) (_ : CS w n0 bx rs ps ls W Em [(.slice (some ⟨b1, 0, none⟩) us.length q1, us)] [.agg #[.slice x1 ps.length p1, .slice y1 ls.length p2]]) (h3 : Em g3), wpAnyH Tryz.prog .any ops Q S 5 #[true, true, true, true, true, true, true, true, true, false, true, true, false, true, true, true, false, false, false] ⟨(cpTm c (.agg #[.slice x1 ps.length p1, .slice y1 ls.length p2]) te1 (.slice (some ⟨b1, 0, none⟩) us.length q1) te2 ta2 (.slice (some ⟨g3, 0, none⟩) 0 0) ta3), []⟩ W := by
    intro W Em x1 p1 y1 p2 te1 b1 q1 te2 ta2 g3 ta3 hcs h3
    refine wpAnyH_ready r1_201 (by simp) ?_
    refine AllReadyH.cons iE2 (fun K hK => ?_) ?_
    · refine step_build0 jE2 pE2 ?_
      rw [dE2]
      exact hK.out _ _ (hS _ _ _ _ (cs_alloc hcs)) (fun _ => G1_211 _ _ x1 p1 y1 p2 te1 b1 q1 W.heap.size ta2 g3 ta3 (cs_alloc hcs) (Or.inl rfl) (Or.inr h3) ((hlt hcs g3 h3).symm))
    exact AllReadyH.nil
  have G1_111 : ∀ (W : World) (Em : Nat → Prop) (x1 : Option Addr) (p1 : Nat) (y1 : Option Addr) (p2 : Nat) (g1 : Nat) (ta1 : Value) (g2 : Nat) (ta2 : Value) (g3 : Nat) (ta3 : Value) (_ : CS w n0 bx rs ps ls W Em [] [.agg #[.slice x1 ps.length p1, .slice y1 ls.length p2]]) (h1 : Em g1) (h2 : Em g2) (h3 : Em g3) (n12 : g1 ≠ g2) (n13 : g1 ≠ g3) (n23 : g2 ≠ g3), wpAnyH Tryz.prog .any ops Q S 5 #[true, true, true, true, true, true, true, true, false, true, true, true, false, true, true, true, false, false, false] ⟨(cpTm c (.agg #[.slice x1 ps.length p1, .slice y1 ls.length p2]) (.slice (some ⟨g1, 0, none⟩) 0 0) ta1 (.slice (some ⟨g2, 0, none⟩) 0 0) ta2 (.slice (some ⟨g3, 0, none⟩) 0 0) ta3), []⟩ W := by
    intro W Em x1 p1 y1 p2 g1 ta1 g2 ta2 g3 ta3 hcs h1 h2 h3 n12 n13 n23
    refine wpAnyH_ready r1_111 (by simp) ?_
    refine AllReadyH.cons iA1 (fun K hK => ?_) ?_
    · refine step_copy hcs jA1 (.tmp 8) (.tmp 10) pA1 rfl rfl us lu ru h1 (fun b1 q1 W' _ hcs' => ?_)
      rw [dA1]
      exact hK.out _ _ (hS _ _ _ _ hcs') (fun _ => G1_211 W' _ x1 p1 y1 p2 _ b1 q1 g2 ta2 g3 ta3 hcs' (⟨h2, n12.symm⟩) (⟨h3, n13.symm⟩) (n23))
    exact AllReadyH.nil
  have G1_200 : ∀ (W : World) (Em : Nat → Prop) (x1 : Option Addr) (p1 : Nat) (y1 : Option Addr) (p2 : Nat) (te1 : Value) (b1 q1 : Nat) (te2 : Value) (ta2 : Value) (te3 : Value) (ta3 : Value) (_ : CS w n0 bx rs ps ls W Em [(.slice (some ⟨b1, 0, none⟩) us.length q1, us)] [.agg #[.slice x1 ps.length p1, .slice y1 ls.length p2]]), wpAnyH Tryz.prog .any ops Q S 6 #[true, true, true, true, true, true, true, true, true, false, true, true, false, false, true, true, false, false, false] ⟨(cpTm c (.agg #[.slice x1 ps.length p1, .slice y1 ls.length p2]) te1 (.slice (some ⟨b1, 0, none⟩) us.length q1) te2 ta2 te3 ta3), []⟩ W := by
    intro W Em x1 p1 y1 p2 te1 b1 q1 te2 ta2 te3 ta3 hcs
    refine wpAnyH_ready r1_200 (by simp) ?_
    refine AllReadyH.cons iE2 (fun K hK => ?_) ?_
    · refine step_build0 jE2 pE2 ?_
      rw [dE2]
      exact hK.out _ _ (hS _ _ _ _ (cs_alloc hcs)) (fun _ => G1_210 _ _ x1 p1 y1 p2 te1 b1 q1 W.heap.size ta2 te3 ta3 (cs_alloc hcs) (Or.inl rfl))
    refine AllReadyH.cons iE3 (fun K hK => ?_) ?_
    · refine step_build0 jE3 pE3 ?_
      rw [dE3]
      exact hK.out _ _ (hS _ _ _ _ (cs_alloc hcs)) (fun _ => G1_201 _ _ x1 p1 y1 p2 te1 b1 q1 te2 ta2 W.heap.size ta3 (cs_alloc hcs) (Or.inl rfl))
    exact AllReadyH.nil
  have G1_110 : ∀ (W : World) (Em : Nat → Prop) (x1 : Option Addr) (p1 : Nat) (y1 : Option Addr) (p2 : Nat) (g1 : Nat) (ta1 : Value) (g2 : Nat) (ta2 : Value) (te3 : Value) (ta3 : Value) (_ : CS w n0 bx rs ps ls W Em [] [.agg #[.slice x1 ps.length p1, .slice y1 ls.length p2]]) (h1 : Em g1) (h2 : Em g2) (n12 : g1 ≠ g2), wpAnyH Tryz.prog .any ops Q S 6 #[true, true, true, true, true, true, true, true, false, true, true, true, false, false, true, true, false, false, false] ⟨(cpTm c (.agg #[.slice x1 ps.length p1, .slice y1 ls.length p2]) (.slice (some ⟨g1, 0, none⟩) 0 0) ta1 (.slice (some ⟨g2, 0, none⟩) 0 0) ta2 te3 ta3), []⟩ W := by
    intro W Em x1 p1 y1 p2 g1 ta1 g2 ta2 te3 ta3 hcs h1 h2 n12
    refine wpAnyH_ready r1_110 (by simp) ?_
    refine AllReadyH.cons iA1 (fun K hK => ?_) ?_
    · refine step_copy hcs jA1 (.tmp 8) (.tmp 10) pA1 rfl rfl us lu ru h1 (fun b1 q1 W' _ hcs' => ?_)
      rw [dA1]
      exact hK.out _ _ (hS _ _ _ _ hcs') (fun _ => G1_210 W' _ x1 p1 y1 p2 _ b1 q1 g2 ta2 te3 ta3 hcs' (⟨h2, n12.symm⟩))
    refine AllReadyH.cons iE3 (fun K hK => ?_) ?_
    · refine step_build0 jE3 pE3 ?_
      rw [dE3]
      exact hK.out _ _ (hS _ _ _ _ (cs_alloc hcs)) (fun _ => G1_111 _ _ x1 p1 y1 p2 g1 ta1 g2 ta2 W.heap.size ta3 (cs_alloc hcs) (Or.inr h1) (Or.inr h2) (Or.inl rfl) (n12) (hlt hcs g1 h1) (hlt hcs g2 h2))
    exact AllReadyH.nil
  have G1_101 : ∀ (W : World) (Em : Nat → Prop) (x1 : Option Addr) (p1 : Nat) (y1 : Option Addr) (p2 : Nat) (g1 : Nat) (ta1 : Value) (te2 : Value) (ta2 : Value) (g3 : Nat) (ta3 : Value) (_ : CS w n0 bx rs ps ls W Em [] [.agg #[.slice x1 ps.length p1, .slice y1 ls.length p2]]) (h1 : Em g1) (h3 : Em g3) (n13 : g1 ≠ g3), wpAnyH Tryz.prog .any ops Q S 6 #[true, true, true, true, true, true, true, true, false, false, true, true, false, true, true, true, false, false, false] ⟨(cpTm c (.agg #[.slice x1 ps.length p1, .slice y1 ls.length p2]) (.slice (some ⟨g1, 0, none⟩) 0 0) ta1 te2 ta2 (.slice (some ⟨g3, 0, none⟩) 0 0) ta3), []⟩ W := by
    intro W Em x1 p1 y1 p2 g1 ta1 te2 ta2 g3 ta3 hcs h1 h3 n13
    refine wpAnyH_ready r1_101 (by simp) ?_
    refine AllReadyH.cons iA1 (fun K hK => ?_) ?_
    · refine step_copy hcs jA1 (.tmp 8) (.tmp 10) pA1 rfl rfl us lu ru h1 (fun b1 q1 W' _ hcs' => ?_)
      rw [dA1]
      exact hK.out _ _ (hS _ _ _ _ hcs') (fun _ => G1_201 W' _ x1 p1 y1 p2 _ b1 q1 te2 ta2 g3 ta3 hcs' (⟨h3, n13.symm⟩))
    refine AllReadyH.cons iE2 (fun K hK => ?_) ?_
    · refine step_build0 jE2 pE2 ?_
      rw [dE2]
      exact hK.out _ _ (hS _ _ _ _ (cs_alloc hcs)) (fun _ => G1_111 _ _ x1 p1 y1 p2 g1 ta1 W.heap.size ta2 g3 ta3 (cs_alloc hcs) (Or.inr h1) (Or.inl rfl) (Or.inr h3) (hlt hcs g1 h1) (n13) ((hlt hcs g3 h3).symm))
    exact AllReadyH.nil
  have G1_011 : ∀ (W : World) (Em : Nat → Prop) (x1 : Option Addr) (p1 : Nat) (y1 : Option Addr) (p2 : Nat) (te1 : Value) (ta1 : Value) (g2 : Nat) (ta2 : Value) (g3 : Nat) (ta3 : Value) (_ : CS w n0 bx rs ps ls W Em [] [.agg #[.slice x1 ps.length p1, .slice y1 ls.length p2]]) (h2 : Em g2) (h3 : Em g3) (n23 : g2 ≠ g3), wpAnyH Tryz.prog .any ops Q S 6 #[true, true, true, true, true, false, true, true, false, true, true, true, false, true, true, true, false, false, false] ⟨(cpTm c (.agg #[.slice x1 ps.length p1, .slice y1 ls.length p2]) te1 ta1 (.slice (some ⟨g2, 0, none⟩) 0 0) ta2 (.slice (some ⟨g3, 0, none⟩) 0 0) ta3), []⟩ W := by
    intro W Em x1 p1 y1 p2 te1 ta1 g2 ta2 g3 ta3 hcs h2 h3 n23
    refine wpAnyH_ready r1_011 (by simp) ?_
    refine AllReadyH.cons iE1 (fun K hK => ?_) ?_
    · refine step_build0 jE1 pE1 ?_
      rw [dE1]
      exact hK.out _ _ (hS _ _ _ _ (cs_alloc hcs)) (fun _ => G1_111 _ _ x1 p1 y1 p2 W.heap.size ta1 g2 ta2 g3 ta3 (cs_alloc hcs) (Or.inl rfl) (Or.inr h2) (Or.inr h3) ((hlt hcs g2 h2).symm) ((hlt hcs g3 h3).symm) (n23))
    exact AllReadyH.nil
  have G0_111 : ∀ (W : World) (Em : Nat → Prop) (t5 : Value) (g1 : Nat) (ta1 : Value) (g2 : Nat) (ta2 : Value) (g3 : Nat) (ta3 : Value) (_ : CS w n0 bx rs ps ls W Em [] []) (h1 : Em g1) (h2 : Em g2) (h3 : Em g3) (n12 : g1 ≠ g2) (n13 : g1 ≠ g3) (n23 : g2 ≠ g3), wpAnyH Tryz.prog .any ops Q S 6 #[true, true, false, true, true, true, true, true, false, true, true, true, false, true, true, true, false, false, false] ⟨(cpTm c t5 (.slice (some ⟨g1, 0, none⟩) 0 0) ta1 (.slice (some ⟨g2, 0, none⟩) 0 0) ta2 (.slice (some ⟨g3, 0, none⟩) 0 0) ta3), []⟩ W := by
    intro W Em t5 g1 ta1 g2 ta2 g3 ta3 hcs h1 h2 h3 n12 n13 n23
    refine wpAnyH_ready r0_111 (by simp) ?_
    refine AllReadyH.cons iC (fun K hK => ?_) ?_
    · refine step_callcs hcs jC f fn hfn hname hbody (.tmp 4) ts pC c.c4 rfl hc hd (fun x1 p1 y1 p2 W' _ hcs' => ?_)
      rw [dC]
      exact hK.out _ _ (hS _ _ _ _ hcs') (fun _ => G1_111 W' _ x1 p1 y1 p2 g1 ta1 g2 ta2 g3 ta3 hcs' (h1) (h2) (h3) (n12) (n13) (n23))
    exact AllReadyH.nil
  have G1_100 : ∀ (W : World) (Em : Nat → Prop) (x1 : Option Addr) (p1 : Nat) (y1 : Option Addr) (p2 : Nat) (g1 : Nat) (ta1 : Value) (te2 : Value) (ta2 : Value) (te3 : Value) (ta3 : Value) (_ : CS w n0 bx rs ps ls W Em [] [.agg #[.slice x1 ps.length p1, .slice y1 ls.length p2]]) (h1 : Em g1), wpAnyH Tryz.prog .any ops Q S 7 #[true, true, true, true, true, true, true, true, false, false, true, true, false, false, true, true, false, false, false] ⟨(cpTm c (.agg #[.slice x1 ps.length p1, .slice y1 ls.length p2]) (.slice (some ⟨g1, 0, none⟩) 0 0) ta1 te2 ta2 te3 ta3), []⟩ W := by
    intro W Em x1 p1 y1 p2 g1 ta1 te2 ta2 te3 ta3 hcs h1
    refine wpAnyH_ready r1_100 (by simp) ?_
    refine AllReadyH.cons iA1 (fun K hK => ?_) ?_
    · refine step_copy hcs jA1 (.tmp 8) (.tmp 10) pA1 rfl rfl us lu ru h1 (fun b1 q1 W' _ hcs' => ?_)
      rw [dA1]
      exact hK.out _ _ (hS _ _ _ _ hcs') (fun _ => G1_200 W' _ x1 p1 y1 p2 _ b1 q1 te2 ta2 te3 ta3 hcs' )
    refine AllReadyH.cons iE2 (fun K hK => ?_) ?_
    · refine step_build0 jE2 pE2 ?_
      rw [dE2]
      exact hK.out _ _ (hS _ _ _ _ (cs_alloc hcs)) (fun _ => G1_110 _ _ x1 p1 y1 p2 g1 ta1 W.heap.size ta2 te3 ta3 (cs_alloc hcs) (Or.inr h1) (Or.inl rfl) (hlt hcs g1 h1))
    refine AllReadyH.cons iE3 (fun K hK => ?_) ?_
    · refine step_build0 jE3 pE3 ?_
      rw [dE3]
      exact hK.out _ _ (hS _ _ _ _ (cs_alloc hcs)) (fun _ => G1_101 _ _ x1 p1 y1 p2 g1 ta1 te2 ta2 W.heap.size ta3 (cs_alloc hcs) (Or.inr h1) (Or.inl rfl) (hlt hcs g1 h1))
    exact AllReadyH.nil
  have G1_010 : ∀ (W : World) (Em : Nat → Prop) (x1 : Option Addr) (p1 : Nat) (y1 : Option Addr) (p2 : Nat) (te1 : Value) (ta1 : Value) (g2 : Nat) (ta2 : Value) (te3 : Value) (ta3 : Value) (_ : CS w n0 bx rs ps ls W Em [] [.agg #[.slice x1 ps.length p1, .slice y1 ls.length p2]]) (h2 : Em g2), wpAnyH Tryz.prog .any ops Q S 7 #[true, true, true, true, true, false, true, true, false, true, true, true, false, false, true, true, false, false, false] ⟨(cpTm c (.agg #[.slice x1 ps.length p1, .slice y1 ls.length p2]) te1 ta1 (.slice (some ⟨g2, 0, none⟩) 0 0) ta2 te3 ta3), []⟩ W := by
    intro W Em x1 p1 y1 p2 te1 ta1 g2 ta2 te3 ta3 hcs h2
    refine wpAnyH_ready r1_010 (by simp) ?_
    refine AllReadyH.cons iE1 (fun K hK => ?_) ?_
    · refine step_build0 jE1 pE1 ?_
      rw [dE1]
      exact hK.out _ _ (hS _ _ _ _ (cs_alloc hcs)) (fun _ => G1_110 _ _ x1 p1 y1 p2 W.heap.size ta1 g2 ta2 te3 ta3 (cs_alloc hcs) (Or.inl rfl) (Or.inr h2) ((hlt hcs g2 h2).symm))
    refine AllReadyH.cons iE3 (fun K hK => ?_) ?_
    · refine step_build0 jE3 pE3 ?_
      rw [dE3]
      exact hK.out _ _ (hS _ _ _ _ (cs_alloc hcs)) (fun _ => G1_011 _ _ x1 p1 y1 p2 te1 ta1 g2 ta2 W.heap.size ta3 (cs_alloc hcs) (Or.inr h2) (Or.inl rfl) (hlt hcs g2 h2))
    exact AllReadyH.nil
  have G1_001 : ∀ (W : World) (Em : Nat → Prop) (x1 : Option Addr) (p1 : Nat) (y1 : Option Addr) (p2 : Nat) (te1 : Value) (ta1 : Value) (te2 : Value) (ta2 : Value) (g3 : Nat) (ta3 : Value) (_ : CS w n0 bx rs ps ls W Em [] [.agg #[.slice x1 ps.length p1, .slice y1 ls.length p2]]) (h3 : Em g3), wpAnyH Tryz.prog .any ops Q S 7 #[true, true, true, true, true, false, true, true, false, false, true, true, false, true, true, true, false, false, false] ⟨(cpTm c (.agg #[.slice x1 ps.length p1, .slice y1 ls.length p2]) te1 ta1 te2 ta2 (.slice (some ⟨g3, 0, none⟩) 0 0) ta3), []⟩ W := by
    intro W Em x1 p1 y1 p2 te1 ta1 te2 ta2 g3 ta3 hcs h3
    refine wpAnyH_ready r1_001 (by simp) ?_
    refine AllReadyH.cons iE1 (fun K hK => ?_) ?_
    · refine step_build0 jE1 pE1 ?_
      rw [dE1]
      exact hK.out _ _ (hS _ _ _ _ (cs_alloc hcs)) (fun _ => G1_101 _ _ x1 p1 y1 p2 W.heap.size ta1 te2 ta2 g3 ta3 (cs_alloc hcs) (Or.inl rfl) (Or.inr h3) ((hlt hcs g3 h3).symm))
    refine AllReadyH.cons iE2 (fun K hK => ?_) ?_
    · refine step_build0 jE2 pE2 ?_
      rw [dE2]
      exact hK.out _ _ (hS _ _ _ _ (cs_alloc hcs)) (fun _ => G1_011 _ _ x1 p1 y1 p2 te1 ta1 W.heap.size ta2 g3 ta3 (cs_alloc hcs) (Or.inl rfl) (Or.inr h3) ((hlt hcs g3 h3).symm))
    exact AllReadyH.nil
  have G0_110 : ∀ (W : World) (Em : Nat → Prop) (t5 : Value) (g1 : Nat) (ta1 : Value) (g2 : Nat) (ta2 : Value) (te3 : Value) (ta3 : Value) (_ : CS w n0 bx rs ps ls W Em [] []) (h1 : Em g1) (h2 : Em g2) (n12 : g1 ≠ g2), wpAnyH Tryz.prog .any ops Q S 7 #[true, true, false, true, true, true, true, true, false, true, true, true, false, false, true, true, false, false, false] ⟨(cpTm c t5 (.slice (some ⟨g1, 0, none⟩) 0 0) ta1 (.slice (some ⟨g2, 0, none⟩) 0 0) ta2 te3 ta3), []⟩ W := by
    intro W Em t5 g1 ta1 g2 ta2 te3 ta3 hcs h1 h2 n12
    refine wpAnyH_ready r0_110 (by simp) ?_
    refine AllReadyH.cons iC (fun K hK => ?_) ?_
    · refine step_callcs hcs jC f fn hfn hname hbody (.tmp 4) ts pC c.c4 rfl hc hd (fun x1 p1 y1 p2 W' _ hcs' => ?_)
      rw [dC]
      exact hK.out _ _ (hS _ _ _ _ hcs') (fun _ => G1_110 W' _ x1 p1 y1 p2 g1 ta1 g2 ta2 te3 ta3 hcs' (h1) (h2) (n12))
    refine AllReadyH.cons iE3 (fun K hK => ?_) ?_
    · refine step_build0 jE3 pE3 ?_
      rw [dE3]
      exact hK.out _ _ (hS _ _ _ _ (cs_alloc hcs)) (fun _ => G0_111 _ _ t5 g1 ta1 g2 ta2 W.heap.size ta3 (cs_alloc hcs) (Or.inr h1) (Or.inr h2) (Or.inl rfl) (n12) (hlt hcs g1 h1) (hlt hcs g2 h2))
    exact AllReadyH.nil
  have G0_101 : ∀ (W : World) (Em : Nat → Prop) (t5 : Value) (g1 : Nat) (ta1 : Value) (te2 : Value) (ta2 : Value) (g3 : Nat) (ta3 : Value) (_ : CS w n0 bx rs ps ls W Em [] []) (h1 : Em g1) (h3 : Em g3) (n13 : g1 ≠ g3), wpAnyH Tryz.prog .any ops Q S 7 #[true, true, false, true, true, true, true, true, false, false, true, true, false, true, true, true, false, false, false] ⟨(cpTm c t5 (.slice (some ⟨g1, 0, none⟩) 0 0) ta1 te2 ta2 (.slice (some ⟨g3, 0, none⟩) 0 0) ta3), []⟩ W := by
    intro W Em t5 g1 ta1 te2 ta2 g3 ta3 hcs h1 h3 n13
    refine wpAnyH_ready r0_101 (by simp) ?_
    refine AllReadyH.cons iC (fun K hK => ?_) ?_
    · refine step_callcs hcs jC f fn hfn hname hbody (.tmp 4) ts pC c.c4 rfl hc hd (fun x1 p1 y1 p2 W' _ hcs' => ?_)
      rw [dC]
      exact hK.out _ _ (hS _ _ _ _ hcs') (fun _ => G1_101 W' _ x1 p1 y1 p2 g1 ta1 te2 ta2 g3 ta3 hcs' (h1) (h3) (n13))
    refine AllReadyH.cons iE2 (fun K hK => ?_) ?_
    · refine step_build0 jE2 pE2 ?_
      rw [dE2]
      exact hK.out _ _ (hS _ _ _ _ (cs_alloc hcs)) (fun _ => G0_111 _ _ t5 g1 ta1 W.heap.size ta2 g3 ta3 (cs_alloc hcs) (Or.inr h1) (Or.inl rfl) (Or.inr h3) (hlt hcs g1 h1) (n13) ((hlt hcs g3 h3).symm))
    exact AllReadyH.nil
  have G0_011 : ∀ (W : World) (Em : Nat → Prop) (t5 : Value) (te1 : Value) (ta1 : Value) (g2 : Nat) (ta2 : Value) (g3 : Nat) (ta3 : Value) (_ : CS w n0 bx rs ps ls W Em [] []) (h2 : Em g2) (h3 : Em g3) (n23 : g2 ≠ g3), wpAnyH Tryz.prog .any ops Q S 7 #[true, true, false, true, true, false, true, true, false, true, true, true, false, true, true, true, false, false, false] ⟨(cpTm c t5 te1 ta1 (.slice (some ⟨g2, 0, none⟩) 0 0) ta2 (.slice (some ⟨g3, 0, none⟩) 0 0) ta3), []⟩ W := by
    intro W Em t5 te1 ta1 g2 ta2 g3 ta3 hcs h2 h3 n23
    refine wpAnyH_ready r0_011 (by simp) ?_
    refine AllReadyH.cons iC (fun K hK => ?_) ?_
    · refine step_callcs hcs jC f fn hfn hname hbody (.tmp 4) ts pC c.c4 rfl hc hd (fun x1 p1 y1 p2 W' _ hcs' => ?_)
      rw [dC]
      exact hK.out _ _ (hS _ _ _ _ hcs') (fun _ => G1_011 W' _ x1 p1 y1 p2 te1 ta1 g2 ta2 g3 ta3 hcs' (h2) (h3) (n23))
    refine AllReadyH.cons iE1 (fun K hK => ?_) ?_
    · refine step_build0 jE1 pE1 ?_
      rw [dE1]
      exact hK.out _ _ (hS _ _ _ _ (cs_alloc hcs)) (fun _ => G0_111 _ _ t5 W.heap.size ta1 g2 ta2 g3 ta3 (cs_alloc hcs) (Or.inl rfl) (Or.inr h2) (Or.inr h3) ((hlt hcs g2 h2).symm) ((hlt hcs g3 h3).symm) (n23))
    exact AllReadyH.nil
  have G1_000 : ∀ (W : World) (Em : Nat → Prop) (x1 : Option Addr) (p1 : Nat) (y1 : Option Addr) (p2 : Nat) (te1 : Value) (ta1 : Value) (te2 : Value) (ta2 : Value) (te3 : Value) (ta3 : Value) (_ : CS w n0 bx rs ps ls W Em [] [.agg #[.slice x1 ps.length p1, .slice y1 ls.length p2]]), wpAnyH Tryz.prog .any ops Q S 8 #[true, true, true, true, true, false, true, true, false, false, true, true, false, false, true, true, false, false, false] ⟨(cpTm c (.agg #[.slice x1 ps.length p1, .slice y1 ls.length p2]) te1 ta1 te2 ta2 te3 ta3), []⟩ W := by
    intro W Em x1 p1 y1 p2 te1 ta1 te2 ta2 te3 ta3 hcs
    refine wpAnyH_ready r1_000 (by simp) ?_
    refine AllReadyH.cons iE1 (fun K hK => ?_) ?_
    · refine step_build0 jE1 pE1 ?_
      rw [dE1]
      exact hK.out _ _ (hS _ _ _ _ (cs_alloc hcs)) (fun _ => G1_100 _ _ x1 p1 y1 p2 W.heap.size ta1 te2 ta2 te3 ta3 (cs_alloc hcs) (Or.inl rfl))
    refine AllReadyH.cons iE2 (fun K hK => ?_) ?_
    · refine step_build0 jE2 pE2 ?_
      rw [dE2]
      exact hK.out _ _ (hS _ _ _ _ (cs_alloc hcs)) (fun _ => G1_010 _ _ x1 p1 y1 p2 te1 ta1 W.heap.size ta2 te3 ta3 (cs_alloc hcs) (Or.inl rfl))
    refine AllReadyH.cons iE3 (fun K hK => ?_) ?_
    · refine step_build0 jE3 pE3 ?_
      rw [dE3]
      exact hK.out _ _ (hS _ _ _ _ (cs_alloc hcs)) (fun _ => G1_001 _ _ x1 p1 y1 p2 te1 ta1 te2 ta2 W.heap.size ta3 (cs_alloc hcs) (Or.inl rfl))
    exact AllReadyH.nil
  have G0_100 : ∀ (W : World) (Em : Nat → Prop) (t5 : Value) (g1 : Nat) (ta1 : Value) (te2 : Value) (ta2 : Value) (te3 : Value) (ta3 : Value) (_ : CS w n0 bx rs ps ls W Em [] []) (h1 : Em g1), wpAnyH Tryz.prog .any ops Q S 8 #[true, true, false, true, true, true, true, true, false, false, true, true, false, false, true, true, false, false, false] ⟨(cpTm c t5 (.slice (some ⟨g1, 0, none⟩) 0 0) ta1 te2 ta2 te3 ta3), []⟩ W := by
    intro W Em t5 g1 ta1 te2 ta2 te3 ta3 hcs h1
    refine wpAnyH_ready r0_100 (by simp) ?_
    refine AllReadyH.cons iC (fun K hK => ?_) ?_
    · refine step_callcs hcs jC f fn hfn hname hbody (.tmp 4) ts pC c.c4 rfl hc hd (fun x1 p1 y1 p2 W' _ hcs' => ?_)
      rw [dC]
      exact hK.out _ _ (hS _ _ _ _ hcs') (fun _ => G1_100 W' _ x1 p1 y1 p2 g1 ta1 te2 ta2 te3 ta3 hcs' (h1))
    refine AllReadyH.cons iE2 (fun K hK => ?_) ?_
    · refine step_build0 jE2 pE2 ?_
      rw [dE2]
      exact hK.out _ _ (hS _ _ _ _ (cs_alloc hcs)) (fun _ => G0_110 _ _ t5 g1 ta1 W.heap.size ta2 te3 ta3 (cs_alloc hcs) (Or.inr h1) (Or.inl rfl) (hlt hcs g1 h1))
    refine AllReadyH.cons iE3 (fun K hK => ?_) ?_
    · refine step_build0 jE3 pE3 ?_
      rw [dE3]
      exact hK.out _ _ (hS _ _ _ _ (cs_alloc hcs)) (fun _ => G0_101 _ _ t5 g1 ta1 te2 ta2 W.heap.size ta3 (cs_alloc hcs) (Or.inr h1) (Or.inl rfl) (hlt hcs g1 h1))
    exact AllReadyH.nil
  have G0_010 : ∀ (W : World) (Em : Nat → Prop) (t5 : Value) (te1 : Value) (ta1 : Value) (g2 : Nat) (ta2 : Value) (te3 : Value) (ta3 : Value) (_ : CS w n0 bx rs ps ls W Em [] []) (h2 : Em g2), wpAnyH Tryz.prog .any ops Q S 8 #[true, true, false, true, true, false, true, true, false, true, true, true, false, false, true, true, false, false, false] ⟨(cpTm c t5 te1 ta1 (.slice (some ⟨g2, 0, none⟩) 0 0) ta2 te3 ta3), []⟩ W := by
    intro W Em t5 te1 ta1 g2 ta2 te3 ta3 hcs h2
    refine wpAnyH_ready r0_010 (by simp) ?_
    refine AllReadyH.cons iC (fun K hK => ?_) ?_
    · refine step_callcs hcs jC f fn hfn hname hbody (.tmp 4) ts pC c.c4 rfl hc hd (fun x1 p1 y1 p2 W' _ hcs' => ?_)
      rw [dC]
      exact hK.out _ _ (hS _ _ _ _ hcs') (fun _ => G1_010 W' _ x1 p1 y1 p2 te1 ta1 g2 ta2 te3 ta3 hcs' (h2))
    refine AllReadyH.cons iE1 (fun K hK => ?_) ?_
    · refine step_build0 jE1 pE1 ?_
      rw [dE1]
      exact hK.out _ _ (hS _ _ _ _ (cs_alloc hcs)) (fun _ => G0_110 _ _ t5 W.heap.size ta1 g2 ta2 te3 ta3 (cs_alloc hcs) (Or.inl rfl) (Or.inr h2) ((hlt hcs g2 h2).symm))
    refine AllReadyH.cons iE3 (fun K hK => ?_) ?_
    · refine step_build0 jE3 pE3 ?_
      rw [dE3]
      exact hK.out _ _ (hS _ _ _ _ (cs_alloc hcs)) (fun _ => G0_011 _ _ t5 te1 ta1 g2 ta2 W.heap.size ta3 (cs_alloc hcs) (Or.inr h2) (Or.inl rfl) (hlt hcs g2 h2))
    exact AllReadyH.nil
  have G0_001 : ∀ (W : World) (Em : Nat → Prop) (t5 : Value) (te1 : Value) (ta1 : Value) (te2 : Value) (ta2 : Value) (g3 : Nat) (ta3 : Value) (_ : CS w n0 bx rs ps ls W Em [] []) (h3 : Em g3), wpAnyH Tryz.prog .any ops Q S 8 #[true, true, false, true, true, false, true, true, false, false, true, true, false, true, true, true, false, false, false] ⟨(cpTm c t5 te1 ta1 te2 ta2 (.slice (some ⟨g3, 0, none⟩) 0 0) ta3), []⟩ W := by
    intro W Em t5 te1 ta1 te2 ta2 g3 ta3 hcs h3
    refine wpAnyH_ready r0_001 (by simp) ?_
    refine AllReadyH.cons iC (fun K hK => ?_) ?_
    · refine step_callcs hcs jC f fn hfn hname hbody (.tmp 4) ts pC c.c4 rfl hc hd (fun x1 p1 y1 p2 W' _ hcs' => ?_)
      rw [dC]
      exact hK.out _ _ (hS _ _ _ _ hcs') (fun _ => G1_001 W' _ x1 p1 y1 p2 te1 ta1 te2 ta2 g3 ta3 hcs' (h3))
    refine AllReadyH.cons iE1 (fun K hK => ?_) ?_
    · refine step_build0 jE1 pE1 ?_
      rw [dE1]
      exact hK.out _ _ (hS _ _ _ _ (cs_alloc hcs)) (fun _ => G0_101 _ _ t5 W.heap.size ta1 te2 ta2 g3 ta3 (cs_alloc hcs) (Or.inl rfl) (Or.inr h3) ((hlt hcs g3 h3).symm))
    refine AllReadyH.cons iE2 (fun K hK => ?_) ?_
    · refine step_build0 jE2 pE2 ?_
      rw [dE2]
      exact hK.out _ _ (hS _ _ _ _ (cs_alloc hcs)) (fun _ => G0_011 _ _ t5 te1 ta1 W.heap.size ta2 g3 ta3 (cs_alloc hcs) (Or.inl rfl) (Or.inr h3) ((hlt hcs g3 h3).symm))
    exact AllReadyH.nil
  have G0_000 : ∀ (W : World) (Em : Nat → Prop) (t5 : Value) (te1 : Value) (ta1 : Value) (te2 : Value) (ta2 : Value) (te3 : Value) (ta3 : Value) (_ : CS w n0 bx rs ps ls W Em [] []), wpAnyH Tryz.prog .any ops Q S 9 #[true, true, false, true, true, false, true, true, false, false, true, true, false, false, true, true, false, false, false] ⟨(cpTm c t5 te1 ta1 te2 ta2 te3 ta3), []⟩ W := by
    intro W Em t5 te1 ta1 te2 ta2 te3 ta3 hcs
    refine wpAnyH_ready r0_000 (by simp) ?_
    refine AllReadyH.cons iC (fun K hK => ?_) ?_
    · refine step_callcs hcs jC f fn hfn hname hbody (.tmp 4) ts pC c.c4 rfl hc hd (fun x1 p1 y1 p2 W' _ hcs' => ?_)
      rw [dC]
      exact hK.out _ _ (hS _ _ _ _ hcs') (fun _ => G1_000 W' _ x1 p1 y1 p2 te1 ta1 te2 ta2 te3 ta3 hcs' )
    refine AllReadyH.cons iE1 (fun K hK => ?_) ?_
    · refine step_build0 jE1 pE1 ?_
      rw [dE1]
      exact hK.out _ _ (hS _ _ _ _ (cs_alloc hcs)) (fun _ => G0_100 _ _ t5 W.heap.size ta1 te2 ta2 te3 ta3 (cs_alloc hcs) (Or.inl rfl))
    refine AllReadyH.cons iE2 (fun K hK => ?_) ?_
    · refine step_build0 jE2 pE2 ?_
      rw [dE2]
      exact hK.out _ _ (hS _ _ _ _ (cs_alloc hcs)) (fun _ => G0_010 _ _ t5 te1 ta1 W.heap.size ta2 te3 ta3 (cs_alloc hcs) (Or.inl rfl))
    refine AllReadyH.cons iE3 (fun K hK => ?_) ?_
    · refine step_build0 jE3 pE3 ?_
      rw [dE3]
      exact hK.out _ _ (hS _ _ _ _ (cs_alloc hcs)) (fun _ => G0_001 _ _ t5 te1 ta1 te2 ta2 W.heap.size ta3 (cs_alloc hcs) (Or.inl rfl))
    exact AllReadyH.nil
  exact fun W h => G0_000 W _ undef undef undef undef undef undef undef h
end Go.Proofs.YtbokjfjdjgopeaaGreatDoor

namespace Go.Proofs.YtbokjfjdjgopeaaGreatDoor
open Go.RowKit

end Go.Proofs.YtbokjfjdjgopeaaGreatDoor
