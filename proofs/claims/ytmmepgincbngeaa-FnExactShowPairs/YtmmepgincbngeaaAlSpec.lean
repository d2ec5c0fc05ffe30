/-
  What is met in a tree (spec.l07All) behind a pointer: three lists and two flags, and how each of them grows. No function of the program.
-/
import Derived.Test.YtmmepgincbngeaaPlain24
import Derived.Test.YtmmepgincbngeaaNode
import Derived.Test.YtmmepgincbngeaaRangeSep
namespace Go.Proofs.Ytmmepgincbngeaa
open Go.RowKit

/-- a row of pairs -/
def prs (l : List (ByteArray × ByteArray)) : List Value := l.flatMap fun p => [.string p.1, .string p.2]

theorem prs_snoc (l : List (ByteArray × ByteArray)) (k v : ByteArray) : prs l ++ [.string k, .string v] = prs (l ++ [(k, v)]) := by simp [prs]

theorem prs_length (l : List (ByteArray × ByteArray)) : (prs l).length = l.length * 2 := by
  induction l with
  | nil => rfl
  | cons p l ih => simp only [prs, List.flatMap_cons, List.length_append, List.length_cons, List.length_nil] at ih ⊢; omega

theorem ints_snoc (l : List Int) (x : Int) : ints l ++ [.int .i64 x] = ints (l ++ [x]) := by simp [ints]

/-- its blocks -/
def AlF (ga : Nat) (vp vg vd : Value) (k : Nat) : Prop := k = ga ∨ vp.ownBlock = some k ∨ vg.ownBlock = some k ∨ vd.ownBlock = some k

theorem Try.pair_int : (32 : Nat) ≠ 3 := by decide

theorem kept_app {W w' : World} {o : Obj} {v : Value} (hg : (W.alloc o).grownBy w' v.ownBlock) : Kept W w' (fun k => v.ownBlock = some k) :=
  ⟨hg.os, hg.tape, hg.output, Nat.le_trans (by simp) hg.size, fun k hk hn => (hg.block k (by simp; omega) (fun e => hn e.symm)).trans (heap_alloc_old W o hk)⟩

end Go.Proofs.Ytmmepgincbngeaa
