/-
  More draws by contracts: l01Once, l01New, l01Text, l01Long. Which text is drawn is not said but its length's bound.
-/
import Derived.Test.YtmmepgincbngeaaDraw
import Derived.Test.YtmmepgincbngeaaOwn
import Derived.Deep.LoopGhost
namespace Go.Proofs.Ytmmepgincbngeaa
open Go.RowKit

theorem grown_alloc {a b : World} {r : Option Nat} (h : a.grownBy b r) (o : Obj) : a.grownBy (b.alloc o) r := grown_trans h (World.grownBy_alloc b o r)

/-- an append to a row of our own that was laid behind w turns nothing that w had -/
theorem grown_app {w wr w1 : World} {g : Nat} {row : Option Nat} {o : Obj} (h : w.grownBy wr (some g)) (ha : (wr.alloc o).grownBy w1 row) (hr : ∀ k, row = some k → w.heap.size ≤ k) : w.grownBy w1 (some g) := by
  have h2 := grown_alloc h o
  exact ⟨ha.os.trans h2.os, ha.tape.trans h2.tape, ha.output.trans h2.output, Nat.le_trans h2.size ha.size, fun k hk hne =>
    (ha.block k (Nat.lt_of_lt_of_le hk h2.size) (fun e => by have := hr k e.symm; omega)).trans (h2.block k hk hne)⟩

end Go.Proofs.Ytmmepgincbngeaa
