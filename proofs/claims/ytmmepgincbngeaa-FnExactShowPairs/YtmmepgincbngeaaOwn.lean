/-
  Small facts on rows of bytes that a call has made itself: what 'append' leaves alone, and what 'string(..)' of such a row gives.
-/
import Derived.Test.YtmmepgincbngeaaProg
import Derived.Test.YtmmepgincbngeaaPlain1
import Derived.Laws.IdiomStrings
import Derived.Laws.BytesArg
import Derived.OwnWalk
import Derived.WalkKit
namespace Go.Proofs.Ytmmepgincbngeaa
open Go.RowKit

theorem Try.infoByte : (Try.prog.info? 5).map (fun i => (i.zero, i.size, i.bytes)) = some (some (.int .u8 0), 1, 1) := by kernel_rfl

/-- 'string(out)' of a row of our own, empty or not -/
theorem string_own {P : Program} {w : World} {B src dst e : TypeId} {v : Value} {l : List UInt8} (hs : P.underlying src = some (.slice e)) (he : P.underlying e = some (.int .u8)) (hd : P.underlying dst = some .string)
    (hown : w.ownsRow B e 1 v l.length (Lib.byteCells l)) : (convert src dst v).run P w = .ok (.string ⟨l.toArray⟩) w := by
  rcases hown.2 with ⟨rfl, h0⟩ | ⟨g, cap, cur, rfl, -, -, -, -, -, -⟩
  · rw [run_convert_bytes_nil w src e hs he 0 0 dst hd]
    obtain rfl : l = [] := List.length_eq_zero_iff.1 h0
    rfl
  · exact run_convert_bytes_back (P := P) w src dst e ⟨g, 0, none⟩ cap l hs he hd (fun j hj => hown.cells (g := g) rfl j _ (by simp [Lib.byteCells, hj]))

theorem below_grow {B : Nat} {w wr w0 w1 : World} {v : Value} {n : Nat} {xs : List Value} {e sz : Nat} (hb : Below B w wr) (hB : B ≤ wr.heap.size) (hown : wr.ownsRow B e sz v n xs) (h0 : Below B wr w0) (hg : w0.grownBy w1 v.ownBlock) : Below B w w1 :=
  (hb.trans h0).grown hg (by have := h0.size; omega) (fun k hk => (hown.lt k hk).1)
end Go.Proofs.Ytmmepgincbngeaa
