/-
  l01Long, l01PickInt, l01Number, DrawVarText and DrawHex by contracts: some number, some text of at most 20001 bytes; nothing that was there is turned.
-/
import Derived.Test.YthcakofocbileaaDraw2
namespace Go.Proofs.Ythcakofocbileaa
open Go.RowKit

theorem cells_set (l : List UInt8) (k x : Nat) (hx : x < 256) : (Lib.byteCells l).set k (.int .u8 (x : Int)) = Lib.byteCells (l.set k (UInt8.ofNat x)) := by
  unfold Lib.byteCells
  rw [List.map_set, toNat_ofNat8 x hx]

def picks : List Int := [-1, 0, 127, 128, 16383, 16384, 1000000000, 1000000001, 9223372036854775807, -9223372036854775808]

theorem picks_in (z : Int) (h : z ∈ picks) : -9223372036854775808 ≤ z ∧ z ≤ 9223372036854775807 := by
  simp only [picks, List.mem_cons, List.not_mem_nil, or_false] at h
  omega

theorem picks_at {w : World} (j : Nat) (h : j < picks.length) : (w.alloc (Obj.cells #[.int .i64 (-1), .int .i64 0, .int .i64 127, .int .i64 128, .int .i64 16383, .int .i64 16384, .int .i64 1000000000, .int .i64 1000000001, .int .i64 9223372036854775807, .int .i64 (-9223372036854775808)] 3)).cell? ⟨w.heap.size, j, none⟩ = some (.int .i64 (picks.getD j 0)) := by
  rw [World.cell?_alloc_mark]
  have e : (#[.int .i64 (-1), .int .i64 0, .int .i64 127, .int .i64 128, .int .i64 16383, .int .i64 16384, .int .i64 1000000000, .int .i64 1000000001, .int .i64 9223372036854775807, .int .i64 (-9223372036854775808)] : Array Value) = (picks.map (Value.int .i64)).toArray := rfl
  rw [e]
  simp [List.getD, h]

end Go.Proofs.Ythcakofocbileaa
