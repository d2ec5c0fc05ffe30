/-
  More draws by contracts: l01Once, l01New, l01Text, l01Long. Which text is drawn is not said but its length's bound.
-/
import Derived.Test.YthcakofocbileaaDraw
import Derived.Test.YthcakofocbileaaOwn
import Derived.Deep.LoopGhost
namespace Go.Proofs.Ythcakofocbileaa
open Go.RowKit

set_option maxHeartbeats 1000000 in
set_option maxRecDepth 100000 in
theorem l01New_any (a : Option Addr) (len cap : Nat) (w : World) (hd : CodeIn w w.heap.size a len) :
    Calls Try.prog 24 #[.slice a len cap] w fun e w' => e = .returned (.pointer (some ⟨w.heap.size, 0, none⟩)) ∧ CurAt w' w.heap.size a len cap ∧ CodeIn w' w.heap.size a len ∧ Below w.heap.size w w' := by
  have hlen := hd.1
  have HD := hide hd
  clear hd
  go_enter Try.func24, Try.ntmps24
  go_wp2
  go_loopg [3, 4] len (fun q hv iv wr => ∃ (k : Nat) (h : Int), k ≤ len ∧ hv = .int .i64 h ∧ iv = .int .i64 (k : Int) ∧ q + k = len ∧ w = wr)
  case atStart => exact ⟨0, _, Nat.zero_le _, rfl, rfl, rfl, rfl⟩
  case round =>
    obtain ⟨k, h, hk, rfl, rfl, hg, rfl⟩ := hrel
    have HG := hide hg
    clear hg
    by_cases hlt : k < len
    · by_cases h4 : k < 4000
      · rcases HD.out.2 with h0 | ⟨b, off, rfl, hb, hz⟩
        · omega
        · obtain ⟨z, hz256, hzc⟩ := hz k hlt
          clear hz
          have hi0 : (0 : Int) ≤ (k : Int) := by omega
          have hi1 : (k : Int) < (len : Int) := by omega
          go_wp2
          go_roundg (gk - 1)
          case measure => have := HG.out; omega
          case rel => exact ⟨k + 1, _, by omega, rfl, by go_num, by have := HG.out; omega, rfl⟩
      · have hn4 : decide ((k : Int) < 4000) = false := by simp; omega
        go_wp2
        go_ret
        exact ⟨rfl, ⟨0, h, Nat.zero_le _, heap_alloc_new w _⟩, ⟨HD.out.1, HD.out.2.imp id (fun ⟨b, off, e, hb, hz⟩ => ⟨b, off, e, hb, fun j hj => by obtain ⟨z, h1, h2⟩ := hz j hj; exact ⟨z, h1, by rw [World.cell?_of_block (Below.heap_alloc w _ b hb)]; exact h2⟩⟩)⟩, (Below.refl _ _).alloc (Nat.le_refl _) _⟩
    · have hnl : decide ((k : Int) < (len : Int)) = false := by simp; omega
      go_wp2
      go_ret
      exact ⟨rfl, ⟨0, h, Nat.zero_le _, heap_alloc_new w _⟩, ⟨HD.out.1, HD.out.2.imp id (fun ⟨b, off, e, hb, hz⟩ => ⟨b, off, e, hb, fun j hj => by obtain ⟨z, h1, h2⟩ := hz j hj; exact ⟨z, h1, by rw [World.cell?_of_block (Below.heap_alloc w _ b hb)]; exact h2⟩⟩)⟩, (Below.refl _ _).alloc (Nat.le_refl _) _⟩

theorem grown_alloc {a b : World} {r : Option Nat} (h : a.grownBy b r) (o : Obj) : a.grownBy (b.alloc o) r := grown_trans h (World.grownBy_alloc b o r)

/-- an append to a row of our own that was laid behind w turns nothing that w had -/
theorem grown_app {w wr w1 : World} {g : Nat} {row : Option Nat} {o : Obj} (h : w.grownBy wr (some g)) (ha : (wr.alloc o).grownBy w1 row) (hr : ∀ k, row = some k → w.heap.size ≤ k) : w.grownBy w1 (some g) := by
  have h2 := grown_alloc h o
  exact ⟨ha.os.trans h2.os, ha.tape.trans h2.tape, ha.output.trans h2.output, Nat.le_trans h2.size ha.size, fun k hk hne =>
    (ha.block k (Nat.lt_of_lt_of_le hk h2.size) (fun e => by have := hr k e.symm; omega)).trans (h2.block k hk hne)⟩

theorem cur_grown {w w' : World} {g : Nat} {row : Option Nat} {a : Option Addr} {len cap : Nat} (h : CurAt w g a len cap) (hg : w.grownBy w' row) (hne : some g ≠ row) : CurAt w' g a len cap := by
  have hlt := cur_lt h
  obtain ⟨i, x, hi, hb⟩ := h
  exact ⟨i, x, hi, (hg.block g hlt hne).trans hb⟩

end Go.Proofs.Ythcakofocbileaa
