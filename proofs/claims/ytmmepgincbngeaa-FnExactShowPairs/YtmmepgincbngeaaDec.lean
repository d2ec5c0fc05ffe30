/-
  spec.Decimal by its contract, for a number that is not below 0: its figures.
-/
import Derived.Test.YtmmepgincbngeaaOwn
import Derived.Test.YtmmepgincbngeaaPlain5
import Derived.WalkSpells
import Derived.WalkSmall
import Derived.Deep.LoopGhost
import Derived.Laws.Concat
namespace Go.Proofs.Ytmmepgincbngeaa
open Go.RowKit

theorem string_one (W : World) (f : Nat) (hf : f < 256) :
    (convert 35 9 (.slice (some ⟨W.heap.size, 0, none⟩) 1 1)).run Try.prog (W.alloc (.cells #[.int .u8 (f : Int)] 5)) = .ok (.string ⟨#[UInt8.ofNat f]⟩) (W.alloc (.cells #[.int .u8 (f : Int)] 5)) := by
  have h := run_convert_bytes_back (P := Try.prog) (W.alloc (.cells #[.int .u8 (f : Int)] 5)) 35 9 5 ⟨W.heap.size, 0, none⟩ 1 [UInt8.ofNat f] Try.underlying35 Try.underlying5 Try.underlying9
    (fun j hj => by
      obtain rfl : j = 0 := by simp at hj; omega
      simp [Addr.add, toNat_ofNat8 f hf])
  simpa using h

end Go.Proofs.Ytmmepgincbngeaa
