/-
  (*impl.nodeReader).node by contracts: it answers the right node whose bytes these are, or leaves by a panic where there is none. (Written by tools/rnode.py.)
-/
import Derived.Test.YtdcmpjefemcppaaDoorImplReader
import Derived.Test.YtdcmpjefemcppaaDoorNodeGrow
import Derived.Test.YtdcmpjefemcppaaDoorStepDie
import Derived.Test.YtdcmpjefemcppaaDoorImplNode
import Derived.Deep.RegionLaw
namespace Go.Proofs.YtdcmpjefemcppaaDoor
open Go.RowKit

/-- how node ends at the text s -/
def RnPost (w : World) (g : Nat) (s : ByteArray) (e : Ending) (w' : World) : Prop :=
  w.grownBy w' (some g) ∧ ((∃ n v, e = .returned v ∧ IsIn s n ∧ (∀ m, IsIn s m → m = n) ∧ NodeOwn w' w.heap.size v n.lf n.ks n.vs n.cs) ∨ (e = .panicked misread ∧ ∀ m, ¬ IsIn s m))

theorem rn_die {w w' : World} {g : Nat} {s : ByteArray} (h : w.grownBy w' (some g)) (hn : ∀ m, ¬ IsIn s m) : RnPost w g s (.panicked misread) w' := ⟨h, Or.inr ⟨rfl, hn⟩⟩

theorem rdT_alloc {w : World} {g p : Nat} {t : ByteArray} (h : RdT w g t p) (o : Obj) : RdT (w.alloc o) g t p := (Below.heap_alloc w o g (rdT_lt h)).trans h

theorem grown_dr {a b : World} {r : Option Nat} (h : a.grownBy b r) : a.grownBy b.drew r := grown_trans h ⟨rfl, rfl, rfl, Nat.le_refl _, fun _ _ _ => rfl⟩

theorem rdT_low {w w' : World} {g gn p : Nat} {t : ByteArray} (h : RdT w g t p) (hb : Below gn w w') (hlt : g < gn) : RdT w' g t p := (hb.block g hlt).trans h

end Go.Proofs.YtdcmpjefemcppaaDoor
