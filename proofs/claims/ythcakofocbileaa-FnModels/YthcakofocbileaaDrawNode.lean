/-
  The draws of nodes by contracts: l05Key, l05Node.
-/
import Derived.Test.YthcakofocbileaaDrawPick
import Derived.Test.YthcakofocbileaaPlain17
import Derived.Test.YthcakofocbileaaNodeGrow
import Derived.Deep.RegionLaw
import Derived.Laws.Cover1
namespace Go.Proofs.Ythcakofocbileaa
open Go.RowKit

set_option maxHeartbeats 1000000 in
set_option maxRecDepth 100000 in
theorem l05Key_any (g B : Nat) (a : Option Addr) (len cap : Nat) (w : World) (hc : CurAt w g a len cap) (hd : CodeIn w B a len) (hB : B ≤ g) :
    Calls Try.prog 25 #[.pointer (some ⟨g, 0, none⟩)] w fun e w' => ∃ z : ByteArray, z ∈ bases ∧ e = .returned (.string z) ∧ Drawn w w' g B a len cap := by
  have HP := hide (pick_strs g B a len cap bases 16 rfl (by omega) (by omega) w w.heap.size rfl hc hd hB _ rfl)
  clear hc hd
  go_enter Try.func25, Try.ntmps25
  go_wp2_with fail
  refine HP.out.mono ?_
  rintro e w1 ⟨z, hz, rfl, h1⟩
  have H1 := hide h1
  have HZ := hide hz
  clear h1 hz
  go_wp2_with fail
  go_ret
  exact ⟨z, HZ.out, rfl, H1.out⟩
/-! l05Node -/

theorem drawn_low {w0 w1 w2 : World} {g gn B : Nat} {a : Option Addr} {len cap : Nat} (h : Drawn w0 w1 g B a len cap) (hb : Below gn w1 w2) (hle : w0.heap.size ≤ gn) (hlt : g < gn) (hB : B ≤ g) : Drawn w0 w2 g B a len cap := by
  obtain ⟨⟨i, x, hi, hc⟩, hg, hd⟩ := h
  refine ⟨⟨i, x, hi, (hb.block g hlt).trans hc⟩, grown_low hg hb hle, hd.1, ?_⟩
  rcases hd.2 with h0 | ⟨b, off, e, hbl, hz⟩
  · exact Or.inl h0
  · refine Or.inr ⟨b, off, e, hbl, fun j hj => ?_⟩
    obtain ⟨z, h1, h2⟩ := hz j hj
    exact ⟨z, h1, by rw [hb.cell (by show b < gn; omega)]; exact h2⟩

/-- how l05Node ends -/
def DnPost (w : World) (g B : Nat) (a : Option Addr) (len cap : Nat) (e : Ending) (w' : World) : Prop := ∃ n v, e = .returned v ∧ DrawnN n ∧ NodeOwn w' w.heap.size v n.lf n.ks n.vs n.cs ∧ Drawn w w' g B a len cap

theorem drawn_dr {w0 w1 : World} {g B : Nat} {a : Option Addr} {len cap : Nat} (h : Drawn w0 w1 g B a len cap) : Drawn w0 w1.drew g B a len cap := ⟨h.1, grown_trans h.2.1 ⟨rfl, rfl, rfl, Nat.le_refl _, fun _ _ _ => rfl⟩, h.2.2⟩

end Go.Proofs.Ythcakofocbileaa
