/-
  Draws by contracts: a pick out of a literal list (l01Pick, l01PickInt), l02Spoilt. Which one is drawn is not said, but that it is one of the list.
-/
import Derived.Test.YthcakofocbileaaDraw3
import Derived.Test.YthcakofocbileaaDraw4
import Derived.Test.YthcakofocbileaaFrame
namespace Go.Proofs.Ythcakofocbileaa
open Go.RowKit

set_option maxHeartbeats 1000000 in
theorem l01Pick_any (g B : Nat) (a : Option Addr) (len cap : Nat) (zs : List ByteArray) (n : Nat) (hzn : zs.length = n) (hz : 0 < n) (hz1 : n ≤ 1000) (r c : Nat) (w : World) (hc : CurAt w g a len cap) (hd : CodeIn w B a len) (hB : B ≤ g) (hr : r ≠ g) (hrl : r < w.heap.size)
    (hrow : ∀ j, j < n → w.cell? ⟨r, j, none⟩ = some (.string (zs.getD j ⟨#[]⟩))) :
    Calls Try.prog 39 #[.pointer (some ⟨g, 0, none⟩), .slice (some ⟨r, 0, none⟩) n c] w fun e w' => ∃ z : ByteArray, z ∈ zs ∧ e = .returned (.string z) ∧ Drawn w w' g B a len cap := by
  have HD := hide hd
  have HC := hide hc
  have HR := hide hrow
  have HZn := hide hzn
  clear hd hc hrow hzn
  go_enter Try.func39, Try.ntmps39
  go_wp2_with fail
  refine (l01Below_any g B a len cap n hz (by omega) _ HC.out HD.out hB).mono ?_
  rintro e w1 ⟨x, hx, rfl, h1⟩
  have hcell : w1.cell? ⟨r, x, none⟩ = some (.string (zs.getD x ⟨#[]⟩)) := by
    rw [World.cell?_of_block (h1.2.1.block r hrl (by simpa using hr))]; exact HR.out x hx
  have hm : zs.getD x ⟨#[]⟩ ∈ zs := by
    have hx' : x < zs.length := by rw [HZn.out]; exact hx
    rw [List.getD, List.getElem?_eq_getElem hx']; exact List.getElem_mem hx'
  obtain ⟨y, hy⟩ : ∃ y, y = zs.getD x ⟨#[]⟩ := ⟨_, rfl⟩
  rw [← hy] at hcell hm
  have HM := hide hm
  have H1 := hide h1
  have hi0 : (0 : Int) ≤ (x : Int) := by omega
  have hi1 : (x : Int) < (n : Int) := by omega
  clear h1 hm hy hr
  go_wp2_with fail
  go_ret
  exact ⟨y, HM.out, rfl, H1.out⟩

theorem drawn_drew {w w' : World} {g B : Nat} {a : Option Addr} {len cap : Nat} (h : Drawn w.drew w' g B a len cap) : Drawn w w' g B a len cap := ⟨h.1, ⟨h.2.1.os, h.2.1.tape, h.2.1.output, h.2.1.size, h.2.1.block⟩, h.2.2⟩

theorem pick_strs (g B : Nat) (a : Option Addr) (len cap : Nat) (zs : List ByteArray) (n : Nat) (hn : zs.length = n) (h0 : 0 < n) (h1 : n ≤ 1000) (w : World) (r : Nat) (hr : r = w.heap.size) (hc : CurAt w g a len cap) (hd : CodeIn w B a len) (hB : B ≤ g) (cs : Array Value) (he : cs = (zs.map Value.string).toArray) :
    Calls Try.prog 39 #[.pointer (some ⟨g, 0, none⟩), .slice (some ⟨r, 0, none⟩) n n] (w.alloc (Obj.cells cs 9)) fun e w' => ∃ z : ByteArray, z ∈ zs ∧ e = .returned (.string z) ∧ Drawn w w' g B a len cap := by
  have hgl := cur_lt hc
  have hg := World.grownBy_alloc w (Obj.cells cs 9) (some g)
  subst he hn hr
  refine (l01Pick_any g B a len cap zs zs.length rfl h0 h1 w.heap.size zs.length _ (cur_grown hc (World.grownBy_alloc w _ none) (by simp)) (code_grown hd hg hB hgl) hB (by omega) (by simp) (fun j hj => ?_)).mono ?_
  · rw [(cell_at (heap_alloc_new w _) j).1]
    simp [List.getD, hj]
  · rintro e w2 ⟨z, hz, rfl, h2⟩
    exact ⟨z, hz, rfl, h2.1, grown_trans hg h2.2.1, h2.2.2⟩
end Go.Proofs.Ythcakofocbileaa
