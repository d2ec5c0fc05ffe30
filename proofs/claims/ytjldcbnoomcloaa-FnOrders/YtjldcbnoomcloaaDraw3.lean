/-
  l01Long, l01PickInt, l01Number, DrawVarText and DrawHex by contracts: some number, some text of at most 20001 bytes; nothing that was there is turned.
-/
import Derived.Test.YtjldcbnoomcloaaDraw2
namespace Go.Proofs.Ytjldcbnoomcloaa
open Go.RowKit

theorem cells_set (l : List UInt8) (k x : Nat) (hx : x < 256) : (Lib.byteCells l).set k (.int .u8 (x : Int)) = Lib.byteCells (l.set k (UInt8.ofNat x)) := by
  unfold Lib.byteCells
  rw [List.map_set, toNat_ofNat8 x hx]

set_option maxHeartbeats 1000000 in
theorem l01PickInt_any (g B : Nat) (a : Option Addr) (len cap : Nat) (zs : List Int) (hz : 0 < zs.length) (hz1 : zs.length ≤ 1000) (r c : Nat) (w : World) (hc : CurAt w g a len cap) (hd : CodeIn w B a len) (hB : B ≤ g) (hr : r ≠ g) (hrl : r < w.heap.size)
    (hrow : ∀ j, j < zs.length → w.cell? ⟨r, j, none⟩ = some (.int .i64 (zs.getD j 0))) :
    Calls Try.prog 88 #[.pointer (some ⟨g, 0, none⟩), .slice (some ⟨r, 0, none⟩) zs.length c] w fun e w' => ∃ z : Int, z ∈ zs ∧ e = .returned (.int .i64 z) ∧ Drawn w w' g B a len cap := by
  have HD := hide hd
  have HC := hide hc
  have HR := hide hrow
  clear hd hc hrow
  go_enter Try.func88, Try.ntmps88
  go_wp2_with fail
  refine (l01Below_any g B a len cap zs.length hz (by omega) _ HC.out HD.out hB).mono ?_
  rintro e w1 ⟨x, hx, rfl, h1⟩
  have hcell : w1.cell? ⟨r, x, none⟩ = some (.int .i64 (zs.getD x 0)) := by
    rw [World.cell?_of_block (h1.2.1.block r hrl (by simpa using hr))]; exact HR.out x hx
  have hm : zs.getD x 0 ∈ zs := by rw [List.getD, List.getElem?_eq_getElem hx]; exact List.getElem_mem hx
  obtain ⟨y, hy⟩ : ∃ y, y = zs.getD x 0 := ⟨_, rfl⟩
  rw [← hy] at hcell hm
  have HM := hide hm
  have H1 := hide h1
  have hi0 : (0 : Int) ≤ (x : Int) := by omega
  have hi1 : (x : Int) < (zs.length : Int) := by omega
  clear h1 hm hy hr
  go_wp2_with fail
  go_ret
  exact ⟨y, HM.out, rfl, H1.out⟩

theorem pick_ten (g B : Nat) (a : Option Addr) (len cap r c : Nat) (zs : List Int) (hn : zs.length = 10) (w : World) (hc : CurAt w g a len cap) (hd : CodeIn w B a len) (hB : B ≤ g) (hr : r ≠ g) (hrl : r < w.heap.size)
    (hrow : ∀ j, j < zs.length → w.cell? ⟨r, j, none⟩ = some (.int .i64 (zs.getD j 0))) :
    Calls Try.prog 88 #[.pointer (some ⟨g, 0, none⟩), .slice (some ⟨r, 0, none⟩) 10 c] w fun e w' => ∃ z : Int, z ∈ zs ∧ e = .returned (.int .i64 z) ∧ Drawn w w' g B a len cap := by
  have h := l01PickInt_any g B a len cap zs (by omega) (by omega) r c w hc hd hB hr hrl hrow
  rw [hn] at h
  exact h

def picks : List Int := [-1, 0, 127, 128, 16383, 16384, 1000000000, 1000000001, 9223372036854775807, -9223372036854775808]

theorem picks_in (z : Int) (h : z ∈ picks) : -9223372036854775808 ≤ z ∧ z ≤ 9223372036854775807 := by
  simp only [picks, List.mem_cons, List.not_mem_nil, or_false] at h
  omega

theorem picks_at {w : World} (j : Nat) (h : j < picks.length) : (w.alloc (Obj.cells #[.int .i64 (-1), .int .i64 0, .int .i64 127, .int .i64 128, .int .i64 16383, .int .i64 16384, .int .i64 1000000000, .int .i64 1000000001, .int .i64 9223372036854775807, .int .i64 (-9223372036854775808)] 3)).cell? ⟨w.heap.size, j, none⟩ = some (.int .i64 (picks.getD j 0)) := by
  rw [World.cell?_alloc_mark]
  have e : (#[.int .i64 (-1), .int .i64 0, .int .i64 127, .int .i64 128, .int .i64 16383, .int .i64 16384, .int .i64 1000000000, .int .i64 1000000001, .int .i64 9223372036854775807, .int .i64 (-9223372036854775808)] : Array Value) = (picks.map (Value.int .i64)).toArray := rfl
  rw [e]
  simp [List.getD, h]

end Go.Proofs.Ytjldcbnoomcloaa
