/-
  l01Long, l01PickInt, l01Number, DrawVarText and DrawHex by contracts: some number, some text of at most 20001 bytes; nothing that was there is turned.
-/
import Derived.Test.YtglcfaibgjiigaaDoorDraw2
namespace Go.Proofs.YtglcfaibgjiigaaDoor
open Go.RowKit

theorem cells_set (l : List UInt8) (k x : Nat) (hx : x < 256) : (Lib.byteCells l).set k (.int .u8 (x : Int)) = Lib.byteCells (l.set k (UInt8.ofNat x)) := by
  unfold Lib.byteCells
  rw [List.map_set, toNat_ofNat8 x hx]

set_option maxHeartbeats 1000000 in
set_option maxRecDepth 100000 in
theorem l01Long_any (n x : Nat) (hx : x < 256) (hn1 : n ≤ 1048576) (w : World) :
    Calls Tryd.prog 112 #[.int .i64 (n : Int), .int .u8 (x : Int)] w fun e w' => ∃ t : ByteArray, t.size = n ∧ e = .returned (.string t) ∧ Below w.heap.size w w' := by
  obtain ⟨i0, hi, hz0, hz1, hz2⟩ := info_parts Tryd.infoByte
  go_enter Tryd.func112, Tryd.ntmps112
  go_wp2_with (at_make; refine wpList_make_full _ rfl _ _ 22 rfl w.heap.size 5 i0 (.int .u8 0) 1 Tryd.underlying22 hi hz0 hz1 .i64 .i64 _ _ n rfl rfl rfl rfl (by rw [hz2]; omega) (by unfold maxLen; omega) (Nat.le_refl _) ?_)
  intro w1 hown1 hg1
  have hb1 : Below w.heap.size w w1 := (Below.refl _ _).grown hg1 (Nat.le_refl _) (fun k hk => by cases hk)
  have hown2 : w1.ownsRow w.heap.size 5 1 (.slice (some ⟨w.heap.size, 0, none⟩) n n) n (Lib.byteCells (List.replicate n 0)) := by
    have e : (madeCells #[Value.int IntKind.u8 0] n).toList = Lib.byteCells (List.replicate n 0) := by
      simp [toList_madeCells_one, Lib.byteCells]
    rw [← e]; exact hown1
  clear hg1 hown1
  go_wp2
  go_loopg [6] n (fun q iv wr => ∃ (k : Nat) (l : List UInt8), k ≤ n ∧ l.length = n ∧ iv = .int .i64 (k : Int) ∧ q + k = n ∧ wr.ownsRow w.heap.size 5 1 (.slice (some ⟨w.heap.size, 0, none⟩) n n) n (Lib.byteCells l) ∧ Below w.heap.size w wr)
  case atStart => exact ⟨0, List.replicate n 0, Nat.zero_le _, by simp, rfl, rfl, hown2, hb1⟩
  case round =>
    obtain ⟨k, l, hk, hl, rfl, hg, hown, hb⟩ := hrel
    have HG := hide hg
    have HLn := hide hl
    clear hg hown2 hb1
    by_cases hlt : k < n
    · obtain ⟨u, hu⟩ : ∃ u, (Lib.byteCells l)[k]? = some u := ⟨_, List.getElem?_eq_getElem (by rw [Lib.byteCells_length]; omega)⟩
      have hcell : wr.cell? ⟨w.heap.size, k, none⟩ = some u := by rw [hown.cellAt k (by omega), hu]
      have hfz : wr.frozen? ⟨w.heap.size, k, none⟩ = false := hown.frozenAt k
      have HO := hide ((hown.stored k (.int .u8 (x : Int))).1)
      rw [cells_set l k x hx] at HO
      have hi0 : (0 : Int) ≤ (k : Int) := by omega
      have hi1 : (k : Int) < (n : Int) := by omega
      clear hu hown hl
      go_wp2
      go_roundg (gk - 1)
      case measure => have := HG.out; omega
      case rel => exact ⟨k + 1, l.set k (UInt8.ofNat x), by omega, by rw [List.length_set]; exact HLn.out, by go_num, by have := HG.out; omega, HO.out, hb.setCell (Nat.le_refl _) _⟩
    · have hown3 : wr.ownsRow w.heap.size 5 1 (.slice (some ⟨w.heap.size, 0, none⟩) n n) l.length (Lib.byteCells l) := by rw [hl]; exact hown
      have hcv := string_own (dst := 9) (src := 22) Tryd.underlying22 Tryd.underlying5 Tryd.underlying9 hown3
      clear hown hown3 hl
      go_wp2
      go_ret
      exact ⟨⟨l.toArray⟩, by have := HLn.out; simpa [ByteArray.size] using this, rfl, hb⟩

set_option maxHeartbeats 1000000 in
theorem l01PickInt_any (g B : Nat) (a : Option Addr) (len cap : Nat) (zs : List Int) (hz : 0 < zs.length) (hz1 : zs.length ≤ 1000) (r c : Nat) (w : World) (hc : CurAt w g a len cap) (hd : CodeIn w B a len) (hB : B ≤ g) (hr : r ≠ g) (hrl : r < w.heap.size)
    (hrow : ∀ j, j < zs.length → w.cell? ⟨r, j, none⟩ = some (.int .i64 (zs.getD j 0))) :
    Calls Tryd.prog 113 #[.pointer (some ⟨g, 0, none⟩), .slice (some ⟨r, 0, none⟩) zs.length c] w fun e w' => ∃ z : Int, z ∈ zs ∧ e = .returned (.int .i64 z) ∧ Drawn w w' g B a len cap := by
  have HD := hide hd
  have HC := hide hc
  have HR := hide hrow
  clear hd hc hrow
  go_enter Tryd.func113, Tryd.ntmps113
  go_wp2_with fail
  refine (l01Below_any g B a len cap zs.length hz (by omega) _ HC.out HD.out hB).mono ?_
  rintro e w1 ⟨x, hx, rfl, h1⟩
  have hcell : w1.cell? ⟨r, x, none⟩ = some (.int .i64 (zs.getD x 0)) := by
    rw [World.cell?_of_block (h1.2.1.block r hrl (by simpa using hr))]; exact HR.out x hx
  have hm : zs.getD x 0 ∈ zs := by rw [List.getD, List.getElem?_eq_getElem hx]; exact List.getElem_mem hx
  obtain ⟨y, hy⟩ : ∃ y, y = zs.getD x 0 := ⟨_, rfl⟩
  rw [← hy] at hcell hm
  have HM := hide hm
  have H1 := hide h1
  have hi0 : (0 : Int) ≤ (x : Int) := by omega
  have hi1 : (x : Int) < (zs.length : Int) := by omega
  clear h1 hm hy hr
  go_wp2_with fail
  go_ret
  exact ⟨y, HM.out, rfl, H1.out⟩

theorem pick_ten (g B : Nat) (a : Option Addr) (len cap r c : Nat) (zs : List Int) (hn : zs.length = 10) (w : World) (hc : CurAt w g a len cap) (hd : CodeIn w B a len) (hB : B ≤ g) (hr : r ≠ g) (hrl : r < w.heap.size)
    (hrow : ∀ j, j < zs.length → w.cell? ⟨r, j, none⟩ = some (.int .i64 (zs.getD j 0))) :
    Calls Tryd.prog 113 #[.pointer (some ⟨g, 0, none⟩), .slice (some ⟨r, 0, none⟩) 10 c] w fun e w' => ∃ z : Int, z ∈ zs ∧ e = .returned (.int .i64 z) ∧ Drawn w w' g B a len cap := by
  have h := l01PickInt_any g B a len cap zs (by omega) (by omega) r c w hc hd hB hr hrl hrow
  rw [hn] at h
  exact h

def picks : List Int := [-1, 0, 127, 128, 16383, 16384, 1000000000, 1000000001, 9223372036854775807, -9223372036854775808]

theorem picks_in (z : Int) (h : z ∈ picks) : -9223372036854775808 ≤ z ∧ z ≤ 9223372036854775807 := by
  simp only [picks, List.mem_cons, List.not_mem_nil, or_false] at h
  omega

theorem picks_at {w : World} (j : Nat) (h : j < picks.length) : (w.alloc (Obj.cells #[.int .i64 (-1), .int .i64 0, .int .i64 127, .int .i64 128, .int .i64 16383, .int .i64 16384, .int .i64 1000000000, .int .i64 1000000001, .int .i64 9223372036854775807, .int .i64 (-9223372036854775808)] 3)).cell? ⟨w.heap.size, j, none⟩ = some (.int .i64 (picks.getD j 0)) := by
  rw [World.cell?_alloc_mark]
  have e : (#[.int .i64 (-1), .int .i64 0, .int .i64 127, .int .i64 128, .int .i64 16383, .int .i64 16384, .int .i64 1000000000, .int .i64 1000000001, .int .i64 9223372036854775807, .int .i64 (-9223372036854775808)] : Array Value) = (picks.map (Value.int .i64)).toArray := rfl
  rw [e]
  simp [List.getD, h]

end Go.Proofs.YtglcfaibgjiigaaDoor
