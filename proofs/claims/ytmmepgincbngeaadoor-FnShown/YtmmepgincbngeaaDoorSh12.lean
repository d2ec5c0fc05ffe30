/-
  Facts and contracts that the law's own text rests on, by their texts' names: ImplShow.
-/
import Derived.Test.YtmmepgincbngeaaDoorSh11
import Derived.Test.YtmmepgincbngeaaDoorSh4
namespace Go.Proofs.YtmmepgincbngeaaDoor
open Go.RowKit
theorem bld_stays {T e : TypeId} {B b : Nat} {bs : List Value} {w w' : World} (h : Lib.IsBuilder T e B b bs w) (hb : Below w.heap.size w w') : Lib.IsBuilder T e B b bs w' := by
  have go : ∀ p, Lib.BuilderAt T e B b p bs w → Lib.BuilderAt T e B b p bs w' := by
    intro p h
    have hlt := Lib.BuilderAt.lt h
    obtain ⟨hB, v, hk, hown, hne⟩ := h
    exact ⟨hB, v, (hb.block b hlt).trans hk, own_stays hown hb, hne⟩
  exact h.imp (go _) (go _)
theorem strCells_app (s t : ByteArray) : Lib.strCells s ++ Lib.strCells t = Lib.strCells (s ++ t) := by
  simp [Lib.strCells]
theorem bld_new (w : World) : Lib.IsBuilder 44 5 w.heap.size w.heap.size (Lib.strCells ⟨#[]⟩) (w.alloc (.cells #[.pointer none, .slice none 0 0] 44)) :=
  Or.inl ⟨Nat.le_refl _, .slice none 0 0, heap_alloc_new w _, ⟨rfl, Or.inl ⟨rfl, rfl⟩⟩, by simp [Value.ownBlock]⟩
set_option maxHeartbeats 2000000 in
set_option maxRecDepth 100000 in
theorem implShowPairs_any (L : List (ByteArray × ByteArray)) (hl : L.length ≤ 1048576) (hz : ∀ p ∈ L, p.1.size ≤ 1048576 ∧ p.2.size ≤ 1048576) (v : Value) (w : World) (hr : RowAt w 2 v L.length (prq L)) :
    Calls Tryd.prog 7 #[v] w fun e w' => e = .returned (.string (showP L)) ∧ Below w.heap.size w w' := by
  obtain ⟨hlen, a, cap, rfl, hrow⟩ := hr
  have HC := hide (fun (wr : World) (hb : Below w.heap.size w wr) (k : Nat) (hk : k < L.length) (p : ByteArray × ByteArray) (hp : L[k]? = some p) => prq_cells (⟨hlen, a, cap, rfl, hrow⟩ : RowAt w 2 (.slice a L.length cap) L.length (prq L)) hb hk hp)
  obtain ⟨n, hn⟩ : ∃ n, L.length = n := ⟨_, rfl⟩
  have HN := hide hn
  have HZz := hide hz
  rw [hn] at HC hl ⊢
  clear hn hrow hlen hz
  go_enter Tryd.func7, Tryd.ntmps7
  go_wp2
  obtain ⟨g0, hg0⟩ : ∃ g, g = w.heap.size := ⟨_, rfl⟩
  go_loopg [8] n (fun q iv wr => ∃ (i : Nat) (s : ByteArray), i ≤ n ∧ q + i = n ∧ iv = .int .i64 (i : Int) ∧ Hid (s = showP (L.take i) ∧ s.size ≤ i * 2097154) ∧ Hid (Lib.IsBuilder 44 5 w.heap.size w.heap.size (Lib.strCells s) wr) ∧ Hid (Below w.heap.size w wr))
  case atStart => exact ⟨0, ⟨#[]⟩, Nat.zero_le _, rfl, rfl, hide ⟨rfl, Nat.le_refl _⟩, hide (bld_new w), hide ((Below.refl _ _).alloc (Nat.le_refl _) _)⟩
  case round =>
    obtain ⟨i, s, hin, hq, rfl, HSh, HBd, HB⟩ := hrel
    have HQ := hide hq
    clear hq
    by_cases hlt : i < n
    · obtain ⟨p, hp⟩ : ∃ p, L[i]? = some p := ⟨L[i]'(by have := HN.out; omega), List.getElem?_eq_getElem _⟩
      obtain ⟨x, y⟩ := p
      obtain ⟨g, off, rfl, c0, c1⟩ := HC.out wr HB.out i hlt (x, y) hp
      have HNx := hide (showP_next L i hp)
      obtain ⟨z1, z2⟩ := HZz.out (x, y) (List.mem_of_getElem? hp)
      have z1 : x.size ≤ 1048576 := z1
      have z2 : y.size ≤ 1048576 := z2
      have z3 : s.size ≤ 2600000000000 := by have := HSh.out.2; omega
      have hi0 : (0 : Int) ≤ (i : Int) := by omega
      have hi1 : (i : Int) < (n : Int) := by omega
      clear hp
      have HSt : Hid (Lib.IsBuilder 44 5 w.heap.size w.heap.size (Lib.strCells s) (wr.alloc (.cells #[.string x, .string y] 32))) := hide (bld_stays HBd.out ((Below.refl _ _).alloc (Nat.le_refl _) _))
      have hlen : (Lib.strCells s).length + (x ++ ⟨#[32]⟩ ++ y ++ ⟨#[10]⟩ : ByteArray).size ≤ 140737488355328 := by
        rw [Lib.strCells_length]
        simp only [ByteArray.size_append]
        have e1 : (⟨#[32]⟩ : ByteArray).size = 1 := rfl
        have e2 : (⟨#[10]⟩ : ByteArray).size = 1 := rfl
        omega
      have HW := hide (bld_write w.heap.size w.heap.size (Lib.strCells s) (x ++ ⟨#[32]⟩ ++ y ++ ⟨#[10]⟩) (wr.alloc (.cells #[.string x, .string y] 32)) HSt.out hlen (by have := HB.out.size; simp; omega))
      have HSz : Hid ((s ++ x ++ ⟨#[32]⟩ ++ y ++ ⟨#[10]⟩).size ≤ (i + 1) * 2097154) := hide (by have := HSh.out.2; simp only [ByteArray.size_append]; have e1 : (⟨#[32]⟩ : ByteArray).size = 1 := rfl; have e2 : (⟨#[10]⟩ : ByteArray).size = 1 := rfl; omega)
      clear hlen
      go_wp2_with fail
      refine HW.out.mono ?_
      rintro e w1 ⟨rfl, h1, hb1⟩
      have HBd1 : Hid (Lib.IsBuilder 44 5 w.heap.size w.heap.size (Lib.strCells (s ++ x ++ ⟨#[32]⟩ ++ y ++ ⟨#[10]⟩)) w1) := hide (by
        rw [strCells_app] at h1
        rw [show s ++ x ++ (⟨#[32]⟩ : ByteArray) ++ y ++ ⟨#[10]⟩ = s ++ (x ++ ⟨#[32]⟩ ++ y ++ ⟨#[10]⟩) from by simp only [ByteArray.append_assoc]]
        exact Or.inr h1)
      have HB1 : Hid (Below w.heap.size w w1) := hide ((HB.out.alloc HB.out.size _).trans hb1)
      clear h1 hb1
      go_wp2_with fail
      go_roundg (gk - 1)
      case measure => have := HQ.out; omega
      case rel => exact ⟨i + 1, _, by omega, by have := HQ.out; omega, by go_num, hide ⟨by rw [HNx.out, ← HSh.out.1], HSz.out⟩, HBd1, HB1⟩
    · obtain rfl : i = n := by omega
      have HW := hide (Tryd.Builder_String_any w.heap.size w.heap.size s.data.toList wr HBd.out HB.out.size)
      go_wp2_with fail
      refine HW.out.mono ?_
      rintro e w1 ⟨rfl, hb1⟩
      have HB1 : Hid (Below w.heap.size w w1) := hide (HB.out.trans hb1)
      clear hb1
      go_wp2_with fail
      go_ret
      refine ⟨?_, HB1.out⟩
      rw [← List.take_of_length_le (l := L) (i := i) (by rw [HN.out]; exact Nat.le_refl _), ← HSh.out.1]
      rfl
end Go.Proofs.YtmmepgincbngeaaDoor
