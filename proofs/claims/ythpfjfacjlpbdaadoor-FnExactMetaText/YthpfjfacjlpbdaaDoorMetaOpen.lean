/-
  A meta that came in as an argument of a law, opened: what its reading gives.
-/
import Derived.Test.YthpfjfacjlpbdaaDoorMeta
import Derived.Lib.SmallJoins
import Derived.Deep.Strs
import Derived.Deep.SlicePairs
import Derived.ChangeOld
namespace Go.Proofs.YthpfjfacjlpbdaaDoor
open Go.RowKit Go.ChangeShapes Go.WideShapes Go.Deep

theorem row_intsM {H : Type} {enc : TypeId × Value → H} {W : World} {base : Nat} {spare : Nat → Bool} {held : Bool} {fuel : Nat} {v : Value} {x : DataW H × List MemPlace}
    (h : DataW.trod enc Tryd.prog W base spare held fuel 36 [v] = some x) : ∃ cs : List Int, RowAt W 1 v cs.length (ints cs) ∧ cs.length ≤ maxLen := by
  rcases open_ints Tryd.underlying36 Tryd.underlying3 (by kernel_rfl) h with ⟨hcs, -⟩ | ⟨a, len, cap, zs, hcs, -, hl, hm, hz, -, hx, -⟩
  · injection hcs with hcs
    subst hcs
    exact ⟨[], ⟨rfl, none, 0, rfl, Or.inl rfl⟩, by unfold maxLen; simp⟩
  · injection hcs with hcs
    subst hcs
    have hlm : len ≤ zs.length := by rw [hz]; split <;> omega
    have hlen : (zs.take len).length = len := by rw [List.length_take]; omega
    refine ⟨zs.take len, ?_, by omega⟩
    rw [hlen]
    refine ⟨by rw [ints_length, hlen]; simp, some a, cap, rfl, ?_⟩
    by_cases h0 : len = 0
    · exact Or.inl h0
    · obtain ⟨b, off, spot⟩ := a
      have hc := hx 0 (by omega)
      obtain rfl : spot = none := by simpa [Addr.add] using World.cell?_spot hc
      refine Or.inr ⟨b, off, rfl, World.block_lt_of_cell? W _ (by simpa [Addr.add] using hc : W.cell? ⟨b, off, none⟩ = _), fun j hj => ?_⟩
      have hj' : j < len := by omega
      have := hx j (by omega)
      rw [Addr.add_lit] at this
      rw [this, ints_at _ j (by omega)]
      simp [List.getD, show j < zs.length by omega]

theorem row_frees {H : Type} {enc : TypeId × Value → H} {W : World} {base : Nat} {spare : Nat → Bool} {held : Bool} {fuel : Nat} {v : Value} {x : DataW H × List MemPlace}
    (h : DataW.trod enc Tryd.prog W base spare held fuel 48 [v] = some x) : ∃ fs : List (Int × List Int), FreesAt W v fs ∧ fs.length ≤ maxLen ∧ ∀ f ∈ fs, f.2.length ≤ maxLen := by
  rcases open_slice_pairs Tryd.underlying48 Tryd.underlying130 (by kernel_rfl) rfl rfl (by kernel_rfl) (by kernel_rfl) h with ⟨hcs, -⟩ | ⟨a, len, cap, m, n, V0, V1, D0, D1, P0, P1, hcs, -, hl, hm, hmm, -, hx⟩
  · injection hcs with hcs
    subst hcs
    exact ⟨[], ⟨[], rfl, ⟨rfl, none, 0, rfl, Or.inl rfl⟩, fun k p f hp => by simp at hp⟩, by unfold maxLen; simp, fun s hs => by cases hs⟩
  · injection hcs with hcs
    subst hcs
    have hlm : len ≤ m := by rw [hmm]; split <;> omega
    have each : ∀ i, i < m → ∃ q : Int × List Int, V0 i = .int .i64 q.1 ∧ RowAt W 1 (V1 i) q.2.length (ints q.2) ∧ q.2.length ≤ maxLen := fun i hi => by
      obtain ⟨h1, h2, h3, h4⟩ := hx i hi
      obtain ⟨k, e1, e2, -⟩ := DataW.trod_int Tryd.underlying3 h3
      obtain ⟨s, g1, g2⟩ := row_intsM h4
      exact ⟨(k, s), by simpa using e1, g1, g2⟩
    obtain ⟨q, hq⟩ := choose_lt each
    refine ⟨(List.range len).map q, ⟨(List.range len).map (fun i => ((q i).1, V1 i)), by simp, ?_, fun k p f hp hf => ?_⟩, by simp; omega, fun s hs => ?_⟩
    · rw [List.length_map, List.length_range]
      refine ⟨by rw [frs_length]; simp, some a, cap, rfl, ?_⟩
      by_cases h0 : len = 0
      · exact Or.inl h0
      · obtain ⟨b, off, spot⟩ := a
        have hc := (hx 0 (by omega)).1
        obtain rfl : spot = none := by simpa [Addr.add] using World.cell?_spot hc
        refine Or.inr ⟨b, off, rfl, World.block_lt_of_cell? W _ (by simpa [Addr.add] using hc : W.cell? ⟨b, off, none⟩ = _), fun j hj => ?_⟩
        have hi : j / 2 < len := by omega
        obtain ⟨h1, h2, -, -⟩ := hx (j / 2) (by omega)
        rw [Addr.add_lit] at h1 h2
        have hp := frs_at ((List.range len).map (fun i => ((q i).1, V1 i))) (j / 2) ((q (j / 2)).1, V1 (j / 2)) (by simp [hi])
        rcases Nat.mod_two_eq_zero_or_one j with e | e
        · rw [show j = j / 2 * 2 from by omega, hp.1, h1, (hq (j / 2) (by omega)).1]
        · rw [show j = j / 2 * 2 + 1 from by omega, hp.2, h2]
    · have hk : k < len := by have := (List.getElem?_eq_some_iff.1 hp).1; simpa using this
      rw [List.getElem?_map, List.getElem?_range hk] at hp hf
      simp at hp hf
      subst hp hf
      exact ⟨rfl, (hq k (by omega)).2.1⟩
    · obtain ⟨i, hi, rfl⟩ := List.mem_map.1 hs
      exact (hq i (by have := List.mem_range.1 hi; omega)).2.2

set_option maxRecDepth 100000 in
theorem open_meta {H : Type} {enc : TypeId × Value → H} {W : World} {r : Reach} {b0 base : Nat} {spare : Nat → Bool} {held : Bool} {v : Value} {d : DataW H} {p : List MemPlace}
    (hv : Value.okWide Tryd.prog W r b0 50 v) (h : DataW.Trod enc Tryd.prog W base spare held 50 v d p) :
    ∃ m : Mt, MetaAt W v m ∧ m.fs.length ≤ maxLen ∧ ∀ f ∈ m.fs, f.2.length ≤ maxLen := by
  obtain ⟨v0, v1, v2, v3, y0, y1, y2, y3, n, rfl, -, -, h0, h1, h2, h3⟩ := Joins.open_agg4 Tryd.underlying50 (by kernel_rfl) (by kernel_rfl) hv h
  obtain ⟨tx, e0, -⟩ := DataW.trod_int Tryd.underlying3 h0
  obtain ⟨root, e1, -⟩ := DataW.trod_int Tryd.underlying3 h1
  obtain ⟨next, e2, -⟩ := DataW.trod_int Tryd.underlying3 h2
  injection e0 with e0
  injection e1 with e1
  injection e2 with e2
  subst e0 e1 e2
  obtain ⟨fs, k1, k2, k3⟩ := row_frees h3
  exact ⟨⟨tx, root, next, fs⟩, ⟨v3, rfl, k1⟩, k2, k3⟩
end Go.Proofs.YthpfjfacjlpbdaaDoor
