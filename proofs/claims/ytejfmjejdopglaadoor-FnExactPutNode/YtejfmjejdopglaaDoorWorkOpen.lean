/-
  A work that came in as an argument of a law, opened: what its reading gives.
-/
import Derived.Test.YtejfmjejdopglaaDoorWork
import Derived.Test.YtejfmjejdopglaaDoorDiskOpenN
namespace Go.Proofs.YtejfmjejdopglaaDoor
open Go.RowKit Go.ChangeShapes Go.WideShapes Go.Deep

theorem array6 {α : Type} {cs : Array α} (h : cs.size = 6) : ∃ c0 c1 c2 c3 c4 c5, cs = #[c0, c1, c2, c3, c4, c5] := by
  obtain ⟨l⟩ := cs
  match l, h with
  | [c0, c1, c2, c3, c4, c5], _ => exact ⟨c0, c1, c2, c3, c4, c5, rfl⟩

theorem row_intsW {H : Type} {enc : TypeId × Value → H} {W : World} {base : Nat} {spare : Nat → Bool} {held : Bool} {fuel : Nat} {v : Value} {x : DataW H × List MemPlace}
    (h : DataW.trod enc Tryd.prog W base spare held fuel 41 [v] = some x) : ∃ cs : List Int, RowAt W 1 v cs.length (ints cs) ∧ cs.length ≤ maxLen ∧ ∃ a cap, v = .slice a cs.length cap ∧ cs.length ≤ cap := by
  rcases open_ints Tryd.underlying41 Tryd.underlying3 (by kernel_rfl) h with ⟨hcs, -⟩ | ⟨a, len, cap, zs, hcs, -, hl, hm, hz, -, hx, -⟩
  · injection hcs with hcs
    subst hcs
    exact ⟨[], ⟨rfl, none, 0, rfl, Or.inl rfl⟩, by unfold maxLen; simp, none, 0, rfl, Nat.le_refl _⟩
  · injection hcs with hcs
    subst hcs
    have hlm : len ≤ zs.length := by rw [hz]; split <;> omega
    have hlen : (zs.take len).length = len := by rw [List.length_take]; omega
    refine ⟨zs.take len, ?_, by omega, some a, cap, by rw [hlen], by omega⟩
    rw [hlen]
    refine ⟨by rw [ints_length, hlen]; simp, some a, cap, rfl, ?_⟩
    by_cases h0 : len = 0
    · exact Or.inl h0
    · obtain ⟨b, off, spot⟩ := a
      have hc := hx 0 (by omega)
      obtain rfl : spot = none := by simpa [Addr.add] using World.cell?_spot hc
      refine Or.inr ⟨b, off, rfl, World.block_lt_of_cell? W _ (by simpa [Addr.add] using hc : W.cell? ⟨b, off, none⟩ = _), fun j hj => ?_⟩
      have hj' : j < len := by omega
      have := hx j (by omega)
      rw [Addr.add_lit] at this
      rw [this, ints_at _ j (by omega)]
      simp [List.getD, show j < zs.length by omega]

theorem Tryd.cellsWork : Tryd.prog.cellsOf 48 = 6 := by kernel_rfl

set_option maxRecDepth 100000 in
theorem open_work {H : Type} {enc : TypeId × Value → H} {W : World} {r : Reach} {b0 base : Nat} {spare : Nat → Bool} {held : Bool} {v : Value} {d : DataW H} {p : List MemPlace}
    (hv : Value.okWide Tryd.prog W r b0 48 v) (h : DataW.Trod enc Tryd.prog W base spare held 48 v d p) : ∃ k : Wk, WorkAt W v k ∧ k.fits := by
  obtain ⟨cs, rfl, hsz⟩ := okWide_struct Tryd.underlying48 hv
  obtain ⟨c0, c1, c2, c3, c4, c5, rfl⟩ := array6 (hsz.trans Tryd.cellsWork)
  obtain ⟨fuel, hf⟩ := h
  obtain ⟨xs, n, -, -, -, hlen, hfs⟩ := DataW.trod_struct Tryd.underlying48 hf
  match xs, hlen with
  | [y0, y1, y2, y3, y4], _ =>
    have h0 := hfs 0 _ rfl
    have h1 := hfs 1 _ rfl
    have h2 := hfs 2 _ rfl
    have h3 := hfs 3 _ rfl
    have h4 := hfs 4 _ rfl
    replace h0 : DataW.trod enc Tryd.prog W base spare held n 25 [c0, c1] = some y0 := h0
    replace h1 : DataW.trod enc Tryd.prog W base spare held n 3 [c2] = some y1 := h1
    replace h2 : DataW.trod enc Tryd.prog W base spare held n 41 [c3] = some y2 := h2
    replace h3 : DataW.trod enc Tryd.prog W base spare held n 41 [c4] = some y3 := h3
    replace h4 : DataW.trod enc Tryd.prog W base spare held n 41 [c5] = some y4 := h4
    obtain ⟨z0, z1, m, -, -, g0, g1⟩ := trod_struct2 Tryd.underlying25 h0
    replace g0 : DataW.trod enc Tryd.prog W base spare held m 22 [c0] = some z0 := g0
    replace g1 : DataW.trod enc Tryd.prog W base spare held m 23 [c1] = some z1 := g1
    obtain ⟨ps, a1, a2, a3⟩ := row_strs g0
    obtain ⟨ls, b1, b2, b3⟩ := row_puts g1
    obtain ⟨nx, e1, -⟩ := DataW.trod_int Tryd.underlying3 h1
    have e1 : c2 = .int .i64 nx := by injection e1 with e1
    subst e1
    obtain ⟨us, u1, u2, u3⟩ := row_intsW h2
    obtain ⟨gs, g1', g2', -⟩ := row_intsW h3
    obtain ⟨fs, f1', f2', -⟩ := row_intsW h4
    exact ⟨⟨ps, ls, nx, us, gs, fs⟩, ⟨c0, c1, c3, c4, c5, rfl, ⟨c0, c1, rfl, a1, b1⟩, u1, g1', f1', u3⟩, a2, a3, b2, b3, u2, g2', f2'⟩
end Go.Proofs.YtejfmjejdopglaaDoor
