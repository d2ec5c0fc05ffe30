/-
  FnExactFallDisk: at every disk, every list of flags and every int the law returns true: the program's FallDisk and the specification's answer the same disk, in memory of their own; the arguments stay as they were. No condition.
-/
import Derived.Test.YtjjjnloimpehbaaRows
import Derived.Test.YtjjjnloimpehbaaDiskLawFall
import Derived.Test.YtjjjnloimpehbaaDiskOpen
import Derived.Test.YtjjjnloimpehbaaImplFall
import Derived.Deep.Grids
import Derived.WalkKit
import Derived.ProofKit
import Derived.OpenShut
import Derived.ShutString
import Derived.ChangeOld
import Derived.Below
import Derived.Stop.Joined
import Derived.LaidMore
namespace Go.Proofs.Ytjjjnloimpehbaa.fnExactFallDisk
open Go.ChangeShapes Go.WideShapes Go.ChangeAt Go.RowKit
open Go.ChangeMaps (open_string shut_string)
set_option linter.unusedVariables false

theorem own : ownKnob Try.prog.godebug = none := by kernel_rfl

theorem laidOut : laidOutB Try.prog = true := by kernel_rfl

theorem row_bools {H : Type} {enc : TypeId × Value → H} {W : World} {base : Nat} {held : Bool} {fuel : Nat} {v : Value} {x : DataW H × List MemPlace}
    (h : DataW.trod enc Try.prog W base (fun _ => true) held fuel 36 [v] = some x) : ∃ bs : List Bool, RowAt W 1 v bs.length (bools bs) ∧ bs.length ≤ maxLen := by
  rcases Go.Deep.open_bools Try.underlying36 Try.underlying4 (by kernel_rfl) h with ⟨hcs, -⟩ | ⟨a, len, cap, B, hcs, -, hl, hm, -, hx⟩
  · injection hcs with hcs
    subst hcs
    exact ⟨[], ⟨rfl, none, 0, rfl, Or.inl rfl⟩, by unfold maxLen; simp⟩
  · injection hcs with hcs
    subst hcs
    refine ⟨(List.range len).map B, ?_, by simp; omega⟩
    rw [List.length_map, List.length_range]
    refine ⟨by rw [bools_length]; simp, some a, cap, rfl, ?_⟩
    by_cases h0 : len = 0
    · exact Or.inl h0
    · obtain ⟨b, off, spot⟩ := a
      have hc := hx 0 (by omega)
      obtain rfl : spot = none := by simpa [Addr.add] using World.cell?_spot hc
      refine Or.inr ⟨b, off, rfl, World.block_lt_of_cell? W _ (by simpa [Addr.add] using hc : W.cell? ⟨b, off, none⟩ = _), fun j hj => ?_⟩
      have := hx j (by omega)
      rw [Addr.add_lit] at this
      rw [this, bools_at _ j (by simp; omega)]
      simp

theorem walk (v : Value) (ps : List ByteArray) (ls : List (Int × ByteArray)) (bp : ps.length ≤ maxLen) (bq : ∀ s ∈ ps, s.size ≤ maxLen) (bl : ls.length ≤ maxLen) (bm : ∀ p ∈ ls, p.2.size ≤ maxLen) {W : World} (D : DiskAt W v ps ls) (vb : Value) (left : List Bool) (bb : left.length ≤ maxLen) (L : RowAt W 1 vb left.length (bools left)) (torn : Int) (_ : (Lit.int .i64 torn).wf = true) (_ : World) :
    Calls Try.prog 11 #[v, vb, .int .i64 torn] W fun e w' => e = .returned (.bool true) ∧ Below W.heap.size W w' :=
  lawFallDisk v vb ps ls left torn bp bq bl bm bb (fun hb hx u ub wx h h' => implFallDisk_any u ub ps ls left torn (bulk_in hb).1 (bulk_in hb).2.2.1 hx (bulk_in hb).2.1 (bulk_in hb).2.2.2 wx h h') W D L

set_option maxRecDepth 100000 in
theorem lifted (os : Os) (started : os.Started) (H : Type) (enc : TypeId × Value → H) :
    ReturnsInHanded {} Try.checked os 11 .any (Rows.fnExactFallDiskSpec.pre6 enc Try.prog Try.f11 Rows.fnExactFallDiskRow.domain false) (Rows.fnExactFallDiskSpec.post enc Try.prog Try.f11 false true false false) := by
  refine returnsInHanded_of_change (C := Try.checked) own started (by kernel_rfl) Try.func11
    (ChangeSpec.witness6 (enc := enc) (C := Try.checked) false ⟨#[], #[.agg #[.slice none 0 0, .slice none 0 0], .slice none 0 0, .int .i64 0], []⟩ 8 (by kernel_rfl) (by kernel_rfl) (by kernel_rfl) (by kernel_rfl)) ?_
  intro W base args ds gs before hval0 hW hcnd _
  have hval : ∀ (j : Nat) t v, Try.f11.params[j]? = some t → args[j]? = some v → Value.okWide Try.prog W .any base t v := hval0
  have hW' := hW
  obtain ⟨p, q, hA0, hV, rfl, hfz, hnd⟩ := hW
  have hA : DataW.TrodAll enc Try.prog W 0 (fun _ => true) true Try.f11.params.toList args.toList ds p := hA0
  rw [Try.params11] at hA hval
  obtain ⟨v0, vs0, d0, ds0, p0, q0, hargs, rfl, rfl, h0, r0⟩ := trodAll_cons hA
  obtain ⟨v1, vs1, d1, ds1, p1, q1, rfl, rfl, rfl, h1, r1⟩ := trodAll_cons r0
  obtain ⟨v2, vs2, d2, ds2, p2, q2, rfl, rfl, rfl, h2, r2⟩ := trodAll_cons r1
  obtain ⟨rfl, rfl, rfl⟩ := trodAll_nil r2
  obtain rfl : args = #[v0, v1, v2] := by cases args; simp_all
  obtain ⟨rfl, rfl⟩ := trodVars_none hV
  have k0 := h0
  have lt0 : ∀ x ∈ p0, x.block < W.heap.size := by obtain ⟨m, hm⟩ := k0; exact DataW.trod_lt m _ _ _ hm
  obtain ⟨ps0, ls0, D0, bp0, bq0, bl0, bm0⟩ := open_disk (hval 0 50 v0 rfl rfl) h0
  have k1 := h1
  have lt1 : ∀ x ∈ p1, x.block < W.heap.size := by obtain ⟨m, hm⟩ := k1; exact DataW.trod_lt m _ _ _ hm
  obtain ⟨a1, len1, cap1, rfl⟩ := okWide_slice Try.underlying36 (hval 1 36 v1 rfl rfl)
  obtain ⟨fb1, hf1⟩ := h1
  obtain ⟨bs1, L1, bb1⟩ := row_bools (v := .slice a1 len1 cap1) hf1
  obtain ⟨a2, rfl, rfl, rfl, w2⟩ := open_int Try.underlying3 (hval 2 3 v2 rfl rfl) h2
  clear hA0 hval0
  refine (walk v0 ps0 ls0 bp0 bq0 bl0 bm0 D0 _ bs1 bb1 L1 a2 w2 W).mono fun e W' ⟨he, bel⟩ => ?_
  subst he
  exact ⟨_, rfl, _, _, _, [], _, [], hW', trodAll_mk1 (shut_bool Try.underlying4 _), (trodAll_cons_mk (Below.trod laidOut (by kernel_rfl) (of_decide_eq_true (by kernel_rfl)) k0 bel lt0) (trodAll_cons_mk (Below.trod laidOut (by kernel_rfl) (of_decide_eq_true (by kernel_rfl)) k1 bel lt1) (trodAll_cons_mk (shut_int Try.underlying3 w2) trodAll_mk0))), rfl, bel.frame _, fun h => by cases h⟩

theorem over : Rows.fnExactFallDiskRow.holds Try.pinned (OpenSpec.ofChange Rows.fnExactFallDiskSpec) :=
  OpenClaim.holds_of_wide 11 Try.f11 rfl rfl rfl rfl rfl rfl rfl ⟨rfl, rfl, rfl, rfl, rfl⟩ rfl rfl rfl rfl rfl (by kernel_rfl) Try.func11 (by kernel_rfl)
    (of_decide_eq_true (by kernel_rfl)) (by unfold Func.isWrapper; first | (rw [if_pos (by decide +kernel)]; kernel_rfl) | (rw [if_neg (by decide +kernel)]; exact ⟨rfl, rfl⟩))
    (fun os started H enc _ => lifted os started H enc)
end Go.Proofs.Ytjjjnloimpehbaa.fnExactFallDisk

namespace Go.Proofs.Ytjjjnloimpehbaa
theorem fnExactFallDisk_holds : Rows.FnExactFallDiskSaid := fnExactFallDisk.over
end Go.Proofs.Ytjjjnloimpehbaa
