/-
  FnExactSamePairs: at every two lists of pairs the law returns true: the program's SamePairs and the specification's say the same; the arguments stay as they were. No condition.
-/
import Derived.Test.YtdbpbhemnnffeaaRows
import Derived.Test.YtdbpbhemnnffeaaLawSamePairsW
import Derived.Test.YtdbpbhemnnffeaaPairOpen
import Derived.Test.YtdbpbhemnnffeaaImplSame
import Derived.WalkKit
import Derived.ProofKit
import Derived.OpenShut
import Derived.ShutString
import Derived.ChangeOld
import Derived.Below
import Derived.Stop.Joined
import Derived.LaidMore
namespace Go.Proofs.Ytdbpbhemnnffeaa.fnExactSamePairs
open Go.ChangeShapes Go.WideShapes Go.ChangeAt Go.RowKit
open Go.ChangeMaps (open_string shut_string)
set_option linter.unusedVariables false

theorem own : ownKnob Try.prog.godebug = none := by kernel_rfl

theorem laidOut : laidOutB Try.prog = true := by kernel_rfl

theorem walk (v : Value) (L : List (ByteArray × ByteArray)) (bl : L.length ≤ maxLen) (bn : ∀ p ∈ L, p.1.size ≤ maxLen ∧ p.2.size ≤ maxLen) {W : World} (R : RowAt W 2 v L.length (prs L)) (v2 : Value) (L2 : List (ByteArray × ByteArray)) (bl2 : L2.length ≤ maxLen) (bn2 : ∀ p ∈ L2, p.1.size ≤ maxLen ∧ p.2.size ≤ maxLen) (R2 : RowAt W 2 v2 L2.length (prs L2)) (_ : World) :
    Calls Try.prog 3 #[v, v2] W fun e w' => e = .returned (.bool true) ∧ Below W.heap.size W w' :=
  lawSamePairs v L bl bn v2 L2 bl2 bn2 (fun hl _ hl2 u u2 wx h h2 => implSamePairs_any L L2 (by omega) (by omega) u u2 wx h h2) W R R2

set_option maxRecDepth 100000 in
theorem lifted (os : Os) (started : os.Started) (H : Type) (enc : TypeId × Value → H) :
    ReturnsInHanded {} Try.checked os 3 .any (Rows.fnExactSamePairsSpec.pre6 enc Try.prog Try.f3 Rows.fnExactSamePairsRow.domain false) (Rows.fnExactSamePairsSpec.post enc Try.prog Try.f3 false true false false) := by
  refine returnsInHanded_of_change (C := Try.checked) own started (by kernel_rfl) Try.func3
    (ChangeSpec.witness6 (enc := enc) (C := Try.checked) false ⟨#[], #[.slice none 0 0, .slice none 0 0], []⟩ 8 (by kernel_rfl) (by kernel_rfl) (by kernel_rfl) (by kernel_rfl)) ?_
  intro W base args ds gs before hval0 hW hcnd _
  have hval : ∀ (j : Nat) t v, Try.f3.params[j]? = some t → args[j]? = some v → Value.okWide Try.prog W .any base t v := hval0
  have hW' := hW
  obtain ⟨p, q, hA0, hV, rfl, hfz, hnd⟩ := hW
  have hA : DataW.TrodAll enc Try.prog W 0 (fun _ => true) true Try.f3.params.toList args.toList ds p := hA0
  rw [Try.params3] at hA hval
  obtain ⟨v0, vs0, d0, ds0, p0, q0, hargs, rfl, rfl, h0, r0⟩ := trodAll_cons hA
  obtain ⟨v1, vs1, d1, ds1, p1, q1, rfl, rfl, rfl, h1, r1⟩ := trodAll_cons r0
  obtain ⟨rfl, rfl, rfl⟩ := trodAll_nil r1
  obtain rfl : args = #[v0, v1] := by cases args; simp_all
  obtain ⟨rfl, rfl⟩ := trodVars_none hV
  have k0 := h0
  have lt0 : ∀ x ∈ p0, x.block < W.heap.size := by obtain ⟨m, hm⟩ := k0; exact DataW.trod_lt m _ _ _ hm
  obtain ⟨a0, len0, cap0, rfl⟩ := okWide_slice Try.underlying22 (hval 0 22 v0 rfl rfl)
  obtain ⟨fb0, hf0⟩ := h0
  obtain ⟨fs0, R0, bl0, bn0⟩ := row_prs (v := .slice a0 len0 cap0) hf0
  have k1 := h1
  have lt1 : ∀ x ∈ p1, x.block < W.heap.size := by obtain ⟨m, hm⟩ := k1; exact DataW.trod_lt m _ _ _ hm
  obtain ⟨a1, len1, cap1, rfl⟩ := okWide_slice Try.underlying22 (hval 1 22 v1 rfl rfl)
  obtain ⟨fb1, hf1⟩ := h1
  obtain ⟨fs1, R1, bl1, bn1⟩ := row_prs (v := .slice a1 len1 cap1) hf1
  clear hA0 hval0
  refine (walk _ fs0 bl0 bn0 R0 _ fs1 bl1 bn1 R1 W).mono fun e W' ⟨he, bel⟩ => ?_
  subst he
  exact ⟨_, rfl, _, _, _, [], _, [], hW', trodAll_mk1 (shut_bool Try.underlying4 _), (trodAll_cons_mk (Below.trod laidOut (by kernel_rfl) (of_decide_eq_true (by kernel_rfl)) k0 bel lt0) (trodAll_cons_mk (Below.trod laidOut (by kernel_rfl) (of_decide_eq_true (by kernel_rfl)) k1 bel lt1) trodAll_mk0)), rfl, bel.frame _, fun h => by cases h⟩

theorem over : Rows.fnExactSamePairsRow.holds Try.pinned (OpenSpec.ofChange Rows.fnExactSamePairsSpec) :=
  OpenClaim.holds_of_wide 3 Try.f3 rfl rfl rfl rfl rfl rfl rfl ⟨rfl, rfl, rfl, rfl, rfl⟩ rfl rfl rfl rfl rfl (by kernel_rfl) Try.func3 (by kernel_rfl)
    (of_decide_eq_true (by kernel_rfl)) (by unfold Func.isWrapper; first | (rw [if_pos (by decide +kernel)]; kernel_rfl) | (rw [if_neg (by decide +kernel)]; exact ⟨rfl, rfl⟩))
    (fun os started H enc _ => lifted os started H enc)
end Go.Proofs.Ytdbpbhemnnffeaa.fnExactSamePairs

namespace Go.Proofs.Ytdbpbhemnnffeaa
theorem fnExactSamePairs_holds : Rows.FnExactSamePairsSaid := fnExactSamePairs.over
end Go.Proofs.Ytdbpbhemnnffeaa
