/-
  FnExactModelDrop: at every list of pairs and every text the law returns true: the program's ModelDrop and the specification's answer the same pairs, in memory of their own; the arguments stay as they were. No condition.
-/
import Derived.Test.YthcakofocbileaaRows
import Derived.Test.YthcakofocbileaaLawModelDropW
import Derived.Test.YthcakofocbileaaPairOpen
import Derived.Test.YthcakofocbileaaImplModelD
import Derived.WalkKit
import Derived.ProofKit
import Derived.OpenShut
import Derived.ShutString
import Derived.ChangeOld
import Derived.Below
import Derived.Stop.Joined
import Derived.LaidMore
namespace Go.Proofs.Ythcakofocbileaa.fnExactModelDrop
open Go.ChangeShapes Go.WideShapes Go.ChangeAt Go.RowKit
open Go.ChangeMaps (open_string shut_string)
set_option linter.unusedVariables false

theorem own : ownKnob Try.prog.godebug = none := by kernel_rfl

theorem laidOut : laidOutB Try.prog = true := by kernel_rfl

theorem walk (v : Value) (L : List (ByteArray × ByteArray)) (bl : L.length ≤ maxLen) (bn : ∀ p ∈ L, p.1.size ≤ maxLen ∧ p.2.size ≤ maxLen) {W : World} (R : RowAt W 2 v L.length (prs L)) (key : ByteArray) (hk : key.size ≤ maxLen) (_ : World) :
    Calls Try.prog 5 #[v, .string key] W fun e w' => e = .returned (.bool true) ∧ Below W.heap.size W w' :=
  lawModelDrop v L bl bn key hk (fun hl hs _ u wx h => implModelDrop_any L (by omega) (fun p hp => ⟨Nat.le_trans (hs p hp).1 (by decide), Nat.le_trans (hs p hp).2 (by decide)⟩) key u wx h) W R

set_option maxRecDepth 100000 in
theorem lifted (os : Os) (started : os.Started) (H : Type) (enc : TypeId × Value → H) :
    ReturnsInHanded {} Try.checked os 5 .any (Rows.fnExactModelDropSpec.pre6 enc Try.prog Try.f5 Rows.fnExactModelDropRow.domain false) (Rows.fnExactModelDropSpec.post enc Try.prog Try.f5 false true false false) := by
  refine returnsInHanded_of_change (C := Try.checked) own started (by kernel_rfl) Try.func5
    (ChangeSpec.witness6 (enc := enc) (C := Try.checked) false ⟨#[], #[.slice none 0 0, .string ByteArray.empty], []⟩ 8 (by kernel_rfl) (by kernel_rfl) (by kernel_rfl) (by kernel_rfl)) ?_
  intro W base args ds gs before hval0 hW hcnd _
  have hval : ∀ (j : Nat) t v, Try.f5.params[j]? = some t → args[j]? = some v → Value.okWide Try.prog W .any base t v := hval0
  have hW' := hW
  obtain ⟨p, q, hA0, hV, rfl, hfz, hnd⟩ := hW
  have hA : DataW.TrodAll enc Try.prog W 0 (fun _ => true) true Try.f5.params.toList args.toList ds p := hA0
  rw [Try.params5] at hA hval
  obtain ⟨v0, vs0, d0, ds0, p0, q0, hargs, rfl, rfl, h0, r0⟩ := trodAll_cons hA
  obtain ⟨v1, vs1, d1, ds1, p1, q1, rfl, rfl, rfl, h1, r1⟩ := trodAll_cons r0
  obtain ⟨rfl, rfl, rfl⟩ := trodAll_nil r1
  obtain rfl : args = #[v0, v1] := by cases args; simp_all
  obtain ⟨rfl, rfl⟩ := trodVars_none hV
  have k0 := h0
  have lt0 : ∀ x ∈ p0, x.block < W.heap.size := by obtain ⟨m, hm⟩ := k0; exact DataW.trod_lt m _ _ _ hm
  obtain ⟨a0, len0, cap0, rfl⟩ := okWide_slice Try.underlying43 (hval 0 43 v0 rfl rfl)
  obtain ⟨fb0, hf0⟩ := h0
  obtain ⟨fs0, R0, bl0, bn0⟩ := row_prs (v := .slice a0 len0 cap0) hf0
  obtain ⟨a1, rfl, rfl, rfl, w1⟩ := open_string Try.underlying9 (hval 1 9 v1 rfl rfl) h1
  clear hA0 hval0
  refine (walk _ fs0 bl0 bn0 R0 a1 w1 W).mono fun e W' ⟨he, bel⟩ => ?_
  subst he
  exact ⟨_, rfl, _, _, _, [], _, [], hW', trodAll_mk1 (shut_bool Try.underlying4 _), (trodAll_cons_mk (Below.trod laidOut (by kernel_rfl) (of_decide_eq_true (by kernel_rfl)) k0 bel lt0) (trodAll_cons_mk (shut_string Try.underlying9 w1) trodAll_mk0)), rfl, bel.frame _, fun h => by cases h⟩

theorem over : Rows.fnExactModelDropRow.holds Try.pinned (OpenSpec.ofChange Rows.fnExactModelDropSpec) :=
  OpenClaim.holds_of_wide 5 Try.f5 rfl rfl rfl rfl rfl rfl rfl ⟨rfl, rfl, rfl, rfl, rfl⟩ rfl rfl rfl rfl rfl (by kernel_rfl) Try.func5 (by kernel_rfl)
    (of_decide_eq_true (by kernel_rfl)) (by unfold Func.isWrapper; first | (rw [if_pos (by decide +kernel)]; kernel_rfl) | (rw [if_neg (by decide +kernel)]; exact ⟨rfl, rfl⟩))
    (fun os started H enc _ => lifted os started H enc)
end Go.Proofs.Ythcakofocbileaa.fnExactModelDrop

namespace Go.Proofs.Ythcakofocbileaa
theorem fnExactModelDrop_holds : Rows.FnExactModelDropSaid := fnExactModelDrop.over
end Go.Proofs.Ythcakofocbileaa
