/-
  FnExactSchemaOk: at every list of fields the law returns true: the program's SchemaOk and the specification's say the same; the argument stays as it was. No condition.
-/
import Derived.Test.YtjldcbnoomcloaaRows
import Derived.Test.YtjldcbnoomcloaaThingLaw2
import Derived.Test.YtjldcbnoomcloaaThingOpen
import Derived.Test.YtjldcbnoomcloaaImplThing2
import Derived.WalkKit
import Derived.ProofKit
import Derived.OpenShut
import Derived.ShutString
import Derived.ChangeOld
import Derived.Below
import Derived.Stop.Joined
import Derived.LaidMore
namespace Go.Proofs.Ytjldcbnoomcloaa.fnExactSchemaOk
open Go.ChangeShapes Go.WideShapes Go.ChangeAt Go.RowKit
open Go.ChangeMaps (open_string shut_string)
set_option linter.unusedVariables false

theorem own : ownKnob Try.prog.godebug = none := by kernel_rfl

theorem laidOut : laidOutB Try.prog = true := by kernel_rfl

theorem walk (v : Value) (fs : List (ByteArray × Int)) (bl : fs.length ≤ maxLen) (bn : ∀ f ∈ fs, f.1.size ≤ maxLen) {W : World} (R : RowAt W 2 v fs.length (flds fs)) (_ : World) :
    Calls Try.prog 6 #[v] W fun e w' => e = .returned (.bool true) ∧ Below W.heap.size W w' :=
  lawSchemaOk v fs bl bn (fun hb u wx h => implSchemaOk_any fs (bulkF_in hb).1 (bulkF_in hb).2 u wx h) W R

set_option maxRecDepth 100000 in
theorem lifted (os : Os) (started : os.Started) (H : Type) (enc : TypeId × Value → H) :
    ReturnsInHanded {} Try.checked os 6 .any (Rows.fnExactSchemaOkSpec.pre6 enc Try.prog Try.f6 Rows.fnExactSchemaOkRow.domain false) (Rows.fnExactSchemaOkSpec.post enc Try.prog Try.f6 false true false false) := by
  refine returnsInHanded_of_change (C := Try.checked) own started (by kernel_rfl) Try.func6
    (ChangeSpec.witness6 (enc := enc) (C := Try.checked) false ⟨#[], #[.slice none 0 0], []⟩ 8 (by kernel_rfl) (by kernel_rfl) (by kernel_rfl) (by kernel_rfl)) ?_
  intro W base args ds gs before hval0 hW hcnd _
  have hval : ∀ (j : Nat) t v, Try.f6.params[j]? = some t → args[j]? = some v → Value.okWide Try.prog W .any base t v := hval0
  have hW' := hW
  obtain ⟨p, q, hA0, hV, rfl, hfz, hnd⟩ := hW
  have hA : DataW.TrodAll enc Try.prog W 0 (fun _ => true) true Try.f6.params.toList args.toList ds p := hA0
  rw [Try.params6] at hA hval
  obtain ⟨v0, vs0, d0, ds0, p0, q0, hargs, rfl, rfl, h0, r0⟩ := trodAll_cons hA
  obtain ⟨rfl, rfl, rfl⟩ := trodAll_nil r0
  obtain rfl : args = #[v0] := by cases args; simp_all
  obtain ⟨rfl, rfl⟩ := trodVars_none hV
  have k0 := h0
  have lt0 : ∀ x ∈ p0, x.block < W.heap.size := by obtain ⟨m, hm⟩ := k0; exact DataW.trod_lt m _ _ _ hm
  obtain ⟨a0, len0, cap0, rfl⟩ := okWide_slice Try.underlying53 (hval 0 53 v0 rfl rfl)
  obtain ⟨fb0, hf0⟩ := h0
  obtain ⟨fs0, R0, bl0, bn0⟩ := row_flds (v := .slice a0 len0 cap0) hf0
  clear hA0 hval0
  refine (walk _ fs0 bl0 bn0 R0 W).mono fun e W' ⟨he, bel⟩ => ?_
  subst he
  exact ⟨_, rfl, _, _, _, [], _, [], hW', trodAll_mk1 (shut_bool Try.underlying4 _), (trodAll_cons_mk (Below.trod laidOut (by kernel_rfl) (of_decide_eq_true (by kernel_rfl)) k0 bel lt0) trodAll_mk0), rfl, bel.frame _, fun h => by cases h⟩

theorem over : Rows.fnExactSchemaOkRow.holds Try.pinned (OpenSpec.ofChange Rows.fnExactSchemaOkSpec) :=
  OpenClaim.holds_of_wide 6 Try.f6 rfl rfl rfl rfl rfl rfl rfl ⟨rfl, rfl, rfl, rfl, rfl⟩ rfl rfl rfl rfl rfl (by kernel_rfl) Try.func6 (by kernel_rfl)
    (of_decide_eq_true (by kernel_rfl)) (by unfold Func.isWrapper; first | (rw [if_pos (by decide +kernel)]; kernel_rfl) | (rw [if_neg (by decide +kernel)]; exact ⟨rfl, rfl⟩))
    (fun os started H enc _ => lifted os started H enc)
end Go.Proofs.Ytjldcbnoomcloaa.fnExactSchemaOk

namespace Go.Proofs.Ytjldcbnoomcloaa
theorem fnExactSchemaOk_holds : Rows.FnExactSchemaOkSaid := fnExactSchemaOk.over
end Go.Proofs.Ytjldcbnoomcloaa
