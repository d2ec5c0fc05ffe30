/-
  FnExactReadThing returns true at every list of fields and every string, and turns nothing that was there. The program's ReadThing and the specification's each answer the right thing whose bytes these are, or none; there is at most one. No condition.
-/
import Derived.Test.YtjldcbnoomcloaaRows
import Derived.Test.YtjldcbnoomcloaaThingLaw4
import Derived.Test.YtjldcbnoomcloaaThingOpen
import Derived.Test.YtjldcbnoomcloaaImplRead2
import Derived.WalkKit
import Derived.ProofKit
import Derived.OpenShut
import Derived.ShutString
import Derived.ChangeOld
import Derived.Below
import Derived.Stop.Joined
import Derived.LaidMore
namespace Go.Proofs.Ytjldcbnoomcloaa.fnExactReadThing
open Go.ChangeShapes Go.WideShapes Go.ChangeAt Go.RowKit
open Go.ChangeMaps (open_string shut_string)
set_option linter.unusedVariables false

theorem own : ownKnob Try.prog.godebug = none := by kernel_rfl

theorem laidOut : laidOutB Try.prog = true := by kernel_rfl

theorem walk (v : Value) (fs : List (ByteArray × Int)) (bl : fs.length ≤ maxLen) (bn : ∀ f ∈ fs, f.1.size ≤ maxLen) {W : World} (R : RowAt W 2 v fs.length (flds fs)) (t : ByteArray) (ht : t.size ≤ maxLen) (_ : World) :
    Calls Try.prog 11 #[v, .string t] W fun e w' => e = .returned (.bool true) ∧ Below W.heap.size W w' :=
  lawReadThing v fs t ht bl bn (fun hb htb u wx h => implReadThing_any fs (bulkF_in hb).1 (bulkF_in hb).2 t htb u wx h) W R

set_option maxRecDepth 100000 in
theorem lifted (os : Os) (started : os.Started) (H : Type) (enc : TypeId × Value → H) :
    ReturnsInHanded {} Try.checked os 11 .any (Rows.fnExactReadThingSpec.pre6 enc Try.prog Try.f11 Rows.fnExactReadThingRow.domain false) (Rows.fnExactReadThingSpec.post enc Try.prog Try.f11 false true false false) := by
  refine returnsInHanded_of_change (C := Try.checked) own started (by kernel_rfl) Try.func11
    (ChangeSpec.witness6 (enc := enc) (C := Try.checked) false ⟨#[], #[.slice none 0 0, .string ByteArray.empty], []⟩ 8 (by kernel_rfl) (by kernel_rfl) (by kernel_rfl) (by kernel_rfl)) ?_
  intro W base args ds gs before hval0 hW hcnd _
  have hval : ∀ (j : Nat) t v, Try.f11.params[j]? = some t → args[j]? = some v → Value.okWide Try.prog W .any base t v := hval0
  have hW' := hW
  obtain ⟨p, q, hA0, hV, rfl, hfz, hnd⟩ := hW
  have hA : DataW.TrodAll enc Try.prog W 0 (fun _ => true) true Try.f11.params.toList args.toList ds p := hA0
  rw [Try.params11] at hA hval
  obtain ⟨v0, vs0, d0, ds0, p0, q0, hargs, rfl, rfl, h0, r0⟩ := trodAll_cons hA
  obtain ⟨v1, vs1, d1, ds1, p1, q1, rfl, rfl, rfl, h1, r1⟩ := trodAll_cons r0
  obtain ⟨rfl, rfl, rfl⟩ := trodAll_nil r1
  obtain rfl : args = #[v0, v1] := by cases args; simp_all
  obtain ⟨rfl, rfl⟩ := trodVars_none hV
  have k0 := h0
  have lt0 : ∀ x ∈ p0, x.block < W.heap.size := by obtain ⟨m, hm⟩ := k0; exact DataW.trod_lt m _ _ _ hm
  obtain ⟨a0, len0, cap0, rfl⟩ := okWide_slice Try.underlying53 (hval 0 53 v0 rfl rfl)
  obtain ⟨fb0, hf0⟩ := h0
  obtain ⟨fs0, R0, bl0, bn0⟩ := row_flds (v := .slice a0 len0 cap0) hf0
  obtain ⟨a1, rfl, rfl, rfl, w1⟩ := open_string Try.underlying9 (hval 1 9 v1 rfl rfl) h1
  clear hA0 hval0
  refine (walk _ fs0 bl0 bn0 R0 a1 w1 W).mono fun e W' ⟨he, bel⟩ => ?_
  subst he
  exact ⟨_, rfl, _, _, _, [], _, [], hW', trodAll_mk1 (shut_bool Try.underlying4 _), (trodAll_cons_mk (Below.trod laidOut (by kernel_rfl) (of_decide_eq_true (by kernel_rfl)) k0 bel lt0) (trodAll_cons_mk (shut_string Try.underlying9 w1) trodAll_mk0)), rfl, bel.frame _, fun h => by cases h⟩

theorem c1 : (Rows.fnExactReadThingRow.inPlace == Program.inPlace Try.pinned.checked.prog 11) = true := by kernel_rfl

theorem c2 : (Rows.fnExactReadThingRow.unfollowed == Program.unfollowed Try.pinned.checked.prog 11) = true := by kernel_rfl

theorem c3 : (Rows.fnExactReadThingRow.recurses == Program.recurses Try.pinned.checked.prog 11) = true := by kernel_rfl

theorem c4 : (Rows.fnExactReadThingRow.named == Program.varsNamed Try.pinned.checked.prog 11) = true := by kernel_rfl

theorem closed : joinedFacts Try.pinned.checked.prog 11 Try.f11 Rows.fnExactReadThingSpec Rows.fnExactReadThingRow = true := by
  unfold joinedFacts
  rw [c1, c2, c3, c4]
  kernel_rfl

theorem over : Rows.fnExactReadThingRow.holds Try.pinned (OpenSpec.ofChange Rows.fnExactReadThingSpec) :=
  OpenClaim.holds_of_wide 11 Try.f11 rfl rfl rfl rfl rfl rfl rfl ⟨rfl, rfl, rfl, rfl, rfl⟩ rfl rfl rfl rfl rfl (by kernel_rfl) Try.func11 closed
    (of_decide_eq_true (by kernel_rfl)) (by unfold Func.isWrapper; first | (rw [if_pos (by decide +kernel)]; kernel_rfl) | (rw [if_neg (by decide +kernel)]; exact ⟨rfl, rfl⟩))
    (fun os started H enc _ => lifted os started H enc)
end Go.Proofs.Ytjldcbnoomcloaa.fnExactReadThing

namespace Go.Proofs.Ytjldcbnoomcloaa
theorem fnExactReadThing_holds : Rows.FnExactReadThingSaid := fnExactReadThing.over
end Go.Proofs.Ytjldcbnoomcloaa
