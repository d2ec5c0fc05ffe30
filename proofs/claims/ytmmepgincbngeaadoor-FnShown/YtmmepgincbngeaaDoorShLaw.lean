/-
  FnShown: at every drawing code, in every world where the listed tables hold what the program's text lays, the law returns true: what the program's ShowPairs shows of the drawn pairs has a line for each, in their order, which begins with its key and a blank, and nothing else; the argument stays as it was. No other condition.
-/
import Derived.Below
import Derived.ChangeOld
import Derived.LaidHandle
import Derived.LaidLaws
import Derived.LaidMore
import Derived.Lib.LaidTab
import Derived.OpenShut
import Derived.OpenVars
import Derived.ProofKit
import Derived.ShutString
import Derived.Stop.Joined
import Derived.Stop.LaidErr
import Derived.WalkKit
import Derived.Test.YtmmepgincbngeaaDoorCards
import Derived.Test.YtmmepgincbngeaaDoorSh11
import Derived.Test.YtmmepgincbngeaaDoorSh12
import Derived.Test.YtmmepgincbngeaaDoorSh5
import Derived.Test.YtmmepgincbngeaaDoorTie
namespace Go.Proofs.YtmmepgincbngeaaDoor.fnShown
open Go.ChangeShapes Go.WideShapes Go.ChangeAt Go.RowKit
open Go.ChangeMaps (open_string shut_string)
set_option linter.unusedVariables false

theorem own : ownKnob Tryd.prog.godebug = none := by kernel_rfl
theorem laidOut : laidOutB Tryd.prog = true := by kernel_rfl

/-- The heap that the initialisers leave meets the condition. -/
theorem door_met (os : Os) (args : Array Value) : laidMetH Tryd.prog Rows.fnShownRow.laid ((World.doorLaid Tryd.prog 400 os).forCall (fun _ _ => 0) ⟨#[], args, []⟩).memory :=
  laidMetH_of_parts3 (fuel := 8) (laidMet_of_run' 8 (by kernel_rfl) (by kernel_rfl)) (by kernel_rfl) (by kernel_rfl)

theorem gSp : Tryd.prog.globalNamed "strings.asciiSpace" = some 0 := by kernel_rfl
theorem gSpType : (Tryd.prog.globals[0]?).map (·.type) = some 105 := by kernel_rfl
theorem cellsSp : Tryd.prog.cellsOf 105 = 256 := by kernel_rfl
theorem cellsU8 : Tryd.prog.cellsOf 5 = 1 := by kernel_rfl
theorem spData : (Rows.laid_strings_asciiSpace : DataW Unit) = Lib.tabData .u8 Lib.asciiSpaceTab := by kernel_rfl
theorem gTab : Tryd.prog.globalNamed "loop.example/g00240/impl.halfSums" = some 2 := by kernel_rfl
theorem gTabType : (Tryd.prog.globals[2]?).map (·.type) = some 141 := by kernel_rfl
theorem cellsTab : Tryd.prog.cellsOf 141 = 16 := by kernel_rfl
theorem cellsU32 : Tryd.prog.cellsOf 113 = 1 := by kernel_rfl
theorem tabData : (Rows.laid_loop_example_g00240_impl_halfSums : DataW Unit) = Lib.tabData .u32 (tab16.map Int.ofNat) := by kernel_rfl

theorem parts {W : World} (h : laidMetH Tryd.prog Rows.fnShownRow.laid W) : laidMet Tryd.prog [("strings.asciiSpace", Rows.laid_strings_asciiSpace), ("loop.example/g00240/impl.halfSums", Rows.laid_loop_example_g00240_impl_halfSums)] W := by
  rw [MakeChecks.laidMetH_plain _ _ _ (by kernel_rfl)] at h
  exact laidMet.tail h

theorem tabSp {W : World} (h : laidMetH Tryd.prog Rows.fnShownRow.laid W) : Lib.TabIs Tryd.prog W "strings.asciiSpace" .u8 Lib.asciiSpaceTab := by
  have h2 := parts h
  rw [spData] at h2
  exact Lib.tabIs_of_head gSp gSpType Tryd.underlying105 Tryd.underlying5 cellsU8 cellsSp h2

theorem table {W : World} (h : laidMetH Tryd.prog Rows.fnShownRow.laid W) : SumTab W := by
  have h2 : laidMet Tryd.prog [("loop.example/g00240/impl.halfSums", Rows.laid_loop_example_g00240_impl_halfSums)] W := laidMet.tail (parts h)
  rw [tabData] at h2
  have h3 := Lib.tabIs_of_head (rest := []) gTab gTabType Tryd.underlying141 Tryd.underlying113 cellsU32 cellsTab h2
  intro i hi
  have hl : i < tab16.length := hi
  rw [h3.cell gTab i (by rw [List.length_map]; exact hi)]
  simp [hl]

theorem walkAt (a : Option Addr) (len cap : Nat) {W : World} (w0 : 1048576 < len ∨ CodeIn W W.heap.size a len) (_ : World) (hL : laidMetH Tryd.prog Rows.fnShownRow.laid W) :
    Calls Tryd.prog 3 #[.slice a len cap] W fun e w1 => e = .returned (.bool true) ∧ Below W.heap.size W w1 :=
  lawShown a len cap W (fun L u wx hl hs h => implShowPairs_any L (by omega) (fun p hp => ⟨Nat.le_trans (hs p hp).1 (by omega), Nat.le_trans (hs p hp).2 (by omega)⟩) u wx h)
    (fun wx hb => by have h := implReadScript_any litS (by decide) wx (sumTab_below (table hL) hb) (tab_below (tabSp hL) hb); rw [scr_lit] at h; exact h) w0

set_option maxRecDepth 100000 in
theorem lifted (os : Os) (started : os.Started) (H : Type) (enc : TypeId × Value → H) :
    ReturnsInHanded {} Tryd.checked os 3 .any (fun w args => (Rows.fnShownSpec.pre enc Tryd.prog Tryd.f3 [] false w args ∧ laidMetH Tryd.prog Rows.fnShownRow.laid w) ∧ sizedMet enc Tryd.prog Tryd.f3 (OpenSpec.ofChange Rows.fnShownSpec) false w args)
      (Rows.fnShownSpec.post enc Tryd.prog Tryd.f3 false true false false) := by
  refine returnsInHanded_of_change_and (C := Tryd.checked) (X := fun w _ => laidMetH Tryd.prog Rows.fnShownRow.laid w) (fun _ _ _ hh h => h.of_heap hh) own started (by kernel_rfl) Tryd.func3
    (ChangeSpec.witness_shaped (enc := enc) (C := Tryd.checked) (os := os) (X := fun w _ => laidMetH Tryd.prog Rows.fnShownRow.laid w) false (World.doorLaid Tryd.prog 400 os) #[.slice none 0 0] 8 rfl (World.shaped_of_RefB (by kernel_rfl) (by kernel_rfl)) (by kernel_rfl) (by kernel_rfl) (by kernel_rfl) (door_met os _)) ?_
  intro W base args ds gs before hval0 hW _ _ hL _
  have hval : ∀ (j : Nat) t v, Tryd.f3.params[j]? = some t → args[j]? = some v → Value.okWide Tryd.prog W .any base t v := hval0
  have hW' := hW
  obtain ⟨p, q, hA0, hV, rfl, hfz, hnd⟩ := hW
  have hA : DataW.TrodAll enc Tryd.prog W 0 (fun _ => true) true Tryd.f3.params.toList args.toList ds p := hA0
  rw [Tryd.params3] at hA hval
  obtain ⟨v0, vs0, d0, ds0, p0, q0, hargs, rfl, rfl, h0, r0⟩ := trodAll_cons hA
  obtain ⟨rfl, rfl, rfl⟩ := trodAll_nil r0
  obtain rfl : args = #[v0] := by cases args; simp_all
  have hV0 := hV
  obtain ⟨gv, gt, gc, gf, gd, gp, rfl, -⟩ := trodVars_one hV
  obtain ⟨a0, len0, cap0, rfl⟩ := okWide_slice Tryd.underlying22 (hval 0 22 v0 rfl rfl)
  have k0 := h0
  have lt0 : ∀ x ∈ p0, x.block < W.heap.size := by obtain ⟨m, hm⟩ := k0; exact DataW.trod_lt m _ _ _ hm
  have w0 : 1048576 < len0 ∨ CodeIn W W.heap.size a0 len0 := by
    obtain ⟨fuel, hf⟩ := h0
    rcases open_ints Tryd.underlying22 Tryd.underlying5 (by kernel_rfl) hf with ⟨hcs, _⟩ | ⟨x, l, c, zs, hcs, _, hl, hm, hz, _, hcell, hwz⟩
    · simp [Value.cells] at hcs
      obtain ⟨rfl, rfl, rfl⟩ := hcs
      exact Or.inr ⟨by omega, Or.inl rfl⟩
    · simp [Value.cells] at hcs
      obtain ⟨rfl, rfl, rfl⟩ := hcs
      exact codeIn_of hl (by simpa using hz) hcell hwz
  clear hA0 hval0
  refine (walkAt a0 len0 cap0 w0 W hL).mono fun e W' ⟨he, bel⟩ => ?_
  subst he
  exact ⟨_, rfl, _, _, _, [], _, _, hW', trodAll_mk1 (shut_bool Tryd.underlying4 _), (trodAll_cons_mk (Below.trod laidOut (by kernel_rfl) (of_decide_eq_true (by kernel_rfl)) k0 bel lt0) trodAll_mk0), Below.trodVars laidOut bel (by kernel_rfl) hV0, bel.frame _, fun h => by cases h⟩

theorem said : Rows.FnShownSaid :=
  OpenClaim.holds_of_wide 3 Tryd.f3 rfl rfl rfl rfl rfl rfl rfl ⟨rfl, rfl, rfl, rfl, rfl⟩ rfl rfl rfl rfl rfl (by kernel_rfl) Tryd.func3 (by kernel_rfl)
    (of_decide_eq_true (by kernel_rfl)) (by unfold Func.isWrapper; first | (rw [if_pos (by decide +kernel)]; kernel_rfl) | (rw [if_neg (by decide +kernel)]; exact ⟨rfl, rfl⟩))
    (fun os started H enc _ => lifted os started H enc)

theorem plain (f : FuncId) (fn : Func) (hf : Tryd.pinned.checked.prog.funcNamed "loop.example/g00240/laws.FnShown" = some f) (hfn : Tryd.pinned.checked.prog.funcs[f]? = some fn) :
    false = Tryd.pinned.checked.prog.looks [] ∧ ∀ (j : Nat) t, fn.params[j]? = some t → Tryd.pinned.checked.prog.wantsStandIn t = false := by
  obtain rfl : f = 3 := Option.some.inj ((show Tryd.prog.funcNamed "loop.example/g00240/laws.FnShown" = some 3 by kernel_rfl).symm.trans hf) |>.symm
  obtain rfl : fn = Tryd.f3 := (Option.some.inj (Tryd.func3.symm.trans hfn)).symm
  refine ⟨by kernel_rfl, fun j t ht => ?_⟩
  rw [Tryd.params3] at ht
  have hm : t = 22 := by simpa using Array.mem_of_getElem? ht
  subst hm
  exact (show Tryd.prog.wantsStandIn 22 = false by kernel_rfl)

theorem card : Rows.FnShownCardSaid :=
  Claim7.holds_tied_plain_at .later [] _ _ _ _ said (fun _ h => by cases h) (by kernel_rfl) (fun _ h => by cases h) fnShown_row_tie rfl ⟨rfl, rfl⟩ (by kernel_rfl) rfl plain (by kernel_rfl)
end Go.Proofs.YtmmepgincbngeaaDoor.fnShown

namespace Go.Proofs.YtmmepgincbngeaaDoor
theorem fnShown_holds : Rows.FnShownCardSaid := fnShown.card
end Go.Proofs.YtmmepgincbngeaaDoor
