/-
  NARROWER THAN 'FOR EVERY INPUT', by the rows' own cells (each row's printed sentence says how): FnMetas: laid · FnBest: laid · FnExactMetaText: laid · FnExactReadMeta: laid · FnExactBestMeta: laid.
  DERIVED. THE GIVEN ROWS OF THIS SEAT. 5 by the template 'for every input the law returns true; each argument reads behind the call as it read before'; 0 by the template 'total and deterministic' (their statements: YthpfjfacjlpbdaaDoorTotals.lean).
  GIVEN WITH THE SEED: the statements are not yours to turn. If you find one false, say at which input.
  Laid BY PROGRAM, IN A SANDBOX (cutbox-rows.mjs): the forced cells as the released guide's own fill.sh prints them over the translation 9793392db180e8f5… (all of the seat's roots in one cut). By AI agents, Wed Nov 11 2026. No macro, syntax, notation, axiom, sorry.
-/
import Derived.Test.YthpfjfacjlpbdaaDoorChecked
import GoSem.Claim
import GoSem.ClaimJoined
import GoSem.ClaimMapViews
import Derived.JoinedTies
import Derived.KernelRfl
namespace Go.Proofs.YthpfjfacjlpbdaaDoor
/- THE CELL 'sum', in the pinned program and in every row, IS THE sha256 OF THE DUMP (.gsa) THAT YthpfjfacjlpbdaaDoorProg.lean LOADS. Nothing in Lean hashes anything: it is a label: what it is worth is what the hold of that sum in a sandbox is worth. -/
noncomputable def Tryd.pinned : Pinned := { name := "ythpfjfacjlpbdaadoor", sum := "9793392db180e8f5f02397e9410e8578df292ece62ac428cec660547e08bc960", checked := Tryd.checked }
namespace Rows
def none {H : Type} : Left H := { results := [], args := [] }

/- WHAT THE LISTED PACKAGE-LEVEL VARIABLES READ AS WHEN THE CALL BEGINS. Each datum BY PROGRAM (the guide's laid-datum.mjs) off the statement by which the dump's own 'gosem.cut.vars' lays the variable. In a bare row this is a premise. The card (YthpfjfacjlpbdaaDoorCards.lean) ties it to the program's text. -/
def laid_errors_errorType {H : Type} : DataW H := .iface "internal/reflectlite.rtype" (.agg [.ptr (.lit (.string [101, 114, 114, 111, 114]))])
def laid_loop_example_g00240_impl_halfSums {H : Type} : DataW H := .agg [.lit (.int .u32 0), .lit (.int .u32 1166650509), .lit (.int .u32 2333301018), .lit (.int .u32 3466261911), .lit (.int .u32 3189058079), .lit (.int .u32 4221339282), .lit (.int .u32 889615109), .lit (.int .u32 1888477064), .lit (.int .u32 3558460437), .lit (.int .u32 2442158232), .lit (.int .u32 1594529039), .lit (.int .u32 444807554), .lit (.int .u32 1779230218), .lit (.int .u32 797264519), .lit (.int .u32 3776954128), .lit (.int .u32 2761298845)]

/-- 'laws.FnMetas': WHATEVER THE INPUT: true; the input reads as it did. -/
def fnMetasSpec : ChangeSpec := { name := "fnMetas", vars := ["loop.example/g00240/impl.halfSums"], fn := fun _ => fun
  | [d, g1] => { results := [.lit (.bool true)], args := [d], vars := [g1] }
  | _ => none }
def fnMetasRow : OpenClaim := { program := "ythpfjfacjlpbdaadoor", sum := "9793392db180e8f5f02397e9410e8578df292ece62ac428cec660547e08bc960", func := "loop.example/g00240/laws.FnMetas", spec := "fnMetas", inPlace := ["internal/reflectlite.ValueOf", "(internal/reflectlite.Value).Type", "(internal/reflectlite.Value).IsNil", "internal/reflectlite.TypeOf", "(internal/reflectlite.Value).Elem", "(internal/reflectlite.Value).Set"], unfollowed := true, recurses := true, named := ["loop.example/g00240/impl.halfSums", "errors.errorType"], apart := false, laid := [("errors.errorType", laid_errors_errorType), ("loop.example/g00240/impl.halfSums", laid_loop_example_g00240_impl_halfSums)] }
def FnMetasSaid : Prop := fnMetasRow.holds Tryd.pinned (OpenSpec.ofChange fnMetasSpec)

/-- ITS FALSE NEIGHBOUR: 'it returns false'. Refute it at one input. -/
def fnMetasWrong : ChangeSpec := { name := "fnMetas", vars := ["loop.example/g00240/impl.halfSums"], fn := fun _ => fun
  | [d, g1] => { results := [.lit (.bool false)], args := [d], vars := [g1] }
  | _ => none }
def FnMetasWrongFalsely : Prop := fnMetasRow.holds Tryd.pinned (OpenSpec.ofChange fnMetasWrong)

/-- 'laws.FnBest': WHATEVER THE INPUT: true; the input reads as it did. -/
def fnBestSpec : ChangeSpec := { name := "fnBest", vars := ["loop.example/g00240/impl.halfSums"], fn := fun _ => fun
  | [d, g1] => { results := [.lit (.bool true)], args := [d], vars := [g1] }
  | _ => none }
def fnBestRow : OpenClaim := { program := "ythpfjfacjlpbdaadoor", sum := "9793392db180e8f5f02397e9410e8578df292ece62ac428cec660547e08bc960", func := "loop.example/g00240/laws.FnBest", spec := "fnBest", inPlace := ["internal/reflectlite.ValueOf", "(internal/reflectlite.Value).Type", "(internal/reflectlite.Value).IsNil", "internal/reflectlite.TypeOf", "(internal/reflectlite.Value).Elem", "(internal/reflectlite.Value).Set"], unfollowed := true, recurses := true, named := ["loop.example/g00240/impl.halfSums", "errors.errorType"], apart := false, laid := [("errors.errorType", laid_errors_errorType), ("loop.example/g00240/impl.halfSums", laid_loop_example_g00240_impl_halfSums)] }
def FnBestSaid : Prop := fnBestRow.holds Tryd.pinned (OpenSpec.ofChange fnBestSpec)

/-- ITS FALSE NEIGHBOUR: 'it returns false'. Refute it at one input. -/
def fnBestWrong : ChangeSpec := { name := "fnBest", vars := ["loop.example/g00240/impl.halfSums"], fn := fun _ => fun
  | [d, g1] => { results := [.lit (.bool false)], args := [d], vars := [g1] }
  | _ => none }
def FnBestWrongFalsely : Prop := fnBestRow.holds Tryd.pinned (OpenSpec.ofChange fnBestWrong)

/-- 'laws.FnExactMetaText': WHATEVER THE INPUT: true; the input reads as it did. -/
def fnExactMetaTextSpec : ChangeSpec := { name := "fnExactMetaText", vars := ["loop.example/g00240/impl.halfSums"], fn := fun _ => fun
  | [d, g1] => { results := [.lit (.bool true)], args := [d], vars := [g1] }
  | _ => none }
def fnExactMetaTextRow : OpenClaim := { program := "ythpfjfacjlpbdaadoor", sum := "9793392db180e8f5f02397e9410e8578df292ece62ac428cec660547e08bc960", func := "loop.example/g00240/laws.FnExactMetaText", spec := "fnExactMetaText", named := ["loop.example/g00240/impl.halfSums"], apart := false, laid := [("loop.example/g00240/impl.halfSums", laid_loop_example_g00240_impl_halfSums)] }
def FnExactMetaTextSaid : Prop := fnExactMetaTextRow.holds Tryd.pinned (OpenSpec.ofChange fnExactMetaTextSpec)

/-- ITS FALSE NEIGHBOUR: 'it returns false'. Refute it at one input. -/
def fnExactMetaTextWrong : ChangeSpec := { name := "fnExactMetaText", vars := ["loop.example/g00240/impl.halfSums"], fn := fun _ => fun
  | [d, g1] => { results := [.lit (.bool false)], args := [d], vars := [g1] }
  | _ => none }
def FnExactMetaTextWrongFalsely : Prop := fnExactMetaTextRow.holds Tryd.pinned (OpenSpec.ofChange fnExactMetaTextWrong)

/-- 'laws.FnExactReadMeta': WHATEVER THE INPUT: true; the input reads as it did. -/
def fnExactReadMetaSpec : ChangeSpec := { name := "fnExactReadMeta", vars := ["loop.example/g00240/impl.halfSums"], fn := fun _ => fun
  | [d, g1] => { results := [.lit (.bool true)], args := [d], vars := [g1] }
  | _ => none }
def fnExactReadMetaRow : OpenClaim := { program := "ythpfjfacjlpbdaadoor", sum := "9793392db180e8f5f02397e9410e8578df292ece62ac428cec660547e08bc960", func := "loop.example/g00240/laws.FnExactReadMeta", spec := "fnExactReadMeta", inPlace := ["internal/reflectlite.ValueOf", "(internal/reflectlite.Value).Type", "(internal/reflectlite.Value).IsNil", "internal/reflectlite.TypeOf", "(internal/reflectlite.Value).Elem", "(internal/reflectlite.Value).Set"], unfollowed := true, recurses := true, named := ["loop.example/g00240/impl.halfSums", "errors.errorType"], apart := false, laid := [("errors.errorType", laid_errors_errorType), ("loop.example/g00240/impl.halfSums", laid_loop_example_g00240_impl_halfSums)] }
def FnExactReadMetaSaid : Prop := fnExactReadMetaRow.holds Tryd.pinned (OpenSpec.ofChange fnExactReadMetaSpec)

/-- ITS FALSE NEIGHBOUR: 'it returns false'. Refute it at one input. -/
def fnExactReadMetaWrong : ChangeSpec := { name := "fnExactReadMeta", vars := ["loop.example/g00240/impl.halfSums"], fn := fun _ => fun
  | [d, g1] => { results := [.lit (.bool false)], args := [d], vars := [g1] }
  | _ => none }
def FnExactReadMetaWrongFalsely : Prop := fnExactReadMetaRow.holds Tryd.pinned (OpenSpec.ofChange fnExactReadMetaWrong)

/-- 'laws.FnExactBestMeta': WHATEVER THE INPUT: true; the input reads as it did. -/
def fnExactBestMetaSpec : ChangeSpec := { name := "fnExactBestMeta", vars := ["loop.example/g00240/impl.halfSums"], fn := fun _ => fun
  | [d, g1] => { results := [.lit (.bool true)], args := [d], vars := [g1] }
  | _ => none }
def fnExactBestMetaRow : OpenClaim := { program := "ythpfjfacjlpbdaadoor", sum := "9793392db180e8f5f02397e9410e8578df292ece62ac428cec660547e08bc960", func := "loop.example/g00240/laws.FnExactBestMeta", spec := "fnExactBestMeta", inPlace := ["internal/reflectlite.ValueOf", "(internal/reflectlite.Value).Type", "(internal/reflectlite.Value).IsNil", "internal/reflectlite.TypeOf", "(internal/reflectlite.Value).Elem", "(internal/reflectlite.Value).Set"], unfollowed := true, recurses := true, named := ["loop.example/g00240/impl.halfSums", "errors.errorType"], apart := false, laid := [("errors.errorType", laid_errors_errorType), ("loop.example/g00240/impl.halfSums", laid_loop_example_g00240_impl_halfSums)] }
def FnExactBestMetaSaid : Prop := fnExactBestMetaRow.holds Tryd.pinned (OpenSpec.ofChange fnExactBestMetaSpec)

/-- ITS FALSE NEIGHBOUR: 'it returns false'. Refute it at one input. -/
def fnExactBestMetaWrong : ChangeSpec := { name := "fnExactBestMeta", vars := ["loop.example/g00240/impl.halfSums"], fn := fun _ => fun
  | [d, g1] => { results := [.lit (.bool false)], args := [d], vars := [g1] }
  | _ => none }
def FnExactBestMetaWrongFalsely : Prop := fnExactBestMetaRow.holds Tryd.pinned (OpenSpec.ofChange fnExactBestMetaWrong)

/- THE SECOND FORM. 'bulk': how many values and letters a reading holds, each counted each time it is reached (what is shared counts as often as it is met; a slice's spare places count too). A statement '..UptoSaid' is the law's where the arguments, and the package variables that the reading takes, are together of bulk at most 1048576: NARROWER than '..Said'. Prove '..Said' where nothing that the law and all that it calls make is longer than what came in: it says more and counts as full. Else prove '..UptoSaid'. A law counts once. -/
mutual
def uptoBulk {H : Type} : DataW H → Nat
  | .lit (.string bytes) => bytes.length + 1
  | .lit _ => 1
  | .nil => 1
  | .ptr d => uptoBulk d + 1
  | .slice elems spare => uptoBulkAll elems + uptoBulkAll spare + 1
  | .agg parts => uptoBulkAll parts + 1
  | .iface _ d => uptoBulk d + 1
  | .map entries => uptoBulkEntries entries + 1
  | .held _ => 1
def uptoBulkAll {H : Type} : List (DataW H) → Nat
  | [] => 0
  | d :: r => uptoBulk d + uptoBulkAll r
def uptoBulkEntries {H : Type} : List (Lit × DataW H) → Nat
  | [] => 0
  | x :: r => uptoBulkEntry x + uptoBulkEntries r
def uptoBulkEntry {H : Type} : Lit × DataW H → Nat
  | (.string bytes, d) => bytes.length + uptoBulk d + 1
  | (_, d) => uptoBulk d + 1
 end
def uptoSmall : (H : Type) → List (DataW H) → Bool := fun _ ds => decide (uptoBulkAll ds ≤ 1048576)
def OpenSpec.upto (s : _root_.Go.ChangeSpec) : _root_.Go.OpenSpec := { _root_.Go.OpenSpec.ofChange s with cond := some uptoSmall }

/-- 'laws.FnMetas', WHERE WHAT IT READS IS OF BULK AT MOST 1048576: true; the input reads as it did. -/
def fnMetasUptoRow : OpenClaim := { program := "ythpfjfacjlpbdaadoor", sum := "9793392db180e8f5f02397e9410e8578df292ece62ac428cec660547e08bc960", func := "loop.example/g00240/laws.FnMetas", spec := "fnMetas", inPlace := ["internal/reflectlite.ValueOf", "(internal/reflectlite.Value).Type", "(internal/reflectlite.Value).IsNil", "internal/reflectlite.TypeOf", "(internal/reflectlite.Value).Elem", "(internal/reflectlite.Value).Set"], unfollowed := true, recurses := true, named := ["loop.example/g00240/impl.halfSums", "errors.errorType"], apart := false, laid := [("errors.errorType", laid_errors_errorType), ("loop.example/g00240/impl.halfSums", laid_loop_example_g00240_impl_halfSums)], narrowed := true }
def FnMetasUptoSaid : Prop := fnMetasUptoRow.holds Tryd.pinned (OpenSpec.upto fnMetasSpec)

/-- 'laws.FnBest', WHERE WHAT IT READS IS OF BULK AT MOST 1048576: true; the input reads as it did. -/
def fnBestUptoRow : OpenClaim := { program := "ythpfjfacjlpbdaadoor", sum := "9793392db180e8f5f02397e9410e8578df292ece62ac428cec660547e08bc960", func := "loop.example/g00240/laws.FnBest", spec := "fnBest", inPlace := ["internal/reflectlite.ValueOf", "(internal/reflectlite.Value).Type", "(internal/reflectlite.Value).IsNil", "internal/reflectlite.TypeOf", "(internal/reflectlite.Value).Elem", "(internal/reflectlite.Value).Set"], unfollowed := true, recurses := true, named := ["loop.example/g00240/impl.halfSums", "errors.errorType"], apart := false, laid := [("errors.errorType", laid_errors_errorType), ("loop.example/g00240/impl.halfSums", laid_loop_example_g00240_impl_halfSums)], narrowed := true }
def FnBestUptoSaid : Prop := fnBestUptoRow.holds Tryd.pinned (OpenSpec.upto fnBestSpec)

/-- 'laws.FnExactMetaText', WHERE WHAT IT READS IS OF BULK AT MOST 1048576: true; the input reads as it did. -/
def fnExactMetaTextUptoRow : OpenClaim := { program := "ythpfjfacjlpbdaadoor", sum := "9793392db180e8f5f02397e9410e8578df292ece62ac428cec660547e08bc960", func := "loop.example/g00240/laws.FnExactMetaText", spec := "fnExactMetaText", named := ["loop.example/g00240/impl.halfSums"], apart := false, laid := [("loop.example/g00240/impl.halfSums", laid_loop_example_g00240_impl_halfSums)], narrowed := true }
def FnExactMetaTextUptoSaid : Prop := fnExactMetaTextUptoRow.holds Tryd.pinned (OpenSpec.upto fnExactMetaTextSpec)

/-- 'laws.FnExactReadMeta', WHERE WHAT IT READS IS OF BULK AT MOST 1048576: true; the input reads as it did. -/
def fnExactReadMetaUptoRow : OpenClaim := { program := "ythpfjfacjlpbdaadoor", sum := "9793392db180e8f5f02397e9410e8578df292ece62ac428cec660547e08bc960", func := "loop.example/g00240/laws.FnExactReadMeta", spec := "fnExactReadMeta", inPlace := ["internal/reflectlite.ValueOf", "(internal/reflectlite.Value).Type", "(internal/reflectlite.Value).IsNil", "internal/reflectlite.TypeOf", "(internal/reflectlite.Value).Elem", "(internal/reflectlite.Value).Set"], unfollowed := true, recurses := true, named := ["loop.example/g00240/impl.halfSums", "errors.errorType"], apart := false, laid := [("errors.errorType", laid_errors_errorType), ("loop.example/g00240/impl.halfSums", laid_loop_example_g00240_impl_halfSums)], narrowed := true }
def FnExactReadMetaUptoSaid : Prop := fnExactReadMetaUptoRow.holds Tryd.pinned (OpenSpec.upto fnExactReadMetaSpec)

/-- 'laws.FnExactBestMeta', WHERE WHAT IT READS IS OF BULK AT MOST 1048576: true; the input reads as it did. -/
def fnExactBestMetaUptoRow : OpenClaim := { program := "ythpfjfacjlpbdaadoor", sum := "9793392db180e8f5f02397e9410e8578df292ece62ac428cec660547e08bc960", func := "loop.example/g00240/laws.FnExactBestMeta", spec := "fnExactBestMeta", inPlace := ["internal/reflectlite.ValueOf", "(internal/reflectlite.Value).Type", "(internal/reflectlite.Value).IsNil", "internal/reflectlite.TypeOf", "(internal/reflectlite.Value).Elem", "(internal/reflectlite.Value).Set"], unfollowed := true, recurses := true, named := ["loop.example/g00240/impl.halfSums", "errors.errorType"], apart := false, laid := [("errors.errorType", laid_errors_errorType), ("loop.example/g00240/impl.halfSums", laid_loop_example_g00240_impl_halfSums)], narrowed := true }
def FnExactBestMetaUptoSaid : Prop := fnExactBestMetaUptoRow.holds Tryd.pinned (OpenSpec.upto fnExactBestMetaSpec)

end Rows
end Go.Proofs.YthpfjfacjlpbdaaDoor
