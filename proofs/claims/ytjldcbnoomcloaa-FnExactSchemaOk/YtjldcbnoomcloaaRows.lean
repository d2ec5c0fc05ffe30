/-
  No cell of these rows narrows 'for every input' (looked for: loops, veiled, ifaces, maps, wideKeys, modest, calm, conditions, laid).
  DERIVED. THE GIVEN ROWS OF THIS SEAT. 16 by the template 'for every input the law returns true; each argument reads behind the call as it read before'; 0 by the template 'total and deterministic' (their statements: YtjldcbnoomcloaaTotals.lean).
  GIVEN WITH THE SEED: the statements are not yours to turn. If you find one false, say at which input.
  Laid BY PROGRAM, IN A SANDBOX (cutbox-rows.mjs): the forced cells as the released guide's own fill.sh prints them over the translation e92777c7ae4719b0… (all of the seat's roots in one cut). By AI agents, Wed Nov 11 2026. No macro, syntax, notation, axiom, sorry.
-/
import Derived.Test.YtjldcbnoomcloaaChecked
import GoSem.Claim
import GoSem.ClaimJoined
import GoSem.ClaimMapViews
import Derived.JoinedTies
import Derived.KernelRfl
namespace Go.Proofs.Ytjldcbnoomcloaa
/- THE CELL 'sum', in the pinned program and in every row, IS THE sha256 OF THE DUMP (.gsa) THAT YtjldcbnoomcloaaProg.lean LOADS. Nothing in Lean hashes anything: it is a label: what it is worth is what the hold of that sum in a sandbox is worth. -/
noncomputable def Try.pinned : Pinned := { name := "ytjldcbnoomcloaa", sum := "e92777c7ae4719b0218b78f9c60a1fa5f9167d0c726560289c8536777eb5e568", checked := Try.checked }
namespace Rows
def none {H : Type} : Left H := { results := [], args := [] }

/-- 'laws.FnSchemas': WHATEVER THE INPUT: true; the input reads as it did. -/
def fnSchemasSpec : ChangeSpec := { name := "fnSchemas", fn := fun _ => fun
  | [d] => { results := [.lit (.bool true)], args := [d] }
  | _ => none }
def fnSchemasRow : OpenClaim := { program := "ytjldcbnoomcloaa", sum := "e92777c7ae4719b0218b78f9c60a1fa5f9167d0c726560289c8536777eb5e568", func := "loop.example/g00240/laws.FnSchemas", spec := "fnSchemas", unfollowed := true, recurses := true, apart := false }
def FnSchemasSaid : Prop := fnSchemasRow.holds Try.pinned (OpenSpec.ofChange fnSchemasSpec)

/-- ITS FALSE NEIGHBOUR: 'it returns false'. Refute it at one input. -/
def fnSchemasWrong : ChangeSpec := { name := "fnSchemas", fn := fun _ => fun
  | [d] => { results := [.lit (.bool false)], args := [d] }
  | _ => none }
def FnSchemasWrongFalsely : Prop := fnSchemasRow.holds Try.pinned (OpenSpec.ofChange fnSchemasWrong)

/-- 'laws.FnThings': WHATEVER THE INPUT: true; the input reads as it did. -/
def fnThingsSpec : ChangeSpec := { name := "fnThings", fn := fun _ => fun
  | [d] => { results := [.lit (.bool true)], args := [d] }
  | _ => none }
def fnThingsRow : OpenClaim := { program := "ytjldcbnoomcloaa", sum := "e92777c7ae4719b0218b78f9c60a1fa5f9167d0c726560289c8536777eb5e568", func := "loop.example/g00240/laws.FnThings", spec := "fnThings", inPlace := ["internal/bytealg.IndexByteString"], unfollowed := true, recurses := true, apart := false }
def FnThingsSaid : Prop := fnThingsRow.holds Try.pinned (OpenSpec.ofChange fnThingsSpec)

/-- ITS FALSE NEIGHBOUR: 'it returns false'. Refute it at one input. -/
def fnThingsWrong : ChangeSpec := { name := "fnThings", fn := fun _ => fun
  | [d] => { results := [.lit (.bool false)], args := [d] }
  | _ => none }
def FnThingsWrongFalsely : Prop := fnThingsRow.holds Try.pinned (OpenSpec.ofChange fnThingsWrong)

/-- 'laws.FnOrders': WHATEVER THE INPUT: true; the input reads as it did. -/
def fnOrdersSpec : ChangeSpec := { name := "fnOrders", fn := fun _ => fun
  | [d] => { results := [.lit (.bool true)], args := [d] }
  | _ => none }
def fnOrdersRow : OpenClaim := { program := "ytjldcbnoomcloaa", sum := "e92777c7ae4719b0218b78f9c60a1fa5f9167d0c726560289c8536777eb5e568", func := "loop.example/g00240/laws.FnOrders", spec := "fnOrders", inPlace := ["internal/bytealg.IndexByteString"], unfollowed := true, recurses := true, apart := false }
def FnOrdersSaid : Prop := fnOrdersRow.holds Try.pinned (OpenSpec.ofChange fnOrdersSpec)

/-- ITS FALSE NEIGHBOUR: 'it returns false'. Refute it at one input. -/
def fnOrdersWrong : ChangeSpec := { name := "fnOrders", fn := fun _ => fun
  | [d] => { results := [.lit (.bool false)], args := [d] }
  | _ => none }
def FnOrdersWrongFalsely : Prop := fnOrdersRow.holds Try.pinned (OpenSpec.ofChange fnOrdersWrong)

/-- 'laws.FnExactSchemaOk': WHATEVER THE INPUT: true; the input reads as it did. -/
def fnExactSchemaOkSpec : ChangeSpec := { name := "fnExactSchemaOk", fn := fun _ => fun
  | [d] => { results := [.lit (.bool true)], args := [d] }
  | _ => none }
def fnExactSchemaOkRow : OpenClaim := { program := "ytjldcbnoomcloaa", sum := "e92777c7ae4719b0218b78f9c60a1fa5f9167d0c726560289c8536777eb5e568", func := "loop.example/g00240/laws.FnExactSchemaOk", spec := "fnExactSchemaOk", unfollowed := true, recurses := true, apart := false }
def FnExactSchemaOkSaid : Prop := fnExactSchemaOkRow.holds Try.pinned (OpenSpec.ofChange fnExactSchemaOkSpec)

/-- ITS FALSE NEIGHBOUR: 'it returns false'. Refute it at one input. -/
def fnExactSchemaOkWrong : ChangeSpec := { name := "fnExactSchemaOk", fn := fun _ => fun
  | [d] => { results := [.lit (.bool false)], args := [d] }
  | _ => none }
def FnExactSchemaOkWrongFalsely : Prop := fnExactSchemaOkRow.holds Try.pinned (OpenSpec.ofChange fnExactSchemaOkWrong)

/-- 'laws.FnExactSchemaText': WHATEVER THE INPUT: true; the input reads as it did. -/
def fnExactSchemaTextSpec : ChangeSpec := { name := "fnExactSchemaText", fn := fun _ => fun
  | [d] => { results := [.lit (.bool true)], args := [d] }
  | _ => none }
def fnExactSchemaTextRow : OpenClaim := { program := "ytjldcbnoomcloaa", sum := "e92777c7ae4719b0218b78f9c60a1fa5f9167d0c726560289c8536777eb5e568", func := "loop.example/g00240/laws.FnExactSchemaText", spec := "fnExactSchemaText", unfollowed := true, recurses := true, apart := false }
def FnExactSchemaTextSaid : Prop := fnExactSchemaTextRow.holds Try.pinned (OpenSpec.ofChange fnExactSchemaTextSpec)

/-- ITS FALSE NEIGHBOUR: 'it returns false'. Refute it at one input. -/
def fnExactSchemaTextWrong : ChangeSpec := { name := "fnExactSchemaText", fn := fun _ => fun
  | [d] => { results := [.lit (.bool false)], args := [d] }
  | _ => none }
def FnExactSchemaTextWrongFalsely : Prop := fnExactSchemaTextRow.holds Try.pinned (OpenSpec.ofChange fnExactSchemaTextWrong)

/-- 'laws.FnExactReadSchema': WHATEVER THE INPUT: true; the input reads as it did. -/
def fnExactReadSchemaSpec : ChangeSpec := { name := "fnExactReadSchema", fn := fun _ => fun
  | [d] => { results := [.lit (.bool true)], args := [d] }
  | _ => none }
def fnExactReadSchemaRow : OpenClaim := { program := "ytjldcbnoomcloaa", sum := "e92777c7ae4719b0218b78f9c60a1fa5f9167d0c726560289c8536777eb5e568", func := "loop.example/g00240/laws.FnExactReadSchema", spec := "fnExactReadSchema", unfollowed := true, recurses := true, apart := false }
def FnExactReadSchemaSaid : Prop := fnExactReadSchemaRow.holds Try.pinned (OpenSpec.ofChange fnExactReadSchemaSpec)

/-- ITS FALSE NEIGHBOUR: 'it returns false'. Refute it at one input. -/
def fnExactReadSchemaWrong : ChangeSpec := { name := "fnExactReadSchema", fn := fun _ => fun
  | [d] => { results := [.lit (.bool false)], args := [d] }
  | _ => none }
def FnExactReadSchemaWrongFalsely : Prop := fnExactReadSchemaRow.holds Try.pinned (OpenSpec.ofChange fnExactReadSchemaWrong)

/-- 'laws.FnExactThingOk': WHATEVER THE INPUT: true; the input reads as it did. -/
def fnExactThingOkSpec : ChangeSpec := { name := "fnExactThingOk", fn := fun _ => fun
  | [d1, d2] => { results := [.lit (.bool true)], args := [d1, d2] }
  | _ => none }
def fnExactThingOkRow : OpenClaim := { program := "ytjldcbnoomcloaa", sum := "e92777c7ae4719b0218b78f9c60a1fa5f9167d0c726560289c8536777eb5e568", func := "loop.example/g00240/laws.FnExactThingOk", spec := "fnExactThingOk", inPlace := ["internal/bytealg.IndexByteString"], unfollowed := true, recurses := true, apart := false }
def FnExactThingOkSaid : Prop := fnExactThingOkRow.holds Try.pinned (OpenSpec.ofChange fnExactThingOkSpec)

/-- ITS FALSE NEIGHBOUR: 'it returns false'. Refute it at one input. -/
def fnExactThingOkWrong : ChangeSpec := { name := "fnExactThingOk", fn := fun _ => fun
  | [d1, d2] => { results := [.lit (.bool false)], args := [d1, d2] }
  | _ => none }
def FnExactThingOkWrongFalsely : Prop := fnExactThingOkRow.holds Try.pinned (OpenSpec.ofChange fnExactThingOkWrong)

/-- 'laws.FnExactThingText': WHATEVER THE INPUT: true; the input reads as it did. -/
def fnExactThingTextSpec : ChangeSpec := { name := "fnExactThingText", fn := fun _ => fun
  | [d1, d2] => { results := [.lit (.bool true)], args := [d1, d2] }
  | _ => none }
def fnExactThingTextRow : OpenClaim := { program := "ytjldcbnoomcloaa", sum := "e92777c7ae4719b0218b78f9c60a1fa5f9167d0c726560289c8536777eb5e568", func := "loop.example/g00240/laws.FnExactThingText", spec := "fnExactThingText", inPlace := ["internal/bytealg.IndexByteString"], unfollowed := true, recurses := true, apart := false }
def FnExactThingTextSaid : Prop := fnExactThingTextRow.holds Try.pinned (OpenSpec.ofChange fnExactThingTextSpec)

/-- ITS FALSE NEIGHBOUR: 'it returns false'. Refute it at one input. -/
def fnExactThingTextWrong : ChangeSpec := { name := "fnExactThingText", fn := fun _ => fun
  | [d1, d2] => { results := [.lit (.bool false)], args := [d1, d2] }
  | _ => none }
def FnExactThingTextWrongFalsely : Prop := fnExactThingTextRow.holds Try.pinned (OpenSpec.ofChange fnExactThingTextWrong)

/-- 'laws.FnExactReadThing': WHATEVER THE INPUT: true; the input reads as it did. -/
def fnExactReadThingSpec : ChangeSpec := { name := "fnExactReadThing", fn := fun _ => fun
  | [d1, d2] => { results := [.lit (.bool true)], args := [d1, d2] }
  | _ => none }
def fnExactReadThingRow : OpenClaim := { program := "ytjldcbnoomcloaa", sum := "e92777c7ae4719b0218b78f9c60a1fa5f9167d0c726560289c8536777eb5e568", func := "loop.example/g00240/laws.FnExactReadThing", spec := "fnExactReadThing", inPlace := ["internal/bytealg.IndexByteString"], unfollowed := true, recurses := true, apart := false }
def FnExactReadThingSaid : Prop := fnExactReadThingRow.holds Try.pinned (OpenSpec.ofChange fnExactReadThingSpec)

/-- ITS FALSE NEIGHBOUR: 'it returns false'. Refute it at one input. -/
def fnExactReadThingWrong : ChangeSpec := { name := "fnExactReadThing", fn := fun _ => fun
  | [d1, d2] => { results := [.lit (.bool false)], args := [d1, d2] }
  | _ => none }
def FnExactReadThingWrongFalsely : Prop := fnExactReadThingRow.holds Try.pinned (OpenSpec.ofChange fnExactReadThingWrong)

/-- 'laws.FnExactKeyText': WHATEVER THE INPUT: true; the input reads as it did. -/
def fnExactKeyTextSpec : ChangeSpec := { name := "fnExactKeyText", fn := fun _ => fun
  | [d1, d2] => { results := [.lit (.bool true)], args := [d1, d2] }
  | _ => none }
def fnExactKeyTextRow : OpenClaim := { program := "ytjldcbnoomcloaa", sum := "e92777c7ae4719b0218b78f9c60a1fa5f9167d0c726560289c8536777eb5e568", func := "loop.example/g00240/laws.FnExactKeyText", spec := "fnExactKeyText", inPlace := ["internal/bytealg.IndexByteString"], apart := false }
def FnExactKeyTextSaid : Prop := fnExactKeyTextRow.holds Try.pinned (OpenSpec.ofChange fnExactKeyTextSpec)

/-- ITS FALSE NEIGHBOUR: 'it returns false'. Refute it at one input. -/
def fnExactKeyTextWrong : ChangeSpec := { name := "fnExactKeyText", fn := fun _ => fun
  | [d1, d2] => { results := [.lit (.bool false)], args := [d1, d2] }
  | _ => none }
def FnExactKeyTextWrongFalsely : Prop := fnExactKeyTextRow.holds Try.pinned (OpenSpec.ofChange fnExactKeyTextWrong)

/-- 'laws.FnExactFieldAt': WHATEVER THE INPUT: true; the input reads as it did. -/
def fnExactFieldAtSpec : ChangeSpec := { name := "fnExactFieldAt", fn := fun _ => fun
  | [d1, d2] => { results := [.lit (.bool true)], args := [d1, d2] }
  | _ => none }
def fnExactFieldAtRow : OpenClaim := { program := "ytjldcbnoomcloaa", sum := "e92777c7ae4719b0218b78f9c60a1fa5f9167d0c726560289c8536777eb5e568", func := "loop.example/g00240/laws.FnExactFieldAt", spec := "fnExactFieldAt", apart := false }
def FnExactFieldAtSaid : Prop := fnExactFieldAtRow.holds Try.pinned (OpenSpec.ofChange fnExactFieldAtSpec)

/-- ITS FALSE NEIGHBOUR: 'it returns false'. Refute it at one input. -/
def fnExactFieldAtWrong : ChangeSpec := { name := "fnExactFieldAt", fn := fun _ => fun
  | [d1, d2] => { results := [.lit (.bool false)], args := [d1, d2] }
  | _ => none }
def FnExactFieldAtWrongFalsely : Prop := fnExactFieldAtRow.holds Try.pinned (OpenSpec.ofChange fnExactFieldAtWrong)

/-- 'laws.FnExactCollOk': WHATEVER THE INPUT: true; the input reads as it did. -/
def fnExactCollOkSpec : ChangeSpec := { name := "fnExactCollOk", fn := fun _ => fun
  | [d] => { results := [.lit (.bool true)], args := [d] }
  | _ => none }
def fnExactCollOkRow : OpenClaim := { program := "ytjldcbnoomcloaa", sum := "e92777c7ae4719b0218b78f9c60a1fa5f9167d0c726560289c8536777eb5e568", func := "loop.example/g00240/laws.FnExactCollOk", spec := "fnExactCollOk", unfollowed := true, recurses := true, apart := false }
def FnExactCollOkSaid : Prop := fnExactCollOkRow.holds Try.pinned (OpenSpec.ofChange fnExactCollOkSpec)

/-- ITS FALSE NEIGHBOUR: 'it returns false'. Refute it at one input. -/
def fnExactCollOkWrong : ChangeSpec := { name := "fnExactCollOk", fn := fun _ => fun
  | [d] => { results := [.lit (.bool false)], args := [d] }
  | _ => none }
def FnExactCollOkWrongFalsely : Prop := fnExactCollOkRow.holds Try.pinned (OpenSpec.ofChange fnExactCollOkWrong)

/-- 'laws.FnExactNameKey': WHATEVER THE INPUT: true; the input reads as it did. -/
def fnExactNameKeySpec : ChangeSpec := { name := "fnExactNameKey", fn := fun _ => fun
  | [d] => { results := [.lit (.bool true)], args := [d] }
  | _ => none }
def fnExactNameKeyRow : OpenClaim := { program := "ytjldcbnoomcloaa", sum := "e92777c7ae4719b0218b78f9c60a1fa5f9167d0c726560289c8536777eb5e568", func := "loop.example/g00240/laws.FnExactNameKey", spec := "fnExactNameKey", unfollowed := true, recurses := true, apart := false }
def FnExactNameKeySaid : Prop := fnExactNameKeyRow.holds Try.pinned (OpenSpec.ofChange fnExactNameKeySpec)

/-- ITS FALSE NEIGHBOUR: 'it returns false'. Refute it at one input. -/
def fnExactNameKeyWrong : ChangeSpec := { name := "fnExactNameKey", fn := fun _ => fun
  | [d] => { results := [.lit (.bool false)], args := [d] }
  | _ => none }
def FnExactNameKeyWrongFalsely : Prop := fnExactNameKeyRow.holds Try.pinned (OpenSpec.ofChange fnExactNameKeyWrong)

/-- 'laws.FnExactSchemaKey': WHATEVER THE INPUT: true; the input reads as it did. -/
def fnExactSchemaKeySpec : ChangeSpec := { name := "fnExactSchemaKey", fn := fun _ => fun
  | [d] => { results := [.lit (.bool true)], args := [d] }
  | _ => none }
def fnExactSchemaKeyRow : OpenClaim := { program := "ytjldcbnoomcloaa", sum := "e92777c7ae4719b0218b78f9c60a1fa5f9167d0c726560289c8536777eb5e568", func := "loop.example/g00240/laws.FnExactSchemaKey", spec := "fnExactSchemaKey", inPlace := ["internal/abi.NoEscape", "internal/bytealg.MakeNoZero"], apart := false }
def FnExactSchemaKeySaid : Prop := fnExactSchemaKeyRow.holds Try.pinned (OpenSpec.ofChange fnExactSchemaKeySpec)

/-- ITS FALSE NEIGHBOUR: 'it returns false'. Refute it at one input. -/
def fnExactSchemaKeyWrong : ChangeSpec := { name := "fnExactSchemaKey", fn := fun _ => fun
  | [d] => { results := [.lit (.bool false)], args := [d] }
  | _ => none }
def FnExactSchemaKeyWrongFalsely : Prop := fnExactSchemaKeyRow.holds Try.pinned (OpenSpec.ofChange fnExactSchemaKeyWrong)

/-- 'laws.FnExactThingKey': WHATEVER THE INPUT: true; the input reads as it did. -/
def fnExactThingKeySpec : ChangeSpec := { name := "fnExactThingKey", fn := fun _ => fun
  | [d1, d2] => { results := [.lit (.bool true)], args := [d1, d2] }
  | _ => none }
def fnExactThingKeyRow : OpenClaim := { program := "ytjldcbnoomcloaa", sum := "e92777c7ae4719b0218b78f9c60a1fa5f9167d0c726560289c8536777eb5e568", func := "loop.example/g00240/laws.FnExactThingKey", spec := "fnExactThingKey", inPlace := ["internal/abi.NoEscape", "internal/bytealg.MakeNoZero"], apart := false }
def FnExactThingKeySaid : Prop := fnExactThingKeyRow.holds Try.pinned (OpenSpec.ofChange fnExactThingKeySpec)

/-- ITS FALSE NEIGHBOUR: 'it returns false'. Refute it at one input. -/
def fnExactThingKeyWrong : ChangeSpec := { name := "fnExactThingKey", fn := fun _ => fun
  | [d1, d2] => { results := [.lit (.bool false)], args := [d1, d2] }
  | _ => none }
def FnExactThingKeyWrongFalsely : Prop := fnExactThingKeyRow.holds Try.pinned (OpenSpec.ofChange fnExactThingKeyWrong)

/-- 'laws.FnExactIndexKey': WHATEVER THE INPUT: true; the input reads as it did. -/
def fnExactIndexKeySpec : ChangeSpec := { name := "fnExactIndexKey", fn := fun _ => fun
  | [d1, d2, d3, d4] => { results := [.lit (.bool true)], args := [d1, d2, d3, d4] }
  | _ => none }
def fnExactIndexKeyRow : OpenClaim := { program := "ytjldcbnoomcloaa", sum := "e92777c7ae4719b0218b78f9c60a1fa5f9167d0c726560289c8536777eb5e568", func := "loop.example/g00240/laws.FnExactIndexKey", spec := "fnExactIndexKey", inPlace := ["internal/abi.NoEscape", "internal/bytealg.MakeNoZero"], apart := false }
def FnExactIndexKeySaid : Prop := fnExactIndexKeyRow.holds Try.pinned (OpenSpec.ofChange fnExactIndexKeySpec)

/-- ITS FALSE NEIGHBOUR: 'it returns false'. Refute it at one input. -/
def fnExactIndexKeyWrong : ChangeSpec := { name := "fnExactIndexKey", fn := fun _ => fun
  | [d1, d2, d3, d4] => { results := [.lit (.bool false)], args := [d1, d2, d3, d4] }
  | _ => none }
def FnExactIndexKeyWrongFalsely : Prop := fnExactIndexKeyRow.holds Try.pinned (OpenSpec.ofChange fnExactIndexKeyWrong)

/- THE SECOND FORM. 'bulk': how many values and letters a reading holds, each counted each time it is reached (what is shared counts as often as it is met; a slice's spare places count too). A statement '..UptoSaid' is the law's where the arguments, and the package variables that the reading takes, are together of bulk at most 1048576: NARROWER than '..Said'. Prove '..Said' where nothing that the law and all that it calls make is longer than what came in: it says more and counts as full. Else prove '..UptoSaid'. A law counts once. -/
mutual
def uptoBulk {H : Type} : DataW H → Nat
  | .lit (.string bytes) => bytes.length + 1
  | .lit _ => 1
  | .nil => 1
  | .ptr d => uptoBulk d + 1
  | .slice elems spare => uptoBulkAll elems + uptoBulkAll spare + 1
  | .agg parts => uptoBulkAll parts + 1
  | .iface _ d => uptoBulk d + 1
  | .map entries => uptoBulkEntries entries + 1
  | .held _ => 1
def uptoBulkAll {H : Type} : List (DataW H) → Nat
  | [] => 0
  | d :: r => uptoBulk d + uptoBulkAll r
def uptoBulkEntries {H : Type} : List (Lit × DataW H) → Nat
  | [] => 0
  | x :: r => uptoBulkEntry x + uptoBulkEntries r
def uptoBulkEntry {H : Type} : Lit × DataW H → Nat
  | (.string bytes, d) => bytes.length + uptoBulk d + 1
  | (_, d) => uptoBulk d + 1
 end
def uptoSmall : (H : Type) → List (DataW H) → Bool := fun _ ds => decide (uptoBulkAll ds ≤ 1048576)
def OpenSpec.upto (s : _root_.Go.ChangeSpec) : _root_.Go.OpenSpec := { _root_.Go.OpenSpec.ofChange s with cond := some uptoSmall }

/-- 'laws.FnSchemas', WHERE WHAT IT READS IS OF BULK AT MOST 1048576: true; the input reads as it did. -/
def fnSchemasUptoRow : OpenClaim := { program := "ytjldcbnoomcloaa", sum := "e92777c7ae4719b0218b78f9c60a1fa5f9167d0c726560289c8536777eb5e568", func := "loop.example/g00240/laws.FnSchemas", spec := "fnSchemas", unfollowed := true, recurses := true, apart := false, narrowed := true }
def FnSchemasUptoSaid : Prop := fnSchemasUptoRow.holds Try.pinned (OpenSpec.upto fnSchemasSpec)

/-- 'laws.FnThings', WHERE WHAT IT READS IS OF BULK AT MOST 1048576: true; the input reads as it did. -/
def fnThingsUptoRow : OpenClaim := { program := "ytjldcbnoomcloaa", sum := "e92777c7ae4719b0218b78f9c60a1fa5f9167d0c726560289c8536777eb5e568", func := "loop.example/g00240/laws.FnThings", spec := "fnThings", inPlace := ["internal/bytealg.IndexByteString"], unfollowed := true, recurses := true, apart := false, narrowed := true }
def FnThingsUptoSaid : Prop := fnThingsUptoRow.holds Try.pinned (OpenSpec.upto fnThingsSpec)

/-- 'laws.FnOrders', WHERE WHAT IT READS IS OF BULK AT MOST 1048576: true; the input reads as it did. -/
def fnOrdersUptoRow : OpenClaim := { program := "ytjldcbnoomcloaa", sum := "e92777c7ae4719b0218b78f9c60a1fa5f9167d0c726560289c8536777eb5e568", func := "loop.example/g00240/laws.FnOrders", spec := "fnOrders", inPlace := ["internal/bytealg.IndexByteString"], unfollowed := true, recurses := true, apart := false, narrowed := true }
def FnOrdersUptoSaid : Prop := fnOrdersUptoRow.holds Try.pinned (OpenSpec.upto fnOrdersSpec)

/-- 'laws.FnExactSchemaOk', WHERE WHAT IT READS IS OF BULK AT MOST 1048576: true; the input reads as it did. -/
def fnExactSchemaOkUptoRow : OpenClaim := { program := "ytjldcbnoomcloaa", sum := "e92777c7ae4719b0218b78f9c60a1fa5f9167d0c726560289c8536777eb5e568", func := "loop.example/g00240/laws.FnExactSchemaOk", spec := "fnExactSchemaOk", unfollowed := true, recurses := true, apart := false, narrowed := true }
def FnExactSchemaOkUptoSaid : Prop := fnExactSchemaOkUptoRow.holds Try.pinned (OpenSpec.upto fnExactSchemaOkSpec)

/-- 'laws.FnExactSchemaText', WHERE WHAT IT READS IS OF BULK AT MOST 1048576: true; the input reads as it did. -/
def fnExactSchemaTextUptoRow : OpenClaim := { program := "ytjldcbnoomcloaa", sum := "e92777c7ae4719b0218b78f9c60a1fa5f9167d0c726560289c8536777eb5e568", func := "loop.example/g00240/laws.FnExactSchemaText", spec := "fnExactSchemaText", unfollowed := true, recurses := true, apart := false, narrowed := true }
def FnExactSchemaTextUptoSaid : Prop := fnExactSchemaTextUptoRow.holds Try.pinned (OpenSpec.upto fnExactSchemaTextSpec)

/-- 'laws.FnExactReadSchema', WHERE WHAT IT READS IS OF BULK AT MOST 1048576: true; the input reads as it did. -/
def fnExactReadSchemaUptoRow : OpenClaim := { program := "ytjldcbnoomcloaa", sum := "e92777c7ae4719b0218b78f9c60a1fa5f9167d0c726560289c8536777eb5e568", func := "loop.example/g00240/laws.FnExactReadSchema", spec := "fnExactReadSchema", unfollowed := true, recurses := true, apart := false, narrowed := true }
def FnExactReadSchemaUptoSaid : Prop := fnExactReadSchemaUptoRow.holds Try.pinned (OpenSpec.upto fnExactReadSchemaSpec)

/-- 'laws.FnExactThingOk', WHERE WHAT IT READS IS OF BULK AT MOST 1048576: true; the input reads as it did. -/
def fnExactThingOkUptoRow : OpenClaim := { program := "ytjldcbnoomcloaa", sum := "e92777c7ae4719b0218b78f9c60a1fa5f9167d0c726560289c8536777eb5e568", func := "loop.example/g00240/laws.FnExactThingOk", spec := "fnExactThingOk", inPlace := ["internal/bytealg.IndexByteString"], unfollowed := true, recurses := true, apart := false, narrowed := true }
def FnExactThingOkUptoSaid : Prop := fnExactThingOkUptoRow.holds Try.pinned (OpenSpec.upto fnExactThingOkSpec)

/-- 'laws.FnExactThingText', WHERE WHAT IT READS IS OF BULK AT MOST 1048576: true; the input reads as it did. -/
def fnExactThingTextUptoRow : OpenClaim := { program := "ytjldcbnoomcloaa", sum := "e92777c7ae4719b0218b78f9c60a1fa5f9167d0c726560289c8536777eb5e568", func := "loop.example/g00240/laws.FnExactThingText", spec := "fnExactThingText", inPlace := ["internal/bytealg.IndexByteString"], unfollowed := true, recurses := true, apart := false, narrowed := true }
def FnExactThingTextUptoSaid : Prop := fnExactThingTextUptoRow.holds Try.pinned (OpenSpec.upto fnExactThingTextSpec)

/-- 'laws.FnExactReadThing', WHERE WHAT IT READS IS OF BULK AT MOST 1048576: true; the input reads as it did. -/
def fnExactReadThingUptoRow : OpenClaim := { program := "ytjldcbnoomcloaa", sum := "e92777c7ae4719b0218b78f9c60a1fa5f9167d0c726560289c8536777eb5e568", func := "loop.example/g00240/laws.FnExactReadThing", spec := "fnExactReadThing", inPlace := ["internal/bytealg.IndexByteString"], unfollowed := true, recurses := true, apart := false, narrowed := true }
def FnExactReadThingUptoSaid : Prop := fnExactReadThingUptoRow.holds Try.pinned (OpenSpec.upto fnExactReadThingSpec)

/-- 'laws.FnExactKeyText', WHERE WHAT IT READS IS OF BULK AT MOST 1048576: true; the input reads as it did. -/
def fnExactKeyTextUptoRow : OpenClaim := { program := "ytjldcbnoomcloaa", sum := "e92777c7ae4719b0218b78f9c60a1fa5f9167d0c726560289c8536777eb5e568", func := "loop.example/g00240/laws.FnExactKeyText", spec := "fnExactKeyText", inPlace := ["internal/bytealg.IndexByteString"], apart := false, narrowed := true }
def FnExactKeyTextUptoSaid : Prop := fnExactKeyTextUptoRow.holds Try.pinned (OpenSpec.upto fnExactKeyTextSpec)

/-- 'laws.FnExactFieldAt', WHERE WHAT IT READS IS OF BULK AT MOST 1048576: true; the input reads as it did. -/
def fnExactFieldAtUptoRow : OpenClaim := { program := "ytjldcbnoomcloaa", sum := "e92777c7ae4719b0218b78f9c60a1fa5f9167d0c726560289c8536777eb5e568", func := "loop.example/g00240/laws.FnExactFieldAt", spec := "fnExactFieldAt", apart := false, narrowed := true }
def FnExactFieldAtUptoSaid : Prop := fnExactFieldAtUptoRow.holds Try.pinned (OpenSpec.upto fnExactFieldAtSpec)

/-- 'laws.FnExactCollOk', WHERE WHAT IT READS IS OF BULK AT MOST 1048576: true; the input reads as it did. -/
def fnExactCollOkUptoRow : OpenClaim := { program := "ytjldcbnoomcloaa", sum := "e92777c7ae4719b0218b78f9c60a1fa5f9167d0c726560289c8536777eb5e568", func := "loop.example/g00240/laws.FnExactCollOk", spec := "fnExactCollOk", unfollowed := true, recurses := true, apart := false, narrowed := true }
def FnExactCollOkUptoSaid : Prop := fnExactCollOkUptoRow.holds Try.pinned (OpenSpec.upto fnExactCollOkSpec)

/-- 'laws.FnExactNameKey', WHERE WHAT IT READS IS OF BULK AT MOST 1048576: true; the input reads as it did. -/
def fnExactNameKeyUptoRow : OpenClaim := { program := "ytjldcbnoomcloaa", sum := "e92777c7ae4719b0218b78f9c60a1fa5f9167d0c726560289c8536777eb5e568", func := "loop.example/g00240/laws.FnExactNameKey", spec := "fnExactNameKey", unfollowed := true, recurses := true, apart := false, narrowed := true }
def FnExactNameKeyUptoSaid : Prop := fnExactNameKeyUptoRow.holds Try.pinned (OpenSpec.upto fnExactNameKeySpec)

/-- 'laws.FnExactSchemaKey', WHERE WHAT IT READS IS OF BULK AT MOST 1048576: true; the input reads as it did. -/
def fnExactSchemaKeyUptoRow : OpenClaim := { program := "ytjldcbnoomcloaa", sum := "e92777c7ae4719b0218b78f9c60a1fa5f9167d0c726560289c8536777eb5e568", func := "loop.example/g00240/laws.FnExactSchemaKey", spec := "fnExactSchemaKey", inPlace := ["internal/abi.NoEscape", "internal/bytealg.MakeNoZero"], apart := false, narrowed := true }
def FnExactSchemaKeyUptoSaid : Prop := fnExactSchemaKeyUptoRow.holds Try.pinned (OpenSpec.upto fnExactSchemaKeySpec)

/-- 'laws.FnExactThingKey', WHERE WHAT IT READS IS OF BULK AT MOST 1048576: true; the input reads as it did. -/
def fnExactThingKeyUptoRow : OpenClaim := { program := "ytjldcbnoomcloaa", sum := "e92777c7ae4719b0218b78f9c60a1fa5f9167d0c726560289c8536777eb5e568", func := "loop.example/g00240/laws.FnExactThingKey", spec := "fnExactThingKey", inPlace := ["internal/abi.NoEscape", "internal/bytealg.MakeNoZero"], apart := false, narrowed := true }
def FnExactThingKeyUptoSaid : Prop := fnExactThingKeyUptoRow.holds Try.pinned (OpenSpec.upto fnExactThingKeySpec)

/-- 'laws.FnExactIndexKey', WHERE WHAT IT READS IS OF BULK AT MOST 1048576: true; the input reads as it did. -/
def fnExactIndexKeyUptoRow : OpenClaim := { program := "ytjldcbnoomcloaa", sum := "e92777c7ae4719b0218b78f9c60a1fa5f9167d0c726560289c8536777eb5e568", func := "loop.example/g00240/laws.FnExactIndexKey", spec := "fnExactIndexKey", inPlace := ["internal/abi.NoEscape", "internal/bytealg.MakeNoZero"], apart := false, narrowed := true }
def FnExactIndexKeyUptoSaid : Prop := fnExactIndexKeyUptoRow.holds Try.pinned (OpenSpec.upto fnExactIndexKeySpec)

end Rows
end Go.Proofs.Ytjldcbnoomcloaa
