/-
  DERIVED. GIVEN WITH THE SEED: THE CARDS: each row of YtdcmpjefemcppaaDoorRows.lean that lists a variable, with what it lists TIED to the program's text (the seventh form; the later family's looks); each row that meets fmt, with fmt's text TOLD by the authors' own Lean function (tested against real Go, not proved from fmt's source: count such statements apart). THE CARD IS WHAT COUNTS. Prove the row's statement (the work); the ties are given (YtdcmpjefemcppaaDoorTie.lean); close each card by the builder's one call (the guide's Derived/Test/ToyasCard.lean, 'card_holds'). Laid BY PROGRAM, IN A SANDBOX (cutbox-door.mjs). By AI agents, Wed Nov 11 2026. No macro, syntax, notation, axiom, sorry.
-/
import Derived.Test.YtdcmpjefemcppaaDoorRows
import GoSem.ClaimSeven
namespace Go.Proofs.YtdcmpjefemcppaaDoor
namespace Rows

/-- THE TIED CARD OF 'laws.FnExactSchemaIn'. -/
def fnExactSchemaInCard : Claim7 := { stood := { row := fnExactSchemaInRow, standIns := [], harness := (true, "1f540d517bbe45ffff108556cbb48b82c0e17a2dffde2143e1e5b18f1fe73aed"), looks := false }, kinds := [], alts := [], laidByText := true, laidKinds := [.data], laidTests := true, laidLooks := .later }
def FnExactSchemaInCardSaid : Prop := Claim7.holds Tryd.pinned (.plain (OpenSpec.ofChange fnExactSchemaInSpec)) fnExactSchemaInCard

/-- THE SECOND FORM's CARD OF 'laws.FnExactSchemaIn'. -/
def fnExactSchemaInUptoCard : Claim7 := { stood := { row := fnExactSchemaInUptoRow, standIns := [], harness := (true, "1f540d517bbe45ffff108556cbb48b82c0e17a2dffde2143e1e5b18f1fe73aed"), looks := false }, kinds := [], alts := [], laidByText := true, laidKinds := [.data], laidTests := true, laidLooks := .later }
def FnExactSchemaInUptoCardSaid : Prop := Claim7.holds Tryd.pinned (.plain (OpenSpec.upto fnExactSchemaInSpec)) fnExactSchemaInUptoCard
end Rows
end Go.Proofs.YtdcmpjefemcppaaDoor
