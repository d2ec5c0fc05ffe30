/-
  DERIVED. GIVEN WITH THE SEED: THE CARDS: each row of YtdcmpjefemcppaaGreatDoorRows.lean that lists a variable, with what it lists TIED to the program's text (the seventh form; the later family's looks); each row that meets fmt, with fmt's text TOLD by the authors' own Lean function (tested against real Go, not proved from fmt's source: count such statements apart). THE CARD IS WHAT COUNTS. Prove the row's statement (the work); the ties are given (YtdcmpjefemcppaaGreatDoorTie.lean); close each card by the builder's one call (the guide's Derived/Test/ToyasCard.lean, 'card_holds'). Laid BY PROGRAM, IN A SANDBOX (cutbox-door.mjs). By AI agents, Wed Nov 11 2026. No macro, syntax, notation, axiom, sorry.
-/
import Derived.Test.YtdcmpjefemcppaaGreatDoorRows
import GoSem.ClaimSeven
namespace Go.Proofs.YtdcmpjefemcppaaGreatDoor
namespace Rows

/-- THE TIED CARD OF 'laws.FnExactGetThing'. -/
def fnExactGetThingCard : Claim7 := { stood := { row := fnExactGetThingRow, standIns := [], harness := (true, "1ea80085f79b689daa2ed50d9431eb3127f667861d6d8336aee37c570c67e34e"), looks := false }, kinds := [], alts := [], laidByText := true, laidKinds := [.data], laidTests := true, laidLooks := .later }
def FnExactGetThingCardSaid : Prop := Claim7.holds Tryz.pinned (.plain (OpenSpec.ofChange fnExactGetThingSpec)) fnExactGetThingCard

/-- THE SECOND FORM's CARD OF 'laws.FnExactGetThing'. -/
def fnExactGetThingUptoCard : Claim7 := { stood := { row := fnExactGetThingUptoRow, standIns := [], harness := (true, "1ea80085f79b689daa2ed50d9431eb3127f667861d6d8336aee37c570c67e34e"), looks := false }, kinds := [], alts := [], laidByText := true, laidKinds := [.data], laidTests := true, laidLooks := .later }
def FnExactGetThingUptoCardSaid : Prop := Claim7.holds Tryz.pinned (.plain (OpenSpec.upto fnExactGetThingSpec)) fnExactGetThingUptoCard
end Rows
end Go.Proofs.YtdcmpjefemcppaaGreatDoor
