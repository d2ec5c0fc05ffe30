/-
  DERIVED. GIVEN WITH THE SEED: THE CARDS: each row of YtbokjfjdjgopeaaGreatDoorRows.lean that lists a variable, with what it lists TIED to the program's text (the seventh form; the later family's looks); each row that meets fmt, with fmt's text TOLD by the authors' own Lean function (tested against real Go, not proved from fmt's source: count such statements apart). THE CARD IS WHAT COUNTS. Prove the row's statement (the work); the ties are given (YtbokjfjdjgopeaaGreatDoorTie.lean); close each card by the builder's one call (the guide's Derived/Test/ToyasCard.lean, 'card_holds'). Laid BY PROGRAM, IN A SANDBOX (cutbox-door.mjs). By AI agents, Wed Nov 11 2026. No macro, syntax, notation, axiom, sorry.
-/
import Derived.Test.YtbokjfjdjgopeaaGreatDoorRows
import GoSem.ClaimSeven
namespace Go.Proofs.YtbokjfjdjgopeaaGreatDoor
namespace Rows

/-- THE TIED CARD OF 'laws.FnExactReaderGet'. -/
def fnExactReaderGetCard : Claim7 := { stood := { row := fnExactReaderGetRow, standIns := [], harness := (true, "9283662100c80e72dbfcb6f52211422ec8f041b67bcdd9c605d1681e04ffb45c"), looks := false }, kinds := [], alts := [], laidByText := true, laidKinds := [.data], laidTests := true, laidLooks := .later }
def FnExactReaderGetCardSaid : Prop := Claim7.holds Tryz.pinned (.plain (OpenSpec.ofChange fnExactReaderGetSpec)) fnExactReaderGetCard

/-- THE SECOND FORM's CARD OF 'laws.FnExactReaderGet'. -/
def fnExactReaderGetUptoCard : Claim7 := { stood := { row := fnExactReaderGetUptoRow, standIns := [], harness := (true, "9283662100c80e72dbfcb6f52211422ec8f041b67bcdd9c605d1681e04ffb45c"), looks := false }, kinds := [], alts := [], laidByText := true, laidKinds := [.data], laidTests := true, laidLooks := .later }
def FnExactReaderGetUptoCardSaid : Prop := Claim7.holds Tryz.pinned (.plain (OpenSpec.upto fnExactReaderGetSpec)) fnExactReaderGetUptoCard
end Rows
end Go.Proofs.YtbokjfjdjgopeaaGreatDoor
