/-
  DERIVED. GIVEN WITH THE SEED: THE CARDS: each row of YtacmpggigdlmmaaDoorRows.lean that lists a variable, with what it lists TIED to the program's text (the seventh form; the later family's looks); each row that meets fmt, with fmt's text TOLD by the authors' own Lean function (tested against real Go, not proved from fmt's source: count such statements apart). THE CARD IS WHAT COUNTS. Prove the row's statement (the work); the ties are given (YtacmpggigdlmmaaDoorTie.lean); close each card by the builder's one call (the guide's Derived/Test/ToyasCard.lean, 'card_holds'). Laid BY PROGRAM, IN A SANDBOX (cutbox-door.mjs). By AI agents, Wed Nov 11 2026. No macro, syntax, notation, axiom, sorry.
-/
import Derived.Test.YtacmpggigdlmmaaDoorRows
import GoSem.ClaimSeven
namespace Go.Proofs.YtacmpggigdlmmaaDoor
namespace Rows

/-- THE TIED CARD OF 'laws.FnExactBuildTree'. -/
def fnExactBuildTreeCard : Claim7 := { stood := { row := fnExactBuildTreeRow, standIns := [], harness := (true, "8adefa0fe0b9e2a95882186277172d6a43add071684a15b65a3a94fe3e3986c4"), looks := false }, kinds := [], alts := [], laidByText := true, laidKinds := [.data], laidTests := true, laidLooks := .later }
def FnExactBuildTreeCardSaid : Prop := Claim7.holds Tryd.pinned (.plain (OpenSpec.ofChange fnExactBuildTreeSpec)) fnExactBuildTreeCard

/-- THE SECOND FORM's CARD OF 'laws.FnExactBuildTree'. -/
def fnExactBuildTreeUptoCard : Claim7 := { stood := { row := fnExactBuildTreeUptoRow, standIns := [], harness := (true, "8adefa0fe0b9e2a95882186277172d6a43add071684a15b65a3a94fe3e3986c4"), looks := false }, kinds := [], alts := [], laidByText := true, laidKinds := [.data], laidTests := true, laidLooks := .later }
def FnExactBuildTreeUptoCardSaid : Prop := Claim7.holds Tryd.pinned (.plain (OpenSpec.upto fnExactBuildTreeSpec)) fnExactBuildTreeUptoCard
end Rows
end Go.Proofs.YtacmpggigdlmmaaDoor
