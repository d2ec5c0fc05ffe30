/-
  DERIVED. GIVEN WITH THE SEED: THE CARDS: each row of YthpfjfacjlpbdaaDoorRows.lean that lists a variable, with what it lists TIED to the program's text (the seventh form; the later family's looks); each row that meets fmt, with fmt's text TOLD by the authors' own Lean function (tested against real Go, not proved from fmt's source: count such statements apart). THE CARD IS WHAT COUNTS. Prove the row's statement (the work); the ties are given (YthpfjfacjlpbdaaDoorTie.lean); close each card by the builder's one call (the guide's Derived/Test/ToyasCard.lean, 'card_holds'). Laid BY PROGRAM, IN A SANDBOX (cutbox-door.mjs). By AI agents, Wed Nov 11 2026. No macro, syntax, notation, axiom, sorry.
-/
import Derived.Test.YthpfjfacjlpbdaaDoorRows
import GoSem.ClaimSeven
namespace Go.Proofs.YthpfjfacjlpbdaaDoor
namespace Rows

/-- THE TIED CARD OF 'laws.FnMetas'. -/
def fnMetasCard : Claim7 := { stood := { row := fnMetasRow, standIns := [], harness := (true, "e6744591c4f537f9c4d7a469d3c23ed78543142ad6783e5012be695cf43ca4b8"), looks := true }, kinds := [], alts := [], laidByText := true, laidKinds := [.handle, .data], laidTests := true, laidLooks := .later }
def FnMetasCardSaid : Prop := Claim7.holds Tryd.pinned (.plain (OpenSpec.ofChange fnMetasSpec)) fnMetasCard

/-- THE TIED CARD OF 'laws.FnBest'. -/
def fnBestCard : Claim7 := { stood := { row := fnBestRow, standIns := [], harness := (true, "e6744591c4f537f9c4d7a469d3c23ed78543142ad6783e5012be695cf43ca4b8"), looks := true }, kinds := [], alts := [], laidByText := true, laidKinds := [.handle, .data], laidTests := true, laidLooks := .later }
def FnBestCardSaid : Prop := Claim7.holds Tryd.pinned (.plain (OpenSpec.ofChange fnBestSpec)) fnBestCard

/-- THE TIED CARD OF 'laws.FnExactMetaText'. -/
def fnExactMetaTextCard : Claim7 := { stood := { row := fnExactMetaTextRow, standIns := [], harness := (true, "e6744591c4f537f9c4d7a469d3c23ed78543142ad6783e5012be695cf43ca4b8"), looks := true }, kinds := [], alts := [], laidByText := true, laidKinds := [.data], laidTests := true, laidLooks := .later }
def FnExactMetaTextCardSaid : Prop := Claim7.holds Tryd.pinned (.plain (OpenSpec.ofChange fnExactMetaTextSpec)) fnExactMetaTextCard

/-- THE TIED CARD OF 'laws.FnExactReadMeta'. -/
def fnExactReadMetaCard : Claim7 := { stood := { row := fnExactReadMetaRow, standIns := [], harness := (true, "e6744591c4f537f9c4d7a469d3c23ed78543142ad6783e5012be695cf43ca4b8"), looks := true }, kinds := [], alts := [], laidByText := true, laidKinds := [.handle, .data], laidTests := true, laidLooks := .later }
def FnExactReadMetaCardSaid : Prop := Claim7.holds Tryd.pinned (.plain (OpenSpec.ofChange fnExactReadMetaSpec)) fnExactReadMetaCard

/-- THE TIED CARD OF 'laws.FnExactBestMeta'. -/
def fnExactBestMetaCard : Claim7 := { stood := { row := fnExactBestMetaRow, standIns := [], harness := (true, "e6744591c4f537f9c4d7a469d3c23ed78543142ad6783e5012be695cf43ca4b8"), looks := true }, kinds := [], alts := [], laidByText := true, laidKinds := [.handle, .data], laidTests := true, laidLooks := .later }
def FnExactBestMetaCardSaid : Prop := Claim7.holds Tryd.pinned (.plain (OpenSpec.ofChange fnExactBestMetaSpec)) fnExactBestMetaCard

/-- THE SECOND FORM's CARD OF 'laws.FnMetas'. -/
def fnMetasUptoCard : Claim7 := { stood := { row := fnMetasUptoRow, standIns := [], harness := (true, "e6744591c4f537f9c4d7a469d3c23ed78543142ad6783e5012be695cf43ca4b8"), looks := true }, kinds := [], alts := [], laidByText := true, laidKinds := [.handle, .data], laidTests := true, laidLooks := .later }
def FnMetasUptoCardSaid : Prop := Claim7.holds Tryd.pinned (.plain (OpenSpec.upto fnMetasSpec)) fnMetasUptoCard

/-- THE SECOND FORM's CARD OF 'laws.FnBest'. -/
def fnBestUptoCard : Claim7 := { stood := { row := fnBestUptoRow, standIns := [], harness := (true, "e6744591c4f537f9c4d7a469d3c23ed78543142ad6783e5012be695cf43ca4b8"), looks := true }, kinds := [], alts := [], laidByText := true, laidKinds := [.handle, .data], laidTests := true, laidLooks := .later }
def FnBestUptoCardSaid : Prop := Claim7.holds Tryd.pinned (.plain (OpenSpec.upto fnBestSpec)) fnBestUptoCard

/-- THE SECOND FORM's CARD OF 'laws.FnExactMetaText'. -/
def fnExactMetaTextUptoCard : Claim7 := { stood := { row := fnExactMetaTextUptoRow, standIns := [], harness := (true, "e6744591c4f537f9c4d7a469d3c23ed78543142ad6783e5012be695cf43ca4b8"), looks := true }, kinds := [], alts := [], laidByText := true, laidKinds := [.data], laidTests := true, laidLooks := .later }
def FnExactMetaTextUptoCardSaid : Prop := Claim7.holds Tryd.pinned (.plain (OpenSpec.upto fnExactMetaTextSpec)) fnExactMetaTextUptoCard

/-- THE SECOND FORM's CARD OF 'laws.FnExactReadMeta'. -/
def fnExactReadMetaUptoCard : Claim7 := { stood := { row := fnExactReadMetaUptoRow, standIns := [], harness := (true, "e6744591c4f537f9c4d7a469d3c23ed78543142ad6783e5012be695cf43ca4b8"), looks := true }, kinds := [], alts := [], laidByText := true, laidKinds := [.handle, .data], laidTests := true, laidLooks := .later }
def FnExactReadMetaUptoCardSaid : Prop := Claim7.holds Tryd.pinned (.plain (OpenSpec.upto fnExactReadMetaSpec)) fnExactReadMetaUptoCard

/-- THE SECOND FORM's CARD OF 'laws.FnExactBestMeta'. -/
def fnExactBestMetaUptoCard : Claim7 := { stood := { row := fnExactBestMetaUptoRow, standIns := [], harness := (true, "e6744591c4f537f9c4d7a469d3c23ed78543142ad6783e5012be695cf43ca4b8"), looks := true }, kinds := [], alts := [], laidByText := true, laidKinds := [.handle, .data], laidTests := true, laidLooks := .later }
def FnExactBestMetaUptoCardSaid : Prop := Claim7.holds Tryd.pinned (.plain (OpenSpec.upto fnExactBestMetaSpec)) fnExactBestMetaUptoCard
end Rows
end Go.Proofs.YthpfjfacjlpbdaaDoor
