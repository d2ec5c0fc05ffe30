/-
  DERIVED. GIVEN WITH THE SEED: THE CARDS: each row of YtglcfaibgjiigaaDoorRows.lean that lists a variable, with what it lists TIED to the program's text (the seventh form; the later family's looks); each row that meets fmt, with fmt's text TOLD by the authors' own Lean function (tested against real Go, not proved from fmt's source: count such statements apart). THE CARD IS WHAT COUNTS. Prove the row's statement (the work); the ties are given (YtglcfaibgjiigaaDoorTie.lean); close each card by the builder's one call (the guide's Derived/Test/ToyasCard.lean, 'card_holds'). Laid BY PROGRAM, IN A SANDBOX (cutbox-door.mjs). By AI agents, Wed Nov 11 2026. No macro, syntax, notation, axiom, sorry.
-/
import Derived.Test.YtglcfaibgjiigaaDoorRows
import GoSem.ClaimSeven
namespace Go.Proofs.YtglcfaibgjiigaaDoor
namespace Rows

/-- THE TIED CARD OF 'laws.FnNodes'. -/
def fnNodesCard : Claim7 := { stood := { row := fnNodesRow, standIns := [], harness := (true, "e702cabc14ae675429b84393b0fe6e0c3fceac53cb31d5257e1be025176974c5"), looks := true }, kinds := [], alts := [], laidByText := true, laidKinds := [.data], laidTests := true, laidLooks := .later }
def FnNodesCardSaid : Prop := Claim7.holds Tryd.pinned (.plain (OpenSpec.ofChange fnNodesSpec)) fnNodesCard

/-- THE TIED CARD OF 'laws.FnMetas'. -/
def fnMetasCard : Claim7 := { stood := { row := fnMetasRow, standIns := [], harness := (true, "e702cabc14ae675429b84393b0fe6e0c3fceac53cb31d5257e1be025176974c5"), looks := true }, kinds := [], alts := [], laidByText := true, laidKinds := [.handle, .data], laidTests := true, laidLooks := .later }
def FnMetasCardSaid : Prop := Claim7.holds Tryd.pinned (.plain (OpenSpec.ofChange fnMetasSpec)) fnMetasCard

/-- THE TIED CARD OF 'laws.FnBest'. -/
def fnBestCard : Claim7 := { stood := { row := fnBestRow, standIns := [], harness := (true, "e702cabc14ae675429b84393b0fe6e0c3fceac53cb31d5257e1be025176974c5"), looks := true }, kinds := [], alts := [], laidByText := true, laidKinds := [.handle, .data], laidTests := true, laidLooks := .later }
def FnBestCardSaid : Prop := Claim7.holds Tryd.pinned (.plain (OpenSpec.ofChange fnBestSpec)) fnBestCard

/-- THE TIED CARD OF 'laws.FnExactGetKey'. -/
def fnExactGetKeyCard : Claim7 := { stood := { row := fnExactGetKeyRow, standIns := [], harness := (true, "e702cabc14ae675429b84393b0fe6e0c3fceac53cb31d5257e1be025176974c5"), looks := true }, kinds := [], alts := [], laidByText := true, laidKinds := [.data], laidTests := true, laidLooks := .later }
def FnExactGetKeyCardSaid : Prop := Claim7.holds Tryd.pinned (.plain (OpenSpec.ofChange fnExactGetKeySpec)) fnExactGetKeyCard

/-- THE TIED CARD OF 'laws.FnExactAllPairs'. -/
def fnExactAllPairsCard : Claim7 := { stood := { row := fnExactAllPairsRow, standIns := [], harness := (true, "e702cabc14ae675429b84393b0fe6e0c3fceac53cb31d5257e1be025176974c5"), looks := true }, kinds := [], alts := [], laidByText := true, laidKinds := [.data], laidTests := true, laidLooks := .later }
def FnExactAllPairsCardSaid : Prop := Claim7.holds Tryd.pinned (.plain (OpenSpec.ofChange fnExactAllPairsSpec)) fnExactAllPairsCard

/-- THE TIED CARD OF 'laws.FnExactPairsFrom'. -/
def fnExactPairsFromCard : Claim7 := { stood := { row := fnExactPairsFromRow, standIns := [], harness := (true, "e702cabc14ae675429b84393b0fe6e0c3fceac53cb31d5257e1be025176974c5"), looks := true }, kinds := [], alts := [], laidByText := true, laidKinds := [.data], laidTests := true, laidLooks := .later }
def FnExactPairsFromCardSaid : Prop := Claim7.holds Tryd.pinned (.plain (OpenSpec.ofChange fnExactPairsFromSpec)) fnExactPairsFromCard

/-- THE TIED CARD OF 'laws.FnExactPagesOf'. -/
def fnExactPagesOfCard : Claim7 := { stood := { row := fnExactPagesOfRow, standIns := [], harness := (true, "e702cabc14ae675429b84393b0fe6e0c3fceac53cb31d5257e1be025176974c5"), looks := true }, kinds := [], alts := [], laidByText := true, laidKinds := [.data], laidTests := true, laidLooks := .later }
def FnExactPagesOfCardSaid : Prop := Claim7.holds Tryd.pinned (.plain (OpenSpec.ofChange fnExactPagesOfSpec)) fnExactPagesOfCard

/-- THE TIED CARD OF 'laws.FnExactTreeOk'. -/
def fnExactTreeOkCard : Claim7 := { stood := { row := fnExactTreeOkRow, standIns := [], harness := (true, "e702cabc14ae675429b84393b0fe6e0c3fceac53cb31d5257e1be025176974c5"), looks := true }, kinds := [], alts := [], laidByText := true, laidKinds := [.data], laidTests := true, laidLooks := .later }
def FnExactTreeOkCardSaid : Prop := Claim7.holds Tryd.pinned (.plain (OpenSpec.ofChange fnExactTreeOkSpec)) fnExactTreeOkCard

/-- THE SECOND FORM's CARD OF 'laws.FnNodes'. -/
def fnNodesUptoCard : Claim7 := { stood := { row := fnNodesUptoRow, standIns := [], harness := (true, "e702cabc14ae675429b84393b0fe6e0c3fceac53cb31d5257e1be025176974c5"), looks := true }, kinds := [], alts := [], laidByText := true, laidKinds := [.data], laidTests := true, laidLooks := .later }
def FnNodesUptoCardSaid : Prop := Claim7.holds Tryd.pinned (.plain (OpenSpec.upto fnNodesSpec)) fnNodesUptoCard

/-- THE SECOND FORM's CARD OF 'laws.FnMetas'. -/
def fnMetasUptoCard : Claim7 := { stood := { row := fnMetasUptoRow, standIns := [], harness := (true, "e702cabc14ae675429b84393b0fe6e0c3fceac53cb31d5257e1be025176974c5"), looks := true }, kinds := [], alts := [], laidByText := true, laidKinds := [.handle, .data], laidTests := true, laidLooks := .later }
def FnMetasUptoCardSaid : Prop := Claim7.holds Tryd.pinned (.plain (OpenSpec.upto fnMetasSpec)) fnMetasUptoCard

/-- THE SECOND FORM's CARD OF 'laws.FnBest'. -/
def fnBestUptoCard : Claim7 := { stood := { row := fnBestUptoRow, standIns := [], harness := (true, "e702cabc14ae675429b84393b0fe6e0c3fceac53cb31d5257e1be025176974c5"), looks := true }, kinds := [], alts := [], laidByText := true, laidKinds := [.handle, .data], laidTests := true, laidLooks := .later }
def FnBestUptoCardSaid : Prop := Claim7.holds Tryd.pinned (.plain (OpenSpec.upto fnBestSpec)) fnBestUptoCard

/-- THE SECOND FORM's CARD OF 'laws.FnExactGetKey'. -/
def fnExactGetKeyUptoCard : Claim7 := { stood := { row := fnExactGetKeyUptoRow, standIns := [], harness := (true, "e702cabc14ae675429b84393b0fe6e0c3fceac53cb31d5257e1be025176974c5"), looks := true }, kinds := [], alts := [], laidByText := true, laidKinds := [.data], laidTests := true, laidLooks := .later }
def FnExactGetKeyUptoCardSaid : Prop := Claim7.holds Tryd.pinned (.plain (OpenSpec.upto fnExactGetKeySpec)) fnExactGetKeyUptoCard

/-- THE SECOND FORM's CARD OF 'laws.FnExactAllPairs'. -/
def fnExactAllPairsUptoCard : Claim7 := { stood := { row := fnExactAllPairsUptoRow, standIns := [], harness := (true, "e702cabc14ae675429b84393b0fe6e0c3fceac53cb31d5257e1be025176974c5"), looks := true }, kinds := [], alts := [], laidByText := true, laidKinds := [.data], laidTests := true, laidLooks := .later }
def FnExactAllPairsUptoCardSaid : Prop := Claim7.holds Tryd.pinned (.plain (OpenSpec.upto fnExactAllPairsSpec)) fnExactAllPairsUptoCard

/-- THE SECOND FORM's CARD OF 'laws.FnExactPairsFrom'. -/
def fnExactPairsFromUptoCard : Claim7 := { stood := { row := fnExactPairsFromUptoRow, standIns := [], harness := (true, "e702cabc14ae675429b84393b0fe6e0c3fceac53cb31d5257e1be025176974c5"), looks := true }, kinds := [], alts := [], laidByText := true, laidKinds := [.data], laidTests := true, laidLooks := .later }
def FnExactPairsFromUptoCardSaid : Prop := Claim7.holds Tryd.pinned (.plain (OpenSpec.upto fnExactPairsFromSpec)) fnExactPairsFromUptoCard

/-- THE SECOND FORM's CARD OF 'laws.FnExactPagesOf'. -/
def fnExactPagesOfUptoCard : Claim7 := { stood := { row := fnExactPagesOfUptoRow, standIns := [], harness := (true, "e702cabc14ae675429b84393b0fe6e0c3fceac53cb31d5257e1be025176974c5"), looks := true }, kinds := [], alts := [], laidByText := true, laidKinds := [.data], laidTests := true, laidLooks := .later }
def FnExactPagesOfUptoCardSaid : Prop := Claim7.holds Tryd.pinned (.plain (OpenSpec.upto fnExactPagesOfSpec)) fnExactPagesOfUptoCard

/-- THE SECOND FORM's CARD OF 'laws.FnExactTreeOk'. -/
def fnExactTreeOkUptoCard : Claim7 := { stood := { row := fnExactTreeOkUptoRow, standIns := [], harness := (true, "e702cabc14ae675429b84393b0fe6e0c3fceac53cb31d5257e1be025176974c5"), looks := true }, kinds := [], alts := [], laidByText := true, laidKinds := [.data], laidTests := true, laidLooks := .later }
def FnExactTreeOkUptoCardSaid : Prop := Claim7.holds Tryd.pinned (.plain (OpenSpec.upto fnExactTreeOkSpec)) fnExactTreeOkUptoCard
end Rows
end Go.Proofs.YtglcfaibgjiigaaDoor
