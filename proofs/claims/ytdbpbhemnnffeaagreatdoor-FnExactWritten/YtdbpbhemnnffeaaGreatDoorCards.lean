/-
  DERIVED. GIVEN WITH THE SEED: THE CARDS: each row of YtdbpbhemnnffeaaGreatDoorRows.lean that lists a variable, with what it lists TIED to the program's text (the seventh form; the later family's looks); each row that meets fmt, with fmt's text TOLD by the authors' own Lean function (tested against real Go, not proved from fmt's source: count such statements apart). THE CARD IS WHAT COUNTS. Prove the row's statement (the work); the ties are given (YtdbpbhemnnffeaaGreatDoorTie.lean); close each card by the builder's one call (the guide's Derived/Test/ToyasCard.lean, 'card_holds'). Laid BY PROGRAM, IN A SANDBOX (cutbox-door.mjs). By AI agents, Wed Nov 11 2026. No macro, syntax, notation, axiom, sorry.
-/
import Derived.Test.YtdbpbhemnnffeaaGreatDoorRows
import GoSem.ClaimSeven
namespace Go.Proofs.YtdbpbhemnnffeaaGreatDoor
namespace Rows

/-- THE TIED CARD OF 'laws.FnExactKept'. -/
def fnExactKeptCard : Claim7 := { stood := { row := fnExactKeptRow, standIns := [], harness := (true, "3ef00ded4120d66b1061ebc59d0510438b81558dff177b2080ce0ef3fc96b274"), looks := false }, kinds := [], alts := [], laidByText := true, laidKinds := [.data], laidTests := true, laidLooks := .later }
def FnExactKeptCardSaid : Prop := Claim7.holds Tryz.pinned (.plain (OpenSpec.ofChange fnExactKeptSpec)) fnExactKeptCard

/-- THE TIED CARD OF 'laws.FnExactSeenStill'. -/
def fnExactSeenStillCard : Claim7 := { stood := { row := fnExactSeenStillRow, standIns := [], harness := (true, "3ef00ded4120d66b1061ebc59d0510438b81558dff177b2080ce0ef3fc96b274"), looks := false }, kinds := [], alts := [], laidByText := true, laidKinds := [.data], laidTests := true, laidLooks := .later }
def FnExactSeenStillCardSaid : Prop := Claim7.holds Tryz.pinned (.plain (OpenSpec.ofChange fnExactSeenStillSpec)) fnExactSeenStillCard

/-- THE TIED CARD OF 'laws.FnExactWritten'. -/
def fnExactWrittenCard : Claim7 := { stood := { row := fnExactWrittenRow, standIns := [], harness := (true, "3ef00ded4120d66b1061ebc59d0510438b81558dff177b2080ce0ef3fc96b274"), looks := false }, kinds := [], alts := [], laidByText := true, laidKinds := [.data], laidTests := true, laidLooks := .later }
def FnExactWrittenCardSaid : Prop := Claim7.holds Tryz.pinned (.plain (OpenSpec.ofChange fnExactWrittenSpec)) fnExactWrittenCard

/-- THE SECOND FORM's CARD OF 'laws.FnExactKept'. -/
def fnExactKeptUptoCard : Claim7 := { stood := { row := fnExactKeptUptoRow, standIns := [], harness := (true, "3ef00ded4120d66b1061ebc59d0510438b81558dff177b2080ce0ef3fc96b274"), looks := false }, kinds := [], alts := [], laidByText := true, laidKinds := [.data], laidTests := true, laidLooks := .later }
def FnExactKeptUptoCardSaid : Prop := Claim7.holds Tryz.pinned (.plain (OpenSpec.upto fnExactKeptSpec)) fnExactKeptUptoCard

/-- THE SECOND FORM's CARD OF 'laws.FnExactSeenStill'. -/
def fnExactSeenStillUptoCard : Claim7 := { stood := { row := fnExactSeenStillUptoRow, standIns := [], harness := (true, "3ef00ded4120d66b1061ebc59d0510438b81558dff177b2080ce0ef3fc96b274"), looks := false }, kinds := [], alts := [], laidByText := true, laidKinds := [.data], laidTests := true, laidLooks := .later }
def FnExactSeenStillUptoCardSaid : Prop := Claim7.holds Tryz.pinned (.plain (OpenSpec.upto fnExactSeenStillSpec)) fnExactSeenStillUptoCard

/-- THE SECOND FORM's CARD OF 'laws.FnExactWritten'. -/
def fnExactWrittenUptoCard : Claim7 := { stood := { row := fnExactWrittenUptoRow, standIns := [], harness := (true, "3ef00ded4120d66b1061ebc59d0510438b81558dff177b2080ce0ef3fc96b274"), looks := false }, kinds := [], alts := [], laidByText := true, laidKinds := [.data], laidTests := true, laidLooks := .later }
def FnExactWrittenUptoCardSaid : Prop := Claim7.holds Tryz.pinned (.plain (OpenSpec.upto fnExactWrittenSpec)) fnExactWrittenUptoCard
end Rows
end Go.Proofs.YtdbpbhemnnffeaaGreatDoor
