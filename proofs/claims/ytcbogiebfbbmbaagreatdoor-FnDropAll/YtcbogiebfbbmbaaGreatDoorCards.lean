/-
  DERIVED. GIVEN WITH THE SEED: THE CARDS: each row of YtcbogiebfbbmbaaGreatDoorRows.lean that lists a variable, with what it lists TIED to the program's text (the seventh form; the later family's looks); each row that meets fmt, with fmt's text TOLD by the authors' own Lean function (tested against real Go, not proved from fmt's source: count such statements apart). THE CARD IS WHAT COUNTS. Prove the row's statement (the work); the ties are given (YtcbogiebfbbmbaaGreatDoorTie.lean); close each card by the builder's one call (the guide's Derived/Test/ToyasCard.lean, 'card_holds'). Laid BY PROGRAM, IN A SANDBOX (cutbox-door.mjs). By AI agents, Wed Nov 11 2026. No macro, syntax, notation, axiom, sorry.
-/
import Derived.Test.YtcbogiebfbbmbaaGreatDoorRows
import GoSem.ClaimSeven
namespace Go.Proofs.YtcbogiebfbbmbaaGreatDoor
namespace Rows

/-- THE TIED CARD OF 'laws.FnPutMany'. -/
def fnPutManyCard : Claim7 := { stood := { row := fnPutManyRow, standIns := [], harness := (true, "9271ed3fb324392fd82f38cfd76c09746fa229fe70559a2a7190db0dde2d3d9c"), looks := true }, kinds := [], alts := [], laidByText := true, laidKinds := [.data], laidTests := true, laidLooks := .later }
def FnPutManyCardSaid : Prop := Claim7.holds Tryz.pinned (.plain (OpenSpec.ofChange fnPutManySpec)) fnPutManyCard

/-- THE TIED CARD OF 'laws.FnDropAll'. -/
def fnDropAllCard : Claim7 := { stood := { row := fnDropAllRow, standIns := [], harness := (true, "9271ed3fb324392fd82f38cfd76c09746fa229fe70559a2a7190db0dde2d3d9c"), looks := true }, kinds := [], alts := [], laidByText := true, laidKinds := [.data], laidTests := true, laidLooks := .later }
def FnDropAllCardSaid : Prop := Claim7.holds Tryz.pinned (.plain (OpenSpec.ofChange fnDropAllSpec)) fnDropAllCard

/-- THE SECOND FORM's CARD OF 'laws.FnPutMany'. -/
def fnPutManyUptoCard : Claim7 := { stood := { row := fnPutManyUptoRow, standIns := [], harness := (true, "9271ed3fb324392fd82f38cfd76c09746fa229fe70559a2a7190db0dde2d3d9c"), looks := true }, kinds := [], alts := [], laidByText := true, laidKinds := [.data], laidTests := true, laidLooks := .later }
def FnPutManyUptoCardSaid : Prop := Claim7.holds Tryz.pinned (.plain (OpenSpec.upto fnPutManySpec)) fnPutManyUptoCard

/-- THE SECOND FORM's CARD OF 'laws.FnDropAll'. -/
def fnDropAllUptoCard : Claim7 := { stood := { row := fnDropAllUptoRow, standIns := [], harness := (true, "9271ed3fb324392fd82f38cfd76c09746fa229fe70559a2a7190db0dde2d3d9c"), looks := true }, kinds := [], alts := [], laidByText := true, laidKinds := [.data], laidTests := true, laidLooks := .later }
def FnDropAllUptoCardSaid : Prop := Claim7.holds Tryz.pinned (.plain (OpenSpec.upto fnDropAllSpec)) fnDropAllUptoCard
end Rows
end Go.Proofs.YtcbogiebfbbmbaaGreatDoor
