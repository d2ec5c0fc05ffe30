/-
  DERIVED. GIVEN WITH THE SEED: THE CARDS: each row of YtejfmjejdopglaaDoorRows.lean that lists a variable, with what it lists TIED to the program's text (the seventh form; the later family's looks); each row that meets fmt, with fmt's text TOLD by the authors' own Lean function (tested against real Go, not proved from fmt's source: count such statements apart). THE CARD IS WHAT COUNTS. Prove the row's statement (the work); the ties are given (YtejfmjejdopglaaDoorTie.lean); close each card by the builder's one call (the guide's Derived/Test/ToyasCard.lean, 'card_holds'). Laid BY PROGRAM, IN A SANDBOX (cutbox-door.mjs). By AI agents, Wed Nov 11 2026. No macro, syntax, notation, axiom, sorry.
-/
import Derived.Test.YtejfmjejdopglaaDoorRows
import GoSem.ClaimSeven
namespace Go.Proofs.YtejfmjejdopglaaDoor
namespace Rows

/-- THE TIED CARD OF 'laws.FnExactAllPairs'. -/
def fnExactAllPairsCard : Claim7 := { stood := { row := fnExactAllPairsRow, standIns := [], harness := (true, "ec30bdb7f15817d4914f7e4723e6d0aa3d20160c8257eead933f05ada42f26b9"), looks := false }, kinds := [], alts := [], laidByText := true, laidKinds := [.data], laidTests := true, laidLooks := .later }
def FnExactAllPairsCardSaid : Prop := Claim7.holds Tryd.pinned (.plain (OpenSpec.ofChange fnExactAllPairsSpec)) fnExactAllPairsCard

/-- THE TIED CARD OF 'laws.FnExactPairsFrom'. -/
def fnExactPairsFromCard : Claim7 := { stood := { row := fnExactPairsFromRow, standIns := [], harness := (true, "ec30bdb7f15817d4914f7e4723e6d0aa3d20160c8257eead933f05ada42f26b9"), looks := false }, kinds := [], alts := [], laidByText := true, laidKinds := [.data], laidTests := true, laidLooks := .later }
def FnExactPairsFromCardSaid : Prop := Claim7.holds Tryd.pinned (.plain (OpenSpec.ofChange fnExactPairsFromSpec)) fnExactPairsFromCard

/-- THE TIED CARD OF 'laws.FnExactPagesOf'. -/
def fnExactPagesOfCard : Claim7 := { stood := { row := fnExactPagesOfRow, standIns := [], harness := (true, "ec30bdb7f15817d4914f7e4723e6d0aa3d20160c8257eead933f05ada42f26b9"), looks := false }, kinds := [], alts := [], laidByText := true, laidKinds := [.data], laidTests := true, laidLooks := .later }
def FnExactPagesOfCardSaid : Prop := Claim7.holds Tryd.pinned (.plain (OpenSpec.ofChange fnExactPagesOfSpec)) fnExactPagesOfCard

/-- THE TIED CARD OF 'laws.FnExactTreeOk'. -/
def fnExactTreeOkCard : Claim7 := { stood := { row := fnExactTreeOkRow, standIns := [], harness := (true, "ec30bdb7f15817d4914f7e4723e6d0aa3d20160c8257eead933f05ada42f26b9"), looks := false }, kinds := [], alts := [], laidByText := true, laidKinds := [.data], laidTests := true, laidLooks := .later }
def FnExactTreeOkCardSaid : Prop := Claim7.holds Tryd.pinned (.plain (OpenSpec.ofChange fnExactTreeOkSpec)) fnExactTreeOkCard

/-- THE TIED CARD OF 'laws.FnExactPutNode'. -/
def fnExactPutNodeCard : Claim7 := { stood := { row := fnExactPutNodeRow, standIns := [], harness := (true, "ec30bdb7f15817d4914f7e4723e6d0aa3d20160c8257eead933f05ada42f26b9"), looks := false }, kinds := [], alts := [], laidByText := true, laidKinds := [.data], laidTests := true, laidLooks := .later }
def FnExactPutNodeCardSaid : Prop := Claim7.holds Tryd.pinned (.plain (OpenSpec.ofChange fnExactPutNodeSpec)) fnExactPutNodeCard

/-- THE SECOND FORM's CARD OF 'laws.FnExactAllPairs'. -/
def fnExactAllPairsUptoCard : Claim7 := { stood := { row := fnExactAllPairsUptoRow, standIns := [], harness := (true, "ec30bdb7f15817d4914f7e4723e6d0aa3d20160c8257eead933f05ada42f26b9"), looks := false }, kinds := [], alts := [], laidByText := true, laidKinds := [.data], laidTests := true, laidLooks := .later }
def FnExactAllPairsUptoCardSaid : Prop := Claim7.holds Tryd.pinned (.plain (OpenSpec.upto fnExactAllPairsSpec)) fnExactAllPairsUptoCard

/-- THE SECOND FORM's CARD OF 'laws.FnExactPairsFrom'. -/
def fnExactPairsFromUptoCard : Claim7 := { stood := { row := fnExactPairsFromUptoRow, standIns := [], harness := (true, "ec30bdb7f15817d4914f7e4723e6d0aa3d20160c8257eead933f05ada42f26b9"), looks := false }, kinds := [], alts := [], laidByText := true, laidKinds := [.data], laidTests := true, laidLooks := .later }
def FnExactPairsFromUptoCardSaid : Prop := Claim7.holds Tryd.pinned (.plain (OpenSpec.upto fnExactPairsFromSpec)) fnExactPairsFromUptoCard

/-- THE SECOND FORM's CARD OF 'laws.FnExactPagesOf'. -/
def fnExactPagesOfUptoCard : Claim7 := { stood := { row := fnExactPagesOfUptoRow, standIns := [], harness := (true, "ec30bdb7f15817d4914f7e4723e6d0aa3d20160c8257eead933f05ada42f26b9"), looks := false }, kinds := [], alts := [], laidByText := true, laidKinds := [.data], laidTests := true, laidLooks := .later }
def FnExactPagesOfUptoCardSaid : Prop := Claim7.holds Tryd.pinned (.plain (OpenSpec.upto fnExactPagesOfSpec)) fnExactPagesOfUptoCard

/-- THE SECOND FORM's CARD OF 'laws.FnExactTreeOk'. -/
def fnExactTreeOkUptoCard : Claim7 := { stood := { row := fnExactTreeOkUptoRow, standIns := [], harness := (true, "ec30bdb7f15817d4914f7e4723e6d0aa3d20160c8257eead933f05ada42f26b9"), looks := false }, kinds := [], alts := [], laidByText := true, laidKinds := [.data], laidTests := true, laidLooks := .later }
def FnExactTreeOkUptoCardSaid : Prop := Claim7.holds Tryd.pinned (.plain (OpenSpec.upto fnExactTreeOkSpec)) fnExactTreeOkUptoCard

/-- THE SECOND FORM's CARD OF 'laws.FnExactPutNode'. -/
def fnExactPutNodeUptoCard : Claim7 := { stood := { row := fnExactPutNodeUptoRow, standIns := [], harness := (true, "ec30bdb7f15817d4914f7e4723e6d0aa3d20160c8257eead933f05ada42f26b9"), looks := false }, kinds := [], alts := [], laidByText := true, laidKinds := [.data], laidTests := true, laidLooks := .later }
def FnExactPutNodeUptoCardSaid : Prop := Claim7.holds Tryd.pinned (.plain (OpenSpec.upto fnExactPutNodeSpec)) fnExactPutNodeUptoCard
end Rows
end Go.Proofs.YtejfmjejdopglaaDoor
