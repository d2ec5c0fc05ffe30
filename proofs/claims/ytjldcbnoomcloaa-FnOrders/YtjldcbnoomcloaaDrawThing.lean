/-
  Draws of chapter 4 by contracts: l01Pick, l02Spoilt, l04Schema, l04ValueOf. Which one is drawn is not said, but what all that may be drawn have in common.
-/
import Derived.Test.YtjldcbnoomcloaaDraw3
import Derived.Test.YtjldcbnoomcloaaDraw4
import Derived.Test.YtjldcbnoomcloaaReadSpec3
import Derived.Test.YtjldcbnoomcloaaDrawPick
namespace Go.Proofs.Ytjldcbnoomcloaa
open Go.RowKit
end Go.Proofs.Ytjldcbnoomcloaa
