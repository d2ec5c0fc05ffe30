/-
  spec.PlaceOf by a contract.
-/
import Derived.Test.YtaefmkmldfbjeaaDoorNodeSpec
namespace Go.Proofs.YtaefmkmldfbjeaaDoor
open Go.RowKit

end Go.Proofs.YtaefmkmldfbjeaaDoor
