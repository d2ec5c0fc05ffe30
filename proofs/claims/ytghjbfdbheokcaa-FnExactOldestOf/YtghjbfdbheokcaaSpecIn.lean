/-
  The specification's l01In and l06In by contracts.
-/
import Derived.Test.YtghjbfdbheokcaaIntRow
import Derived.Test.YtghjbfdbheokcaaPlain19
import Derived.Test.YtghjbfdbheokcaaVar
import Derived.Test.YtghjbfdbheokcaaRow
import Derived.BigQuiet
import Derived.Deep.RegionHeld3
namespace Go.Proofs.Ytghjbfdbheokcaa
open Go.RowKit

theorem bel_dn {B : Nat} {a b : World} {n : Nat} (h : Below B a b) : Below B a (b.drewN n) := below_drewN h n

end Go.Proofs.Ytghjbfdbheokcaa
