/-
  spec.l08Copy by a contract: the same work, in memory of its own.
-/
import Derived.Test.YtghjbfdbheokcaaWorkCp
import Derived.Test.YtghjbfdbheokcaaDiskCopyN
import Derived.Test.YtghjbfdbheokcaaCpWalk
namespace Go.Proofs.Ytghjbfdbheokcaa
open Go.RowKit

end Go.Proofs.Ytghjbfdbheokcaa
