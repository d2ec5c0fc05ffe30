/-
  spec.l07Sorted by a contract: a new row of the same numbers, in order.
-/
import Derived.Test.YtghjbfdbheokcaaAppRow
import Derived.Test.YtghjbfdbheokcaaIntRow
import Derived.Test.YtghjbfdbheokcaaSrtPlain
import Derived.BigQuiet
namespace Go.Proofs.Ytghjbfdbheokcaa
open Go.RowKit

theorem at_getD {l : List Int} {k : Nat} (h : k < l.length) : (ints l)[k]? = some (.int .i64 (l.getD k 0)) := by rw [ints_at l k h]; simp [List.getD_eq_getElem?_getD, h]

end Go.Proofs.Ytghjbfdbheokcaa
