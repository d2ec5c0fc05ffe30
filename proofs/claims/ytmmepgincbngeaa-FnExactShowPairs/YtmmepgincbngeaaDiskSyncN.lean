/-
  spec.SyncDisk, spec.l03Copy and spec.FallDisk by contracts.
-/
import Derived.Test.YtmmepgincbngeaaDiskSpecN
import Derived.Test.YtmmepgincbngeaaAppRow
namespace Go.Proofs.Ytmmepgincbngeaa
open Go.RowKit

end Go.Proofs.Ytmmepgincbngeaa
