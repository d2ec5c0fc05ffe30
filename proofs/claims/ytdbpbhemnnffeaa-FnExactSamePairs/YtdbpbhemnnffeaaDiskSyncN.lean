/-
  spec.SyncDisk, spec.l03Copy and spec.FallDisk by contracts.
-/
import Derived.Test.YtdbpbhemnnffeaaDiskSpecN
import Derived.Test.YtdbpbhemnnffeaaAppRow
namespace Go.Proofs.Ytdbpbhemnnffeaa
open Go.RowKit

end Go.Proofs.Ytdbpbhemnnffeaa
