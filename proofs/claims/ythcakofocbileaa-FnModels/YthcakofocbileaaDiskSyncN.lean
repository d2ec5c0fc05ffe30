/-
  spec.SyncDisk, spec.l03Copy and spec.FallDisk by contracts.
-/
import Derived.Test.YthcakofocbileaaDiskSpecN
import Derived.Test.YthcakofocbileaaAppRow
namespace Go.Proofs.Ythcakofocbileaa
open Go.RowKit

end Go.Proofs.Ythcakofocbileaa
