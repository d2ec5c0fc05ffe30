/-
  spec's functions over disks by contracts: ReadPage, DiskOk, SyncDisk, FallDisk, WritePage, DiskNew.
-/
import Derived.Test.YtmmepgincbngeaaDiskN
import Derived.Test.YtmmepgincbngeaaVar
import Derived.Test.YtmmepgincbngeaaPlain9
namespace Go.Proofs.Ytmmepgincbngeaa
open Go.RowKit

end Go.Proofs.Ytmmepgincbngeaa
