/-
  spec's functions over disks by contracts: ReadPage, DiskOk, SyncDisk, FallDisk, WritePage, DiskNew.
-/
import Derived.Test.YtdbpbhemnnffeaaDiskN
import Derived.Test.YtdbpbhemnnffeaaVar
import Derived.Test.YtdbpbhemnnffeaaPlain9
namespace Go.Proofs.Ytdbpbhemnnffeaa
open Go.RowKit

end Go.Proofs.Ytdbpbhemnnffeaa
