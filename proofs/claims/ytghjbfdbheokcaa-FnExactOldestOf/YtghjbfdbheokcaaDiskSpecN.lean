/-
  spec's functions over disks by contracts: ReadPage, DiskOk, SyncDisk, FallDisk, WritePage, DiskNew.
-/
import Derived.Test.YtghjbfdbheokcaaDiskN
import Derived.Test.YtghjbfdbheokcaaVar
import Derived.Test.YtghjbfdbheokcaaPlain9
namespace Go.Proofs.Ytghjbfdbheokcaa
open Go.RowKit

end Go.Proofs.Ytghjbfdbheokcaa
