/-
  Rows of frees copied and compared by contracts: toFree, toFreeS, eqFree, eqFreeS.
-/
import Derived.Test.YtbokjfjdjgopeaaDoorFreeRow
namespace Go.Proofs.YtbokjfjdjgopeaaDoor
open Go.RowKit

theorem Tryd.infoFree : (Tryd.prog.info? 48).map (fun i => (i.zero, i.size, i.bytes)) = some (some (.agg #[.int .i64 0, .slice none 0 0]), 2, 32) := by kernel_rfl

end Go.Proofs.YtbokjfjdjgopeaaDoor
