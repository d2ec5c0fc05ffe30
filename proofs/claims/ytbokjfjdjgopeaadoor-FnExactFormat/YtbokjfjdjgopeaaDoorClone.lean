/-
  strings.Clone by its contract: the same bytes; nothing that was there is turned.
-/
import Derived.Test.YtbokjfjdjgopeaaDoorProg
import Derived.Test.YtbokjfjdjgopeaaDoorPlain1
import Derived.Test.YtbokjfjdjgopeaaDoorShelfClone
import Derived.WalkKit
namespace Go.Proofs.YtbokjfjdjgopeaaDoor
open Go.RowKit

end Go.Proofs.YtbokjfjdjgopeaaDoor
