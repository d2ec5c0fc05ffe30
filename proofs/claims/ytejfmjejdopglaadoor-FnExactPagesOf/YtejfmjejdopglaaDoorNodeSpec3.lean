/-
  spec.PlaceOf by a contract.
-/
import Derived.Test.YtejfmjejdopglaaDoorNodeSpec
namespace Go.Proofs.YtejfmjejdopglaaDoor
open Go.RowKit

end Go.Proofs.YtejfmjejdopglaaDoor
