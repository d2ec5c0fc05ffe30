/-
  spec.Decimal by its contract, for a number that is not below 0: its figures.
-/
import Derived.Test.YtdbpbhemnnffeaaOwn
import Derived.Test.YtdbpbhemnnffeaaPlain5
import Derived.WalkSpells
import Derived.WalkSmall
import Derived.Deep.LoopGhost
import Derived.Laws.Concat
namespace Go.Proofs.Ytdbpbhemnnffeaa
open Go.RowKit

end Go.Proofs.Ytdbpbhemnnffeaa
