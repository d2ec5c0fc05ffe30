/-
  spec.FallDisk by its contract.
-/
import Derived.Test.YthcakofocbileaaDiskCopy
import Derived.Test.YthcakofocbileaaDiskRet
import Derived.Test.YthcakofocbileaaPlain10
namespace Go.Proofs.Ythcakofocbileaa
open Go.RowKit

/-- the cells of a row of flags -/
def bools (l : List Bool) : List Value := l.map Value.bool

theorem bools_at (l : List Bool) (k : Nat) (h : k < l.length) : (bools l)[k]? = some (.bool l[k]) := by simp [bools, h]

end Go.Proofs.Ythcakofocbileaa
