/-
  spec's functions over disks by contracts: ReadPage, DiskOk, SyncDisk, FallDisk, WritePage, DiskNew.
-/
import Derived.Test.YthcakofocbileaaDiskN
import Derived.Test.YthcakofocbileaaVar
import Derived.Test.YthcakofocbileaaPlain9
namespace Go.Proofs.Ythcakofocbileaa
open Go.RowKit

theorem l01In_any (x a b : Int) (w : World) : Calls Try.prog 32 #[.int .i64 x, .int .i64 a, .int .i64 b] w fun e w' => e = .returned (.bool (decide (a ≤ x ∧ x ≤ b))) ∧ w = w' := by
  by_cases h : a ≤ x ∧ x ≤ b
  · rw [decide_eq_true h]; exact l01In_yes x a b w h.1 h.2
  · rw [decide_eq_false h]; exact l01In_no x a b w (by omega)

end Go.Proofs.Ythcakofocbileaa
