/-
  The program's functions over disks by contracts: hasPage, DiskOk, ReadPage, DiskNew.
-/
import Derived.Test.YtejfmjejdopglaaDiskN
import Derived.Test.YtejfmjejdopglaaClone
import Derived.Test.YtejfmjejdopglaaPlain10
namespace Go.Proofs.Ytejfmjejdopglaa
open Go.RowKit

theorem Try.infoDiskI : (Try.prog.info? 30).map (fun i => (i.zero, i.size, i.bytes)) = some (some (.agg #[.slice none 0 0, .slice none 0 0]), 2, 48) := by kernel_rfl

theorem diskOk_count {ps : List ByteArray} {ls : List (Int × ByteArray)} (h : ¬ (4 ≤ ps.length ∧ ps.length ≤ 40 ∧ ls.length ≤ 200)) : diskOkB ps ls = false := by
  rw [diskOkB, decide_eq_false h]; simp

end Go.Proofs.Ytejfmjejdopglaa
