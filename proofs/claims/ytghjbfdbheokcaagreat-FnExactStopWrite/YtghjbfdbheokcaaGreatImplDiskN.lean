/-
  The program's functions over disks by contracts: hasPage, DiskOk, ReadPage, DiskNew.
-/
import Derived.Test.YtghjbfdbheokcaaGreatSwB
import Derived.Test.YtghjbfdbheokcaaGreatClone
import Derived.Test.YtghjbfdbheokcaaGreatPlain10
namespace Go.Proofs.YtghjbfdbheokcaaGreat
open Go.RowKit

set_option maxHeartbeats 400000 in
theorem hasPage_any (a : Option Addr) (n cap : Nat) (vl : Value) (page : Int) (w : World) :
    Calls Tryz.prog 99 #[.agg #[.slice a n cap, vl], .int .i64 page] w fun e w' => e = .returned (.bool (decide (0 ≤ page ∧ page < (n : Int)))) ∧ Below w.heap.size w w' := by
  have HB : Hid (∀ o, Below w.heap.size w (w.alloc o)) := hide (fun o => (Below.refl w.heap.size w).alloc (Nat.le_refl _) _)
  by_cases h0 : 0 ≤ page
  · by_cases h1 : page < (n : Int)
    · rw [decide_eq_true (show 0 ≤ page ∧ page < (n : Int) from ⟨h0, h1⟩)]
      have h2 : decide (0 ≤ page) = true := decide_eq_true h0
      have h3 : decide (page < (n : Int)) = true := decide_eq_true h1
      go_enter Tryz.func99, Tryz.ntmps99
      go_wp2
      go_ret
      exact ⟨rfl, HB.out _⟩
    · rw [decide_eq_false (show ¬ (0 ≤ page ∧ page < (n : Int)) from fun h => h1 h.2)]
      have h2 : decide (0 ≤ page) = true := decide_eq_true h0
      have h3 : decide (page < (n : Int)) = false := decide_eq_false h1
      go_enter Tryz.func99, Tryz.ntmps99
      go_wp2
      go_ret
      exact ⟨rfl, HB.out _⟩
  · rw [decide_eq_false (show ¬ (0 ≤ page ∧ page < (n : Int)) from fun h => h0 h.1)]
    have h2 : decide (0 ≤ page) = false := decide_eq_false h0
    go_enter Tryz.func99, Tryz.ntmps99
    go_wp2
    go_ret
    exact ⟨rfl, HB.out _⟩

theorem Tryz.infoDiskI : (Tryz.prog.info? 40).map (fun i => (i.zero, i.size, i.bytes)) = some (some (.agg #[.slice none 0 0, .slice none 0 0]), 2, 48) := by kernel_rfl

theorem diskOk_count {ps : List ByteArray} {ls : List (Int × ByteArray)} (h : ¬ (4 ≤ ps.length ∧ ps.length ≤ 40 ∧ ls.length ≤ 200)) : diskOkB ps ls = false := by
  rw [diskOkB, decide_eq_false h]; simp

end Go.Proofs.YtghjbfdbheokcaaGreat
