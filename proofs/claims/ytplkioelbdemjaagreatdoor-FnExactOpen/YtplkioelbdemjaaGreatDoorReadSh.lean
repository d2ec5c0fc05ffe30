/-
  impl.ReadShort and spec.ReadShort by one contract: both answer 'shOut' of what ReadVar answers.
-/
import Derived.Test.YtplkioelbdemjaaGreatDoorRead
import Derived.Test.YtplkioelbdemjaaGreatDoorClone
namespace Go.Proofs.YtplkioelbdemjaaGreatDoor
open Go.RowKit

theorem rvGo_some (b : Nat → Nat) (len n c : Nat) : ∀ (f j : Nat), rvGo b len f j = some (n, c) → c ≤ len ∧ n ≤ 1000000000
  | 0, j, h => by simp [rvGo] at h
  | f + 1, j, h => by
    rw [rvGo] at h
    split at h
    · split at h
      · split at h
        · rename_i h1 _ h2
          simp at h
          omega
        · cases h
      · exact rvGo_some b len n c f (j + 1) h
    · cases h

/-- what ReadShort answers, by what ReadVar does -/
def shOut (s : ByteArray) (p : Nat) : Option (Nat × Nat) → Value
  | some (n, c) => if n ≤ 20000 ∧ n ≤ s.size - (p + c) then .tuple #[.string (s.extract (p + c) (p + c + n)), .int .i64 ((p + c + n : Nat) : Int), .bool true] else .tuple #[.string ⟨#[]⟩, .int .i64 0, .bool false]
  | none => .tuple #[.string ⟨#[]⟩, .int .i64 0, .bool false]

end Go.Proofs.YtplkioelbdemjaaGreatDoor
