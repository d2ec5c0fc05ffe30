/-
  impl.ReadShort and spec.ReadShort by one contract: both answer 'shOut' of what ReadVar answers.
-/
import Derived.Test.YtdcmpjefemcppaaDoorRead
import Derived.Test.YtdcmpjefemcppaaDoorClone
namespace Go.Proofs.YtdcmpjefemcppaaDoor
open Go.RowKit

theorem rvGo_some (b : Nat → Nat) (len n c : Nat) : ∀ (f j : Nat), rvGo b len f j = some (n, c) → c ≤ len ∧ n ≤ 1000000000
  | 0, j, h => by simp [rvGo] at h
  | f + 1, j, h => by
    rw [rvGo] at h
    split at h
    · split at h
      · split at h
        · rename_i h1 _ h2
          simp at h
          omega
        · cases h
      · exact rvGo_some b len n c f (j + 1) h
    · cases h

/-- what ReadShort answers, by what ReadVar does -/
def shOut (s : ByteArray) (p : Nat) : Option (Nat × Nat) → Value
  | some (n, c) => if n ≤ 20000 ∧ n ≤ s.size - (p + c) then .tuple #[.string (s.extract (p + c) (p + c + n)), .int .i64 ((p + c + n : Nat) : Int), .bool true] else .tuple #[.string ⟨#[]⟩, .int .i64 0, .bool false]
  | none => .tuple #[.string ⟨#[]⟩, .int .i64 0, .bool false]

set_option maxHeartbeats 1000000 in
theorem specReadShort_in (s : ByteArray) (p : Nat) (hs : s.size ≤ 1048576) (hp : p ≤ s.size) (w : World) :
    Calls Tryd.prog 47 #[.string s, .int .i64 p] w fun e w' => e = .returned (shOut s p (rvGo (fun i => byt s (p + i)) (s.size - p) 5 0)) ∧ Below w.heap.size w w' := by
  obtain ⟨o, ho⟩ : ∃ o, o = rvGo (fun i => byt s (p + i)) (s.size - p) 5 0 := ⟨_, rfl⟩
  have hcon := specReadVar_in s p hs hp
  rw [← ho] at hcon ⊢
  have HC := hide hcon
  clear hcon
  cases o with
  | none =>
    clear ho
    go_enter Tryd.func47, Tryd.ntmps47
    go_wp2_with fail
    refine (HC.out _).mono ?_
    rintro e w1 ⟨rfl, hb1⟩
    rw [rvOut]
    go_wp2_with fail
    go_ret3
    exact ⟨rfl, hb1⟩
  | some x =>
    obtain ⟨n, c⟩ := x
    obtain ⟨hc, hn⟩ := rvGo_some _ _ _ _ _ _ ho.symm
    clear ho
    by_cases h1 : 20000 < n
    · go_enter Tryd.func47, Tryd.ntmps47
      go_wp2_with fail
      refine (HC.out _).mono ?_
      rintro e w1 ⟨rfl, hb1⟩
      rw [rvOut]
      go_wp2_with fail
      go_ret3
      refine ⟨?_, hb1⟩
      rw [shOut, if_neg (by omega)]; rfl
    · by_cases h2 : n ≤ s.size - (p + c)
      · have hsl : ∀ wx : World, (Instr.slice 9 (.string s) (some (.int .i64 ((p : Int) + (c : Int)))) (some (.int .i64 ((p : Int) + (c : Int) + (n : Int)))) none).run Tryd.prog wx = .ok (.string (s.extract (p + c) (p + c + n))) wx := fun wx => by
          have := run_slice_string (P := Tryd.prog) wx 9 s .i64 .i64 ((p : Int) + (c : Int)) ((p : Int) + (c : Int) + (n : Int)) Tryd.underlying9 (by omega) (by omega) (by omega)
          rw [this, show ((p : Int) + (c : Int)).toNat = p + c from by omega, show ((p : Int) + (c : Int) + (n : Int)).toNat = p + c + n from by omega]
        go_enter Tryd.func47, Tryd.ntmps47
        go_wp2_with fail
        refine (HC.out _).mono ?_
        rintro e w1 ⟨rfl, hb1⟩
        rw [rvOut]
        go_wp2_with fail
        go_ret3
        refine ⟨?_, hb1⟩
        rw [shOut, if_pos (by omega)]; simp
      · go_enter Tryd.func47, Tryd.ntmps47
        go_wp2_with fail
        refine (HC.out _).mono ?_
        rintro e w1 ⟨rfl, hb1⟩
        rw [rvOut]
        go_wp2_with fail
        go_ret3
        refine ⟨?_, hb1⟩
        rw [shOut, if_neg (by omega)]; rfl

set_option maxHeartbeats 1000000 in
theorem implReadShort_in (s : ByteArray) (p : Nat) (hs : s.size ≤ 1048576) (hp : p ≤ s.size) (w : World) :
    Calls Tryd.prog 40 #[.string s, .int .i64 p] w fun e w' => e = .returned (shOut s p (rvGo (fun i => byt s (p + i)) (s.size - p) 5 0)) ∧ Below w.heap.size w w' := by
  obtain ⟨o, ho⟩ : ∃ o, o = rvGo (fun i => byt s (p + i)) (s.size - p) 5 0 := ⟨_, rfl⟩
  have hcon := implReadVar_in s p hs hp
  rw [← ho] at hcon ⊢
  have HC := hide hcon
  clear hcon
  cases o with
  | none =>
    clear ho
    go_enter Tryd.func40, Tryd.ntmps40
    go_wp2_with fail
    refine (HC.out _).mono ?_
    rintro e w1 ⟨rfl, hw1⟩
    have hb1 : Below w.heap.size w w1 := by rw [hw1]; exact Below.refl _ _
    clear hw1
    rw [rvOut]
    go_wp2_with fail
    go_ret3
    exact ⟨rfl, hb1⟩
  | some x =>
    obtain ⟨n, c⟩ := x
    obtain ⟨hc, hn⟩ := rvGo_some _ _ _ _ _ _ ho.symm
    clear ho
    by_cases h1 : 20000 < n
    · go_enter Tryd.func40, Tryd.ntmps40
      go_wp2_with fail
      refine (HC.out _).mono ?_
      rintro e w1 ⟨rfl, hw1⟩
      have hb1 : Below w.heap.size w w1 := by rw [hw1]; exact Below.refl _ _
      clear hw1
      rw [rvOut]
      go_wp2_with fail
      go_ret3
      refine ⟨?_, hb1⟩
      rw [shOut, if_neg (by omega)]; rfl
    · by_cases h2 : n ≤ s.size - (p + c)
      · have hsl : ∀ wx : World, (Instr.slice 9 (.string s) (some (.int .i64 ((p : Int) + (c : Int)))) (some (.int .i64 ((p : Int) + (c : Int) + (n : Int)))) none).run Tryd.prog wx = .ok (.string (s.extract (p + c) (p + c + n))) wx := fun wx => by
          have := run_slice_string (P := Tryd.prog) wx 9 s .i64 .i64 ((p : Int) + (c : Int)) ((p : Int) + (c : Int) + (n : Int)) Tryd.underlying9 (by omega) (by omega) (by omega)
          rw [this, show ((p : Int) + (c : Int)).toNat = p + c from by omega, show ((p : Int) + (c : Int) + (n : Int)).toNat = p + c + n from by omega]
        go_enter Tryd.func40, Tryd.ntmps40
        go_wp2_with fail
        refine (HC.out _).mono ?_
        rintro e w1 ⟨rfl, hw1⟩
        have hb1 : Below w.heap.size w w1 := by rw [hw1]; exact Below.refl _ _
        clear hw1
        rw [rvOut]
        go_wp2_with fail
        refine (clone_any _ (by simp; omega) _).mono ?_
        rintro e w2 ⟨rfl, hb2⟩
        go_wp2_with fail
        go_ret3
        refine ⟨?_, hb1.trans (hb2.mono hb1.size)⟩
        rw [shOut, if_pos (by omega)]; simp
      · go_enter Tryd.func40, Tryd.ntmps40
        go_wp2_with fail
        refine (HC.out _).mono ?_
        rintro e w1 ⟨rfl, hw1⟩
        have hb1 : Below w.heap.size w w1 := by rw [hw1]; exact Below.refl _ _
        clear hw1
        rw [rvOut]
        go_wp2_with fail
        go_ret3
        refine ⟨?_, hb1⟩
        rw [shOut, if_neg (by omega)]; rfl

set_option maxHeartbeats 400000 in
theorem specReadShort_out (s : ByteArray) (p : Int) (hs : s.size ≤ 1048576) (hp : p < 0 ∨ (s.size : Int) < p) (w : World) :
    Calls Tryd.prog 47 #[.string s, .int .i64 p] w fun e w' => e = .returned (.tuple #[.string ⟨#[]⟩, .int .i64 0, .bool false]) ∧ w = w' := by
  go_enter Tryd.func47, Tryd.ntmps47
  go_wp2_with fail
  refine (specReadVar_out s p hs hp _).mono ?_
  rintro e w1 ⟨rfl, rfl⟩
  go_wp2_with fail
  go_ret3
  exact ⟨rfl, rfl⟩

set_option maxHeartbeats 400000 in
theorem implReadShort_out (s : ByteArray) (p : Int) (hs : s.size ≤ 1048576) (hp : p < 0 ∨ (s.size : Int) < p) (w : World) :
    Calls Tryd.prog 40 #[.string s, .int .i64 p] w fun e w' => e = .returned (.tuple #[.string ⟨#[]⟩, .int .i64 0, .bool false]) ∧ w = w' := by
  go_enter Tryd.func40, Tryd.ntmps40
  go_wp2_with fail
  refine (implReadVar_out s p hs hp _).mono ?_
  rintro e w1 ⟨rfl, rfl⟩
  go_wp2_with fail
  go_ret3
  exact ⟨rfl, rfl⟩
end Go.Proofs.YtdcmpjefemcppaaDoor
