/-
  impl.EventOk by a contract (made by tools/impleventok.py).
-/
import Derived.Test.YthcakofocbileaaEvRow
namespace Go.Proofs.Ythcakofocbileaa
open Go.RowKit

set_option maxHeartbeats 4000000 in
set_option maxRecDepth 100000 in
theorem implEventOk_any (v : Value) (e : Evt) (h1 : e.key.size ≤ maxLen) (h2 : e.val.size ≤ maxLen) (h3 : e.left.length ≤ maxLen) (w : World) (hd : EvAt w v e) :
    Calls Try.prog 17 #[v] w fun r w' => r = .returned (.bool e.ok) ∧ Below w.heap.size w w' := by
  obtain ⟨a, cap, rfl, -⟩ := hd
  obtain ⟨kind, id, key, val, stage, lft, torn⟩ := e
  dsimp only at h1 h2 h3 ⊢
  unfold maxLen at h1 h2 h3
  have HOk : Hid (Evt.ok ⟨kind, id, key, val, stage, lft, torn⟩ = (decide (1 ≤ kind ∧ kind ≤ 10) && decide (1 ≤ id ∧ id ≤ 9) && decide (key.size ≤ 30) && decide (val.size ≤ 30) && decide (0 ≤ stage ∧ stage ≤ 1) && decide (lft.length ≤ 60) && decide (-1 ≤ torn ∧ torn ≤ 60))) := hide rfl
  obtain ⟨ok, hok⟩ : ∃ b, b = Evt.ok ⟨kind, id, key, val, stage, lft, torn⟩ := ⟨_, rfl⟩
  rw [← hok] at HOk ⊢
  obtain ⟨ll, hll⟩ : ∃ n, n = lft.length := ⟨_, rfl⟩
  rw [← hll] at HOk h3 ⊢
  clear hok hll
  by_cases g0 : kind < 1
  · have d0 : decide (kind < 1) = true := decide_eq_true (by omega)
    have HO : Hid (ok = false) := hide (by rw [HOk.out]; simp; omega)
    go_enter Try.func17, Try.ntmps17
    go_wp2
    go_ret
    rw [HO.out]
    exact ⟨rfl, (Below.refl _ _).alloc (Nat.le_refl _) _⟩
  have d0 : decide (kind < 1) = false := decide_eq_false (by omega)
  by_cases g1 : 10 < kind
  · have d1 : decide (10 < kind) = true := decide_eq_true (by omega)
    have HO : Hid (ok = false) := hide (by rw [HOk.out]; simp; omega)
    go_enter Try.func17, Try.ntmps17
    go_wp2
    go_ret
    rw [HO.out]
    exact ⟨rfl, (Below.refl _ _).alloc (Nat.le_refl _) _⟩
  have d1 : decide (10 < kind) = false := decide_eq_false (by omega)
  by_cases g2 : id < 1
  · have d2 : decide (id < 1) = true := decide_eq_true (by omega)
    have HO : Hid (ok = false) := hide (by rw [HOk.out]; simp; omega)
    go_enter Try.func17, Try.ntmps17
    go_wp2
    go_ret
    rw [HO.out]
    exact ⟨rfl, (Below.refl _ _).alloc (Nat.le_refl _) _⟩
  have d2 : decide (id < 1) = false := decide_eq_false (by omega)
  by_cases g3 : 9 < id
  · have d3 : decide (9 < id) = true := decide_eq_true (by omega)
    have HO : Hid (ok = false) := hide (by rw [HOk.out]; simp; omega)
    go_enter Try.func17, Try.ntmps17
    go_wp2
    go_ret
    rw [HO.out]
    exact ⟨rfl, (Below.refl _ _).alloc (Nat.le_refl _) _⟩
  have d3 : decide (9 < id) = false := decide_eq_false (by omega)
  by_cases g4 : 30 < key.size
  · have d4 : decide ((30 : Int) < (key.size : Int)) = true := decide_eq_true (by omega)
    have HO : Hid (ok = false) := hide (by rw [HOk.out]; simp; omega)
    go_enter Try.func17, Try.ntmps17
    go_wp2
    go_ret
    rw [HO.out]
    exact ⟨rfl, (Below.refl _ _).alloc (Nat.le_refl _) _⟩
  have d4 : decide ((30 : Int) < (key.size : Int)) = false := decide_eq_false (by omega)
  by_cases g5 : 30 < val.size
  · have d5 : decide ((30 : Int) < (val.size : Int)) = true := decide_eq_true (by omega)
    have HO : Hid (ok = false) := hide (by rw [HOk.out]; simp; omega)
    go_enter Try.func17, Try.ntmps17
    go_wp2
    go_ret
    rw [HO.out]
    exact ⟨rfl, (Below.refl _ _).alloc (Nat.le_refl _) _⟩
  have d5 : decide ((30 : Int) < (val.size : Int)) = false := decide_eq_false (by omega)
  by_cases g6 : stage = 0 ∨ stage = 1
  rotate_left
  · have d6 : (stage == 0) = false := by simp; omega
    have d7 : (stage == 1) = false := by simp; omega
    have HO : Hid (ok = false) := hide (by rw [HOk.out]; simp; omega)
    go_enter Try.func17, Try.ntmps17
    go_wp2
    go_ret
    rw [HO.out]
    exact ⟨rfl, (Below.refl _ _).alloc (Nat.le_refl _) _⟩
  rcases g6 with rfl | rfl
  · have d6 : ((0 : Int) == 0) = true := rfl
    by_cases g7 : ll ≤ 60
    rotate_left
    · have d8 : decide ((ll : Int) ≤ 60) = false := decide_eq_false (by omega)
      have HO : Hid (ok = false) := hide (by rw [HOk.out]; simp; omega)
      go_enter Try.func17, Try.ntmps17
      go_wp2
      go_ret
      rw [HO.out]
      exact ⟨rfl, (Below.refl _ _).alloc (Nat.le_refl _) _⟩
    have d8 : decide ((ll : Int) ≤ 60) = true := decide_eq_true (by omega)
    by_cases g8 : -1 ≤ torn
    rotate_left
    · have d9 : decide (-1 ≤ torn) = false := decide_eq_false (by omega)
      have HO : Hid (ok = false) := hide (by rw [HOk.out]; simp; omega)
      go_enter Try.func17, Try.ntmps17
      go_wp2
      go_ret
      rw [HO.out]
      exact ⟨rfl, (Below.refl _ _).alloc (Nat.le_refl _) _⟩
    have d9 : decide (-1 ≤ torn) = true := decide_eq_true (by omega)
    by_cases g9 : torn ≤ 60
    rotate_left
    · have d10 : decide (torn ≤ 60) = false := decide_eq_false (by omega)
      have HO : Hid (ok = false) := hide (by rw [HOk.out]; simp; omega)
      go_enter Try.func17, Try.ntmps17
      go_wp2
      go_ret
      rw [HO.out]
      exact ⟨rfl, (Below.refl _ _).alloc (Nat.le_refl _) _⟩
    have d10 : decide (torn ≤ 60) = true := decide_eq_true (by omega)
    have HO : Hid (ok = true) := hide (by rw [HOk.out]; simp; omega)
    go_enter Try.func17, Try.ntmps17
    go_wp2
    go_ret
    rw [HO.out]
    exact ⟨rfl, (Below.refl _ _).alloc (Nat.le_refl _) _⟩
  · have d6 : ((1 : Int) == 0) = false := rfl
    have d7 : ((1 : Int) == 1) = true := rfl
    by_cases g7 : ll ≤ 60
    rotate_left
    · have d8 : decide ((ll : Int) ≤ 60) = false := decide_eq_false (by omega)
      have HO : Hid (ok = false) := hide (by rw [HOk.out]; simp; omega)
      go_enter Try.func17, Try.ntmps17
      go_wp2
      go_ret
      rw [HO.out]
      exact ⟨rfl, (Below.refl _ _).alloc (Nat.le_refl _) _⟩
    have d8 : decide ((ll : Int) ≤ 60) = true := decide_eq_true (by omega)
    by_cases g8 : -1 ≤ torn
    rotate_left
    · have d9 : decide (-1 ≤ torn) = false := decide_eq_false (by omega)
      have HO : Hid (ok = false) := hide (by rw [HOk.out]; simp; omega)
      go_enter Try.func17, Try.ntmps17
      go_wp2
      go_ret
      rw [HO.out]
      exact ⟨rfl, (Below.refl _ _).alloc (Nat.le_refl _) _⟩
    have d9 : decide (-1 ≤ torn) = true := decide_eq_true (by omega)
    by_cases g9 : torn ≤ 60
    rotate_left
    · have d10 : decide (torn ≤ 60) = false := decide_eq_false (by omega)
      have HO : Hid (ok = false) := hide (by rw [HOk.out]; simp; omega)
      go_enter Try.func17, Try.ntmps17
      go_wp2
      go_ret
      rw [HO.out]
      exact ⟨rfl, (Below.refl _ _).alloc (Nat.le_refl _) _⟩
    have d10 : decide (torn ≤ 60) = true := decide_eq_true (by omega)
    have HO : Hid (ok = true) := hide (by rw [HOk.out]; simp; omega)
    go_enter Try.func17, Try.ntmps17
    go_wp2
    go_ret
    rw [HO.out]
    exact ⟨rfl, (Below.refl _ _).alloc (Nat.le_refl _) _⟩

end Go.Proofs.Ythcakofocbileaa
