/-
  Events, and the laws' own helpers over them by contracts: szBoolS, szEvent, toEvent, eqEvent; spec.EventOk.
-/
import Derived.Test.YthcakofocbileaaBoolRow
import Derived.Test.YthcakofocbileaaSpecIn
namespace Go.Proofs.Ythcakofocbileaa
open Go.RowKit

/-- an event as plain data -/
structure Evt where
  kind : Int
  id : Int
  key : ByteArray
  val : ByteArray
  stage : Int
  left : List Bool
  torn : Int

/-- an event that reads so -/
def EvAt (w : World) (v : Value) (e : Evt) : Prop := ∃ a cap, v = .agg #[.int .i64 e.kind, .int .i64 e.id, .string e.key, .string e.val, .int .i64 e.stage, .slice a e.left.length cap, .int .i64 e.torn] ∧ RowAt w 1 (.slice a e.left.length cap) e.left.length (bools e.left)

theorem ev_below {w w' : World} {v : Value} {e : Evt} (h : EvAt w v e) (hb : Below w.heap.size w w') : EvAt w' v e := by
  obtain ⟨a, cap, h1, h2⟩ := h
  exact ⟨a, cap, h1, row_below h2 hb⟩

/-- an event that is right -/
def Evt.ok (e : Evt) : Bool := decide (1 ≤ e.kind ∧ e.kind ≤ 10) && decide (1 ≤ e.id ∧ e.id ≤ 9) && decide (e.key.size ≤ 30) && decide (e.val.size ≤ 30) && decide (0 ≤ e.stage ∧ e.stage ≤ 1) && decide (e.left.length ≤ 60) && decide (-1 ≤ e.torn ∧ e.torn ≤ 60)

def Evt.bulk (e : Evt) : Nat := e.key.size + e.val.size + e.left.length

theorem szBoolS_any (l : Nat) (hl : l ≤ 9223372036854775807) (a : Option Addr) (cap left : Nat) (hleft : left ≤ 1048576) (w : World) :
    Calls Try.prog 31 #[.slice a l cap, .int .i64 (left : Int)] w fun e w' => e = .returned (.int .i64 (szOut left l)) ∧ w = w' := by
  by_cases h : l ≤ left
  · have HO := hide (szOut_yes h)
    go_enter Try.func31, Try.ntmps31
    go_wp2
    go_ret
    rw [HO.out]
    exact ⟨by simp; omega, rfl⟩
  · have HO := hide (szOut_no (Nat.lt_of_not_le h))
    go_enter Try.func31, Try.ntmps31
    go_wp2
    go_ret
    rw [HO.out]
    exact ⟨rfl, rfl⟩

set_option maxHeartbeats 1000000 in
theorem szEvent_any (v : Value) (e : Evt) (h1 : e.key.size ≤ maxLen) (h2 : e.val.size ≤ maxLen) (h3 : e.left.length ≤ maxLen) (left : Nat) (hleft : left ≤ 1048576) (w : World) (hd : EvAt w v e) :
    Calls Try.prog 14 #[v, .int .i64 (left : Int)] w fun r w' => r = .returned (.int .i64 (szOut left e.bulk)) ∧ Below w.heap.size w w' := by
  obtain ⟨a, cap, rfl, -⟩ := hd
  obtain ⟨kind, id, key, val, stage, lft, torn⟩ := e
  dsimp only at h1 h2 h3 ⊢
  unfold maxLen at h1 h2 h3
  have HBk : Hid (Evt.bulk ⟨kind, id, key, val, stage, lft, torn⟩ = key.size + val.size + lft.length) := hide rfl
  obtain ⟨bk, hbk⟩ : ∃ b, b = Evt.bulk ⟨kind, id, key, val, stage, lft, torn⟩ := ⟨_, rfl⟩
  rw [← hbk] at HBk ⊢
  obtain ⟨ll, hll⟩ : ∃ n, n = lft.length := ⟨_, rfl⟩
  rw [← hll] at HBk h3 ⊢
  clear hbk hll
  by_cases g1 : left < key.size
  · have HO : Hid (szOut left bk = -1) := hide (szOut_no (by rw [HBk.out]; omega))
    go_enter Try.func14, Try.ntmps14
    go_wp2
    go_ret
    rw [HO.out]
    exact ⟨rfl, (Below.refl _ _).alloc (Nat.le_refl _) _⟩
  · by_cases g2 : left - key.size < val.size
    · have HO : Hid (szOut left bk = -1) := hide (szOut_no (by rw [HBk.out]; omega))
      go_enter Try.func14, Try.ntmps14
      go_wp2
      go_ret
      rw [HO.out]
      exact ⟨rfl, (Below.refl _ _).alloc (Nat.le_refl _) _⟩
    · obtain ⟨m, hm⟩ : ∃ m : Nat, (m : Int) = (left : Int) - (key.size : Int) - (val.size : Int) := ⟨left - key.size - val.size, by omega⟩
      have HS := hide (fun wx => szBoolS_any ll h3 a cap m (by omega) wx)
      by_cases g3 : ll ≤ m
      · have HO : Hid (szOut left bk = ((m - ll : Nat) : Int)) := hide (by rw [szOut_yes (by rw [HBk.out]; omega), HBk.out]; omega)
        rw [szOut_yes g3] at HS
        rw [hm] at HS
        go_enter Try.func14, Try.ntmps14
        go_wp2_with fail
        refine (HS.out _).mono ?_
        rintro e w1 ⟨rfl, rfl⟩
        go_wp2_with fail
        go_ret
        rw [HO.out]
        exact ⟨by first | (simp; omega) | simp, (Below.refl _ _).alloc (Nat.le_refl _) _⟩
      · have HO : Hid (szOut left bk = -1) := hide (szOut_no (by rw [HBk.out]; omega))
        rw [szOut_no (by omega)] at HS
        rw [hm] at HS
        go_enter Try.func14, Try.ntmps14
        go_wp2_with fail
        refine (HS.out _).mono ?_
        rintro e w1 ⟨rfl, rfl⟩
        go_wp2_with fail
        go_ret
        rw [HO.out]
        exact ⟨rfl, (Below.refl _ _).alloc (Nat.le_refl _) _⟩

set_option maxHeartbeats 4000000 in
set_option maxRecDepth 100000 in
theorem specEventOk_any (v : Value) (e : Evt) (h1 : e.key.size ≤ maxLen) (h2 : e.val.size ≤ maxLen) (h3 : e.left.length ≤ maxLen) (w : World) (hd : EvAt w v e) :
    Calls Try.prog 15 #[v] w fun r w' => r = .returned (.bool e.ok) ∧ Below w.heap.size w w' := by
  obtain ⟨a, cap, rfl, -⟩ := hd
  obtain ⟨kind, id, key, val, stage, lft, torn⟩ := e
  dsimp only at h1 h2 h3 ⊢
  unfold maxLen at h1 h2 h3
  have HOk : Hid (Evt.ok ⟨kind, id, key, val, stage, lft, torn⟩ = (decide (1 ≤ kind ∧ kind ≤ 10) && decide (1 ≤ id ∧ id ≤ 9) && decide (key.size ≤ 30) && decide (val.size ≤ 30) && decide (0 ≤ stage ∧ stage ≤ 1) && decide (lft.length ≤ 60) && decide (-1 ≤ torn ∧ torn ≤ 60))) := hide rfl
  obtain ⟨ok, hok⟩ : ∃ b, b = Evt.ok ⟨kind, id, key, val, stage, lft, torn⟩ := ⟨_, rfl⟩
  rw [← hok] at HOk ⊢
  obtain ⟨ll, hll⟩ : ∃ n, n = lft.length := ⟨_, rfl⟩
  rw [← hll] at HOk h3 ⊢
  have HI0 := hide (fun wx => in_dec kind 1 10 wx)
  have HI1 := hide (fun wx => in_dec id 1 9 wx)
  have HI4 := hide (fun wx => in_dec stage 0 1 wx)
  have HI6 := hide (fun wx => in_dec torn (-1) 60 wx)
  clear hok hll
  by_cases g0 : 1 ≤ kind ∧ kind ≤ 10
  rotate_left
  · rw [decide_eq_false g0] at HI0 HOk
    have HO : Hid (ok = false) := hide (by rw [HOk.out]; simp)
    clear g0
    go_enter Try.func15, Try.ntmps15
    go_wp2_with fail
    refine (HI0.out _).mono ?_
    rintro e w0 ⟨rfl, rfl⟩
    go_wp2_with fail
    go_ret
    rw [HO.out]
    exact ⟨rfl, (Below.refl _ _).alloc (Nat.le_refl _) _⟩
  rw [decide_eq_true g0] at HI0 HOk
  clear g0
  by_cases g1 : 1 ≤ id ∧ id ≤ 9
  rotate_left
  · rw [decide_eq_false g1] at HI1 HOk
    have HO : Hid (ok = false) := hide (by rw [HOk.out]; simp)
    clear g1
    go_enter Try.func15, Try.ntmps15
    go_wp2_with fail
    refine (HI0.out _).mono ?_
    rintro e w0 ⟨rfl, rfl⟩
    go_wp2_with fail
    refine (HI1.out _).mono ?_
    rintro e w1 ⟨rfl, rfl⟩
    go_wp2_with fail
    go_ret
    rw [HO.out]
    exact ⟨rfl, (Below.refl _ _).alloc (Nat.le_refl _) _⟩
  rw [decide_eq_true g1] at HI1 HOk
  clear g1
  by_cases g2 : key.size ≤ 30
  rotate_left
  · rw [decide_eq_false g2] at HOk
    have d2 : decide ((key.size : Int) ≤ 30) = false := by simp; omega
    have HO : Hid (ok = false) := hide (by rw [HOk.out]; simp)
    clear g2
    go_enter Try.func15, Try.ntmps15
    go_wp2_with fail
    refine (HI0.out _).mono ?_
    rintro e w0 ⟨rfl, rfl⟩
    go_wp2_with fail
    refine (HI1.out _).mono ?_
    rintro e w1 ⟨rfl, rfl⟩
    go_wp2_with fail
    go_ret
    rw [HO.out]
    exact ⟨rfl, (Below.refl _ _).alloc (Nat.le_refl _) _⟩
  rw [decide_eq_true g2] at HOk
  have d2 : decide ((key.size : Int) ≤ 30) = true := by simp; omega
  clear g2
  by_cases g3 : val.size ≤ 30
  rotate_left
  · rw [decide_eq_false g3] at HOk
    have d3 : decide ((val.size : Int) ≤ 30) = false := by simp; omega
    have HO : Hid (ok = false) := hide (by rw [HOk.out]; simp)
    clear g3
    go_enter Try.func15, Try.ntmps15
    go_wp2_with fail
    refine (HI0.out _).mono ?_
    rintro e w0 ⟨rfl, rfl⟩
    go_wp2_with fail
    refine (HI1.out _).mono ?_
    rintro e w1 ⟨rfl, rfl⟩
    go_wp2_with fail
    go_ret
    rw [HO.out]
    exact ⟨rfl, (Below.refl _ _).alloc (Nat.le_refl _) _⟩
  rw [decide_eq_true g3] at HOk
  have d3 : decide ((val.size : Int) ≤ 30) = true := by simp; omega
  clear g3
  by_cases g4 : 0 ≤ stage ∧ stage ≤ 1
  rotate_left
  · rw [decide_eq_false g4] at HI4 HOk
    have HO : Hid (ok = false) := hide (by rw [HOk.out]; simp)
    clear g4
    go_enter Try.func15, Try.ntmps15
    go_wp2_with fail
    refine (HI0.out _).mono ?_
    rintro e w0 ⟨rfl, rfl⟩
    go_wp2_with fail
    refine (HI1.out _).mono ?_
    rintro e w1 ⟨rfl, rfl⟩
    go_wp2_with fail
    refine (HI4.out _).mono ?_
    rintro e w4 ⟨rfl, rfl⟩
    go_wp2_with fail
    go_ret
    rw [HO.out]
    exact ⟨rfl, (Below.refl _ _).alloc (Nat.le_refl _) _⟩
  rw [decide_eq_true g4] at HI4 HOk
  clear g4
  by_cases g5 : ll ≤ 60
  rotate_left
  · rw [decide_eq_false g5] at HOk
    have d5 : decide ((ll : Int) ≤ 60) = false := by simp; omega
    have HO : Hid (ok = false) := hide (by rw [HOk.out]; simp)
    clear g5
    go_enter Try.func15, Try.ntmps15
    go_wp2_with fail
    refine (HI0.out _).mono ?_
    rintro e w0 ⟨rfl, rfl⟩
    go_wp2_with fail
    refine (HI1.out _).mono ?_
    rintro e w1 ⟨rfl, rfl⟩
    go_wp2_with fail
    refine (HI4.out _).mono ?_
    rintro e w4 ⟨rfl, rfl⟩
    go_wp2_with fail
    go_ret
    rw [HO.out]
    exact ⟨rfl, (Below.refl _ _).alloc (Nat.le_refl _) _⟩
  rw [decide_eq_true g5] at HOk
  have d5 : decide ((ll : Int) ≤ 60) = true := by simp; omega
  clear g5
  by_cases g6 : -1 ≤ torn ∧ torn ≤ 60
  rotate_left
  · rw [decide_eq_false g6] at HI6 HOk
    have HO : Hid (ok = false) := hide (by rw [HOk.out]; simp)
    clear g6
    go_enter Try.func15, Try.ntmps15
    go_wp2_with fail
    refine (HI0.out _).mono ?_
    rintro e w0 ⟨rfl, rfl⟩
    go_wp2_with fail
    refine (HI1.out _).mono ?_
    rintro e w1 ⟨rfl, rfl⟩
    go_wp2_with fail
    refine (HI4.out _).mono ?_
    rintro e w4 ⟨rfl, rfl⟩
    go_wp2_with fail
    refine (HI6.out _).mono ?_
    rintro e w6 ⟨rfl, rfl⟩
    go_wp2_with fail
    go_ret
    rw [HO.out]
    exact ⟨rfl, (Below.refl _ _).alloc (Nat.le_refl _) _⟩
  rw [decide_eq_true g6] at HI6 HOk
  clear g6
  have HO : Hid (ok = true) := hide HOk.out
  go_enter Try.func15, Try.ntmps15
  go_wp2_with fail
  refine (HI0.out _).mono ?_
  rintro e w0 ⟨rfl, rfl⟩
  go_wp2_with fail
  refine (HI1.out _).mono ?_
  rintro e w1 ⟨rfl, rfl⟩
  go_wp2_with fail
  refine (HI4.out _).mono ?_
  rintro e w4 ⟨rfl, rfl⟩
  go_wp2_with fail
  refine (HI6.out _).mono ?_
  rintro e w6 ⟨rfl, rfl⟩
  go_wp2_with fail
  go_ret
  rw [HO.out]
  exact ⟨rfl, (Below.refl _ _).alloc (Nat.le_refl _) _⟩

end Go.Proofs.Ythcakofocbileaa
