/-
  impl.ReadVar and spec.ReadVar by one contract: both answer as 'rvGo' tells of the bytes from the place on.
-/
import Derived.Test.YtdcmpjefemcppaaGreatDoorVar
import Derived.Test.YtdcmpjefemcppaaGreatDoorPlain2
import Derived.Laws.Shifts
import Derived.WalkSpells
import Derived.WalkSmall
import Derived.Deep.LoopGhost
import Derived.Deep.RegionHeld3
import Derived.Deep.DrawnRows
import Derived.Deep.DeepFit
import Derived.Deep.DeepMust
namespace Go.Proofs.YtdcmpjefemcppaaGreatDoor
open Go.RowKit
attribute [local go_sem ↓] Go.wp_at_zero Go.wp_at_succ

/-- what ReadVar answers -/
def rvOut (at_ : Nat) : Option (Nat × Nat) → Value
  | some (n, c) => .tuple #[.int .i64 n, .int .i64 ((at_ + c : Nat) : Int), .bool true]
  | none => .tuple #[.int .i64 0, .int .i64 0, .bool false]

theorem rv_way_yes {N X j p : Nat} {s : ByteArray} {b : Nat → Nat} (hA : N + X = accN b (j + 1)) (hE : (s.extract p (p + (j + 1))).data.toList = bytesTo b (j + 1))
    (h : (!vtext ((N : Int) + (X : Int)).toNat == (s.extract p (p + (j + 1))).toList) = false) : vtext (accN b (j + 1)) = bytesTo b (j + 1) := by
  rw [show ((N : Int) + (X : Int)).toNat = N + X from by omega, hA, ByteArray.toList_eq, hE] at h
  simpa using h

theorem rv_way_no {N X j p : Nat} {s : ByteArray} {b : Nat → Nat} (hA : N + X = accN b (j + 1)) (hE : (s.extract p (p + (j + 1))).data.toList = bytesTo b (j + 1))
    (h : (!vtext ((N : Int) + (X : Int)).toNat == (s.extract p (p + (j + 1))).toList) = true) : ¬ vtext (accN b (j + 1)) = bytesTo b (j + 1) := by
  rw [show ((N : Int) + (X : Int)).toNat = N + X from by omega, hA, ByteArray.toList_eq, hE] at h
  simpa using h

set_option maxHeartbeats 2000000 in
set_option maxRecDepth 100000 in
theorem implReadVar_in (s : ByteArray) (p : Nat) (hs : s.size ≤ 1048576) (hp : p ≤ s.size) (w : World) :
    Calls Tryz.prog 70 #[.string s, .int .i64 p] w fun e w' => e = .returned (rvOut p (rvGo (fun i => byt s (p + i)) (s.size - p) 5 0)) ∧ w' = w := by
  obtain ⟨b, hb⟩ : ∃ b : Nat → Nat, b = fun i => byt s (p + i) := ⟨_, rfl⟩
  rw [← hb]
  have hb0 : ∀ i, b i < 256 := fun i => by rw [hb]; exact byt_lt _ _
  have hbs : ∀ i (h : p + i < s.size), s[p + i].toNat = b i := fun i h => by rw [hb]; exact byt_eq _ _ h
  have HB := hide hbs
  have HB0 := hide hb0
  clear hb hbs hb0
  have hq1 : decide ((p : Int) < 0) = false := by simp
  have hq2 : decide (s.size < p) = false := by simp; omega
  go_enter Tryz.func70, Tryz.ntmps70
  go_wp2
  go_loopg [7, 8] 5 (fun g nv uv wr => ∃ j N : Nat, j ≤ 5 ∧ p + j ≤ s.size ∧ nv = .int .i64 N ∧ uv = .int .i64 j ∧ g + j = 5 ∧ Hid (N = accN b j) ∧ Hid (rvGo b (s.size - p) (5 - j) j = rvGo b (s.size - p) 5 0) ∧ wr = w)
  case atStart => exact ⟨0, 0, by omega, by omega, rfl, rfl, rfl, hide rfl, hide rfl, rfl⟩
  case round =>
    obtain ⟨j, N, hj, hpj, rfl, rfl, hg, HN, HR, rfl⟩ := hrel
    have HG := hide hg
    clear hg
    by_cases h5 : j < 5
    · by_cases hlt : p + j < s.size
      · have hN : N < 128 ^ j := by rw [HN.out]; exact accN_lt b j
        have hN5 : N < 34359738368 := Nat.lt_of_lt_of_le hN (by have : 128 ^ j ≤ 128 ^ 5 := Nat.pow_le_pow_right (by omega) (by omega); simpa using this)
        obtain ⟨y, hy⟩ : ∃ y, y = b j := ⟨_, rfl⟩
        have hbj : y < 256 := by rw [hy]; exact HB0.out j
        have hsj : s[p + j].toNat = y := by rw [hy]; exact HB.out j hlt
        obtain ⟨X, hX⟩ : ∃ X, X = y % 128 * 128 ^ j := ⟨_, rfl⟩
        have hXb : X ≤ 34091302912 := by rw [hX]; exact digit_le y j h5
        have hw := digit_wrap y j X h5 hX
        have HX := hide hX
        have HY := hide hy
        have HA : Hid (N + X = accN b (j + 1)) := hide (by rw [accN, ← hy, ← hX, ← HN.out])
        clear hX hy hN
        by_cases hc : 128 ≤ y
        · go_wp2
          go_roundg (gk - 1)
          case measure => have := HG.out; omega
          case rel => exact ⟨j + 1, N + X, by omega, by omega, by go_num, by go_num, by have := HG.out; omega, HA, hide (by rw [rvGo_next b _ j h5 (by omega) (by rw [← HY.out]; exact hc)]; exact HR.out), rfl⟩
        · have HY' : Hid (b j < 128) := hide (by rw [← HY.out]; omega)
          by_cases hz : y = 0
          · have hzb : ((y : Int) == 0) = true := by simp [hz]
            have HZ : Hid (b j = 0) := hide (by rw [← HY.out]; exact hz)
            have HX0 : Hid (X = 0) := hide (by rw [HX.out, hz]; simp)
            clear hz
            by_cases hj0 : 0 < j
            · have HM := hide (rvGo_miss b (s.size - p) j h5 (by omega) HY'.out (by have := HZ.out; omega))
              go_wp2
              go_ret3
              refine ⟨?_, rfl⟩
              rw [← HR.out, HM.out]; rfl
            · have HM := hide (rvGo_hit b (s.size - p) j h5 (by omega) HY'.out (by have := HA.out; have := HX0.out; have := HN.out; have : j = 0 := (by omega); subst this; simp [accN, HZ.out]) (by omega))
              have hsum : N + X ≤ 1000000000 := by
                have hj' : j = 0 := by omega
                have := HX0.out; have h2 := HN.out; rw [hj'] at h2; simp [accN] at h2; omega
              go_wp2
              go_ret3
              refine ⟨?_, rfl⟩
              rw [← HR.out, HM.out, ← HA.out]
              simp [rvOut]; omega
          · have hzb : ((y : Int) == 0) = false := by simp; omega
            have HZ : Hid (b j ≠ 0) := hide (by rw [← HY.out]; exact hz)
            clear hz
            by_cases hsum : N + X ≤ 1000000000
            · have HM := hide (rvGo_hit b (s.size - p) j h5 (by omega) HY'.out (by rw [← HA.out]; exact hsum) (Or.inl HZ.out))
              go_wp2
              go_ret3
              refine ⟨?_, rfl⟩
              rw [← HR.out, HM.out, ← HA.out]
              simp [rvOut]; omega
            · have HM := hide (rvGo_miss b (s.size - p) j h5 (by omega) HY'.out (by rw [← HA.out]; omega))
              go_wp2
              go_ret3
              refine ⟨?_, rfl⟩
              rw [← HR.out, HM.out]; rfl
      · have HM := hide (rvGo_end b (s.size - p) j (by omega))
        go_wp2
        go_ret3
        refine ⟨?_, rfl⟩
        rw [← HR.out, HM.out]; rfl
    · have HM := hide (rvGo_end b (s.size - p) j (by omega))
      go_wp2
      go_ret3
      refine ⟨?_, rfl⟩
      rw [← HR.out, HM.out]; rfl

set_option maxHeartbeats 2000000 in
set_option maxRecDepth 100000 in
theorem specReadVar_in (s : ByteArray) (p : Nat) (hs : s.size ≤ 1048576) (hp : p ≤ s.size) (w : World) :
    Calls Tryz.prog 55 #[.string s, .int .i64 p] w fun e w' => e = .returned (rvOut p (rvGo (fun i => byt s (p + i)) (s.size - p) 5 0)) ∧ Below w.heap.size w w' := by
  obtain ⟨b, hb⟩ : ∃ b : Nat → Nat, b = fun i => byt s (p + i) := ⟨_, rfl⟩
  rw [← hb]
  have hb0 : ∀ i, b i < 256 := fun i => by rw [hb]; exact byt_lt _ _
  have hbs : ∀ i (h : p + i < s.size), s[p + i].toNat = b i := fun i h => by rw [hb]; exact byt_eq _ _ h
  have HE : Hid (∀ n, p + n ≤ s.size → (s.extract p (p + n)).data.toList = bytesTo b n) := hide (fun n h => by rw [hb]; exact extract_bytes s p n h)
  have HB := hide hbs
  have HB0 := hide hb0
  clear hb hbs hb0
  go_enter Tryz.func55, Tryz.ntmps55
  go_wp2_with fail
  refine (l01In_yes p 0 s.size _ (by omega) (by omega)).mono ?_
  rintro e w1 ⟨rfl, rfl⟩
  go_wp2_with fail
  go_loopg [7, 8, 9] 5 (fun g nv sv iv wr => ∃ j N Z : Nat, j ≤ 5 ∧ p + j ≤ s.size ∧ nv = .int .i64 N ∧ sv = .int .i64 Z ∧ iv = .int .i64 ((p + j : Nat) : Int) ∧ g + j = 5 ∧ Hid (N = accN b j) ∧ Hid (Z = 128 ^ j) ∧ Hid (∀ i, i < j → 128 ≤ b i) ∧ Hid (rvGo b (s.size - p) (5 - j) j = rvGo b (s.size - p) 5 0) ∧ wr = w)
  case atStart => exact ⟨0, 0, 1, by omega, by omega, rfl, rfl, rfl, rfl, hide rfl, hide rfl, hide (fun i h => by omega), hide rfl, rfl⟩
  case round =>
    obtain ⟨j, N, Z, hj, hpj, rfl, rfl, rfl, hg, HN, HZ, HI, HR, rfl⟩ := hrel
    have HG := hide hg
    clear hg
    have hZ5 : Z ≤ 34359738368 := by rw [HZ.out]; exact pow_le5 j hj
    by_cases h5 : j < 5
    · by_cases hlt : p + j < s.size
      · have hN5 : N < 34359738368 := by rw [HN.out]; exact Nat.lt_of_lt_of_le (accN_lt b j) (pow_le5 j hj)
        obtain ⟨y, hy⟩ : ∃ y, y = b j := ⟨_, rfl⟩
        have hbj : y < 256 := by rw [hy]; exact HB0.out j
        have hsj : s[p + j].toNat = y := by rw [hy]; exact HB.out j hlt
        obtain ⟨X, hX⟩ : ∃ X, X = y % 128 * 128 ^ j := ⟨_, rfl⟩
        have hXb : X ≤ 34091302912 := by rw [hX]; exact digit_le y j h5
        have hw := digit_wrap2 y j X Z h5 hX HZ.out
        have HX := hide hX
        have HY := hide hy
        have HA : Hid (N + X = accN b (j + 1)) := hide (by rw [accN, ← hy, ← hX, ← HN.out])
        clear hX hy
        by_cases hc : 128 ≤ y
        · go_wp2_with fail
          go_roundg (gk - 1)
          case measure => have := HG.out; omega
          case rel => exact ⟨j + 1, N + X, Z * 128, by omega, by omega, by go_num, by go_num, by go_num, by have := HG.out; omega, HA, hide (by rw [HZ.out, Nat.pow_succ]), hide (fun i hi => by by_cases e : i = j; (rw [e, ← HY.out]; exact hc); (exact HI.out i (by omega))), hide (by rw [rvGo_next b _ j h5 (by omega) (by rw [← HY.out]; exact hc)]; exact HR.out), rfl⟩
        · have HY' : Hid (b j < 128) := hide (by rw [← HY.out]; omega)
          by_cases hsum : N + X ≤ 1000000000
          · have HV := hide (vtext_iff j b (by omega) HB0.out HI.out HY'.out)
            have HE' := hide (HE.out (j + 1) (by omega))
            have hng : decide ((1000000000 : Int) < (N : Int) + (X : Int)) = false := by simp; omega
            go_wp2_with fail
            clear hw hsj
            have hb1 : (0 : Int) ≤ (p : Int) := by omega
            have hb2 : (p : Int) ≤ (p : Int) + (j : Int) + 1 := by omega
            have hb3 : (p : Int) + (j : Int) + 1 ≤ (s.size : Int) := by omega
            have hwr : IntKind.i64.wrap ((p : Int) + (j : Int) + 1) = (p : Int) + (j : Int) + 1 := IntWalk.i64_in _ ⟨by omega, by omega⟩
            have hsl : ∀ wx : World, (Instr.slice 9 (.string s) (some (.int .i64 (p : Int))) (some (.int .i64 ((p : Int) + (j : Int) + 1))) none).run Tryz.prog wx = .ok (.string (s.extract p (p + (j + 1)))) wx := fun wx => by
              have := run_slice_string (P := Tryz.prog) wx 9 s .i64 .i64 (p : Int) ((p : Int) + (j : Int) + 1) Tryz.underlying9 hb1 hb2 hb3
              rw [this, show ((p : Int) + (j : Int) + 1).toNat = p + (j + 1) from by omega, Int.toNat_natCast]
            go_region_held3 (fun _ => True) (trivial) ((go_at_call 58; refine (l01Var_any ((N : Int) + (X : Int)) (by omega) (by omega) _).mono ?_; rintro e w2 ⟨rfl, hbw⟩))
            go_wp2_with fail
            · have hne : (!vtext ((N : Int) + (X : Int)).toNat == (s.extract p (p + (j + 1))).toList) = true := by assumption
              go_ret3
              refine ⟨?_, ?_⟩
              · rw [← HR.out, rvGo_miss b _ j h5 (by omega) HY'.out (fun hok => rv_way_no HA.out HE'.out hne (HV.out.2 hok.2))]; rfl
              · exact ((Below.refl _ _).drew).trans hbw
            · have hne : (!vtext ((N : Int) + (X : Int)).toNat == (s.extract p (p + (j + 1))).toList) = false := by assumption
              go_ret3
              refine ⟨?_, ?_⟩
              · rw [← HR.out, rvGo_hit b _ j h5 (by omega) HY'.out (by rw [← HA.out]; exact hsum) (HV.out.1 (rv_way_yes HA.out HE'.out hne)), ← HA.out]
                simp [rvOut]; omega
              · exact ((Below.refl _ _).drew).trans hbw
          · have HM := hide (rvGo_miss b (s.size - p) j h5 (by omega) HY'.out (by rw [← HA.out]; omega))
            have hgt : (1000000000 : Int) < (N : Int) + (X : Int) := by omega
            have hgd : decide ((1000000000 : Int) < (N : Int) + (X : Int)) = true := by simp; omega
            go_wp2_with fail
            go_quiet (fail)
            go_wp2_with fail
            go_ret3
            refine ⟨?_, below_drewN (Below.refl _ _) _⟩
            rw [← HR.out, HM.out]; rfl
      · have HM := hide (rvGo_end b (s.size - p) j (by omega))
        go_wp2_with fail
        go_ret3
        refine ⟨?_, Below.refl _ _⟩
        rw [← HR.out, HM.out]; rfl
    · have HM := hide (rvGo_end b (s.size - p) j (by omega))
      go_wp2_with fail
      all_goals (try go_ret3)
      all_goals refine ⟨?_, Below.refl _ _⟩
      all_goals (rw [← HR.out, HM.out]; rfl)

set_option maxHeartbeats 400000 in
theorem implReadVar_out (s : ByteArray) (p : Int) (_hs : s.size ≤ 1048576) (hp : p < 0 ∨ (s.size : Int) < p) (w : World) :
    Calls Tryz.prog 70 #[.string s, .int .i64 p] w fun e w' => e = .returned (.tuple #[.int .i64 0, .int .i64 0, .bool false]) ∧ w = w' := by
  by_cases h1 : p < 0
  · go_enter Tryz.func70, Tryz.ntmps70
    go_wp2
    go_ret3
    exact ⟨rfl, rfl⟩
  · have h2 : (s.size : Int) < p := by omega
    have h3 : 0 ≤ p := by omega
    clear hp h1
    go_enter Tryz.func70, Tryz.ntmps70
    go_wp2
    go_ret3
    exact ⟨rfl, rfl⟩

set_option maxHeartbeats 400000 in
theorem specReadVar_out (s : ByteArray) (p : Int) (_hs : s.size ≤ 1048576) (hp : p < 0 ∨ (s.size : Int) < p) (w : World) :
    Calls Tryz.prog 55 #[.string s, .int .i64 p] w fun e w' => e = .returned (.tuple #[.int .i64 0, .int .i64 0, .bool false]) ∧ w = w' := by
  go_enter Tryz.func55, Tryz.ntmps55
  go_wp2_with fail
  refine (l01In_no p 0 s.size _ hp).mono ?_
  rintro e w1 ⟨rfl, rfl⟩
  go_wp2_with fail
  go_ret3
  exact ⟨rfl, rfl⟩
end Go.Proofs.YtdcmpjefemcppaaGreatDoor
