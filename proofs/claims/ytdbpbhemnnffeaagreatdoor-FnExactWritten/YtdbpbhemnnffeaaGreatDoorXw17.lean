/-
  Facts and contracts that the law's own text rests on, by their texts' names: Read, ReadSh, Cur, ImplReader, StepDie.
-/
import Derived.Deep.DeepFit
import Derived.Deep.DeepMust
import Derived.Deep.DrawnRows
import Derived.Deep.LoopGhost
import Derived.Deep.RegionHeld3
import Derived.Laws.Shifts
import Derived.WalkSmall
import Derived.WalkSpells
import Derived.Test.YtdbpbhemnnffeaaGreatDoorXw2
import Derived.Test.YtdbpbhemnnffeaaGreatDoorXw8
import Derived.Test.YtdbpbhemnnffeaaGreatDoorXw16
import Derived.Test.YtdbpbhemnnffeaaGreatDoorXw9
import Derived.Test.YtdbpbhemnnffeaaGreatDoorXw3
import Derived.Defers
import Derived.Recover
import Derived.RegionDies
import Derived.WalkLawsBesides
import Derived.Lib.Hide
namespace Go.Proofs.YtdbpbhemnnffeaaGreatDoor
open Go.RowKit
attribute [local go_sem ↓] Go.wp_at_zero Go.wp_at_succ
def rvOut (at_ : Nat) : Option (Nat × Nat) → Value
  | some (n, c) => .tuple #[.int .i64 n, .int .i64 ((at_ + c : Nat) : Int), .bool true]
  | none => .tuple #[.int .i64 0, .int .i64 0, .bool false]
theorem rv_way_yes {N X j p : Nat} {s : ByteArray} {b : Nat → Nat} (hA : N + X = accN b (j + 1)) (hE : (s.extract p (p + (j + 1))).data.toList = bytesTo b (j + 1))
    (h : (!vtext ((N : Int) + (X : Int)).toNat == (s.extract p (p + (j + 1))).toList) = false) : vtext (accN b (j + 1)) = bytesTo b (j + 1) := by
  rw [show ((N : Int) + (X : Int)).toNat = N + X from by omega, hA, ByteArray.toList_eq, hE] at h
  simpa using h
theorem rv_way_no {N X j p : Nat} {s : ByteArray} {b : Nat → Nat} (hA : N + X = accN b (j + 1)) (hE : (s.extract p (p + (j + 1))).data.toList = bytesTo b (j + 1))
    (h : (!vtext ((N : Int) + (X : Int)).toNat == (s.extract p (p + (j + 1))).toList) = true) : ¬ vtext (accN b (j + 1)) = bytesTo b (j + 1) := by
  rw [show ((N : Int) + (X : Int)).toNat = N + X from by omega, hA, ByteArray.toList_eq, hE] at h
  simpa using h
set_option maxHeartbeats 2000000 in
set_option maxRecDepth 100000 in
theorem implReadVar_in (s : ByteArray) (p : Nat) (hs : s.size ≤ 1048576) (hp : p ≤ s.size) (w : World) :
    Calls Tryz.prog 116 #[.string s, .int .i64 p] w fun e w' => e = .returned (rvOut p (rvGo (fun i => byt s (p + i)) (s.size - p) 5 0)) ∧ w' = w := by
  obtain ⟨b, hb⟩ : ∃ b : Nat → Nat, b = fun i => byt s (p + i) := ⟨_, rfl⟩
  rw [← hb]
  have hb0 : ∀ i, b i < 256 := fun i => by rw [hb]; exact byt_lt _ _
  have hbs : ∀ i (h : p + i < s.size), s[p + i].toNat = b i := fun i h => by rw [hb]; exact byt_eq _ _ h
  have HB := hide hbs
  have HB0 := hide hb0
  clear hb hbs hb0
  have hq1 : decide ((p : Int) < 0) = false := by simp
  have hq2 : decide (s.size < p) = false := by simp; omega
  go_enter Tryz.func116, Tryz.ntmps116
  go_wp2
  go_loopg [7, 8] 5 (fun g nv uv wr => ∃ j N : Nat, j ≤ 5 ∧ p + j ≤ s.size ∧ nv = .int .i64 N ∧ uv = .int .i64 j ∧ g + j = 5 ∧ Hid (N = accN b j) ∧ Hid (rvGo b (s.size - p) (5 - j) j = rvGo b (s.size - p) 5 0) ∧ wr = w)
  case atStart => exact ⟨0, 0, by omega, by omega, rfl, rfl, rfl, hide rfl, hide rfl, rfl⟩
  case round =>
    obtain ⟨j, N, hj, hpj, rfl, rfl, hg, HN, HR, rfl⟩ := hrel
    have HG := hide hg
    clear hg
    by_cases h5 : j < 5
    · by_cases hlt : p + j < s.size
      · have hN : N < 128 ^ j := by rw [HN.out]; exact accN_lt b j
        have hN5 : N < 34359738368 := Nat.lt_of_lt_of_le hN (by have : 128 ^ j ≤ 128 ^ 5 := Nat.pow_le_pow_right (by omega) (by omega); simpa using this)
        obtain ⟨y, hy⟩ : ∃ y, y = b j := ⟨_, rfl⟩
        have hbj : y < 256 := by rw [hy]; exact HB0.out j
        have hsj : s[p + j].toNat = y := by rw [hy]; exact HB.out j hlt
        obtain ⟨X, hX⟩ : ∃ X, X = y % 128 * 128 ^ j := ⟨_, rfl⟩
        have hXb : X ≤ 34091302912 := by rw [hX]; exact digit_le y j h5
        have hw := digit_wrap y j X h5 hX
        have HX := hide hX
        have HY := hide hy
        have HA : Hid (N + X = accN b (j + 1)) := hide (by rw [accN, ← hy, ← hX, ← HN.out])
        clear hX hy hN
        by_cases hc : 128 ≤ y
        · go_wp2
          go_roundg (gk - 1)
          case measure => have := HG.out; omega
          case rel => exact ⟨j + 1, N + X, by omega, by omega, by go_num, by go_num, by have := HG.out; omega, HA, hide (by rw [rvGo_next b _ j h5 (by omega) (by rw [← HY.out]; exact hc)]; exact HR.out), rfl⟩
        · have HY' : Hid (b j < 128) := hide (by rw [← HY.out]; omega)
          by_cases hz : y = 0
          · have hzb : ((y : Int) == 0) = true := by simp [hz]
            have HZ : Hid (b j = 0) := hide (by rw [← HY.out]; exact hz)
            have HX0 : Hid (X = 0) := hide (by rw [HX.out, hz]; simp)
            clear hz
            by_cases hj0 : 0 < j
            · have HM := hide (rvGo_miss b (s.size - p) j h5 (by omega) HY'.out (by have := HZ.out; omega))
              go_wp2
              go_ret3
              refine ⟨?_, rfl⟩
              rw [← HR.out, HM.out]; rfl
            · have HM := hide (rvGo_hit b (s.size - p) j h5 (by omega) HY'.out (by have := HA.out; have := HX0.out; have := HN.out; have : j = 0 := (by omega); subst this; simp [accN, HZ.out]) (by omega))
              have hsum : N + X ≤ 1000000000 := by
                have hj' : j = 0 := by omega
                have := HX0.out; have h2 := HN.out; rw [hj'] at h2; simp [accN] at h2; omega
              go_wp2
              go_ret3
              refine ⟨?_, rfl⟩
              rw [← HR.out, HM.out, ← HA.out]
              simp [rvOut]; omega
          · have hzb : ((y : Int) == 0) = false := by simp; omega
            have HZ : Hid (b j ≠ 0) := hide (by rw [← HY.out]; exact hz)
            clear hz
            by_cases hsum : N + X ≤ 1000000000
            · have HM := hide (rvGo_hit b (s.size - p) j h5 (by omega) HY'.out (by rw [← HA.out]; exact hsum) (Or.inl HZ.out))
              go_wp2
              go_ret3
              refine ⟨?_, rfl⟩
              rw [← HR.out, HM.out, ← HA.out]
              simp [rvOut]; omega
            · have HM := hide (rvGo_miss b (s.size - p) j h5 (by omega) HY'.out (by rw [← HA.out]; omega))
              go_wp2
              go_ret3
              refine ⟨?_, rfl⟩
              rw [← HR.out, HM.out]; rfl
      · have HM := hide (rvGo_end b (s.size - p) j (by omega))
        go_wp2
        go_ret3
        refine ⟨?_, rfl⟩
        rw [← HR.out, HM.out]; rfl
    · have HM := hide (rvGo_end b (s.size - p) j (by omega))
      go_wp2
      go_ret3
      refine ⟨?_, rfl⟩
      rw [← HR.out, HM.out]; rfl
set_option maxHeartbeats 2000000 in
set_option maxRecDepth 100000 in
theorem specReadVar_in (s : ByteArray) (p : Nat) (hs : s.size ≤ 1048576) (hp : p ≤ s.size) (w : World) :
    Calls Tryz.prog 93 #[.string s, .int .i64 p] w fun e w' => e = .returned (rvOut p (rvGo (fun i => byt s (p + i)) (s.size - p) 5 0)) ∧ Below w.heap.size w w' := by
  obtain ⟨b, hb⟩ : ∃ b : Nat → Nat, b = fun i => byt s (p + i) := ⟨_, rfl⟩
  rw [← hb]
  have hb0 : ∀ i, b i < 256 := fun i => by rw [hb]; exact byt_lt _ _
  have hbs : ∀ i (h : p + i < s.size), s[p + i].toNat = b i := fun i h => by rw [hb]; exact byt_eq _ _ h
  have HE : Hid (∀ n, p + n ≤ s.size → (s.extract p (p + n)).data.toList = bytesTo b n) := hide (fun n h => by rw [hb]; exact extract_bytes s p n h)
  have HB := hide hbs
  have HB0 := hide hb0
  clear hb hbs hb0
  go_enter Tryz.func93, Tryz.ntmps93
  go_wp2_with fail
  refine (l01In_yes p 0 s.size _ (by omega) (by omega)).mono ?_
  rintro e w1 ⟨rfl, rfl⟩
  go_wp2_with fail
  go_loopg [7, 8, 9] 5 (fun g nv sv iv wr => ∃ j N Z : Nat, j ≤ 5 ∧ p + j ≤ s.size ∧ nv = .int .i64 N ∧ sv = .int .i64 Z ∧ iv = .int .i64 ((p + j : Nat) : Int) ∧ g + j = 5 ∧ Hid (N = accN b j) ∧ Hid (Z = 128 ^ j) ∧ Hid (∀ i, i < j → 128 ≤ b i) ∧ Hid (rvGo b (s.size - p) (5 - j) j = rvGo b (s.size - p) 5 0) ∧ wr = w)
  case atStart => exact ⟨0, 0, 1, by omega, by omega, rfl, rfl, rfl, rfl, hide rfl, hide rfl, hide (fun i h => by omega), hide rfl, rfl⟩
  case round =>
    obtain ⟨j, N, Z, hj, hpj, rfl, rfl, rfl, hg, HN, HZ, HI, HR, rfl⟩ := hrel
    have HG := hide hg
    clear hg
    have hZ5 : Z ≤ 34359738368 := by rw [HZ.out]; exact pow_le5 j hj
    by_cases h5 : j < 5
    · by_cases hlt : p + j < s.size
      · have hN5 : N < 34359738368 := by rw [HN.out]; exact Nat.lt_of_lt_of_le (accN_lt b j) (pow_le5 j hj)
        obtain ⟨y, hy⟩ : ∃ y, y = b j := ⟨_, rfl⟩
        have hbj : y < 256 := by rw [hy]; exact HB0.out j
        have hsj : s[p + j].toNat = y := by rw [hy]; exact HB.out j hlt
        obtain ⟨X, hX⟩ : ∃ X, X = y % 128 * 128 ^ j := ⟨_, rfl⟩
        have hXb : X ≤ 34091302912 := by rw [hX]; exact digit_le y j h5
        have hw := digit_wrap2 y j X Z h5 hX HZ.out
        have HX := hide hX
        have HY := hide hy
        have HA : Hid (N + X = accN b (j + 1)) := hide (by rw [accN, ← hy, ← hX, ← HN.out])
        clear hX hy
        by_cases hc : 128 ≤ y
        · go_wp2_with fail
          go_roundg (gk - 1)
          case measure => have := HG.out; omega
          case rel => exact ⟨j + 1, N + X, Z * 128, by omega, by omega, by go_num, by go_num, by go_num, by have := HG.out; omega, HA, hide (by rw [HZ.out, Nat.pow_succ]), hide (fun i hi => by by_cases e : i = j; (rw [e, ← HY.out]; exact hc); (exact HI.out i (by omega))), hide (by rw [rvGo_next b _ j h5 (by omega) (by rw [← HY.out]; exact hc)]; exact HR.out), rfl⟩
        · have HY' : Hid (b j < 128) := hide (by rw [← HY.out]; omega)
          by_cases hsum : N + X ≤ 1000000000
          · have HV := hide (vtext_iff j b (by omega) HB0.out HI.out HY'.out)
            have HE' := hide (HE.out (j + 1) (by omega))
            have hng : decide ((1000000000 : Int) < (N : Int) + (X : Int)) = false := by simp; omega
            go_wp2_with fail
            clear hw hsj
            have hb1 : (0 : Int) ≤ (p : Int) := by omega
            have hb2 : (p : Int) ≤ (p : Int) + (j : Int) + 1 := by omega
            have hb3 : (p : Int) + (j : Int) + 1 ≤ (s.size : Int) := by omega
            have hwr : IntKind.i64.wrap ((p : Int) + (j : Int) + 1) = (p : Int) + (j : Int) + 1 := IntWalk.i64_in _ ⟨by omega, by omega⟩
            have hsl : ∀ wx : World, (Instr.slice 9 (.string s) (some (.int .i64 (p : Int))) (some (.int .i64 ((p : Int) + (j : Int) + 1))) none).run Tryz.prog wx = .ok (.string (s.extract p (p + (j + 1)))) wx := fun wx => by
              have := run_slice_string (P := Tryz.prog) wx 9 s .i64 .i64 (p : Int) ((p : Int) + (j : Int) + 1) Tryz.underlying9 hb1 hb2 hb3
              rw [this, show ((p : Int) + (j : Int) + 1).toNat = p + (j + 1) from by omega, Int.toNat_natCast]
            go_region_held3 (fun _ => True) (trivial) ((go_at_call 106; refine (l01Var_any ((N : Int) + (X : Int)) (by omega) (by omega) _).mono ?_; rintro e w2 ⟨rfl, hbw⟩))
            go_wp2_with fail
            · have hne : (!vtext ((N : Int) + (X : Int)).toNat == (s.extract p (p + (j + 1))).toList) = true := by assumption
              go_ret3
              refine ⟨?_, ?_⟩
              · rw [← HR.out, rvGo_miss b _ j h5 (by omega) HY'.out (fun hok => rv_way_no HA.out HE'.out hne (HV.out.2 hok.2))]; rfl
              · exact ((Below.refl _ _).drew).trans hbw
            · have hne : (!vtext ((N : Int) + (X : Int)).toNat == (s.extract p (p + (j + 1))).toList) = false := by assumption
              go_ret3
              refine ⟨?_, ?_⟩
              · rw [← HR.out, rvGo_hit b _ j h5 (by omega) HY'.out (by rw [← HA.out]; exact hsum) (HV.out.1 (rv_way_yes HA.out HE'.out hne)), ← HA.out]
                simp [rvOut]; omega
              · exact ((Below.refl _ _).drew).trans hbw
          · have HM := hide (rvGo_miss b (s.size - p) j h5 (by omega) HY'.out (by rw [← HA.out]; omega))
            have hgt : (1000000000 : Int) < (N : Int) + (X : Int) := by omega
            have hgd : decide ((1000000000 : Int) < (N : Int) + (X : Int)) = true := by simp; omega
            go_wp2_with fail
            go_quiet (fail)
            go_wp2_with fail
            go_ret3
            refine ⟨?_, below_drewN (Below.refl _ _) _⟩
            rw [← HR.out, HM.out]; rfl
      · have HM := hide (rvGo_end b (s.size - p) j (by omega))
        go_wp2_with fail
        go_ret3
        refine ⟨?_, Below.refl _ _⟩
        rw [← HR.out, HM.out]; rfl
    · have HM := hide (rvGo_end b (s.size - p) j (by omega))
      go_wp2_with fail
      all_goals (try go_ret3)
      all_goals refine ⟨?_, Below.refl _ _⟩
      all_goals (rw [← HR.out, HM.out]; rfl)
set_option maxHeartbeats 400000 in
theorem implReadVar_out (s : ByteArray) (p : Int) (_hs : s.size ≤ 1048576) (hp : p < 0 ∨ (s.size : Int) < p) (w : World) :
    Calls Tryz.prog 116 #[.string s, .int .i64 p] w fun e w' => e = .returned (.tuple #[.int .i64 0, .int .i64 0, .bool false]) ∧ w = w' := by
  by_cases h1 : p < 0
  · go_enter Tryz.func116, Tryz.ntmps116
    go_wp2
    go_ret3
    exact ⟨rfl, rfl⟩
  · have h2 : (s.size : Int) < p := by omega
    have h3 : 0 ≤ p := by omega
    clear hp h1
    go_enter Tryz.func116, Tryz.ntmps116
    go_wp2
    go_ret3
    exact ⟨rfl, rfl⟩
set_option maxHeartbeats 400000 in
theorem specReadVar_out (s : ByteArray) (p : Int) (_hs : s.size ≤ 1048576) (hp : p < 0 ∨ (s.size : Int) < p) (w : World) :
    Calls Tryz.prog 93 #[.string s, .int .i64 p] w fun e w' => e = .returned (.tuple #[.int .i64 0, .int .i64 0, .bool false]) ∧ w = w' := by
  go_enter Tryz.func93, Tryz.ntmps93
  go_wp2_with fail
  refine (l01In_no p 0 s.size _ hp).mono ?_
  rintro e w1 ⟨rfl, rfl⟩
  go_wp2_with fail
  go_ret3
  exact ⟨rfl, rfl⟩
open Go.RowKit
theorem rvGo_some (b : Nat → Nat) (len n c : Nat) : ∀ (f j : Nat), rvGo b len f j = some (n, c) → c ≤ len ∧ n ≤ 1000000000
  | 0, j, h => by simp [rvGo] at h
  | f + 1, j, h => by
    rw [rvGo] at h
    split at h
    · split at h
      · split at h
        · rename_i h1 _ h2
          simp at h
          omega
        · cases h
      · exact rvGo_some b len n c f (j + 1) h
    · cases h
def shOut (s : ByteArray) (p : Nat) : Option (Nat × Nat) → Value
  | some (n, c) => if n ≤ 20000 ∧ n ≤ s.size - (p + c) then .tuple #[.string (s.extract (p + c) (p + c + n)), .int .i64 ((p + c + n : Nat) : Int), .bool true] else .tuple #[.string ⟨#[]⟩, .int .i64 0, .bool false]
  | none => .tuple #[.string ⟨#[]⟩, .int .i64 0, .bool false]
set_option maxHeartbeats 1000000 in
theorem specReadShort_in (s : ByteArray) (p : Nat) (hs : s.size ≤ 1048576) (hp : p ≤ s.size) (w : World) :
    Calls Tryz.prog 94 #[.string s, .int .i64 p] w fun e w' => e = .returned (shOut s p (rvGo (fun i => byt s (p + i)) (s.size - p) 5 0)) ∧ Below w.heap.size w w' := by
  obtain ⟨o, ho⟩ : ∃ o, o = rvGo (fun i => byt s (p + i)) (s.size - p) 5 0 := ⟨_, rfl⟩
  have hcon := specReadVar_in s p hs hp
  rw [← ho] at hcon ⊢
  have HC := hide hcon
  clear hcon
  cases o with
  | none =>
    clear ho
    go_enter Tryz.func94, Tryz.ntmps94
    go_wp2_with fail
    refine (HC.out _).mono ?_
    rintro e w1 ⟨rfl, hb1⟩
    rw [rvOut]
    go_wp2_with fail
    go_ret3
    exact ⟨rfl, hb1⟩
  | some x =>
    obtain ⟨n, c⟩ := x
    obtain ⟨hc, hn⟩ := rvGo_some _ _ _ _ _ _ ho.symm
    clear ho
    by_cases h1 : 20000 < n
    · go_enter Tryz.func94, Tryz.ntmps94
      go_wp2_with fail
      refine (HC.out _).mono ?_
      rintro e w1 ⟨rfl, hb1⟩
      rw [rvOut]
      go_wp2_with fail
      go_ret3
      refine ⟨?_, hb1⟩
      rw [shOut, if_neg (by omega)]; rfl
    · by_cases h2 : n ≤ s.size - (p + c)
      · have hsl : ∀ wx : World, (Instr.slice 9 (.string s) (some (.int .i64 ((p : Int) + (c : Int)))) (some (.int .i64 ((p : Int) + (c : Int) + (n : Int)))) none).run Tryz.prog wx = .ok (.string (s.extract (p + c) (p + c + n))) wx := fun wx => by
          have := run_slice_string (P := Tryz.prog) wx 9 s .i64 .i64 ((p : Int) + (c : Int)) ((p : Int) + (c : Int) + (n : Int)) Tryz.underlying9 (by omega) (by omega) (by omega)
          rw [this, show ((p : Int) + (c : Int)).toNat = p + c from by omega, show ((p : Int) + (c : Int) + (n : Int)).toNat = p + c + n from by omega]
        go_enter Tryz.func94, Tryz.ntmps94
        go_wp2_with fail
        refine (HC.out _).mono ?_
        rintro e w1 ⟨rfl, hb1⟩
        rw [rvOut]
        go_wp2_with fail
        go_ret3
        refine ⟨?_, hb1⟩
        rw [shOut, if_pos (by omega)]; simp
      · go_enter Tryz.func94, Tryz.ntmps94
        go_wp2_with fail
        refine (HC.out _).mono ?_
        rintro e w1 ⟨rfl, hb1⟩
        rw [rvOut]
        go_wp2_with fail
        go_ret3
        refine ⟨?_, hb1⟩
        rw [shOut, if_neg (by omega)]; rfl
set_option maxHeartbeats 1000000 in
theorem implReadShort_in (s : ByteArray) (p : Nat) (hs : s.size ≤ 1048576) (hp : p ≤ s.size) (w : World) :
    Calls Tryz.prog 117 #[.string s, .int .i64 p] w fun e w' => e = .returned (shOut s p (rvGo (fun i => byt s (p + i)) (s.size - p) 5 0)) ∧ Below w.heap.size w w' := by
  obtain ⟨o, ho⟩ : ∃ o, o = rvGo (fun i => byt s (p + i)) (s.size - p) 5 0 := ⟨_, rfl⟩
  have hcon := implReadVar_in s p hs hp
  rw [← ho] at hcon ⊢
  have HC := hide hcon
  clear hcon
  cases o with
  | none =>
    clear ho
    go_enter Tryz.func117, Tryz.ntmps117
    go_wp2_with fail
    refine (HC.out _).mono ?_
    rintro e w1 ⟨rfl, hw1⟩
    have hb1 : Below w.heap.size w w1 := by rw [hw1]; exact Below.refl _ _
    clear hw1
    rw [rvOut]
    go_wp2_with fail
    go_ret3
    exact ⟨rfl, hb1⟩
  | some x =>
    obtain ⟨n, c⟩ := x
    obtain ⟨hc, hn⟩ := rvGo_some _ _ _ _ _ _ ho.symm
    clear ho
    by_cases h1 : 20000 < n
    · go_enter Tryz.func117, Tryz.ntmps117
      go_wp2_with fail
      refine (HC.out _).mono ?_
      rintro e w1 ⟨rfl, hw1⟩
      have hb1 : Below w.heap.size w w1 := by rw [hw1]; exact Below.refl _ _
      clear hw1
      rw [rvOut]
      go_wp2_with fail
      go_ret3
      refine ⟨?_, hb1⟩
      rw [shOut, if_neg (by omega)]; rfl
    · by_cases h2 : n ≤ s.size - (p + c)
      · have hsl : ∀ wx : World, (Instr.slice 9 (.string s) (some (.int .i64 ((p : Int) + (c : Int)))) (some (.int .i64 ((p : Int) + (c : Int) + (n : Int)))) none).run Tryz.prog wx = .ok (.string (s.extract (p + c) (p + c + n))) wx := fun wx => by
          have := run_slice_string (P := Tryz.prog) wx 9 s .i64 .i64 ((p : Int) + (c : Int)) ((p : Int) + (c : Int) + (n : Int)) Tryz.underlying9 (by omega) (by omega) (by omega)
          rw [this, show ((p : Int) + (c : Int)).toNat = p + c from by omega, show ((p : Int) + (c : Int) + (n : Int)).toNat = p + c + n from by omega]
        go_enter Tryz.func117, Tryz.ntmps117
        go_wp2_with fail
        refine (HC.out _).mono ?_
        rintro e w1 ⟨rfl, hw1⟩
        have hb1 : Below w.heap.size w w1 := by rw [hw1]; exact Below.refl _ _
        clear hw1
        rw [rvOut]
        go_wp2_with fail
        refine (clone_any _ (by simp; omega) _).mono ?_
        rintro e w2 ⟨rfl, hb2⟩
        go_wp2_with fail
        go_ret3
        refine ⟨?_, hb1.trans (hb2.mono hb1.size)⟩
        rw [shOut, if_pos (by omega)]; simp
      · go_enter Tryz.func117, Tryz.ntmps117
        go_wp2_with fail
        refine (HC.out _).mono ?_
        rintro e w1 ⟨rfl, hw1⟩
        have hb1 : Below w.heap.size w w1 := by rw [hw1]; exact Below.refl _ _
        clear hw1
        rw [rvOut]
        go_wp2_with fail
        go_ret3
        refine ⟨?_, hb1⟩
        rw [shOut, if_neg (by omega)]; rfl
set_option maxHeartbeats 400000 in
theorem specReadShort_out (s : ByteArray) (p : Int) (hs : s.size ≤ 1048576) (hp : p < 0 ∨ (s.size : Int) < p) (w : World) :
    Calls Tryz.prog 94 #[.string s, .int .i64 p] w fun e w' => e = .returned (.tuple #[.string ⟨#[]⟩, .int .i64 0, .bool false]) ∧ w = w' := by
  go_enter Tryz.func94, Tryz.ntmps94
  go_wp2_with fail
  refine (specReadVar_out s p hs hp _).mono ?_
  rintro e w1 ⟨rfl, rfl⟩
  go_wp2_with fail
  go_ret3
  exact ⟨rfl, rfl⟩
set_option maxHeartbeats 400000 in
theorem implReadShort_out (s : ByteArray) (p : Int) (hs : s.size ≤ 1048576) (hp : p < 0 ∨ (s.size : Int) < p) (w : World) :
    Calls Tryz.prog 117 #[.string s, .int .i64 p] w fun e w' => e = .returned (.tuple #[.string ⟨#[]⟩, .int .i64 0, .bool false]) ∧ w = w' := by
  go_enter Tryz.func117, Tryz.ntmps117
  go_wp2_with fail
  refine (implReadVar_out s p hs hp _).mono ?_
  rintro e w1 ⟨rfl, rfl⟩
  go_wp2_with fail
  go_ret3
  exact ⟨rfl, rfl⟩
open Go.RowKit
def tupS : Option (ByteArray × Nat) → Value
  | some (x, q) => .tuple #[.string x, .int .i64 (q : Int), .bool true]
  | none => .tuple #[.string ⟨#[]⟩, .int .i64 0, .bool false]
def tupV : Option (Nat × Nat) → Value
  | some (n, q) => .tuple #[.int .i64 (n : Int), .int .i64 (q : Int), .bool true]
  | none => .tuple #[.int .i64 0, .int .i64 0, .bool false]
theorem rvOut_rd (t : ByteArray) (p : Nat) : rvOut p (rvGo (fun i => byt t (p + i)) (t.size - p) 5 0) = tupV (rdV t p) := by
  rw [rdV]
  cases rvGo (fun i => byt t (p + i)) (t.size - p) 5 0 with
  | none => rfl
  | some x => obtain ⟨n, c⟩ := x; simp [rvOut, tupV]
theorem shOut_rd (t : ByteArray) (p : Nat) : shOut t p (rvGo (fun i => byt t (p + i)) (t.size - p) 5 0) = tupS (rdS t p) := by
  rw [rdS, rdV]
  cases rvGo (fun i => byt t (p + i)) (t.size - p) 5 0 with
  | none => rfl
  | some x =>
    obtain ⟨n, c⟩ := x
    simp only [shOut, Option.map_some, Option.bind_some]
    split
    · simp [tupS]
    · rfl
theorem specReadVar_rd (t : ByteArray) (ht : t.size ≤ 1048576) (p : Nat) (w : World) :
    Calls Tryz.prog 93 #[.string t, .int .i64 (p : Int)] w fun e w' => e = .returned (tupV (rdV t p)) ∧ Below w.heap.size w w' := by
  by_cases h : p ≤ t.size
  · have := specReadVar_in t p ht h w
    rw [rvOut_rd] at this
    exact this
  · rw [rdV_past (by omega)]
    exact (specReadVar_out t p ht (by omega) w).mono (fun e w' ⟨h1, h2⟩ => ⟨h1, by rw [← h2]; exact Below.refl _ _⟩)
theorem implReadVar_rd (t : ByteArray) (ht : t.size ≤ 1048576) (p : Nat) (w : World) :
    Calls Tryz.prog 116 #[.string t, .int .i64 (p : Int)] w fun e w' => e = .returned (tupV (rdV t p)) ∧ Below w.heap.size w w' := by
  by_cases h : p ≤ t.size
  · have := implReadVar_in t p ht h w
    rw [rvOut_rd] at this
    exact this.mono (fun e w' ⟨h1, h2⟩ => ⟨h1, by rw [← h2]; exact Below.refl _ _⟩)
  · rw [rdV_past (by omega)]
    exact (implReadVar_out t p ht (by omega) w).mono (fun e w' ⟨h1, h2⟩ => ⟨h1, by rw [← h2]; exact Below.refl _ _⟩)
theorem specReadShort_rd (t : ByteArray) (ht : t.size ≤ 1048576) (p : Nat) (w : World) :
    Calls Tryz.prog 94 #[.string t, .int .i64 (p : Int)] w fun e w' => e = .returned (tupS (rdS t p)) ∧ Below w.heap.size w w' := by
  by_cases h : p ≤ t.size
  · have := specReadShort_in t p ht h w
    rw [shOut_rd] at this
    exact this
  · rw [rdS_past (by omega)]
    exact (specReadShort_out t p ht (by omega) w).mono (fun e w' ⟨h1, h2⟩ => ⟨h1, by rw [← h2]; exact Below.refl _ _⟩)
theorem implReadShort_rd (t : ByteArray) (ht : t.size ≤ 1048576) (p : Nat) (w : World) :
    Calls Tryz.prog 117 #[.string t, .int .i64 (p : Int)] w fun e w' => e = .returned (tupS (rdS t p)) ∧ Below w.heap.size w w' := by
  by_cases h : p ≤ t.size
  · have := implReadShort_in t p ht h w
    rw [shOut_rd] at this
    exact this
  · rw [rdS_past (by omega)]
    exact (implReadShort_out t p ht (by omega) w).mono (fun e w' ⟨h1, h2⟩ => ⟨h1, by rw [← h2]; exact Below.refl _ _⟩)
def CurT (w : World) (g : Nat) (t : ByteArray) (p : Nat) (bad : Bool) : Prop := w.heap[g]? = some (.cells #[.string t, .int .i64 (p : Int), .bool bad] 161 (0, 0))
theorem curT_lt {w : World} {g p : Nat} {t : ByteArray} {bad : Bool} (h : CurT w g t p bad) : g < w.heap.size := (Array.getElem?_eq_some_iff.1 h).1
theorem grown_of_below {w w' : World} (h : Below w.heap.size w w') (r : Option Nat) : w.grownBy w' r := ⟨h.os, h.tape, h.output, h.size, fun k hk _ => h.block k hk⟩
set_option maxHeartbeats 1000000 in
set_option maxRecDepth 100000 in
theorem l04ReadShort_good (g : Nat) (t : ByteArray) (ht : t.size ≤ 1048576) (p : Nat) (x : ByteArray) (q : Nat) (ho : rdS t p = some (x, q)) (w : World) (hc : CurT w g t p false) :
    Calls Tryz.prog 84 #[.pointer (some ⟨g, 0, none⟩)] w fun e w' => e = .returned (.string x) ∧ CurT w' g t q false ∧ w.grownBy w' (some g) := by
  have HC := hide (specReadShort_rd t ht p)
  rw [ho, tupS] at HC
  have hgl := curT_lt hc
  have HCu := hide hc
  have c0 : w.cell? ⟨g, 0, none⟩ = some (.string t) := (cell_at hc 0).1
  have c1 : w.cell? ⟨g, 1, none⟩ = some (.int .i64 (p : Int)) := (cell_at hc 1).1
  clear hc ho
  go_enter Tryz.func84, Tryz.ntmps84
  go_wp2_with fail
  go_region_held3 (fun wx => wx.cell? ⟨g, 0, none⟩ = some (.string t) ∧ wx.cell? ⟨g, 1, none⟩ = some (.int .i64 (p : Int))) (first | exact ⟨c0, c1⟩ | exact hS2) ((go_at_call 94; refine (HC.out _).mono ?_; rintro e w2 ⟨rfl, hb2⟩; have hS2 : w2.cell? ⟨g, 0, none⟩ = some (.string t) ∧ w2.cell? ⟨g, 1, none⟩ = some (.int .i64 (p : Int)) := ⟨(hb2.cell (by exact hgl)).trans c0, (hb2.cell (by exact hgl)).trans c1⟩))
  have hbw : Below w.heap.size w w2 := (Below.refl _ _).drew.trans hb2
  have hcur : CurT w2 g t p false := (hbw.block _ hgl).trans HCu.out
  have HGr : Hid (w.grownBy w2 (some g)) := hide (grown_of_below hbw _)
  have HC2 := hide hcur
  have e2 : w2.cell? ⟨g, 2, none⟩ = some (.bool false) := (cell_at hcur 2).1
  have f1 := (cell_at hcur 1).2
  clear hb2 hS2 c0 c1 hbw hcur
  go_wp2_with fail
  go_ret
  exact ⟨rfl, heap_setCell_same w2 g 1 _ _ _ HC2.out, grown_trans HGr.out (grown_setCell _ g 1 _)⟩
set_option maxHeartbeats 1000000 in
set_option maxRecDepth 100000 in
theorem l04ReadShort_bad (g : Nat) (t : ByteArray) (ht : t.size ≤ 1048576) (p : Nat) (bad : Bool) (ho : bad = true ∨ rdS t p = none) (w : World) (hc : CurT w g t p bad) :
    Calls Tryz.prog 84 #[.pointer (some ⟨g, 0, none⟩)] w fun e w' => e = .returned (.string ⟨#[]⟩) ∧ CurT w' g t p true ∧ w.grownBy w' (some g) := by
  have HC := hide (specReadShort_rd t ht p)
  have hgl := curT_lt hc
  have HCu := hide hc
  have c0 : w.cell? ⟨g, 0, none⟩ = some (.string t) := (cell_at hc 0).1
  have c1 : w.cell? ⟨g, 1, none⟩ = some (.int .i64 (p : Int)) := (cell_at hc 1).1
  obtain ⟨r1, r2, r3, hr⟩ : ∃ r1 r2 r3, tupS (rdS t p) = .tuple #[r1, r2, .bool r3] ∧ (bad = true ∨ r3 = false) := by
    rcases ho with h | h
    · cases rdS t p with
      | none => exact ⟨_, _, _, rfl, Or.inl h⟩
      | some x => exact ⟨_, _, _, rfl, Or.inl h⟩
    · rw [h]; exact ⟨_, _, _, rfl, Or.inr rfl⟩
  rw [hr.1] at HC
  obtain ⟨-, hr⟩ := hr
  clear hc ho
  go_enter Tryz.func84, Tryz.ntmps84
  go_wp2_with fail
  go_region_held3 (fun wx => wx.cell? ⟨g, 0, none⟩ = some (.string t) ∧ wx.cell? ⟨g, 1, none⟩ = some (.int .i64 (p : Int))) (first | exact ⟨c0, c1⟩ | exact hS2) ((go_at_call 94; refine (HC.out _).mono ?_; rintro e w2 ⟨rfl, hb2⟩; have hS2 : w2.cell? ⟨g, 0, none⟩ = some (.string t) ∧ w2.cell? ⟨g, 1, none⟩ = some (.int .i64 (p : Int)) := ⟨(hb2.cell (by exact hgl)).trans c0, (hb2.cell (by exact hgl)).trans c1⟩))
  have hbw : Below w.heap.size w w2 := (Below.refl _ _).drew.trans hb2
  have hcur : CurT w2 g t p bad := (hbw.block _ hgl).trans HCu.out
  have HGr : Hid (w.grownBy w2 (some g)) := hide (grown_of_below hbw _)
  have HC2 := hide hcur
  have e2 : w2.cell? ⟨g, 2, none⟩ = some (.bool bad) := (cell_at hcur 2).1
  have f2 := (cell_at hcur 2).2
  clear hb2 hS2 c0 c1 hbw hcur
  cases bad with
  | true =>
    go_wp2_with fail
    go_ret
    exact ⟨rfl, heap_setCell_same w2 g 2 _ _ _ HC2.out, grown_trans HGr.out (grown_setCell _ g 2 _)⟩
  | false =>
    obtain rfl : r3 = false := by rcases hr with h | h; cases h; exact h
    go_wp2_with fail
    go_ret
    exact ⟨rfl, heap_setCell_same w2 g 2 _ _ _ HC2.out, grown_trans HGr.out (grown_setCell _ g 2 _)⟩
set_option maxHeartbeats 1000000 in
set_option maxRecDepth 100000 in
theorem l04Var_good (g : Nat) (t : ByteArray) (ht : t.size ≤ 1048576) (p : Nat) (x : Nat) (q : Nat) (ho : rdV t p = some (x, q)) (w : World) (hc : CurT w g t p false) :
    Calls Tryz.prog 83 #[.pointer (some ⟨g, 0, none⟩)] w fun e w' => e = .returned (.int .i64 (x : Int)) ∧ CurT w' g t q false ∧ w.grownBy w' (some g) := by
  have HC := hide (specReadVar_rd t ht p)
  rw [ho, tupV] at HC
  have hgl := curT_lt hc
  have HCu := hide hc
  have c0 : w.cell? ⟨g, 0, none⟩ = some (.string t) := (cell_at hc 0).1
  have c1 : w.cell? ⟨g, 1, none⟩ = some (.int .i64 (p : Int)) := (cell_at hc 1).1
  clear hc ho
  go_enter Tryz.func83, Tryz.ntmps83
  go_wp2_with fail
  go_region_held3 (fun wx => wx.cell? ⟨g, 0, none⟩ = some (.string t) ∧ wx.cell? ⟨g, 1, none⟩ = some (.int .i64 (p : Int))) (first | exact ⟨c0, c1⟩ | exact hS2) ((go_at_call 93; refine (HC.out _).mono ?_; rintro e w2 ⟨rfl, hb2⟩; have hS2 : w2.cell? ⟨g, 0, none⟩ = some (.string t) ∧ w2.cell? ⟨g, 1, none⟩ = some (.int .i64 (p : Int)) := ⟨(hb2.cell (by exact hgl)).trans c0, (hb2.cell (by exact hgl)).trans c1⟩))
  have hbw : Below w.heap.size w w2 := (Below.refl _ _).drew.trans hb2
  have hcur : CurT w2 g t p false := (hbw.block _ hgl).trans HCu.out
  have HGr : Hid (w.grownBy w2 (some g)) := hide (grown_of_below hbw _)
  have HC2 := hide hcur
  have e2 : w2.cell? ⟨g, 2, none⟩ = some (.bool false) := (cell_at hcur 2).1
  have f1 := (cell_at hcur 1).2
  clear hb2 hS2 c0 c1 hbw hcur
  go_wp2_with fail
  go_ret
  exact ⟨rfl, heap_setCell_same w2 g 1 _ _ _ HC2.out, grown_trans HGr.out (grown_setCell _ g 1 _)⟩
set_option maxHeartbeats 1000000 in
set_option maxRecDepth 100000 in
theorem l04Var_bad (g : Nat) (t : ByteArray) (ht : t.size ≤ 1048576) (p : Nat) (bad : Bool) (ho : bad = true ∨ rdV t p = none) (w : World) (hc : CurT w g t p bad) :
    Calls Tryz.prog 83 #[.pointer (some ⟨g, 0, none⟩)] w fun e w' => e = .returned (.int .i64 0) ∧ CurT w' g t p true ∧ w.grownBy w' (some g) := by
  have HC := hide (specReadVar_rd t ht p)
  have hgl := curT_lt hc
  have HCu := hide hc
  have c0 : w.cell? ⟨g, 0, none⟩ = some (.string t) := (cell_at hc 0).1
  have c1 : w.cell? ⟨g, 1, none⟩ = some (.int .i64 (p : Int)) := (cell_at hc 1).1
  obtain ⟨r1, r2, r3, hr⟩ : ∃ r1 r2 r3, tupV (rdV t p) = .tuple #[r1, r2, .bool r3] ∧ (bad = true ∨ r3 = false) := by
    rcases ho with h | h
    · cases rdV t p with
      | none => exact ⟨_, _, _, rfl, Or.inl h⟩
      | some x => exact ⟨_, _, _, rfl, Or.inl h⟩
    · rw [h]; exact ⟨_, _, _, rfl, Or.inr rfl⟩
  rw [hr.1] at HC
  obtain ⟨-, hr⟩ := hr
  clear hc ho
  go_enter Tryz.func83, Tryz.ntmps83
  go_wp2_with fail
  go_region_held3 (fun wx => wx.cell? ⟨g, 0, none⟩ = some (.string t) ∧ wx.cell? ⟨g, 1, none⟩ = some (.int .i64 (p : Int))) (first | exact ⟨c0, c1⟩ | exact hS2) ((go_at_call 93; refine (HC.out _).mono ?_; rintro e w2 ⟨rfl, hb2⟩; have hS2 : w2.cell? ⟨g, 0, none⟩ = some (.string t) ∧ w2.cell? ⟨g, 1, none⟩ = some (.int .i64 (p : Int)) := ⟨(hb2.cell (by exact hgl)).trans c0, (hb2.cell (by exact hgl)).trans c1⟩))
  have hbw : Below w.heap.size w w2 := (Below.refl _ _).drew.trans hb2
  have hcur : CurT w2 g t p bad := (hbw.block _ hgl).trans HCu.out
  have HGr : Hid (w.grownBy w2 (some g)) := hide (grown_of_below hbw _)
  have HC2 := hide hcur
  have e2 : w2.cell? ⟨g, 2, none⟩ = some (.bool bad) := (cell_at hcur 2).1
  have f2 := (cell_at hcur 2).2
  clear hb2 hS2 c0 c1 hbw hcur
  cases bad with
  | true =>
    go_wp2_with fail
    go_ret
    exact ⟨rfl, heap_setCell_same w2 g 2 _ _ _ HC2.out, grown_trans HGr.out (grown_setCell _ g 2 _)⟩
  | false =>
    obtain rfl : r3 = false := by rcases hr with h | h; cases h; exact h
    go_wp2_with fail
    go_ret
    exact ⟨rfl, heap_setCell_same w2 g 2 _ _ _ HC2.out, grown_trans HGr.out (grown_setCell _ g 2 _)⟩
open Go.RowKit
def RdT (w : World) (g : Nat) (t : ByteArray) (p : Nat) : Prop := w.heap[g]? = some (.cells #[.string t, .int .i64 (p : Int)] 180 (0, 0))
theorem rdT_lt {w : World} {g p : Nat} {t : ByteArray} (h : RdT w g t p) : g < w.heap.size := (Array.getElem?_eq_some_iff.1 h).1
def misread : List PanicEntry := [{ v := .iface 193 (.agg #[]), recovered := false }]
theorem must_yes (g : Nat) (w : World) : Calls Tryz.prog 100 #[.pointer (some ⟨g, 0, none⟩), .bool true] w fun e w' => e = .returned (.tuple #[]) ∧ w = w' := by
  go_enter Tryz.func100, Tryz.ntmps100
  go_wp2_with fail
  go_end0
  exact ⟨rfl, rfl⟩
theorem must_no (g : Nat) (w : World) : Calls Tryz.prog 100 #[.pointer (some ⟨g, 0, none⟩), .bool false] w fun e w' => e = .panicked misread ∧ w = w' := by
  go_enter Tryz.func100, Tryz.ntmps100
  go_wp2_with fail
  exact ⟨rfl, rfl, rfl⟩
set_option maxHeartbeats 1000000 in
set_option maxRecDepth 100000 in
theorem number_good (g : Nat) (t : ByteArray) (ht : t.size ≤ 1048576) (p : Nat) (x : Nat) (q : Nat) (ho : rdV t p = some (x, q)) (w : World) (hc : RdT w g t p) :
    Calls Tryz.prog 111 #[.pointer (some ⟨g, 0, none⟩)] w fun e w' => e = .returned (.int .i64 (x : Int)) ∧ RdT w' g t q ∧ w.grownBy w' (some g) := by
  have HC := hide (implReadVar_rd t ht p)
  rw [ho, tupV] at HC
  have hgl := rdT_lt hc
  have HCu := hide hc
  have c0 : w.cell? ⟨g, 0, none⟩ = some (.string t) := (cell_at hc 0).1
  have c1 : w.cell? ⟨g, 1, none⟩ = some (.int .i64 (p : Int)) := (cell_at hc 1).1
  clear hc ho
  go_enter Tryz.func111, Tryz.ntmps111
  go_wp2_with fail
  go_region_held3 (fun wx => wx.cell? ⟨g, 0, none⟩ = some (.string t) ∧ wx.cell? ⟨g, 1, none⟩ = some (.int .i64 (p : Int))) (first | exact ⟨c0, c1⟩ | exact hS2) ((go_at_call 116; refine (HC.out _).mono ?_; rintro e w2 ⟨rfl, hb2⟩; have hS2 : w2.cell? ⟨g, 0, none⟩ = some (.string t) ∧ w2.cell? ⟨g, 1, none⟩ = some (.int .i64 (p : Int)) := ⟨(hb2.cell (by exact hgl)).trans c0, (hb2.cell (by exact hgl)).trans c1⟩))
  have hbw : Below w.heap.size w w2 := (Below.refl _ _).drew.trans hb2
  have hcur : RdT w2 g t p := (hbw.block _ hgl).trans HCu.out
  have HGr : Hid (w.grownBy w2 (some g)) := hide (grown_of_below hbw _)
  have HC2 := hide hcur
  have f1 := (cell_at hcur 1).2
  have e1 : w2.cell? ⟨g, 1, none⟩ = some (.int .i64 (p : Int)) := (cell_at hcur 1).1
  clear hb2 hS2 c0 c1 hbw hcur
  go_wp2_with fail
  refine (must_yes g _).mono ?_
  rintro e w3 ⟨rfl, rfl⟩
  go_wp2_with fail
  go_ret
  exact ⟨rfl, heap_setCell_same w2 g 1 _ _ _ HC2.out, grown_trans HGr.out (grown_setCell _ g 1 _)⟩
set_option maxHeartbeats 1000000 in
set_option maxRecDepth 100000 in
theorem number_bad (g : Nat) (t : ByteArray) (ht : t.size ≤ 1048576) (p : Nat) (ho : rdV t p = none) (w : World) (hc : RdT w g t p) :
    Calls Tryz.prog 111 #[.pointer (some ⟨g, 0, none⟩)] w fun e w' => e = .panicked misread ∧ w.grownBy w' (some g) := by
  have HC := hide (implReadVar_rd t ht p)
  rw [ho, tupV] at HC
  have hgl := rdT_lt hc
  have c0 : w.cell? ⟨g, 0, none⟩ = some (.string t) := (cell_at hc 0).1
  have c1 : w.cell? ⟨g, 1, none⟩ = some (.int .i64 (p : Int)) := (cell_at hc 1).1
  clear hc ho
  go_enter Tryz.func111, Tryz.ntmps111
  go_wp2_with fail
  go_region_held3 (fun wx => wx.cell? ⟨g, 0, none⟩ = some (.string t) ∧ wx.cell? ⟨g, 1, none⟩ = some (.int .i64 (p : Int))) (first | exact ⟨c0, c1⟩ | exact hS2) ((go_at_call 116; refine (HC.out _).mono ?_; rintro e w2 ⟨rfl, hb2⟩; have hS2 : w2.cell? ⟨g, 0, none⟩ = some (.string t) ∧ w2.cell? ⟨g, 1, none⟩ = some (.int .i64 (p : Int)) := ⟨(hb2.cell (by exact hgl)).trans c0, (hb2.cell (by exact hgl)).trans c1⟩))
  have hbw : Below w.heap.size w w2 := (Below.refl _ _).drew.trans hb2
  have HGr : Hid (w.grownBy w2 (some g)) := hide (grown_of_below hbw _)
  clear hb2 hS2 c0 c1 hbw
  go_wp2_with fail
  refine (must_no g _).mono ?_
  rintro e w3 ⟨rfl, rfl⟩
  exact ⟨rfl, rfl, HGr.out⟩
set_option maxHeartbeats 1000000 in
set_option maxRecDepth 100000 in
theorem short_good (g : Nat) (t : ByteArray) (ht : t.size ≤ 1048576) (p : Nat) (x : ByteArray) (q : Nat) (ho : rdS t p = some (x, q)) (w : World) (hc : RdT w g t p) :
    Calls Tryz.prog 112 #[.pointer (some ⟨g, 0, none⟩)] w fun e w' => e = .returned (.string x) ∧ RdT w' g t q ∧ w.grownBy w' (some g) := by
  have HC := hide (implReadShort_rd t ht p)
  rw [ho, tupS] at HC
  have hgl := rdT_lt hc
  have HCu := hide hc
  have c0 : w.cell? ⟨g, 0, none⟩ = some (.string t) := (cell_at hc 0).1
  have c1 : w.cell? ⟨g, 1, none⟩ = some (.int .i64 (p : Int)) := (cell_at hc 1).1
  clear hc ho
  go_enter Tryz.func112, Tryz.ntmps112
  go_wp2_with fail
  go_region_held3 (fun wx => wx.cell? ⟨g, 0, none⟩ = some (.string t) ∧ wx.cell? ⟨g, 1, none⟩ = some (.int .i64 (p : Int))) (first | exact ⟨c0, c1⟩ | exact hS2) ((go_at_call 117; refine (HC.out _).mono ?_; rintro e w2 ⟨rfl, hb2⟩; have hS2 : w2.cell? ⟨g, 0, none⟩ = some (.string t) ∧ w2.cell? ⟨g, 1, none⟩ = some (.int .i64 (p : Int)) := ⟨(hb2.cell (by exact hgl)).trans c0, (hb2.cell (by exact hgl)).trans c1⟩))
  have hbw : Below w.heap.size w w2 := (Below.refl _ _).drew.trans hb2
  have hcur : RdT w2 g t p := (hbw.block _ hgl).trans HCu.out
  have HGr : Hid (w.grownBy w2 (some g)) := hide (grown_of_below hbw _)
  have HC2 := hide hcur
  have f1 := (cell_at hcur 1).2
  have e1 : w2.cell? ⟨g, 1, none⟩ = some (.int .i64 (p : Int)) := (cell_at hcur 1).1
  clear hb2 hS2 c0 c1 hbw hcur
  go_wp2_with fail
  refine (must_yes g _).mono ?_
  rintro e w3 ⟨rfl, rfl⟩
  go_wp2_with fail
  go_ret
  exact ⟨rfl, heap_setCell_same w2 g 1 _ _ _ HC2.out, grown_trans HGr.out (grown_setCell _ g 1 _)⟩
set_option maxHeartbeats 1000000 in
set_option maxRecDepth 100000 in
theorem short_bad (g : Nat) (t : ByteArray) (ht : t.size ≤ 1048576) (p : Nat) (ho : rdS t p = none) (w : World) (hc : RdT w g t p) :
    Calls Tryz.prog 112 #[.pointer (some ⟨g, 0, none⟩)] w fun e w' => e = .panicked misread ∧ w.grownBy w' (some g) := by
  have HC := hide (implReadShort_rd t ht p)
  rw [ho, tupS] at HC
  have hgl := rdT_lt hc
  have c0 : w.cell? ⟨g, 0, none⟩ = some (.string t) := (cell_at hc 0).1
  have c1 : w.cell? ⟨g, 1, none⟩ = some (.int .i64 (p : Int)) := (cell_at hc 1).1
  clear hc ho
  go_enter Tryz.func112, Tryz.ntmps112
  go_wp2_with fail
  go_region_held3 (fun wx => wx.cell? ⟨g, 0, none⟩ = some (.string t) ∧ wx.cell? ⟨g, 1, none⟩ = some (.int .i64 (p : Int))) (first | exact ⟨c0, c1⟩ | exact hS2) ((go_at_call 117; refine (HC.out _).mono ?_; rintro e w2 ⟨rfl, hb2⟩; have hS2 : w2.cell? ⟨g, 0, none⟩ = some (.string t) ∧ w2.cell? ⟨g, 1, none⟩ = some (.int .i64 (p : Int)) := ⟨(hb2.cell (by exact hgl)).trans c0, (hb2.cell (by exact hgl)).trans c1⟩))
  have hbw : Below w.heap.size w w2 := (Below.refl _ _).drew.trans hb2
  have HGr : Hid (w.grownBy w2 (some g)) := hide (grown_of_below hbw _)
  clear hb2 hS2 c0 c1 hbw
  go_wp2_with fail
  refine (must_no g _).mono ?_
  rintro e w3 ⟨rfl, rfl⟩
  exact ⟨rfl, rfl, HGr.out⟩
set_option maxHeartbeats 1000000 in
set_option maxRecDepth 100000 in
theorem mark_good (g : Nat) (t : ByteArray) (ht : t.size ≤ 1048576) (h0 : 0 < t.size) (w : World) (hc : RdT w g t 0) :
    Calls Tryz.prog 110 #[.pointer (some ⟨g, 0, none⟩)] w fun e w' => e = .returned (.int .u8 (byt t 0 : Int)) ∧ RdT w' g t 1 ∧ w.grownBy w' (some g) := by
  have hgl := rdT_lt hc
  have HCu := hide hc
  have c0 : w.cell? ⟨g, 0, none⟩ = some (.string t) := (cell_at hc 0).1
  have c1 : w.cell? ⟨g, 1, none⟩ = some (.int .i64 0) := (cell_at hc 1).1
  have f1 := (cell_at hc 1).2
  have d1 : decide ((0 : Int) < (t.size : Int)) = true := decide_eq_true (by omega)
  obtain ⟨y, hy⟩ : ∃ y, y = byt t 0 := ⟨_, rfl⟩
  have hyb : y < 256 := by rw [hy]; exact byt_lt t _
  have hs1 : t[0].toNat = y := by rw [hy]; exact byt_eq t _ h0
  rw [← hy]
  clear hc hy
  go_enter Tryz.func110, Tryz.ntmps110
  go_wp2_with fail
  go_region_held3 (fun wx => wx.cell? ⟨g, 0, none⟩ = some (.string t) ∧ wx.cell? ⟨g, 1, none⟩ = some (.int .i64 0)) (first | exact ⟨c0, c1⟩ | exact hS2) ((go_at_call 100; refine (must_yes g _).mono ?_; rintro e w2 ⟨rfl, hb2⟩; have hS2 : w2.cell? ⟨g, 0, none⟩ = some (.string t) ∧ w2.cell? ⟨g, 1, none⟩ = some (.int .i64 0) := by rw [← hb2]; exact ⟨c0, c1⟩))
  have hcur : RdT w2 g t 0 := by rw [← hb2]; exact HCu.out
  have HGr : Hid (w.grownBy w2 (some g)) := hide (by rw [← hb2]; exact grown_of_below (Below.refl _ _).drew _)
  have HC2 := hide hcur
  have f1' := (cell_at hcur 1).2
  have e1 : w2.cell? ⟨g, 1, none⟩ = some (.int .i64 0) := (cell_at hcur 1).1
  have e0 : w2.cell? ⟨g, 0, none⟩ = some (.string t) := (cell_at hcur 0).1
  clear hb2 hS2 c0 c1 hcur f1
  have hp1 : (0 : Int) < (t.size : Int) := by omega
  go_wp2_with fail
  go_quiet (fail)
  go_wp2_with fail
  go_ret
  exact ⟨rfl, heap_setCell_same w2 g 1 _ _ _ HC2.out, grown_trans HGr.out (grown_trans (grown_setCell _ g 1 _) (grown_of_below (below_drewN (Below.refl _ _) _) _))⟩
set_option maxHeartbeats 1000000 in
set_option maxRecDepth 100000 in
theorem mark_bad (g : Nat) (t : ByteArray) (h0 : t.size = 0) (w : World) (hc : RdT w g t 0) :
    Calls Tryz.prog 110 #[.pointer (some ⟨g, 0, none⟩)] w fun e w' => e = .panicked misread ∧ w.grownBy w' (some g) := by
  have c0 : w.cell? ⟨g, 0, none⟩ = some (.string t) := (cell_at hc 0).1
  have c1 : w.cell? ⟨g, 1, none⟩ = some (.int .i64 0) := (cell_at hc 1).1
  have d1 : decide ((0 : Int) < (t.size : Int)) = false := decide_eq_false (by omega)
  clear hc
  go_enter Tryz.func110, Tryz.ntmps110
  go_wp2_with fail
  go_region_dies
  all_goals
    refine (must_no g _).mono ?_
    rintro e w3 ⟨rfl, rfl⟩
    exact ⟨rfl, rfl, grown_of_below (Below.refl _ _).drew _⟩
open Go.RowKit
theorem step_call1w {P : Program} (w : World) {ops : Array Oper} {o : Oper} {a : Act} {K : Act → World → Prop} {Q : Exit → Act → World → Prop} {E : Prop} (hw : Region.wanted o (yielded ops a.tmps) = true) (f : FuncId) (fn : Func) (hfn : P.funcs[f]? = some fn) (hname : ¬ fn.name = "runtime.NumGoroutine") (hbody : ¬ fn.body = none) (s : Operand) (ts : Array TypeId)
    (ho : o.op = .call { callee := .value (.func f), args := #[s], argTypes := ts }) (u : Value) (hs : a.eval s = u)
    (R : Ending → World → Prop) (hc : Calls P f #[u] w R) (hR : ∀ e w', R e w' → ∃ r, e = .returned r ∧ K (a.put o.dst r) w') :
    if Region.wanted o (yielded ops a.tmps) = true then Oper.wp P o a w K Q else E := by
  rw [if_pos hw]
  unfold Oper.wp execOp
  have hf : a.eval (.func f) = .func (.func f) #[] #[] := rfl
  simp only [ho, resolve, invoke, hf, Deferred.ofValue, callFunc, Sem.run_bind, Sem.run_pure, Result.andThen_ok, List.map_toArray, List.map_cons, List.map_nil, hs]
  simp [go_sem, hfn, hname, hbody]
  refine hc.mono ?_
  intro e w' h
  obtain ⟨r, rfl, hk⟩ := hR e w' h
  exact hk
theorem step_call2_die {P : Program} (w : World) {ops : Array Oper} {o : Oper} {a : Act} {K : Act → World → Prop} {Q : Exit → Act → World → Prop} {E : Prop} (hgd : o.guard = none) (f : FuncId) (fn : Func) (hfn : P.funcs[f]? = some fn) (hname : ¬ fn.name = "runtime.NumGoroutine") (hbody : ¬ fn.body = none) (s x : Operand) (ts : Array TypeId)
    (ho : o.op = .call { callee := .value (.func f), args := #[s, x], argTypes := ts }) (u v : Value) (hs : a.eval s = u) (hx : a.eval x = v)
    (R : Ending → World → Prop) (hc : Calls P f #[u, v] w R) (hR : ∀ e w', R e w' → ∃ ch, e = .panicked ch ∧ Q (.panic ch) a w') (_hk : Hid False → K (a.put o.dst undef) w) :
    if Region.wanted o (yielded ops a.tmps) = true then Oper.wp P o a w K Q else E := by
  have hw : Region.wanted o (yielded ops a.tmps) = true := by simp [Region.wanted, hgd]
  rw [if_pos hw]
  unfold Oper.wp execOp
  have hf : a.eval (.func f) = .func (.func f) #[] #[] := rfl
  simp only [ho, resolve, invoke, hf, Deferred.ofValue, callFunc, Sem.run_bind, Sem.run_pure, Result.andThen_ok, List.map_toArray, List.map_cons, List.map_nil, hs, hx]
  simp [go_sem, hfn, hname, hbody]
  refine hc.mono ?_
  intro e w' h
  obtain ⟨ch, rfl, hk⟩ := hR e w' h
  exact hk
end Go.Proofs.YtdbpbhemnnffeaaGreatDoor
