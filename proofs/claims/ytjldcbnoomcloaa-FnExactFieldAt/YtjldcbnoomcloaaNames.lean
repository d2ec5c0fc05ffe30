/-
  The program's isLetter, isSign and isName by contracts: a text of so many signs of a kind.
-/
import Derived.Test.YtjldcbnoomcloaaThingSpec
namespace Go.Proofs.Ytjldcbnoomcloaa
open Go.RowKit

/-- a letter -/
def letB (y : Nat) : Bool := decide (97 ≤ y ∧ y ≤ 122)

/-- a letter or a figure -/
def sigB (y : Nat) : Bool := decide ((97 ≤ y ∧ y ≤ 122) ∨ (48 ≤ y ∧ y ≤ 57))

/-- a text of 1 to most signs of a kind -/
def nameB (p : Nat → Bool) (s : ByteArray) (most : Nat) : Bool := decide (∀ i, i < s.size → p (byt s i) = true) && decide (1 ≤ s.size ∧ s.size ≤ most)

theorem name_bad {p : Nat → Bool} {s : ByteArray} {most k : Nat} (hk : k < s.size) (h : p (byt s k) = false) : nameB p s most = false := by
  rw [nameB, decide_eq_false (fun hh => by have := hh k hk; rw [h] at this; cases this)]; rfl

theorem name_all {p : Nat → Bool} {s : ByteArray} {most : Nat} (h : ∀ i, i < s.size → p (byt s i) = true) : nameB p s most = decide (1 ≤ s.size ∧ s.size ≤ most) := by
  rw [nameB, decide_eq_true h]; rfl

theorem name_word (s : ByteArray) (most : Nat) : nameB letB s most = wordB s most := by
  simp [nameB, wordB, letB]

theorem isLetter_any (y : Nat) (hy : y < 256) (w : World) : Calls Try.prog 97 #[.int .u8 (y : Int)] w fun e w' => e = .returned (.bool (letB y)) ∧ w = w' := by
  by_cases h1 : 97 ≤ y
  · have d1 : decide ((97 : Int) ≤ (y : Int)) = true := by simp; omega
    by_cases h2 : y ≤ 122
    · have d2 : decide ((y : Int) ≤ 122) = true := by simp; omega
      have HO : Hid (letB y = true) := hide (by rw [letB, decide_eq_true ⟨h1, h2⟩])
      go_enter Try.func97, Try.ntmps97
      go_wp2
      go_ret
      rw [HO.out]
      exact ⟨rfl, rfl⟩
    · have d2 : decide ((y : Int) ≤ 122) = false := by simp; omega
      have HO : Hid (letB y = false) := hide (by rw [letB, decide_eq_false (fun h => h2 h.2)])
      go_enter Try.func97, Try.ntmps97
      go_wp2
      go_ret
      rw [HO.out]
      exact ⟨rfl, rfl⟩
  · have d1 : decide ((97 : Int) ≤ (y : Int)) = false := by simp; omega
    have HO : Hid (letB y = false) := hide (by rw [letB, decide_eq_false (fun h => h1 h.1)])
    go_enter Try.func97, Try.ntmps97
    go_wp2
    go_ret
    rw [HO.out]
    exact ⟨rfl, rfl⟩

theorem isSign_any (y : Nat) (hy : y < 256) (w : World) : Calls Try.prog 98 #[.int .u8 (y : Int)] w fun e w' => e = .returned (.bool (sigB y)) ∧ w = w' := by
  have HC := hide (isLetter_any y hy)
  by_cases h0 : letB y = true
  · rw [h0] at HC
    have HO : Hid (sigB y = true) := hide (by rw [letB, decide_eq_true_eq] at h0; rw [sigB, decide_eq_true (Or.inl h0)])
    clear h0
    go_enter Try.func98, Try.ntmps98
    go_wp2_with (go_at_call 97; refine (HC.out _).mono ?_; rintro e w1 ⟨rfl, rfl⟩)
    go_ret
    rw [HO.out]
    exact ⟨rfl, rfl⟩
  · have h0 : letB y = false := by simpa using h0
    rw [h0] at HC
    rw [letB, decide_eq_false_iff_not] at h0
    by_cases h1 : 48 ≤ y
    · have d1 : decide ((48 : Int) ≤ (y : Int)) = true := by simp; omega
      by_cases h2 : y ≤ 57
      · have d2 : decide ((y : Int) ≤ 57) = true := by simp; omega
        have HO : Hid (sigB y = true) := hide (by rw [sigB, decide_eq_true (Or.inr ⟨h1, h2⟩)])
        clear h0
        go_enter Try.func98, Try.ntmps98
        go_wp2_with (go_at_call 97; refine (HC.out _).mono ?_; rintro e w1 ⟨rfl, rfl⟩)
        go_ret
        rw [HO.out]
        exact ⟨rfl, rfl⟩
      · have d2 : decide ((y : Int) ≤ 57) = false := by simp; omega
        have HO : Hid (sigB y = false) := hide (by rw [sigB, decide_eq_false (by omega)])
        clear h0
        go_enter Try.func98, Try.ntmps98
        go_wp2_with (go_at_call 97; refine (HC.out _).mono ?_; rintro e w1 ⟨rfl, rfl⟩)
        go_ret
        rw [HO.out]
        exact ⟨rfl, rfl⟩
    · have d1 : decide ((48 : Int) ≤ (y : Int)) = false := by simp; omega
      have HO : Hid (sigB y = false) := hide (by rw [sigB, decide_eq_false (by omega)])
      clear h0
      go_enter Try.func98, Try.ntmps98
      go_wp2_with (go_at_call 97; refine (HC.out _).mono ?_; rintro e w1 ⟨rfl, rfl⟩)
      go_ret
      rw [HO.out]
      exact ⟨rfl, rfl⟩

set_option maxHeartbeats 1000000 in
set_option maxRecDepth 100000 in
theorem isName_letter (s : ByteArray) (hs : s.size ≤ 1048576) (most : Nat) (w : World) :
    Calls Try.prog 96 #[.string s, .int .i64 (most : Int), .func (.func 97) #[] #[]] w fun e w' => e = .returned (.bool (nameB letB s most)) ∧ w = w' := by
  by_cases h1 : s.size < 1
  · have HO : Hid (nameB letB s most = false) := hide (by rw [nameB, decide_eq_false (show ¬ (1 ≤ s.size ∧ s.size ≤ most) from by omega)]; simp)
    have d1 : decide ((s.size : Int) < 1) = true := by simp; omega
    go_enter Try.func96, Try.ntmps96
    go_wp2
    go_ret
    rw [HO.out]
    exact ⟨rfl, rfl⟩
  · have d1 : decide ((s.size : Int) < 1) = false := by simp; omega
    by_cases h2 : most < s.size
    · have HO : Hid (nameB letB s most = false) := hide (by rw [nameB, decide_eq_false (show ¬ (1 ≤ s.size ∧ s.size ≤ most) from by omega)]; simp)
      have d2 : decide ((most : Int) < (s.size : Int)) = true := by simp; omega
      go_enter Try.func96, Try.ntmps96
      go_wp2
      go_ret
      rw [HO.out]
      exact ⟨rfl, rfl⟩
    · have d2 : decide ((most : Int) < (s.size : Int)) = false := by simp; omega
      go_enter Try.func96, Try.ntmps96
      go_wp2
      clear d1 d2
      go_loopg [7] s.size (fun g iv wr => ∃ k : Nat, k ≤ s.size ∧ iv = .int .i64 (k : Int) ∧ g + k = s.size ∧ Hid (∀ i, i < k → letB (byt s i) = true) ∧ w = wr)
      case atStart => exact ⟨0, Nat.zero_le _, rfl, rfl, hide (fun i h => by omega), rfl⟩
      case round =>
        obtain ⟨k, hk, rfl, hg, HA, rfl⟩ := hrel
        have HG := hide hg
        clear hg
        by_cases hlt : k < s.size
        · obtain ⟨y, hy⟩ : ∃ y, y = byt s k := ⟨_, rfl⟩
          have hyb : y < 256 := by rw [hy]; exact byt_lt s _
          have hs1 : s[k].toNat = y := by rw [hy]; exact byt_eq s _ hlt
          have HY := hide hy
          have hk0 : (0 : Int) ≤ (k : Int) := by omega
          have hk1 : (k : Int) < (s.size : Int) := by omega
          have HC := hide (isLetter_any y hyb w)
          clear hy
          by_cases g1 : letB y = true
          · rw [g1] at HC
            have HA2 : Hid (∀ i, i < k + 1 → letB (byt s i) = true) := hide (fun i hi => by
              by_cases e : i = k
              · subst e; rw [← HY.out]; exact g1
              · exact HA.out i (by omega))
            clear g1
            go_wp2_with (go_at_call 97; refine HC.out.mono ?_; rintro e w1 ⟨rfl, rfl⟩)
            go_roundg (gk - 1)
            case measure => have := HG.out; omega
            case rel => exact ⟨k + 1, by omega, by go_num, by have := HG.out; omega, HA2, rfl⟩
          · have g1 : letB y = false := by simpa using g1
            rw [g1] at HC
            have HO : Hid (nameB letB s most = false) := hide (name_bad hlt (by rw [← HY.out]; exact g1))
            clear g1
            go_wp2_with (go_at_call 97; refine HC.out.mono ?_; rintro e w1 ⟨rfl, rfl⟩)
            go_ret
            rw [HO.out]
            exact ⟨rfl, rfl⟩
        · have HO : Hid (nameB letB s most = true) := hide (by rw [name_all (fun i hi => HA.out i (by omega)), decide_eq_true (by omega)])
          go_wp2
          go_ret
          rw [HO.out]
          exact ⟨rfl, rfl⟩

set_option maxHeartbeats 1000000 in
set_option maxRecDepth 100000 in
theorem isName_sign (s : ByteArray) (hs : s.size ≤ 1048576) (most : Nat) (w : World) :
    Calls Try.prog 96 #[.string s, .int .i64 (most : Int), .func (.func 98) #[] #[]] w fun e w' => e = .returned (.bool (nameB sigB s most)) ∧ w = w' := by
  by_cases h1 : s.size < 1
  · have HO : Hid (nameB sigB s most = false) := hide (by rw [nameB, decide_eq_false (show ¬ (1 ≤ s.size ∧ s.size ≤ most) from by omega)]; simp)
    have d1 : decide ((s.size : Int) < 1) = true := by simp; omega
    go_enter Try.func96, Try.ntmps96
    go_wp2
    go_ret
    rw [HO.out]
    exact ⟨rfl, rfl⟩
  · have d1 : decide ((s.size : Int) < 1) = false := by simp; omega
    by_cases h2 : most < s.size
    · have HO : Hid (nameB sigB s most = false) := hide (by rw [nameB, decide_eq_false (show ¬ (1 ≤ s.size ∧ s.size ≤ most) from by omega)]; simp)
      have d2 : decide ((most : Int) < (s.size : Int)) = true := by simp; omega
      go_enter Try.func96, Try.ntmps96
      go_wp2
      go_ret
      rw [HO.out]
      exact ⟨rfl, rfl⟩
    · have d2 : decide ((most : Int) < (s.size : Int)) = false := by simp; omega
      go_enter Try.func96, Try.ntmps96
      go_wp2
      clear d1 d2
      go_loopg [7] s.size (fun g iv wr => ∃ k : Nat, k ≤ s.size ∧ iv = .int .i64 (k : Int) ∧ g + k = s.size ∧ Hid (∀ i, i < k → sigB (byt s i) = true) ∧ w = wr)
      case atStart => exact ⟨0, Nat.zero_le _, rfl, rfl, hide (fun i h => by omega), rfl⟩
      case round =>
        obtain ⟨k, hk, rfl, hg, HA, rfl⟩ := hrel
        have HG := hide hg
        clear hg
        by_cases hlt : k < s.size
        · obtain ⟨y, hy⟩ : ∃ y, y = byt s k := ⟨_, rfl⟩
          have hyb : y < 256 := by rw [hy]; exact byt_lt s _
          have hs1 : s[k].toNat = y := by rw [hy]; exact byt_eq s _ hlt
          have HY := hide hy
          have hk0 : (0 : Int) ≤ (k : Int) := by omega
          have hk1 : (k : Int) < (s.size : Int) := by omega
          have HC := hide (isSign_any y hyb w)
          clear hy
          by_cases g1 : sigB y = true
          · rw [g1] at HC
            have HA2 : Hid (∀ i, i < k + 1 → sigB (byt s i) = true) := hide (fun i hi => by
              by_cases e : i = k
              · subst e; rw [← HY.out]; exact g1
              · exact HA.out i (by omega))
            clear g1
            go_wp2_with (go_at_call 98; refine HC.out.mono ?_; rintro e w1 ⟨rfl, rfl⟩)
            go_roundg (gk - 1)
            case measure => have := HG.out; omega
            case rel => exact ⟨k + 1, by omega, by go_num, by have := HG.out; omega, HA2, rfl⟩
          · have g1 : sigB y = false := by simpa using g1
            rw [g1] at HC
            have HO : Hid (nameB sigB s most = false) := hide (name_bad hlt (by rw [← HY.out]; exact g1))
            clear g1
            go_wp2_with (go_at_call 98; refine HC.out.mono ?_; rintro e w1 ⟨rfl, rfl⟩)
            go_ret
            rw [HO.out]
            exact ⟨rfl, rfl⟩
        · have HO : Hid (nameB sigB s most = true) := hide (by rw [name_all (fun i hi => HA.out i (by omega)), decide_eq_true (by omega)])
          go_wp2
          go_ret
          rw [HO.out]
          exact ⟨rfl, rfl⟩

end Go.Proofs.Ytjldcbnoomcloaa
