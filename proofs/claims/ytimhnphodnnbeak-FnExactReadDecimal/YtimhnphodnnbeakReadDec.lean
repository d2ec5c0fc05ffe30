/-
  spec.ReadDecimal and impl.ReadDecimal by one contract: the number and true where the text is one as Decimal writes it, at most 1000000000 ('okD'); else 0 and false.
-/
import Derived.Test.YtimhnphodnnbeakDec
import Derived.BigQuiet
import Derived.Deep.QuietTactic
namespace Go.Proofs.Ytimhnphodnnbeak
open Go.RowKit

set_option maxHeartbeats 2000000 in
set_option maxRecDepth 100000 in
theorem specReadDecimal_any (s : ByteArray) (hs : s.size ≤ 1048576) (w : World) :
    Calls Try.prog 10 #[.string s] w fun e w' => (okD s → e = .returned (.tuple #[.int .i64 (valD s s.size : Int), .bool true])) ∧ (¬ okD s → e = .returned (.tuple #[.int .i64 0, .bool false])) ∧ Below w.heap.size w w' := by
  by_cases h10 : 10 < s.size
  · have hno : ¬ okD s := fun h => by have := okD_small s h; omega
    have HN := hide hno
    clear hno
    go_enter Try.func10, Try.ntmps10
    go_wp2_with fail
    go_ret2
    exact ⟨fun h => absurd h HN.out, fun _ => rfl, Below.refl _ _⟩
  · go_enter Try.func10, Try.ntmps10
    go_wp2_with fail
    go_loopg [4, 5] s.size (fun g nv iv wr => ∃ k N : Nat, k ≤ s.size ∧ nv = .int .i64 (N : Int) ∧ iv = .int .i64 (k : Int) ∧ g + k = s.size ∧ N < 10000000000 ∧ Hid (N = valD s k) ∧ Hid (∀ i, i < k → isD (byt s i)) ∧ wr = w)
    case atStart => exact ⟨0, 0, Nat.zero_le _, rfl, rfl, rfl, by omega, hide rfl, hide (fun i h => by omega), rfl⟩
    case round =>
      obtain ⟨k, N, hk, rfl, rfl, hg, hN, HN, HD, rfl⟩ := hrel
      have HG := hide hg
      clear hg
      by_cases hlt : k < s.size
      · obtain ⟨y, hy⟩ : ∃ y, y = byt s k := ⟨_, rfl⟩
        have hyb : y < 256 := by rw [hy]; exact byt_lt s _
        have hs1 : s[k].toNat = y := by rw [hy]; exact byt_eq s _ hlt
        have HY := hide hy
        clear hy
        by_cases hd : 48 ≤ y ∧ y ≤ 57
        · obtain ⟨h1, h2⟩ := hd
          have HV : Hid (10 * N + (y - 48) = valD s (k + 1)) := hide (by rw [valD, ← HY.out, ← HN.out])
          have HD' : Hid (∀ i, i < k + 1 → isD (byt s i)) := hide (fun i hi => by by_cases e : i = k; (rw [e, ← HY.out]; exact ⟨h1, h2⟩); exact HD.out i (by omega))
          have hNew : 10 * N + (y - 48) < 10000000000 := by
            rw [HV.out]
            have a := valD_lt s (k + 1) HD'.out
            have b : 10 ^ (k + 1) ≤ 10 ^ 10 := Nat.pow_le_pow_right (by omega) (by omega)
            have c : (10 : Nat) ^ 10 = 10000000000 := by decide
            omega
          go_wp2_with fail
          go_roundg (gk - 1)
          case measure => have := HG.out; omega
          case rel => exact ⟨k + 1, 10 * N + (y - 48), by omega, by go_num, by go_num, by have := HG.out; omega, hNew, HV, HD', rfl⟩
        · have HNo : Hid (¬ okD s) := hide (fun h => hd (by have := h.2.1 k hlt; rw [← HY.out] at this; exact this))
          by_cases h1 : y < 48
          · clear hd
            go_wp2_with fail
            go_ret2
            exact ⟨fun h => absurd h HNo.out, fun _ => rfl, Below.refl _ _⟩
          · have h2 : 57 < y := by omega
            clear hd
            go_wp2_with fail
            go_ret2
            exact ⟨fun h => absurd h HNo.out, fun _ => rfl, Below.refl _ _⟩
      · have hkn : k = s.size := by omega
        rw [hkn] at HN HD
        clear hkn
        by_cases hbig : 1000000000 < N
        · have HNo : Hid (¬ okD s) := hide (fun h => by have := h.2.2.2; rw [← HN.out] at this; omega)
          go_wp2_with fail
          go_ret2
          exact ⟨fun h => absurd h HNo.out, fun _ => rfl, Below.refl _ _⟩
        · have HI := hide (decN_iff s (by omega) HD.out)
          rw [← HN.out] at HI
          have hng : decide ((1000000000 : Int) < (N : Int)) = false := by simp; omega
          go_wp2_with fail
          refine (specDecimal_nat N (by omega) _).mono ?_
          rintro e w2 ⟨rfl, hb2⟩
          go_wp2_with fail
          · have hne : (!decN N == s.toList) = true := by assumption
            have hno : ¬ okD s := fun h => by
              have := HI.out.2 ⟨h.1, h.2.2.1⟩
              rw [ByteArray.toList_eq, this] at hne
              simp at hne
            have HNo := hide hno
            clear hno
            go_ret2
            exact ⟨fun h => absurd h HNo.out, fun _ => rfl, hb2⟩
          · have hne : (!decN N == s.toList) = false := by assumption
            have hok : okD s := by
              rw [ByteArray.toList_eq] at hne
              have e : decN N = s.data.toList := by simpa using hne
              obtain ⟨a, b⟩ := HI.out.1 e
              exact ⟨a, HD.out, b, by rw [← HN.out]; omega⟩
            have HOk := hide hok
            clear hok
            go_ret2
            exact ⟨fun _ => by rw [← HN.out]; rfl, fun h => absurd HOk.out h, hb2⟩

set_option maxHeartbeats 2000000 in
set_option maxRecDepth 100000 in
theorem implReadDecimal_any (s : ByteArray) (hs : s.size ≤ 1048576) (w : World) :
    Calls Try.prog 11 #[.string s] w fun e w' => (okD s → e = .returned (.tuple #[.int .i64 (valD s s.size : Int), .bool true])) ∧ (¬ okD s → e = .returned (.tuple #[.int .i64 0, .bool false])) ∧ Below w.heap.size w w' := by
  by_cases h0 : s.size = 0
  · have hno : ¬ okD s := fun h => by have := h.1; omega
    have HN := hide hno
    have hemp : s.toList.isEmpty = true := by rw [ByteArray.toList_eq, List.isEmpty_iff, ← List.length_eq_zero_iff, len_data]; exact h0
    clear hno h0
    go_enter Try.func11, Try.ntmps11
    go_wp2
    go_step3
    go_wp2
    all_goals (try rw [Exit.noGoto_ret])
    go_ret2
    exact ⟨fun h => absurd h HN.out, fun _ => rfl, Below.refl _ _⟩
  · have hemp : s.toList.isEmpty = false := by
      rw [ByteArray.toList_eq, ← Bool.not_eq_true, List.isEmpty_iff, ← List.length_eq_zero_iff, len_data]; exact h0
    have H0 := hide h0
    clear h0
    by_cases hone : 1 < s.size
    · obtain ⟨y0, hy0⟩ : ∃ y, y = byt s 0 := ⟨_, rfl⟩
      have hs0 : (s[0]'(by omega)).toNat = y0 := by rw [hy0]; exact byt_eq s 0 (by omega)
      by_cases hz : y0 = 48
      · have hno : ¬ okD s := fun h => by have := h.2.2.1; omega
        have hzb : ((y0 : Int) == 48) = true := by simp; omega
        have HN := hide hno
        clear hno hz hy0
        go_enter Try.func11, Try.ntmps11
        go_wp2
        go_step3
        go_wp2
        all_goals (try rw [Exit.noGoto_ret])
        go_ret2
        exact ⟨fun h => absurd h HN.out, fun _ => rfl, Below.refl _ _⟩
      · have hzb : ((y0 : Int) == 48) = false := by simp; omega
        have HLead : Hid (s.size = 1 ∨ byt s 0 ≠ 48) := hide (Or.inr (by rw [← hy0]; exact hz))
        clear hz hy0
        go_enter Try.func11, Try.ntmps11
        go_wp2
        go_step3
        go_wp2
        go_step3
        go_wp2
        go_loopg [4, 5] s.size (fun g nv iv wr => ∃ k N : Nat, k ≤ s.size ∧ nv = .int .i64 (N : Int) ∧ iv = .int .i64 (k : Int) ∧ g + k = s.size ∧ N ≤ 1000000000 ∧ Hid (N = valD s k) ∧ Hid (∀ i, i < k → isD (byt s i)) ∧ wr = w)
        case atStart => exact ⟨0, 0, Nat.zero_le _, rfl, rfl, rfl, by omega, hide rfl, hide (fun i h => by omega), rfl⟩
        case round =>
          obtain ⟨k, N, hk, rfl, rfl, hg, hN, HN, HD, rfl⟩ := hrel
          have HG := hide hg
          clear hg
          by_cases hlt : k < s.size
          · obtain ⟨y, hy⟩ : ∃ y, y = byt s k := ⟨_, rfl⟩
            have hyb : y < 256 := by rw [hy]; exact byt_lt s _
            have hs1 : s[k].toNat = y := by rw [hy]; exact byt_eq s _ hlt
            have HY := hide hy
            clear hy
            by_cases hd : 48 ≤ y ∧ y ≤ 57
            · obtain ⟨h1, h2⟩ := hd
              have HV : Hid (10 * N + (y - 48) = valD s (k + 1)) := hide (by rw [valD, ← HY.out, ← HN.out])
              have HD' : Hid (∀ i, i < k + 1 → isD (byt s i)) := hide (fun i hi => by by_cases e : i = k; (rw [e, ← HY.out]; exact ⟨h1, h2⟩); exact HD.out i (by omega))
              by_cases hbig : 1000000000 < 10 * N + (y - 48)
              · have HNo : Hid (¬ okD s) := hide (fun h => by have a := h.2.2.2; have b := valD_mono s (k + 1) s.size (by omega); rw [← HV.out] at b; omega)
                go_wp2
                all_goals (try rw [Exit.noGoto_ret])
                all_goals go_ret2
                all_goals exact ⟨fun h => absurd h HNo.out, fun _ => rfl, Below.refl _ _⟩
              · go_wp2
                go_roundg (gk - 1)
                case measure => have := HG.out; omega
                case rel => exact ⟨k + 1, 10 * N + (y - 48), by omega, by go_num, by go_num, by have := HG.out; omega, by omega, HV, HD', rfl⟩
            · have HNo : Hid (¬ okD s) := hide (fun h => hd (by have := h.2.1 k hlt; rw [← HY.out] at this; exact this))
              by_cases h1 : y < 48
              · clear hd
                go_wp2
                all_goals (try rw [Exit.noGoto_ret])
                all_goals go_ret2
                all_goals exact ⟨fun h => absurd h HNo.out, fun _ => rfl, Below.refl _ _⟩
              · have h2 : 57 < y := by omega
                clear hd
                go_wp2
                all_goals (try rw [Exit.noGoto_ret])
                all_goals go_ret2
                all_goals exact ⟨fun h => absurd h HNo.out, fun _ => rfl, Below.refl _ _⟩
          · have hkn : k = s.size := by omega
            rw [hkn] at HN HD
            clear hkn
            have HOk : Hid (okD s) := hide ⟨by have := H0.out; omega, HD.out, HLead.out, by rw [← HN.out]; exact hN⟩
            go_wp2
            all_goals (try rw [Exit.noGoto_ret])
            all_goals go_ret2
            all_goals exact ⟨fun _ => by rw [← HN.out]; rfl, fun h => absurd HOk.out h, Below.refl _ _⟩
    · have HLead : Hid (s.size = 1 ∨ byt s 0 ≠ 48) := hide (Or.inl (by have := H0.out; omega))
      go_enter Try.func11, Try.ntmps11
      go_wp2
      go_step3
      go_wp2
      go_step3
      go_wp2
      go_loopg [4, 5] s.size (fun g nv iv wr => ∃ k N : Nat, k ≤ s.size ∧ nv = .int .i64 (N : Int) ∧ iv = .int .i64 (k : Int) ∧ g + k = s.size ∧ N ≤ 1000000000 ∧ Hid (N = valD s k) ∧ Hid (∀ i, i < k → isD (byt s i)) ∧ wr = w)
      case atStart => exact ⟨0, 0, Nat.zero_le _, rfl, rfl, rfl, by omega, hide rfl, hide (fun i h => by omega), rfl⟩
      case round =>
        obtain ⟨k, N, hk, rfl, rfl, hg, hN, HN, HD, rfl⟩ := hrel
        have HG := hide hg
        clear hg
        by_cases hlt : k < s.size
        · obtain ⟨y, hy⟩ : ∃ y, y = byt s k := ⟨_, rfl⟩
          have hyb : y < 256 := by rw [hy]; exact byt_lt s _
          have hs1 : s[k].toNat = y := by rw [hy]; exact byt_eq s _ hlt
          have HY := hide hy
          clear hy
          by_cases hd : 48 ≤ y ∧ y ≤ 57
          · obtain ⟨h1, h2⟩ := hd
            have HV : Hid (10 * N + (y - 48) = valD s (k + 1)) := hide (by rw [valD, ← HY.out, ← HN.out])
            have HD' : Hid (∀ i, i < k + 1 → isD (byt s i)) := hide (fun i hi => by by_cases e : i = k; (rw [e, ← HY.out]; exact ⟨h1, h2⟩); exact HD.out i (by omega))
            by_cases hbig : 1000000000 < 10 * N + (y - 48)
            · have HNo : Hid (¬ okD s) := hide (fun h => by have a := h.2.2.2; have b := valD_mono s (k + 1) s.size (by omega); rw [← HV.out] at b; omega)
              go_wp2
              all_goals (try rw [Exit.noGoto_ret])
              all_goals go_ret2
              all_goals exact ⟨fun h => absurd h HNo.out, fun _ => rfl, Below.refl _ _⟩
            · go_wp2
              go_roundg (gk - 1)
              case measure => have := HG.out; omega
              case rel => exact ⟨k + 1, 10 * N + (y - 48), by omega, by go_num, by go_num, by have := HG.out; omega, by omega, HV, HD', rfl⟩
          · have HNo : Hid (¬ okD s) := hide (fun h => hd (by have := h.2.1 k hlt; rw [← HY.out] at this; exact this))
            by_cases h1 : y < 48
            · clear hd
              go_wp2
              all_goals (try rw [Exit.noGoto_ret])
              all_goals go_ret2
              all_goals exact ⟨fun h => absurd h HNo.out, fun _ => rfl, Below.refl _ _⟩
            · have h2 : 57 < y := by omega
              clear hd
              go_wp2
              all_goals (try rw [Exit.noGoto_ret])
              all_goals go_ret2
              all_goals exact ⟨fun h => absurd h HNo.out, fun _ => rfl, Below.refl _ _⟩
        · have hkn : k = s.size := by omega
          rw [hkn] at HN HD
          clear hkn
          have HOk : Hid (okD s) := hide ⟨by have := H0.out; omega, HD.out, HLead.out, by rw [← HN.out]; exact hN⟩
          go_wp2
          all_goals (try rw [Exit.noGoto_ret])
          all_goals go_ret2
          all_goals exact ⟨fun _ => by rw [← HN.out]; rfl, fun h => absurd HOk.out h, Below.refl _ _⟩
end Go.Proofs.Ytimhnphodnnbeak
