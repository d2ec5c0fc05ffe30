/-
  spec.ReadDecimal and impl.ReadDecimal by one contract: the number and true where the text is one as Decimal writes it, at most 1000000000 ('okD'); else 0 and false.
-/
import Derived.Test.YtimhnphodnnbeaaDoorDec
import Derived.BigQuiet
import Derived.Deep.QuietTactic
namespace Go.Proofs.YtimhnphodnnbeaaDoor
open Go.RowKit

set_option maxHeartbeats 2000000 in
set_option maxRecDepth 100000 in
theorem implReadDecimal_any (s : ByteArray) (hs : s.size ≤ 1048576) (w : World) :
    Calls Tryd.prog 8 #[.string s] w fun e w' => (okD s → e = .returned (.tuple #[.int .i64 (valD s s.size : Int), .bool true])) ∧ (¬ okD s → e = .returned (.tuple #[.int .i64 0, .bool false])) ∧ Below w.heap.size w w' := by
  by_cases h0 : s.size = 0
  · have hno : ¬ okD s := fun h => by have := h.1; omega
    have HN := hide hno
    have hemp : s.toList.isEmpty = true := by rw [ByteArray.toList_eq, List.isEmpty_iff, ← List.length_eq_zero_iff, len_data]; exact h0
    clear hno h0
    go_enter Tryd.func8, Tryd.ntmps8
    go_wp2
    go_step3
    go_wp2
    all_goals (try rw [Exit.noGoto_ret])
    go_ret2
    exact ⟨fun h => absurd h HN.out, fun _ => rfl, Below.refl _ _⟩
  · have hemp : s.toList.isEmpty = false := by
      rw [ByteArray.toList_eq, ← Bool.not_eq_true, List.isEmpty_iff, ← List.length_eq_zero_iff, len_data]; exact h0
    have H0 := hide h0
    clear h0
    by_cases hone : 1 < s.size
    · obtain ⟨y0, hy0⟩ : ∃ y, y = byt s 0 := ⟨_, rfl⟩
      have hs0 : (s[0]'(by omega)).toNat = y0 := by rw [hy0]; exact byt_eq s 0 (by omega)
      by_cases hz : y0 = 48
      · have hno : ¬ okD s := fun h => by have := h.2.2.1; omega
        have hzb : ((y0 : Int) == 48) = true := by simp; omega
        have HN := hide hno
        clear hno hz hy0
        go_enter Tryd.func8, Tryd.ntmps8
        go_wp2
        go_step3
        go_wp2
        all_goals (try rw [Exit.noGoto_ret])
        go_ret2
        exact ⟨fun h => absurd h HN.out, fun _ => rfl, Below.refl _ _⟩
      · have hzb : ((y0 : Int) == 48) = false := by simp; omega
        have HLead : Hid (s.size = 1 ∨ byt s 0 ≠ 48) := hide (Or.inr (by rw [← hy0]; exact hz))
        clear hz hy0
        go_enter Tryd.func8, Tryd.ntmps8
        go_wp2
        go_step3
        go_wp2
        go_step3
        go_wp2
        go_loopg [4, 5] s.size (fun g nv iv wr => ∃ k N : Nat, k ≤ s.size ∧ nv = .int .i64 (N : Int) ∧ iv = .int .i64 (k : Int) ∧ g + k = s.size ∧ N ≤ 1000000000 ∧ Hid (N = valD s k) ∧ Hid (∀ i, i < k → isD (byt s i)) ∧ wr = w)
        case atStart => exact ⟨0, 0, Nat.zero_le _, rfl, rfl, rfl, by omega, hide rfl, hide (fun i h => by omega), rfl⟩
        case round =>
          obtain ⟨k, N, hk, rfl, rfl, hg, hN, HN, HD, rfl⟩ := hrel
          have HG := hide hg
          clear hg
          by_cases hlt : k < s.size
          · obtain ⟨y, hy⟩ : ∃ y, y = byt s k := ⟨_, rfl⟩
            have hyb : y < 256 := by rw [hy]; exact byt_lt s _
            have hs1 : s[k].toNat = y := by rw [hy]; exact byt_eq s _ hlt
            have HY := hide hy
            clear hy
            by_cases hd : 48 ≤ y ∧ y ≤ 57
            · obtain ⟨h1, h2⟩ := hd
              have HV : Hid (10 * N + (y - 48) = valD s (k + 1)) := hide (by rw [valD, ← HY.out, ← HN.out])
              have HD' : Hid (∀ i, i < k + 1 → isD (byt s i)) := hide (fun i hi => by by_cases e : i = k; (rw [e, ← HY.out]; exact ⟨h1, h2⟩); exact HD.out i (by omega))
              by_cases hbig : 1000000000 < 10 * N + (y - 48)
              · have HNo : Hid (¬ okD s) := hide (fun h => by have a := h.2.2.2; have b := valD_mono s (k + 1) s.size (by omega); rw [← HV.out] at b; omega)
                go_wp2
                all_goals (try rw [Exit.noGoto_ret])
                all_goals go_ret2
                all_goals exact ⟨fun h => absurd h HNo.out, fun _ => rfl, Below.refl _ _⟩
              · go_wp2
                go_roundg (gk - 1)
                case measure => have := HG.out; omega
                case rel => exact ⟨k + 1, 10 * N + (y - 48), by omega, by go_num, by go_num, by have := HG.out; omega, by omega, HV, HD', rfl⟩
            · have HNo : Hid (¬ okD s) := hide (fun h => hd (by have := h.2.1 k hlt; rw [← HY.out] at this; exact this))
              by_cases h1 : y < 48
              · clear hd
                go_wp2
                all_goals (try rw [Exit.noGoto_ret])
                all_goals go_ret2
                all_goals exact ⟨fun h => absurd h HNo.out, fun _ => rfl, Below.refl _ _⟩
              · have h2 : 57 < y := by omega
                clear hd
                go_wp2
                all_goals (try rw [Exit.noGoto_ret])
                all_goals go_ret2
                all_goals exact ⟨fun h => absurd h HNo.out, fun _ => rfl, Below.refl _ _⟩
          · have hkn : k = s.size := by omega
            rw [hkn] at HN HD
            clear hkn
            have HOk : Hid (okD s) := hide ⟨by have := H0.out; omega, HD.out, HLead.out, by rw [← HN.out]; exact hN⟩
            go_wp2
            all_goals (try rw [Exit.noGoto_ret])
            all_goals go_ret2
            all_goals exact ⟨fun _ => by rw [← HN.out]; rfl, fun h => absurd HOk.out h, Below.refl _ _⟩
    · have HLead : Hid (s.size = 1 ∨ byt s 0 ≠ 48) := hide (Or.inl (by have := H0.out; omega))
      go_enter Tryd.func8, Tryd.ntmps8
      go_wp2
      go_step3
      go_wp2
      go_step3
      go_wp2
      go_loopg [4, 5] s.size (fun g nv iv wr => ∃ k N : Nat, k ≤ s.size ∧ nv = .int .i64 (N : Int) ∧ iv = .int .i64 (k : Int) ∧ g + k = s.size ∧ N ≤ 1000000000 ∧ Hid (N = valD s k) ∧ Hid (∀ i, i < k → isD (byt s i)) ∧ wr = w)
      case atStart => exact ⟨0, 0, Nat.zero_le _, rfl, rfl, rfl, by omega, hide rfl, hide (fun i h => by omega), rfl⟩
      case round =>
        obtain ⟨k, N, hk, rfl, rfl, hg, hN, HN, HD, rfl⟩ := hrel
        have HG := hide hg
        clear hg
        by_cases hlt : k < s.size
        · obtain ⟨y, hy⟩ : ∃ y, y = byt s k := ⟨_, rfl⟩
          have hyb : y < 256 := by rw [hy]; exact byt_lt s _
          have hs1 : s[k].toNat = y := by rw [hy]; exact byt_eq s _ hlt
          have HY := hide hy
          clear hy
          by_cases hd : 48 ≤ y ∧ y ≤ 57
          · obtain ⟨h1, h2⟩ := hd
            have HV : Hid (10 * N + (y - 48) = valD s (k + 1)) := hide (by rw [valD, ← HY.out, ← HN.out])
            have HD' : Hid (∀ i, i < k + 1 → isD (byt s i)) := hide (fun i hi => by by_cases e : i = k; (rw [e, ← HY.out]; exact ⟨h1, h2⟩); exact HD.out i (by omega))
            by_cases hbig : 1000000000 < 10 * N + (y - 48)
            · have HNo : Hid (¬ okD s) := hide (fun h => by have a := h.2.2.2; have b := valD_mono s (k + 1) s.size (by omega); rw [← HV.out] at b; omega)
              go_wp2
              all_goals (try rw [Exit.noGoto_ret])
              all_goals go_ret2
              all_goals exact ⟨fun h => absurd h HNo.out, fun _ => rfl, Below.refl _ _⟩
            · go_wp2
              go_roundg (gk - 1)
              case measure => have := HG.out; omega
              case rel => exact ⟨k + 1, 10 * N + (y - 48), by omega, by go_num, by go_num, by have := HG.out; omega, by omega, HV, HD', rfl⟩
          · have HNo : Hid (¬ okD s) := hide (fun h => hd (by have := h.2.1 k hlt; rw [← HY.out] at this; exact this))
            by_cases h1 : y < 48
            · clear hd
              go_wp2
              all_goals (try rw [Exit.noGoto_ret])
              all_goals go_ret2
              all_goals exact ⟨fun h => absurd h HNo.out, fun _ => rfl, Below.refl _ _⟩
            · have h2 : 57 < y := by omega
              clear hd
              go_wp2
              all_goals (try rw [Exit.noGoto_ret])
              all_goals go_ret2
              all_goals exact ⟨fun h => absurd h HNo.out, fun _ => rfl, Below.refl _ _⟩
        · have hkn : k = s.size := by omega
          rw [hkn] at HN HD
          clear hkn
          have HOk : Hid (okD s) := hide ⟨by have := H0.out; omega, HD.out, HLead.out, by rw [← HN.out]; exact hN⟩
          go_wp2
          all_goals (try rw [Exit.noGoto_ret])
          all_goals go_ret2
          all_goals exact ⟨fun _ => by rw [← HN.out]; rfl, fun h => absurd HOk.out h, Below.refl _ _⟩
end Go.Proofs.YtimhnphodnnbeaaDoor
