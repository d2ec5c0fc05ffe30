/-
  Facts and contracts that the law's own text rests on, by their texts' names: ReadDec, HeldZ, SepApp, SepWork, NodeGrow, SepNode, SepRow.
-/
import Derived.BigQuiet
import Derived.Deep.QuietTactic
import Derived.Test.YtmmepgincbngeaaDoorRs1
import Derived.Deep.RegionHeld
import Derived.Test.YtmmepgincbngeaaDoorRs4
import Derived.Deep.AppendLies
import Derived.Test.YtmmepgincbngeaaDoorRs2
import Derived.Test.YtmmepgincbngeaaDoorRs3
import Derived.Deep.LoopGhost
import Derived.Laws.BitsAllLaws
import Derived.Laws.OwnMore
import Derived.Laws.Pointers
import Derived.Laws.Shifts
import Derived.Outline
import Derived.OwnWalk
import Derived.WalkKit
import Derived.WalkSmall
import Derived.WalkSpells
import Derived.Test.YtmmepgincbngeaaDoorProg
import Derived.Maps.AppendAt
namespace Go.Proofs.YtmmepgincbngeaaDoor
open Go.RowKit
set_option maxHeartbeats 2000000 in
set_option maxRecDepth 100000 in
theorem specReadDecimal_any (s : ByteArray) (hs : s.size ≤ 1048576) (w : World) :
    Calls Tryd.prog 23 #[.string s] w fun e w' => (okD s → e = .returned (.tuple #[.int .i64 (valD s s.size : Int), .bool true])) ∧ (¬ okD s → e = .returned (.tuple #[.int .i64 0, .bool false])) ∧ Below w.heap.size w w' := by
  by_cases h10 : 10 < s.size
  · have hno : ¬ okD s := fun h => by have := okD_small s h; omega
    have HN := hide hno
    clear hno
    go_enter Tryd.func23, Tryd.ntmps23
    go_wp2_with fail
    go_ret2
    exact ⟨fun h => absurd h HN.out, fun _ => rfl, Below.refl _ _⟩
  · go_enter Tryd.func23, Tryd.ntmps23
    go_wp2_with fail
    go_loopg [4, 5] s.size (fun g nv iv wr => ∃ k N : Nat, k ≤ s.size ∧ nv = .int .i64 (N : Int) ∧ iv = .int .i64 (k : Int) ∧ g + k = s.size ∧ N < 10000000000 ∧ Hid (N = valD s k) ∧ Hid (∀ i, i < k → isD (byt s i)) ∧ wr = w)
    case atStart => exact ⟨0, 0, Nat.zero_le _, rfl, rfl, rfl, by omega, hide rfl, hide (fun i h => by omega), rfl⟩
    case round =>
      obtain ⟨k, N, hk, rfl, rfl, hg, hN, HN, HD, rfl⟩ := hrel
      have HG := hide hg
      clear hg
      by_cases hlt : k < s.size
      · obtain ⟨y, hy⟩ : ∃ y, y = byt s k := ⟨_, rfl⟩
        have hyb : y < 256 := by rw [hy]; exact byt_lt s _
        have hs1 : s[k].toNat = y := by rw [hy]; exact byt_eq s _ hlt
        have HY := hide hy
        clear hy
        by_cases hd : 48 ≤ y ∧ y ≤ 57
        · obtain ⟨h1, h2⟩ := hd
          have HV : Hid (10 * N + (y - 48) = valD s (k + 1)) := hide (by rw [valD, ← HY.out, ← HN.out])
          have HD' : Hid (∀ i, i < k + 1 → isD (byt s i)) := hide (fun i hi => by by_cases e : i = k; (rw [e, ← HY.out]; exact ⟨h1, h2⟩); exact HD.out i (by omega))
          have hNew : 10 * N + (y - 48) < 10000000000 := by
            rw [HV.out]
            have a := valD_lt s (k + 1) HD'.out
            have b : 10 ^ (k + 1) ≤ 10 ^ 10 := Nat.pow_le_pow_right (by omega) (by omega)
            have c : (10 : Nat) ^ 10 = 10000000000 := by decide
            omega
          go_wp2_with fail
          go_roundg (gk - 1)
          case measure => have := HG.out; omega
          case rel => exact ⟨k + 1, 10 * N + (y - 48), by omega, by go_num, by go_num, by have := HG.out; omega, hNew, HV, HD', rfl⟩
        · have HNo : Hid (¬ okD s) := hide (fun h => hd (by have := h.2.1 k hlt; rw [← HY.out] at this; exact this))
          by_cases h1 : y < 48
          · clear hd
            go_wp2_with fail
            go_ret2
            exact ⟨fun h => absurd h HNo.out, fun _ => rfl, Below.refl _ _⟩
          · have h2 : 57 < y := by omega
            clear hd
            go_wp2_with fail
            go_ret2
            exact ⟨fun h => absurd h HNo.out, fun _ => rfl, Below.refl _ _⟩
      · have hkn : k = s.size := by omega
        rw [hkn] at HN HD
        clear hkn
        by_cases hbig : 1000000000 < N
        · have HNo : Hid (¬ okD s) := hide (fun h => by have := h.2.2.2; rw [← HN.out] at this; omega)
          go_wp2_with fail
          go_ret2
          exact ⟨fun h => absurd h HNo.out, fun _ => rfl, Below.refl _ _⟩
        · have HI := hide (decN_iff s (by omega) HD.out)
          rw [← HN.out] at HI
          have hng : decide ((1000000000 : Int) < (N : Int)) = false := by simp; omega
          go_wp2_with fail
          refine (specDecimal_nat N (by omega) _).mono ?_
          rintro e w2 ⟨rfl, hb2⟩
          go_wp2_with fail
          · have hne : (!decN N == s.toList) = true := by assumption
            have hno : ¬ okD s := fun h => by
              have := HI.out.2 ⟨h.1, h.2.2.1⟩
              rw [ByteArray.toList_eq, this] at hne
              simp at hne
            have HNo := hide hno
            clear hno
            go_ret2
            exact ⟨fun h => absurd h HNo.out, fun _ => rfl, hb2⟩
          · have hne : (!decN N == s.toList) = false := by assumption
            have hok : okD s := by
              rw [ByteArray.toList_eq] at hne
              have e : decN N = s.data.toList := by simpa using hne
              obtain ⟨a, b⟩ := HI.out.1 e
              exact ⟨a, HD.out, b, by rw [← HN.out]; omega⟩
            have HOk := hide hok
            clear hok
            go_ret2
            exact ⟨fun _ => by rw [← HN.out]; rfl, fun h => absurd HOk.out h, hb2⟩
set_option maxHeartbeats 2000000 in
set_option maxRecDepth 100000 in
theorem implReadDecimal_any (s : ByteArray) (hs : s.size ≤ 1048576) (w : World) :
    Calls Tryd.prog 53 #[.string s] w fun e w' => (okD s → e = .returned (.tuple #[.int .i64 (valD s s.size : Int), .bool true])) ∧ (¬ okD s → e = .returned (.tuple #[.int .i64 0, .bool false])) ∧ Below w.heap.size w w' := by
  by_cases h0 : s.size = 0
  · have hno : ¬ okD s := fun h => by have := h.1; omega
    have HN := hide hno
    have hemp : s.toList.isEmpty = true := by rw [ByteArray.toList_eq, List.isEmpty_iff, ← List.length_eq_zero_iff, len_data]; exact h0
    clear hno h0
    go_enter Tryd.func53, Tryd.ntmps53
    go_wp2
    go_step3
    go_wp2
    all_goals (try rw [Exit.noGoto_ret])
    go_ret2
    exact ⟨fun h => absurd h HN.out, fun _ => rfl, Below.refl _ _⟩
  · have hemp : s.toList.isEmpty = false := by
      rw [ByteArray.toList_eq, ← Bool.not_eq_true, List.isEmpty_iff, ← List.length_eq_zero_iff, len_data]; exact h0
    have H0 := hide h0
    clear h0
    by_cases hone : 1 < s.size
    · obtain ⟨y0, hy0⟩ : ∃ y, y = byt s 0 := ⟨_, rfl⟩
      have hs0 : (s[0]'(by omega)).toNat = y0 := by rw [hy0]; exact byt_eq s 0 (by omega)
      by_cases hz : y0 = 48
      · have hno : ¬ okD s := fun h => by have := h.2.2.1; omega
        have hzb : ((y0 : Int) == 48) = true := by simp; omega
        have HN := hide hno
        clear hno hz hy0
        go_enter Tryd.func53, Tryd.ntmps53
        go_wp2
        go_step3
        go_wp2
        all_goals (try rw [Exit.noGoto_ret])
        go_ret2
        exact ⟨fun h => absurd h HN.out, fun _ => rfl, Below.refl _ _⟩
      · have hzb : ((y0 : Int) == 48) = false := by simp; omega
        have HLead : Hid (s.size = 1 ∨ byt s 0 ≠ 48) := hide (Or.inr (by rw [← hy0]; exact hz))
        clear hz hy0
        go_enter Tryd.func53, Tryd.ntmps53
        go_wp2
        go_step3
        go_wp2
        go_step3
        go_wp2
        go_loopg [4, 5] s.size (fun g nv iv wr => ∃ k N : Nat, k ≤ s.size ∧ nv = .int .i64 (N : Int) ∧ iv = .int .i64 (k : Int) ∧ g + k = s.size ∧ N ≤ 1000000000 ∧ Hid (N = valD s k) ∧ Hid (∀ i, i < k → isD (byt s i)) ∧ wr = w)
        case atStart => exact ⟨0, 0, Nat.zero_le _, rfl, rfl, rfl, by omega, hide rfl, hide (fun i h => by omega), rfl⟩
        case round =>
          obtain ⟨k, N, hk, rfl, rfl, hg, hN, HN, HD, rfl⟩ := hrel
          have HG := hide hg
          clear hg
          by_cases hlt : k < s.size
          · obtain ⟨y, hy⟩ : ∃ y, y = byt s k := ⟨_, rfl⟩
            have hyb : y < 256 := by rw [hy]; exact byt_lt s _
            have hs1 : s[k].toNat = y := by rw [hy]; exact byt_eq s _ hlt
            have HY := hide hy
            clear hy
            by_cases hd : 48 ≤ y ∧ y ≤ 57
            · obtain ⟨h1, h2⟩ := hd
              have HV : Hid (10 * N + (y - 48) = valD s (k + 1)) := hide (by rw [valD, ← HY.out, ← HN.out])
              have HD' : Hid (∀ i, i < k + 1 → isD (byt s i)) := hide (fun i hi => by by_cases e : i = k; (rw [e, ← HY.out]; exact ⟨h1, h2⟩); exact HD.out i (by omega))
              by_cases hbig : 1000000000 < 10 * N + (y - 48)
              · have HNo : Hid (¬ okD s) := hide (fun h => by have a := h.2.2.2; have b := valD_mono s (k + 1) s.size (by omega); rw [← HV.out] at b; omega)
                go_wp2
                all_goals (try rw [Exit.noGoto_ret])
                all_goals go_ret2
                all_goals exact ⟨fun h => absurd h HNo.out, fun _ => rfl, Below.refl _ _⟩
              · go_wp2
                go_roundg (gk - 1)
                case measure => have := HG.out; omega
                case rel => exact ⟨k + 1, 10 * N + (y - 48), by omega, by go_num, by go_num, by have := HG.out; omega, by omega, HV, HD', rfl⟩
            · have HNo : Hid (¬ okD s) := hide (fun h => hd (by have := h.2.1 k hlt; rw [← HY.out] at this; exact this))
              by_cases h1 : y < 48
              · clear hd
                go_wp2
                all_goals (try rw [Exit.noGoto_ret])
                all_goals go_ret2
                all_goals exact ⟨fun h => absurd h HNo.out, fun _ => rfl, Below.refl _ _⟩
              · have h2 : 57 < y := by omega
                clear hd
                go_wp2
                all_goals (try rw [Exit.noGoto_ret])
                all_goals go_ret2
                all_goals exact ⟨fun h => absurd h HNo.out, fun _ => rfl, Below.refl _ _⟩
          · have hkn : k = s.size := by omega
            rw [hkn] at HN HD
            clear hkn
            have HOk : Hid (okD s) := hide ⟨by have := H0.out; omega, HD.out, HLead.out, by rw [← HN.out]; exact hN⟩
            go_wp2
            all_goals (try rw [Exit.noGoto_ret])
            all_goals go_ret2
            all_goals exact ⟨fun _ => by rw [← HN.out]; rfl, fun h => absurd HOk.out h, Below.refl _ _⟩
    · have HLead : Hid (s.size = 1 ∨ byt s 0 ≠ 48) := hide (Or.inl (by have := H0.out; omega))
      go_enter Tryd.func53, Tryd.ntmps53
      go_wp2
      go_step3
      go_wp2
      go_step3
      go_wp2
      go_loopg [4, 5] s.size (fun g nv iv wr => ∃ k N : Nat, k ≤ s.size ∧ nv = .int .i64 (N : Int) ∧ iv = .int .i64 (k : Int) ∧ g + k = s.size ∧ N ≤ 1000000000 ∧ Hid (N = valD s k) ∧ Hid (∀ i, i < k → isD (byt s i)) ∧ wr = w)
      case atStart => exact ⟨0, 0, Nat.zero_le _, rfl, rfl, rfl, by omega, hide rfl, hide (fun i h => by omega), rfl⟩
      case round =>
        obtain ⟨k, N, hk, rfl, rfl, hg, hN, HN, HD, rfl⟩ := hrel
        have HG := hide hg
        clear hg
        by_cases hlt : k < s.size
        · obtain ⟨y, hy⟩ : ∃ y, y = byt s k := ⟨_, rfl⟩
          have hyb : y < 256 := by rw [hy]; exact byt_lt s _
          have hs1 : s[k].toNat = y := by rw [hy]; exact byt_eq s _ hlt
          have HY := hide hy
          clear hy
          by_cases hd : 48 ≤ y ∧ y ≤ 57
          · obtain ⟨h1, h2⟩ := hd
            have HV : Hid (10 * N + (y - 48) = valD s (k + 1)) := hide (by rw [valD, ← HY.out, ← HN.out])
            have HD' : Hid (∀ i, i < k + 1 → isD (byt s i)) := hide (fun i hi => by by_cases e : i = k; (rw [e, ← HY.out]; exact ⟨h1, h2⟩); exact HD.out i (by omega))
            by_cases hbig : 1000000000 < 10 * N + (y - 48)
            · have HNo : Hid (¬ okD s) := hide (fun h => by have a := h.2.2.2; have b := valD_mono s (k + 1) s.size (by omega); rw [← HV.out] at b; omega)
              go_wp2
              all_goals (try rw [Exit.noGoto_ret])
              all_goals go_ret2
              all_goals exact ⟨fun h => absurd h HNo.out, fun _ => rfl, Below.refl _ _⟩
            · go_wp2
              go_roundg (gk - 1)
              case measure => have := HG.out; omega
              case rel => exact ⟨k + 1, 10 * N + (y - 48), by omega, by go_num, by go_num, by have := HG.out; omega, by omega, HV, HD', rfl⟩
          · have HNo : Hid (¬ okD s) := hide (fun h => hd (by have := h.2.1 k hlt; rw [← HY.out] at this; exact this))
            by_cases h1 : y < 48
            · clear hd
              go_wp2
              all_goals (try rw [Exit.noGoto_ret])
              all_goals go_ret2
              all_goals exact ⟨fun h => absurd h HNo.out, fun _ => rfl, Below.refl _ _⟩
            · have h2 : 57 < y := by omega
              clear hd
              go_wp2
              all_goals (try rw [Exit.noGoto_ret])
              all_goals go_ret2
              all_goals exact ⟨fun h => absurd h HNo.out, fun _ => rfl, Below.refl _ _⟩
        · have hkn : k = s.size := by omega
          rw [hkn] at HN HD
          clear hkn
          have HOk : Hid (okD s) := hide ⟨by have := H0.out; omega, HD.out, HLead.out, by rw [← HN.out]; exact hN⟩
          go_wp2
          all_goals (try rw [Exit.noGoto_ret])
          all_goals go_ret2
          all_goals exact ⟨fun _ => by rw [← HN.out]; rfl, fun h => absurd HOk.out h, Below.refl _ _⟩
open Go
def wpAnyZ (P : Program) (md : Region.Mode) (ops : Array Oper) (Q : Exit → Act → World → Prop) (S : World → Prop) (z : Nat) : Nat → Array Bool → Act → World → Prop
  | 0, listed, a, w => Region.ready md ops listed = [] ∧ Q .normal a w
  | fuel + 1, listed, a, w =>
    (Region.ready md ops listed = [] → Q .normal a w) ∧
    ∀ i ∈ Region.ready md ops listed, wpOp P ops Q i (fun a' w' => (i = z ∨ S w') ∧ wpAnyZ P md ops Q S z fuel (listed.setIfInBounds i true) a' w') a w
section
variable {P : Program} {ops : Array Oper} {Q : Exit → Act → World → Prop} {md : Region.Mode} {S : World → Prop} {z : Nat}
theorem wpAny_of_heldZ : ∀ (fuel : Nat) (listed : Array Bool) (a : Act) (w : World), wpAnyZ P md ops Q S z fuel listed a w → wpAny P md ops Q fuel listed a w
  | 0, _, _, _, h => h
  | fuel + 1, _, _, _, h => ⟨h.1, fun i hi => wpOp_mono (fun a' w' h' => wpAny_of_heldZ fuel _ a' w' h'.2) (h.2 i hi)⟩
def waitsB (md : Region.Mode) (ops : Array Oper) (z i : Nat) : Bool := match ops[z]? with | some o => o.after.any (fun e => Region.binds md e && e.on == i) | none => false
theorem wpAnyZ_first {i : Nat} {oi : Oper} {v : Value} (hi : ops[i]? = some oi) (hz : waitsB md ops z i = true) (hsel : ∀ (j : Nat) (o : Oper) cs b, ops[j]? = some o → o.op ≠ .select cs b)
    (hQ : ∀ c a w, Q (.panic c) (a.put oi.dst v) w → Q (.panic c) a w) :
    ∀ (fuel : Nat) (listed : Array Bool) (a : Act) (w : World),
      (∀ j oj, ops[j]? = some oj → j ≠ i → listed.getD j true = false → (∀ e ∈ oj.after, Region.binds md e = true → e.on ≠ i) → oi.apart ops oj = true) →
      i ∈ Region.ready md ops listed → YieldsIf P ops S oi v a → S w →
      wpAnyZ P md ops Q S z fuel (listed.setIfInBounds i true) (a.put oi.dst v) w → wpAnyZ P md ops Q S z (fuel + 1) listed a w := by
  intro fuel
  induction fuel with
  | zero =>
    intro listed a w _ hr hy hS H
    refine ⟨fun h => (by rw [h] at hr; cases hr), fun j hj => ?_⟩
    by_cases hji : j = i
    · subst hji; exact hy.wpOp hi hS ⟨Or.inr hS, H⟩
    · have := ready_mono hj hji
      rw [H.1] at this
      cases this
  | succ fuel ih =>
    intro listed a w hfree hr hy hS H
    refine ⟨fun h => (by rw [h] at hr; cases hr), fun j hj => ?_⟩
    by_cases hji : j = i
    · subst hji; exact hy.wpOp hi hS ⟨Or.inr hS, H⟩
    · have h1 := H.2 j (ready_mono hj hji)
      obtain ⟨hjun, oj, hoj, hall⟩ := mem_ready.1 hj
      have hnot : ∀ e ∈ oj.after, Region.binds md e = true → e.on ≠ i := fun e he hb heq => by
        have h1 := hall e he hb
        have h0 := (mem_ready.1 hr).1
        rw [heq] at h1
        rcases Nat.lt_or_ge i listed.size with h' | h'
        · simp [h'] at h0 h1; rw [h0] at h1; cases h1
        · simp [Array.getElem?_eq_none h'] at h1
      have hjz : j ≠ z := fun e => by
        subst e
        unfold waitsB at hz
        rw [hoj] at hz
        obtain ⟨e, he, hb⟩ := Array.any_eq_true'.1 hz
        rw [Bool.and_eq_true, beq_iff_eq] at hb
        exact hnot e he hb.1 hb.2
      have h2 := wpOp_putIf hoj (hfree j oj hoj hji hjun hnot) (fun cs b => hsel i oi cs b hi) (fun cs b => hsel j oj cs b hoj) hQ hy h1
      have hfree' : ∀ k ok, ops[k]? = some ok → k ≠ i → (listed.setIfInBounds j true).getD k true = false →
          (∀ e ∈ ok.after, Region.binds md e = true → e.on ≠ i) → oi.apart ops ok = true := fun k ok hk hki hun hno => by
        refine hfree k ok hk hki ?_ hno
        by_cases hjk : j = k
        · subst hjk; exact hjun
        · rw [getD_set_ne true hjk] at hun; exact hun
      refine wpOp_mono (fun a' w' h3 => ⟨h3.2.1, ih (listed.setIfInBounds j true) a' w' hfree' (ready_mono hr (Ne.symm hji)) h3.1 (h3.2.1.resolve_left hjz) ?_⟩) h2
      rw [Array.setIfInBounds_comm _ _ hji]
      exact h3.2.2
theorem takeZ (i d : Nat) {oi : Oper} (v : Value) {fuel : Nat} {listed : Array Bool} {a : Act} {w : World} (hi : ops[i]? = some oi) (hd : oi.dst = some d)
    (hs : Region.noSelect ops = true) (hf : Region.free md ops listed i = true) (hr : (Region.ready md ops listed).contains i = true) (hz : waitsB md ops z i = true)
    (hQ : ∀ c a w, Q (.panic c) (a.put oi.dst v) w → Q (.panic c) a w) (hy : YieldsIf P ops S oi v a) (hS : S w)
    (h : wpAnyZ P md ops Q S z fuel (listed.setIfInBounds i true) ⟨a.tmps.setIfInBounds d v, a.defers⟩ w) : wpAnyZ P md ops Q S z (fuel + 1) listed a w :=
  wpAnyZ_first hi hz (Region.noSelect_spec hs) hQ fuel listed a w (Region.free_spec hi hf) (by simpa using hr) hy hS (by rw [hd]; exact h)
theorem readyZ {i : Nat} {o : Oper} {fuel : Nat} {listed : Array Bool} {a : Act} {w : World} (hr : Region.ready md ops listed = [i]) (ho : ops[i]? = some o)
    (h : ∀ K' : Act → World → Prop, Shut (∀ a w, (i = z ∨ S w) → wpAnyZ P md ops Q S z fuel (listed.setIfInBounds i true) a w → K' a w) → if Region.wanted o (yielded ops a.tmps) = true then Oper.wp P o a w K' Q else K' (a.put o.dst undef) w) :
    wpAnyZ P md ops Q S z (fuel + 1) listed a w := by
  refine ⟨fun h0 => absurd (hr ▸ h0) (by simp), fun j hj => ?_⟩
  rw [hr, List.mem_singleton] at hj
  subst hj
  unfold wpOp
  simp only [ho]
  have h1 := h (fun a' w' => (j = z ∨ S w') ∧ wpAnyZ P md ops Q S z fuel (listed.setIfInBounds j true) a' w') (fun a w hS hk => ⟨hS, hk⟩)
  split
  · rename_i hw
    rw [if_pos hw] at h1
    exact Or.inl h1
  · rename_i hw
    rw [if_neg hw] at h1
    exact h1
theorem doneZ {listed : Array Bool} {a : Act} {w : World} (hr : Region.ready md ops listed = []) (h : Q .normal a w) :
    ∀ fuel, wpAnyZ P md ops Q S z fuel listed a w
  | 0 => ⟨hr, h⟩
  | _ + 1 => ⟨fun _ => h, by rw [hr]; simp⟩
theorem wp_regionZ {id : Nat} {a : Act} {w : World} (z : Nat) (hm : P.follows .mixedOrders = true)
    (h : wpAnyZ P .any ops Q S z ops.size (Array.replicate ops.size false) a w.drew) : (Code.region id ops true).wp P Q a w :=
  wp_region_any hm (wpAny_of_heldZ _ _ _ _ h)
end
open Go.RowKit
theorem new_cells (W : World) (cs : Array Value) (T : TypeId) : ∀ (j : Nat) (u : Value), cs.toList[j]? = some u → (W.alloc (Obj.cells cs T)).cell? ((⟨W.heap.size, 0, none⟩ : Addr).add j) = some u := by
  intro j u hj
  have h := (cell_at (heap_alloc_new W (Obj.cells cs T)) j).1
  rw [Addr.add_lit, Nat.zero_add, h, ← Array.getElem?_toList]
  exact hj
theorem app_sep {B : Nat} {W W' : World} {l : List Ast} (h : Sep B W l) (i : Nat) {B' e sz n n' : Nat} {v : Value} {xs xs' : List Value} (hi : l[i]? = some (rowA B' e sz v n xs)) (hBB : B ≤ B') (hBW : B ≤ W.heap.size) {o : Obj} (hgr : (W.alloc o).grownBy W' v.ownBlock) {b c : Nat} (hown : W'.ownsRow B' e sz (.slice (some ⟨b, 0, none⟩) n' c) n' xs') (hb : v.ownBlock = some b ∨ b = W.heap.size + 1) :
    Sep B W' (l.set i (rowA B' e sz (.slice (some ⟨b, 0, none⟩) n' c) n' xs')) ∧ Below B W W' := by
  have hb0 : Below W.heap.size W (W.alloc o) := (Below.refl _ _).alloc (Nat.le_refl _) o
  exact ⟨sep_grow h hb0 i hi hgr hown (hb.imp id (fun e => by omega)) hBW, grown_below hb0 hgr (sep_get h i hi) hBB hBW⟩
theorem step_sep1 {P : Program} {ops : Array Oper} {o : Oper} {a : Act} {K : Act → World → Prop} {Q : Exit → Act → World → Prop} {E : Prop} {B : Nat} {W : World} {l : List Ast} (h : Sep B W l) (i : Nat) {B' e sz n : Nat} {v : Value} {xs : List Value} (hi : l[i]? = some (rowA B' e sz v n xs)) (hBB : B ≤ B') (hBW : B ≤ W.heap.size) (hBW' : B' ≤ W.heap.size)
    (hgd : o.guard = none) (s x : Operand) (t : TypeId) (ho : o.op = .call { callee := .builtin .append, args := #[s, x], argTypes := #[t, t] }) (inf : TypeInfo) (z : Value) (bytes : Nat) (ht : P.underlying t = some (.slice e)) (hinf : P.info? e = some inf) (hz : inf.zero = some z)
    (hsize : inf.size = sz) (hby : inf.bytes = bytes) (hzs : z.cells.size = sz) (hsz : 0 < sz) (hs : a.eval s = v) (news : Array Value) {H : Nat} (hH : H = W.heap.size) (hx : a.eval x = .slice (some ⟨H, 0, none⟩) 1 1) (hl : news.size = sz) (h1 : ∀ u ∈ news.toList, u.oneCell' = true) (h63 : n + 1 ≤ maxLen) (hbytes : (n + 1) * bytes ≤ 140737488355328)
    (hK : ∀ b c w', Sep B w' (l.set i (rowA B' e sz (.slice (some ⟨b, 0, none⟩) (n + 1) c) (n + 1) (xs ++ news.toList))) → Below B W w' → K (a.put o.dst (.slice (some ⟨b, 0, none⟩) (n + 1) c)) w') :
    if Region.wanted o (yielded ops a.tmps) = true then Oper.wp P o a (W.alloc (Obj.cells news e)) K Q else E :=
  step_append_lies _ hgd s x t ho B' e inf z sz bytes ht hinf hz hsize hby hzs hsz v n xs hs ((sep_get h i hi : W.ownsRow B' e sz v n xs).alloc _) ⟨H, 0, none⟩ 1 1 news.toList hx (by rw [Array.length_toList, hl, Nat.one_mul]) (by rw [hH]; exact new_cells W news e) h1 (by decide) h63 hbytes (by simp; omega) (W.heap.size + 1) (by simp)
    (fun b c w' q1 q2 q3 _ => by
      obtain ⟨k1, k2⟩ := app_sep h i hi hBB hBW q2 q1 q3
      exact hK b c w' k1 k2)
open Go.RowKit
def diskA (B : Nat) (v : Value) (ps : List ByteArray) (ls : List (Int × ByteArray)) : Ast := ⟨diskBlocks v, fun W => DiskOwn W B v ps ls, fun W W' h hk => by
  obtain ⟨vp, vl, rfl, h1, h2⟩ := h
  exact ⟨vp, vl, rfl, (rowA B 9 1 vp ps.length (strs ps)).loc W W' h1 (fun k e => hk k ⟨_, _, rfl, Or.inl e⟩), (rowA B 103 2 vl ls.length (puts ls)).loc W W' h2 (fun k e => hk k ⟨_, _, rfl, Or.inr e⟩)⟩⟩
open Go.RowKit
theorem apart {u v : Value} (h : ∀ k, u.ownBlock = some k → v.ownBlock ≠ some k) : v.ownBlock = none ∨ v.ownBlock ≠ u.ownBlock := by
  cases hv : v.ownBlock with
  | none => exact Or.inl rfl
  | some k => exact Or.inr (fun e => h k e.symm hv)
open Go.RowKit
theorem rowat_drop {w : World} {b off n c c' : Nat} {xs : List Value} (h : RowAt w 1 (.slice (some ⟨b, off, none⟩) n c) n xs) (m : Nat) (hm : m ≤ n) : RowAt w 1 (.slice (some ⟨b, off + m, none⟩) (n - m) c') (n - m) (xs.drop m) := by
  obtain ⟨hl, a', cap, e, h⟩ := h
  injection e with e1
  subst e1
  refine ⟨by rw [List.length_drop]; omega, _, _, rfl, ?_⟩
  rcases h with h0 | ⟨b', off', e, hlt, hc⟩
  · exact Or.inl (by omega)
  · injection e with e
    injection e with e e'
    subst e e'
    exact Or.inr ⟨b, off + m, rfl, hlt, fun j hj => by rw [Nat.add_assoc, hc (m + j) (by omega), List.getElem?_drop]⟩
open Go.RowKit
theorem sep_none {B : Nat} {W : World} {l : List Ast} (h : Sep B W l) (B' e : Nat) : Sep B W (rowA B' e 1 (.slice none 0 0) 0 [] :: l) :=
  sep_cons.2 ⟨⟨⟨rfl, Or.inl ⟨rfl, rfl⟩⟩, fun j hj => by cases hj⟩, fun _ _ j hj => (by cases hj), h⟩
end Go.Proofs.YtmmepgincbngeaaDoor
