/-
  spec's functions over fields and values by contracts: l04Word, SchemaOk, FieldAt, l04Value, KeyText.
-/
import Derived.Test.YtjldcbnoomcloaaFldRow
import Derived.Test.YtjldcbnoomcloaaValRow
import Derived.Test.YtjldcbnoomcloaaVar
import Derived.Test.YtjldcbnoomcloaaPlain12
namespace Go.Proofs.Ytjldcbnoomcloaa
open Go.RowKit

theorem l01In_all (x a b : Int) (w : World) : Calls Try.prog 76 #[.int .i64 x, .int .i64 a, .int .i64 b] w fun e w' => e = .returned (.bool (decide (a ≤ x ∧ x ≤ b))) ∧ w = w' := by
  by_cases h : a ≤ x ∧ x ≤ b
  · rw [decide_eq_true h]; exact l01In_yes x a b w h.1 h.2
  · rw [decide_eq_false h]; exact l01In_no x a b w (by omega)

set_option maxHeartbeats 1000000 in
theorem l04Word_any (s : ByteArray) (hs : s.size ≤ 1048576) (most : Nat) (w : World) :
    Calls Try.prog 75 #[.string s, .int .i64 (most : Int)] w fun e w' => e = .returned (.bool (wordB s most)) ∧ w = w' := by
  go_enter Try.func75, Try.ntmps75
  go_wp2
  go_loopg [5] s.size (fun g iv wr => ∃ k : Nat, k ≤ s.size ∧ iv = .int .i64 (k : Int) ∧ g + k = s.size ∧ Hid (∀ i, i < k → 97 ≤ byt s i ∧ byt s i ≤ 122) ∧ w = wr)
  case atStart => exact ⟨0, Nat.zero_le _, rfl, rfl, hide (fun i h => by omega), rfl⟩
  case round =>
    obtain ⟨k, hk, rfl, hg, HA, rfl⟩ := hrel
    have HG := hide hg
    clear hg
    by_cases hlt : k < s.size
    · obtain ⟨y, hy⟩ : ∃ y, y = byt s k := ⟨_, rfl⟩
      have hyb : y < 256 := by rw [hy]; exact byt_lt s _
      have hs1 : s[k].toNat = y := by rw [hy]; exact byt_eq s _ hlt
      have HY := hide hy
      have hk0 : (0 : Int) ≤ (k : Int) := by omega
      have hk1 : (k : Int) < (s.size : Int) := by omega
      clear hy
      by_cases h1 : y < 97
      · have HO : Hid (wordB s most = false) := hide (word_bad hlt (by rw [← HY.out]; omega))
        have d1 : decide ((y : Int) < 97) = true := by simp; omega
        go_wp2
        go_ret
        rw [HO.out]
        exact ⟨rfl, rfl⟩
      · have d1 : decide ((y : Int) < 97) = false := by simp; omega
        by_cases h2 : 122 < y
        · have HO : Hid (wordB s most = false) := hide (word_bad hlt (by rw [← HY.out]; omega))
          have d2 : decide ((122 : Int) < (y : Int)) = true := by simp; omega
          go_wp2
          go_ret
          rw [HO.out]
          exact ⟨rfl, rfl⟩
        · have d2 : decide ((122 : Int) < (y : Int)) = false := by simp; omega
          have HA2 : Hid (∀ i, i < k + 1 → 97 ≤ byt s i ∧ byt s i ≤ 122) := hide (fun i hi => by
            by_cases e : i = k
            · subst e; rw [← HY.out]; omega
            · exact HA.out i (by omega))
          go_wp2
          go_roundg (gk - 1)
          case measure => have := HG.out; omega
          case rel => exact ⟨k + 1, by omega, by go_num, by have := HG.out; omega, HA2, rfl⟩
    · have HO : Hid (wordB s most = decide (1 ≤ (s.size : Int) ∧ (s.size : Int) ≤ (most : Int))) := hide (by rw [word_all (fun i hi => HA.out i (by omega))]; congr 1; simp; omega)
      have HC := hide (l01In_all (s.size : Int) 1 (most : Int))
      obtain ⟨bb, hbb⟩ : ∃ bb, bb = decide (1 ≤ (s.size : Int) ∧ (s.size : Int) ≤ (most : Int)) := ⟨_, rfl⟩
      rw [← hbb] at HC HO
      clear hbb
      go_wp2_with fail
      refine (HC.out _).mono ?_
      rintro e w2 ⟨rfl, rfl⟩
      go_wp2_with fail
      go_ret
      rw [HO.out]
      exact ⟨rfl, rfl⟩

set_option maxHeartbeats 1000000 in
set_option maxRecDepth 100000 in
theorem specFieldAt_any (fs : List (ByteArray × Int)) (_hl : fs.length ≤ 1048576) (name : ByteArray) (v : Value) (w : World) (hr : RowAt w 2 v fs.length (flds fs)) :
    Calls Try.prog 30 #[v, .string name] w fun e w' => e = .returned (.int .i64 (placeL name 0 fs)) ∧ w = w' := by
  obtain ⟨-, a, cap, rfl, h2⟩ := hr
  have HR := hide h2
  clear h2
  go_enter Try.func30, Try.ntmps30
  go_wp2
  go_loopg [5] fs.length (fun g iv wr => ∃ k : Nat, k ≤ fs.length ∧ iv = .int .i64 (k : Int) ∧ g + k = fs.length ∧ Hid (placeL name 0 fs = placeL name k (fs.drop k)) ∧ w = wr)
  case atStart => exact ⟨0, Nat.zero_le _, rfl, rfl, hide rfl, rfl⟩
  case round =>
    obtain ⟨k, hk, rfl, hg, HA, rfl⟩ := hrel
    have HG := hide hg
    clear hg
    by_cases hlt : k < fs.length
    · rcases HR.out with h0 | ⟨b, off, rfl, hbl, hc⟩
      · omega
      · obtain ⟨x, hx⟩ : ∃ x, x = fs[k].1 := ⟨_, rfl⟩
        have hc0 : w.cell? ⟨b, off + k * 2, none⟩ = some (.string x) := by rw [hc (k * 2) (by omega), (flds_at fs k hlt).1, hx]
        have hk0 : (0 : Int) ≤ (k : Int) := by omega
        have hk1 : (k : Int) < (fs.length : Int) := by omega
        have HX := hide hx
        clear hc hx
        have hbq := ba_beq x name
        by_cases hxn : x = name
        · have HO : Hid (placeL name 0 fs = (k : Int)) := hide (by rw [HA.out]; exact place_hit hlt (by rw [← HX.out]; exact hxn))
          rw [decide_eq_true hxn] at hbq
          clear hxn
          go_wp2
          go_ret
          rw [HO.out]
          exact ⟨rfl, rfl⟩
        · have HA2 : Hid (placeL name 0 fs = placeL name (k + 1) (fs.drop (k + 1))) := hide (by rw [HA.out]; exact place_miss hlt (by rw [← HX.out]; exact hxn))
          rw [decide_eq_false hxn] at hbq
          clear hxn
          go_wp2
          go_roundg (gk - 1)
          case measure => have := HG.out; omega
          case rel => exact ⟨k + 1, by omega, by go_num, by have := HG.out; omega, HA2, rfl⟩
    · have HO : Hid (placeL name 0 fs = -1) := hide (by rw [HA.out]; exact place_end (by omega))
      go_wp2
      go_ret
      rw [HO.out]
      exact ⟨rfl, rfl⟩

set_option maxHeartbeats 4000000 in
set_option maxRecDepth 100000 in
theorem specSchemaOk_any (fs : List (ByteArray × Int)) (hl : fs.length ≤ 1048576) (hn : ∀ f ∈ fs, f.1.size ≤ 1048576) (v : Value) (w : World) (hr : RowAt w 2 v fs.length (flds fs)) :
    Calls Try.prog 26 #[v] w fun e w' => e = .returned (.bool (schemaOkB fs)) ∧ Below w.heap.size w w' := by
  obtain ⟨-, a, cap, rfl, h2⟩ := hr
  have HR := hide h2
  have HN := hide hn
  clear h2 hn
  go_enter Try.func26, Try.ntmps26
  go_wp2_with fail
  go_loopg [3] fs.length (fun g iv wr => ∃ i : Nat, i ≤ fs.length ∧ iv = .int .i64 (i : Int) ∧ g + i = fs.length ∧ Hid ((∀ j (h : j < fs.length), j < i → fieldB fs[j] = true) ∧ ∀ j (h : j < fs.length), j < i → ∀ k (hk : k < j), (fs[k]'(by omega)).1 ≠ fs[j].1) ∧ Hid (Below w.heap.size w wr))
  case atStart => exact ⟨0, Nat.zero_le _, rfl, rfl, hide ⟨fun j h h0 => by omega, fun j h h0 => by omega⟩, hide (Below.refl _ _)⟩
  case round =>
    obtain ⟨i, hi, rfl, hg, HA, HB⟩ := hrel
    have HG := hide hg
    obtain ⟨gq, hgq⟩ : ∃ gq, gq = gk := ⟨_, rfl⟩
    have HGQ := hide hgq
    clear hg hgq
    by_cases hlt : i < fs.length
    · rcases HR.out with h0 | ⟨b, off, rfl, hbl, hc⟩
      · omega
      · obtain ⟨x, hx⟩ : ∃ x, x = fs[i].1 := ⟨_, rfl⟩
        obtain ⟨q, hq⟩ : ∃ q, q = fs[i].2 := ⟨_, rfl⟩
        have HC0 : Hid (∀ wx, Below w.heap.size w wx → wx.cell? ⟨b, off + i * 2, none⟩ = some (.string x) ∧ wx.cell? ⟨b, off + i * 2 + 1, none⟩ = some (.int .i64 q)) := hide (fun wx hb => ⟨by rw [hb.cell (by exact hbl), hc (i * 2) (by omega), (flds_at fs i hlt).1, hx], by rw [hb.cell (by exact hbl), Nat.add_assoc, hc (i * 2 + 1) (by omega), (flds_at fs i hlt).2, hq]⟩)
        have HCk : Hid (∀ wx, Below w.heap.size w wx → ∀ k (h : k < fs.length), wx.cell? ⟨b, off + k * 2, none⟩ = some (.string fs[k].1)) := hide (fun wx hb k h => by rw [hb.cell (by exact hbl), hc (k * 2) (by omega), (flds_at fs k h).1])
        have hxs : x.size ≤ 1048576 := by rw [hx]; exact HN.out _ (List.getElem_mem hlt)
        have HX := hide hx
        have HQ := hide hq
        obtain ⟨hc0, hc1⟩ := HC0.out wr HB.out
        have hi0 : (0 : Int) ≤ (i : Int) := by omega
        have hi1 : (i : Int) < (fs.length : Int) := by omega
        have HWd := hide (l04Word_any x hxs 4)
        have HIn := hide (l01In_all q 1 2)
        have HFb : Hid (fieldB fs[i] = (wordB x 4 && decide (1 ≤ q ∧ q ≤ 2))) := hide (by rw [fieldB, ← HX.out, ← HQ.out])
        clear hc hx hq
        cases hwd : wordB x 4 with
        | false =>
          rw [hwd] at HWd HFb
          have HO : Hid (schemaOkB fs = false) := hide (schema_field hlt HFb.out)
          go_wp2_with fail
          refine (HWd.out _).mono ?_
          rintro e w2 ⟨rfl, rfl⟩
          go_wp2_with fail
          go_ret
          rw [HO.out]
          exact ⟨rfl, HB.out⟩
        | true =>
          rw [hwd] at HWd HFb
          cases hkd : decide (1 ≤ q ∧ q ≤ 2) with
          | false =>
            rw [hkd] at HIn HFb
            have HO : Hid (schemaOkB fs = false) := hide (schema_field hlt HFb.out)
            clear hwd hkd
            go_wp2_with fail
            refine (HWd.out _).mono ?_
            rintro e w2 ⟨rfl, rfl⟩
            go_wp2_with fail
            refine (HIn.out _).mono ?_
            rintro e w2 ⟨rfl, rfl⟩
            go_wp2_with fail
            go_ret
            rw [HO.out]
            exact ⟨rfl, HB.out⟩
          | true =>
            rw [hkd] at HIn HFb
            clear hwd hkd
            go_wp2_with fail
            refine (HWd.out _).mono ?_
            rintro e w2 ⟨rfl, rfl⟩
            go_wp2_with fail
            refine (HIn.out _).mono ?_
            rintro e w2 ⟨rfl, rfl⟩
            clear hc0 hc1
            go_wp2_with fail
            go_loopg [4] i (fun g kv wq => ∃ k : Nat, k ≤ i ∧ kv = .int .i64 (k : Int) ∧ g + k = i ∧ Hid (∀ j (h : j < k) (hj : j < fs.length), fs[j].1 ≠ x) ∧ Hid (Below w.heap.size w wq))
            case atStart => exact ⟨0, Nat.zero_le _, rfl, rfl, hide (fun j h => by omega), HB⟩
            case round =>
              obtain ⟨k, hk, rfl, hg, HT, HBy⟩ := hrel
              have HG2 := hide hg
              clear hg
              by_cases hki : k < i
              · obtain ⟨hc0, hc1⟩ := HC0.out wr HBy.out
                have hkl : k < fs.length := by omega
                obtain ⟨y, hy⟩ : ∃ y, y = fs[k].1 := ⟨_, rfl⟩
                have hck : wr.cell? ⟨b, off + k * 2, none⟩ = some (.string y) := by rw [hy]; exact HCk.out wr HBy.out k hkl
                have hk0 : (0 : Int) ≤ (k : Int) := by omega
                have hk1 : (k : Int) < (fs.length : Int) := by omega
                have hk2 : (k : Int) < (i : Int) := by omega
                have HY := hide hy
                have hbq := ba_beq y x
                clear hy hc1
                by_cases hyx : y = x
                · have HO : Hid (schemaOkB fs = false) := hide (schema_twice hlt hki (by rw [← HY.out, ← HX.out]; exact hyx))
                  rw [decide_eq_true hyx] at hbq
                  clear hyx
                  go_wp2_with fail
                  go_quiet (fail)
                  go_wp2_with fail
                  go_ret
                  rw [HO.out]
                  exact ⟨rfl, below_drewN HBy.out _⟩
                · have HT2 : Hid (∀ j (h : j < k + 1) (hj : j < fs.length), fs[j].1 ≠ x) := hide (fun j h hj => by
                    by_cases e : j = k
                    · subst e; rw [← HY.out]; exact hyx
                    · exact HT.out j (by omega) hj)
                  rw [decide_eq_false hyx] at hbq
                  clear hyx
                  go_wp2_with fail
                  go_quiet (fail)
                  have HBz : Hid (Below w.heap.size w (wr.drewN nq)) := hide (below_drewN HBy.out _)
                  go_wp2_with fail
                  go_roundg (gk - 1)
                  case measure => have := HG2.out; omega
                  case rel => exact ⟨k + 1, by omega, by go_num, by have := HG2.out; omega, HT2, HBz⟩
              · have hA := HA.out
                have HA2 : Hid ((∀ j (h : j < fs.length), j < i + 1 → fieldB fs[j] = true) ∧ ∀ j (h : j < fs.length), j < i + 1 → ∀ k (hk : k < j), (fs[k]'(by omega)).1 ≠ fs[j].1) := hide ⟨fun j h hj => by
                  by_cases e : j = i
                  · subst e; exact HFb.out
                  · exact hA.1 j h (by omega), fun j h hj k hk => by
                  by_cases e : j = i
                  · subst e; rw [← HX.out]; exact HT.out k (by omega) (by omega)
                  · exact hA.2 j h (by omega) k hk⟩
                clear hA
                go_wp2_with fail
                go_roundg (gq - 1)
                case measure => have h1 := HGQ.out; have h2 := HG.out; omega
                case rel => exact ⟨i + 1, by omega, by go_num, by have h1 := HGQ.out; have h2 := HG.out; omega, HA2, HBy⟩
    · have HO : Hid (schemaOkB fs = decide (1 ≤ (fs.length : Int) ∧ (fs.length : Int) ≤ 3)) := hide (by
        have hA := HA.out
        rw [schema_all (fun j h => hA.1 j h (by omega)) (fun j h k hk => hA.2 j h (by omega) k hk)]
        congr 1; simp; omega)
      have HC := hide (l01In_all (fs.length : Int) 1 3)
      obtain ⟨bb, hbb⟩ : ∃ bb, bb = decide (1 ≤ (fs.length : Int) ∧ (fs.length : Int) ≤ 3) := ⟨_, rfl⟩
      rw [← hbb] at HC HO
      clear hbb
      go_wp2_with fail
      refine (HC.out _).mono ?_
      rintro e w2 ⟨rfl, rfl⟩
      go_wp2_with fail
      go_ret
      rw [HO.out]
      exact ⟨rfl, HB.out⟩
end Go.Proofs.Ytjldcbnoomcloaa
