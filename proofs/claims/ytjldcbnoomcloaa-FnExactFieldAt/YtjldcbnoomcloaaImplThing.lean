/-
  The program's functions over fields by contracts: FieldAt, fieldOk, SchemaOk.
-/
import Derived.Test.YtjldcbnoomcloaaThingSpec
import Derived.Test.YtjldcbnoomcloaaNames
namespace Go.Proofs.Ytjldcbnoomcloaa
open Go.RowKit

set_option maxHeartbeats 1000000 in
set_option maxRecDepth 100000 in
theorem implFieldAt_any (fs : List (ByteArray × Int)) (_hl : fs.length ≤ 1048576) (name : ByteArray) (v : Value) (w : World) (hr : RowAt w 2 v fs.length (flds fs)) :
    Calls Try.prog 29 #[v, .string name] w fun e w' => e = .returned (.int .i64 (placeL name 0 fs)) ∧ Below w.heap.size w w' := by
  obtain ⟨-, a, cap, rfl, h2⟩ := hr
  have HR := hide h2
  clear h2
  go_enter Try.func29, Try.ntmps29
  go_wp2
  go_loopg [9] fs.length (fun g iv wr => ∃ k : Nat, k ≤ fs.length ∧ iv = .int .i64 (k : Int) ∧ g + k = fs.length ∧ Hid (placeL name 0 fs = placeL name k (fs.drop k)) ∧ Hid (Below w.heap.size w wr))
  case atStart => exact ⟨0, Nat.zero_le _, rfl, rfl, hide rfl, hide (Below.refl _ _)⟩
  case round =>
    obtain ⟨k, hk, rfl, hg, HA, HB⟩ := hrel
    have HG := hide hg
    clear hg
    by_cases hlt : k < fs.length
    · rcases HR.out with h0 | ⟨b, off, rfl, hbl, hc⟩
      · omega
      · obtain ⟨x, hx⟩ : ∃ x, x = fs[k].1 := ⟨_, rfl⟩
        obtain ⟨q, hq⟩ : ∃ q, q = fs[k].2 := ⟨_, rfl⟩
        have hc0 : wr.cell? ⟨b, off + k * 2, none⟩ = some (.string x) := by rw [HB.out.cell (by exact hbl), hc (k * 2) (by omega), (flds_at fs k hlt).1, hx]
        have hc1 : wr.cell? ⟨b, off + k * 2 + 1, none⟩ = some (.int .i64 q) := by rw [HB.out.cell (by exact hbl), Nat.add_assoc, hc (k * 2 + 1) (by omega), (flds_at fs k hlt).2, hq]
        have hk0 : (0 : Int) ≤ (k : Int) := by omega
        have hk1 : (k : Int) < (fs.length : Int) := by omega
        have HX := hide hx
        have HB2 : Hid (∀ o, Below w.heap.size w (wr.alloc o)) := hide (fun o => HB.out.alloc HB.out.size _)
        clear hc hx hq
        have hbq := ba_beq x name
        by_cases hxn : x = name
        · have HO : Hid (placeL name 0 fs = (k : Int)) := hide (by rw [HA.out]; exact place_hit hlt (by rw [← HX.out]; exact hxn))
          rw [decide_eq_true hxn] at hbq
          clear hxn
          go_wp2
          go_ret
          rw [HO.out]
          exact ⟨rfl, HB2.out _⟩
        · have HA2 : Hid (placeL name 0 fs = placeL name (k + 1) (fs.drop (k + 1))) := hide (by rw [HA.out]; exact place_miss hlt (by rw [← HX.out]; exact hxn))
          rw [decide_eq_false hxn] at hbq
          clear hxn
          go_wp2
          go_roundg (gk - 1)
          case measure => have := HG.out; omega
          case rel => exact ⟨k + 1, by omega, by go_num, by have := HG.out; omega, HA2, hide (HB2.out _)⟩
    · have HO : Hid (placeL name 0 fs = -1) := hide (by rw [HA.out]; exact place_end (by omega))
      go_wp2
      go_ret
      rw [HO.out]
      exact ⟨rfl, HB.out⟩

theorem field_word (s : ByteArray) (q : Int) : fieldB (s, q) = (nameB letB s 4 && (decide (q = 1) || decide (q = 2))) := by
  rw [name_word, fieldB]
  congr 1
  by_cases e1 : q = 1
  · subst e1; rfl
  · by_cases e2 : q = 2
    · subst e2; rfl
    · rw [decide_eq_false e1, decide_eq_false e2, decide_eq_false (show ¬ (1 ≤ (s, q).2 ∧ (s, q).2 ≤ 2) from by show ¬ (1 ≤ q ∧ q ≤ 2); omega)]; rfl

set_option maxHeartbeats 1000000 in
set_option maxRecDepth 100000 in
theorem fieldOk_any (s : ByteArray) (q : Int) (hs : s.size ≤ 1048576) (w : World) :
    Calls Try.prog 77 #[.agg #[.string s, .int .i64 q]] w fun e w' => e = .returned (.bool (fieldB (s, q))) ∧ Below w.heap.size w w' := by
  obtain ⟨w0, hw0⟩ : ∃ w0, w0 = w.alloc (Obj.cells #[.string s, .int .i64 q] 48) := ⟨_, rfl⟩
  have hb0 : Below w.heap.size w w0 := by rw [hw0]; exact (Below.refl w.heap.size w).alloc (Nat.le_refl _) _
  have hblk : w0.heap[w.heap.size]? = some (Obj.cells #[.string s, .int .i64 q] 48) := by rw [hw0]; exact heap_alloc_new w _
  have HB := hide hb0
  have cb0 : w0.cell? ⟨w.heap.size, 0, none⟩ = some (.string s) := (cell_at hblk 0).1
  have cb1 : w0.cell? ⟨w.heap.size, 1, none⟩ = some (.int .i64 q) := (cell_at hblk 1).1
  rw [hw0] at cb0 cb1 HB
  clear hb0 hblk hw0
  have HC := hide (isName_letter s hs 4)
  have HF := hide (field_word s q)
  by_cases h1 : nameB letB s 4 = true
  · rw [h1] at HC HF
    clear h1
    by_cases e1 : q = 1
    · subst e1
      have HO : Hid (fieldB (s, 1) = true) := hide (by rw [HF.out]; rfl)
      go_enter Try.func77, Try.ntmps77
      go_wp2_with (go_at_call 96; refine (HC.out _).mono ?_; rintro e w1 ⟨rfl, rfl⟩)
      go_ret
      rw [HO.out]
      exact ⟨rfl, HB.out⟩
    · have n1 : (q == 1) = false := by simp [e1]
      have n2 : decide (q = 1) = false := by simp [e1]
      by_cases e2 : q = 2
      · subst e2
        have HO : Hid (fieldB (s, 2) = true) := hide (by rw [HF.out]; rfl)
        go_enter Try.func77, Try.ntmps77
        go_wp2_with (go_at_call 96; refine (HC.out _).mono ?_; rintro e w1 ⟨rfl, rfl⟩)
        go_ret
        rw [HO.out]
        exact ⟨rfl, HB.out⟩
      · have n3 : (q == 2) = false := by simp [e2]
        have n4 : decide (q = 2) = false := by simp [e2]
        have HO : Hid (fieldB (s, q) = false) := hide (by rw [HF.out, n2, n4]; rfl)
        go_enter Try.func77, Try.ntmps77
        go_wp2_with (go_at_call 96; refine (HC.out _).mono ?_; rintro e w1 ⟨rfl, rfl⟩)
        go_ret
        rw [HO.out]
        exact ⟨rfl, HB.out⟩
  · have h1 : nameB letB s 4 = false := by simpa using h1
    rw [h1] at HC HF
    have HO : Hid (fieldB (s, q) = false) := hide (by rw [HF.out]; rfl)
    clear h1
    go_enter Try.func77, Try.ntmps77
    go_wp2_with (go_at_call 96; refine (HC.out _).mono ?_; rintro e w1 ⟨rfl, rfl⟩)
    go_ret
    rw [HO.out]
    exact ⟨rfl, HB.out⟩

theorem place_ge {name : ByteArray} : ∀ (l : List (ByteArray × Int)) (k : Nat), placeL name k l = -1 ∨ (k : Int) ≤ placeL name k l
  | [], _ => Or.inl rfl
  | f :: l, k => by
    rw [placeL]
    split
    · exact Or.inr (Int.le_refl _)
    · rcases place_ge l (k + 1) with h | h
      · exact Or.inl h
      · exact Or.inr (by omega)

theorem place_first {fs : List (ByteArray × Int)} {name : ByteArray} (k : Nat) (hk : k ≤ fs.length) (h : ∀ j (hj : j < k), (fs[j]'(by omega)).1 ≠ name) : placeL name 0 fs = placeL name k (fs.drop k) := by
  induction k with
  | zero => rfl
  | succ k ih => rw [ih (by omega) (fun j hj => h j (by omega))]; exact place_miss (by omega) (h k (by omega))

/-- the first place of a name is its own just when it is not ahead -/
theorem place_own {fs : List (ByteArray × Int)} {i : Nat} (hi : i < fs.length) : placeL fs[i].1 0 fs = (i : Int) ↔ ∀ k (hk : k < i), (fs[k]'(by omega)).1 ≠ fs[i].1 := by
  constructor
  · intro h
    by_cases hall : ∀ k (hk : k < i), (fs[k]'(by omega)).1 ≠ fs[i].1
    · exact hall
    · exfalso
      have key : ∀ (l : List (ByteArray × Int)) (c k : Nat) (hk : k < l.length), l[k].1 = fs[i].1 → placeL fs[i].1 c l ≤ (c + k : Nat) := by
        intro l
        induction l with
        | nil => intro c k hk; simp at hk
        | cons f l ih =>
          intro c k hk he
          rw [placeL]
          split
          · omega
          · next hne =>
            cases k with
            | zero => exact absurd he hne
            | succ k =>
              have := ih (c + 1) k (by simpa using hk) (by simpa using he)
              omega
      simp only [Classical.not_forall, Decidable.not_not] at hall
      obtain ⟨k, hk, he⟩ := hall
      have := key fs 0 k (by omega) he
      omega
  · intro h
    rw [place_first i (by omega) h]
    exact place_hit hi rfl

theorem schema_len {fs : List (ByteArray × Int)} (h : ¬ (1 ≤ fs.length ∧ fs.length ≤ 3)) : schemaOkB fs = false := by
  rw [schemaOkB, decide_eq_false h]; simp

set_option maxHeartbeats 2000000 in
set_option maxRecDepth 100000 in
theorem implSchemaOk_any (fs : List (ByteArray × Int)) (hl : fs.length ≤ 1048576) (hn : ∀ f ∈ fs, f.1.size ≤ 1048576) (v : Value) (w : World) (hr : RowAt w 2 v fs.length (flds fs)) :
    Calls Try.prog 27 #[v] w fun e w' => e = .returned (.bool (schemaOkB fs)) ∧ Below w.heap.size w w' := by
  have HF := hide (fun name wx h => implFieldAt_any fs hl name v wx h)
  have HRv := hide hr
  obtain ⟨-, a, cap, rfl, h2⟩ := hr
  have HR := hide h2
  have HN := hide hn
  clear h2 hn
  by_cases h1 : fs.length < 1
  · have HO := hide (schema_len (fs := fs) (by omega))
    have d1 : decide ((fs.length : Int) < 1) = true := by simp; omega
    clear h1
    go_enter Try.func27, Try.ntmps27
    go_wp2_with fail
    go_ret
    rw [HO.out]
    exact ⟨rfl, Below.refl _ _⟩
  · have d1 : decide ((fs.length : Int) < 1) = false := by simp; omega
    by_cases h2 : 3 < fs.length
    · have HO := hide (schema_len (fs := fs) (by omega))
      have d2 : decide ((3 : Int) < (fs.length : Int)) = true := by simp; omega
      go_enter Try.func27, Try.ntmps27
      go_wp2_with fail
      go_ret
      rw [HO.out]
      exact ⟨rfl, Below.refl _ _⟩
    · have d2 : decide ((3 : Int) < (fs.length : Int)) = false := by simp; omega
      have HL : Hid (1 ≤ fs.length ∧ fs.length ≤ 3) := hide (by omega)
      clear h1 h2
      go_enter Try.func27, Try.ntmps27
      go_wp2_with fail
      clear d1 d2
      go_loopg [15] fs.length (fun g iv wr => ∃ i : Nat, i ≤ fs.length ∧ iv = .int .i64 (i : Int) ∧ g + i = fs.length ∧ Hid ((∀ j (h : j < fs.length), j < i → fieldB fs[j] = true) ∧ ∀ j (h : j < fs.length), j < i → ∀ k (hk : k < j), (fs[k]'(by omega)).1 ≠ fs[j].1) ∧ Hid (Below w.heap.size w wr))
      case atStart => exact ⟨0, Nat.zero_le _, rfl, rfl, hide ⟨fun j h h0 => by omega, fun j h h0 => by omega⟩, hide (Below.refl _ _)⟩
      case round =>
        obtain ⟨i, hi, rfl, hg, HA, HB⟩ := hrel
        have HG := hide hg
        clear hg
        by_cases hlt : i < fs.length
        · rcases HR.out with h0 | ⟨b, off, rfl, hbl, hc⟩
          · omega
          · obtain ⟨x, hx⟩ : ∃ x, x = fs[i].1 := ⟨_, rfl⟩
            obtain ⟨q, hq⟩ : ∃ q, q = fs[i].2 := ⟨_, rfl⟩
            have hc0 : wr.cell? ⟨b, off + i * 2, none⟩ = some (.string x) := by rw [HB.out.cell (by exact hbl), hc (i * 2) (by omega), (flds_at fs i hlt).1, hx]
            have hc1 : wr.cell? ⟨b, off + i * 2 + 1, none⟩ = some (.int .i64 q) := by rw [HB.out.cell (by exact hbl), Nat.add_assoc, hc (i * 2 + 1) (by omega), (flds_at fs i hlt).2, hq]
            have hxs : x.size ≤ 1048576 := by rw [hx]; exact HN.out _ (List.getElem_mem hlt)
            have hi0 : (0 : Int) ≤ (i : Int) := by omega
            have hi1 : (i : Int) < (fs.length : Int) := by omega
            have HX : Hid ((x, q) = fs[i]) := hide (by rw [hx, hq])
            have HX1 := hide hx
            have HFo := hide (fieldOk_any x q hxs)
            have HFa := hide (fun wx h => HF.out x wx h)
            obtain ⟨wa, hwa⟩ : ∃ wa, wa = wr.alloc (Obj.cells #[.string x, .int .i64 q] 48) := ⟨_, rfl⟩
            have HVa : Hid (wa.heap[wr.heap.size]? = some (Obj.cells #[.string x, .int .i64 q] 48)) := hide (by rw [hwa]; exact heap_alloc_new wr _)
            have HWa : Hid (Below w.heap.size w wa) := hide (by rw [hwa]; exact HB.out.alloc HB.out.size _)
            clear hc hx hq
            cases hfb : fieldB (x, q) with
            | false =>
              rw [hfb] at HFo
              have HO : Hid (schemaOkB fs = false) := hide (schema_field hlt (by rw [← HX.out]; exact hfb))
              clear hfb
              go_wp2_with fail
              rw [← hwa]
              refine (HFo.out _).mono ?_
              rintro e w2 ⟨rfl, hb2⟩
              have HB2 : Hid (Below w.heap.size w w2) := hide (HWa.out.trans (hb2.mono HWa.out.size))
              clear hb2 hwa hc0 hc1
              go_wp2_with fail
              go_ret
              rw [HO.out]
              exact ⟨rfl, HB2.out⟩
            | true =>
              rw [hfb] at HFo
              have HFb := hide hfb
              clear hfb
              by_cases hp : placeL x 0 fs = (i : Int)
              · rw [hp] at HFa
                have HA2 : Hid ((∀ j (h : j < fs.length), j < i + 1 → fieldB fs[j] = true) ∧ ∀ j (h : j < fs.length), j < i + 1 → ∀ k (hk : k < j), (fs[k]'(by omega)).1 ≠ fs[j].1) := hide ⟨fun j h hj => by
                  by_cases e : j = i
                  · subst e; rw [← HX.out]; exact HFb.out
                  · exact HA.out.1 j h (by omega), fun j h hj k hk => by
                  by_cases e : j = i
                  · subst e; exact (place_own hlt).1 (by rw [← HX1.out]; exact hp) k hk
                  · exact HA.out.2 j h (by omega) k hk⟩
                clear hp
                go_wp2_with fail
                rw [← hwa]
                refine (HFo.out _).mono ?_
                rintro e w2 ⟨rfl, hb2⟩
                have HB2 : Hid (Below w.heap.size w w2) := hide (HWa.out.trans (hb2.mono HWa.out.size))
                have cv0 : w2.cell? ⟨wr.heap.size, 0, none⟩ = some (.string x) := (cell_at ((hb2.block _ (Array.getElem?_eq_some_iff.1 HVa.out).1).trans HVa.out) 0).1
                clear hb2 hwa hc0 hc1
                go_wp2_with fail
                refine (HFa.out _ (row_below HRv.out HB2.out)).mono ?_
                rintro e w3 ⟨rfl, hb3⟩
                have HB3 : Hid (Below w.heap.size w w3) := hide (HB2.out.trans (hb3.mono HB2.out.size))
                clear hb3 cv0
                go_wp2_with fail
                go_roundg (gk - 1)
                case measure => have := HG.out; omega
                case rel => exact ⟨i + 1, by omega, by go_num, by have := HG.out; omega, HA2, HB3⟩
              · obtain ⟨p, hpp⟩ : ∃ p, p = placeL x 0 fs := ⟨_, rfl⟩
                rw [← hpp] at hp HFa
                have d1 : (p != (i : Int)) = true := by simp [hp]
                have HO : Hid (schemaOkB fs = false) := hide (by
                  by_cases hall : ∀ k (hk : k < i), (fs[k]'(by omega)).1 ≠ fs[i].1
                  · exact absurd (by rw [hpp, HX1.out]; exact (place_own hlt).2 hall) hp
                  · simp only [Classical.not_forall, Decidable.not_not] at hall
                    obtain ⟨k, hk, he⟩ := hall
                    exact schema_twice hlt hk he)
                clear hp hpp
                go_wp2_with fail
                rw [← hwa]
                refine (HFo.out _).mono ?_
                rintro e w2 ⟨rfl, hb2⟩
                have HB2 : Hid (Below w.heap.size w w2) := hide (HWa.out.trans (hb2.mono HWa.out.size))
                have cv0 : w2.cell? ⟨wr.heap.size, 0, none⟩ = some (.string x) := (cell_at ((hb2.block _ (Array.getElem?_eq_some_iff.1 HVa.out).1).trans HVa.out) 0).1
                clear hb2 hwa hc0 hc1
                go_wp2_with fail
                refine (HFa.out _ (row_below HRv.out HB2.out)).mono ?_
                rintro e w3 ⟨rfl, hb3⟩
                have HB3 : Hid (Below w.heap.size w w3) := hide (HB2.out.trans (hb3.mono HB2.out.size))
                clear hb3 cv0
                go_wp2_with fail
                go_ret
                rw [HO.out]
                exact ⟨rfl, HB3.out⟩
        · have HO : Hid (schemaOkB fs = true) := hide (by
            have hA := HA.out
            rw [schema_all (fun j h => hA.1 j h (by omega)) (fun j h k hk => hA.2 j h (by omega) k hk)]
            exact decide_eq_true HL.out)
          go_wp2_with fail
          go_ret
          rw [HO.out]
          exact ⟨rfl, HB.out⟩
end Go.Proofs.Ytjldcbnoomcloaa
