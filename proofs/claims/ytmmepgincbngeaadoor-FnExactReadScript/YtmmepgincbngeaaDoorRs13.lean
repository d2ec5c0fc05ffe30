/-
  Facts and contracts that the law's own text rests on, by their texts' names: RunePl, LinesI, ImplEventN, WordRd, WordLf.
-/
import Derived.Laws.RangeAny
import Derived.Test.YtmmepgincbngeaaDoorRs1
import Derived.Lib.OthersKept
import Derived.Test.YtmmepgincbngeaaDoorRs4
import Derived.Test.YtmmepgincbngeaaDoorRs7
namespace Go.Proofs.YtmmepgincbngeaaDoor
open Go.RowKit
theorem get_byt (s : ByteArray) (i : Nat) (h : i < s.size) : (s.get! i).toNat = byt s i := by
  rw [byt, dif_pos h]
  have e : s.get! i = s[i] := by
    simp [ByteArray.get!, getElem!_pos, h]
    rfl
  rw [e]
theorem rune_step (s : ByteArray) (k : Nat) (hk : k < s.size) : 1 ≤ (Utf8.decode s k).2 ∧ k + (Utf8.decode s k).2 ≤ s.size ∧ (((Utf8.decode s k).1 = byt s k ∧ byt s k < 128 ∧ (Utf8.decode s k).2 = 1) ∨ (128 ≤ (Utf8.decode s k).1 ∧ ∀ i, k ≤ i → i < k + (Utf8.decode s k).2 → 128 ≤ byt s i)) := by
  have hb : ∀ j, k + j < s.size → (s.get! (k + j)).toNat = byt s (k + j) := fun j hj => get_byt s _ hj
  have h0 := hb 0 (by omega)
  rw [Nat.add_zero] at h0
  have hlt : ∀ i, byt s i < 256 := byt_lt s
  by_cases ha : byt s k < 128
  · have e : Utf8.decode s k = (byt s k, 1) := by
      have h0' : s.get! (k + 0) = s.get! k := rfl
      simp only [Utf8.decode, h0', h0, if_pos ha]
    rw [e]
    exact ⟨Nat.le_refl _, by omega, Or.inl ⟨rfl, ha, rfl⟩⟩
  · have h1 : 128 ≤ (Utf8.decode s k).1 := by
      have := decode_high s k hk (by rw [byt_eq s k hk]; omega)
      exact this.1
    have hbk : 128 ≤ byt s k := by omega
    have ha' : ¬ (s.get! (k + 0)).toNat < 128 := by
      show ¬ (s.get! k).toNat < 128
      rw [h0]; exact ha
    have hc : ∀ j, (k + j < s.size && (s.get! (k + j)).toNat / 64 == 2) = true → k + j < s.size ∧ 128 ≤ byt s (k + j) := by
      intro j h
      rw [Bool.and_eq_true, decide_eq_true_eq, beq_iff_eq] at h
      obtain ⟨h2, h3⟩ := h
      rw [hb j h2] at h3
      exact ⟨h2, by omega⟩
    have key : ∀ m, m = (Utf8.decode s k).2 → 1 ≤ m ∧ k + m ≤ s.size ∧ ∀ i, k ≤ i → i < k + m → 128 ≤ byt s i := by
      intro m hm
      have one : 1 ≤ 1 ∧ k + 1 ≤ s.size ∧ ∀ i, k ≤ i → i < k + 1 → 128 ≤ byt s i := ⟨Nat.le_refl _, by omega, fun i h2 h3 => by rw [show i = k from by omega]; exact hbk⟩
      simp only [Utf8.decode, if_neg ha'] at hm
      split at hm
      · rename_i h
        rw [Bool.and_eq_true] at h
        have h2 := hc 1 h.2
        split at hm
        · subst hm
          refine ⟨by show 1 ≤ 2; decide, by show k + 2 ≤ s.size; omega, fun i h4 h5 => ?_⟩
          have h5 : i < k + 2 := h5
          rcases (by omega : i = k ∨ i = k + 1) with rfl | rfl
          · exact hbk
          · exact h2.2
        · subst hm; exact one
      · split at hm
        · rename_i h
          rw [Bool.and_eq_true, Bool.and_eq_true] at h
          have h2 := hc 1 h.1.2
          have h3 := hc 2 h.2
          split at hm
          · subst hm
            refine ⟨by show 1 ≤ 3; decide, by show k + 3 ≤ s.size; omega, fun i h4 h5 => ?_⟩
            have h5 : i < k + 3 := h5
            rcases (by omega : i = k ∨ i = k + 1 ∨ i = k + 2) with rfl | rfl | rfl
            · exact hbk
            · exact h2.2
            · exact h3.2
          · subst hm; exact one
        · split at hm
          · rename_i h
            rw [Bool.and_eq_true, Bool.and_eq_true, Bool.and_eq_true] at h
            have h2 := hc 1 h.1.1.2
            have h3 := hc 2 h.1.2
            have h4 := hc 3 h.2
            split at hm
            · subst hm
              refine ⟨by show 1 ≤ 4; decide, by show k + 4 ≤ s.size; omega, fun i h5 h6 => ?_⟩
              have h6 : i < k + 4 := h6
              rcases (by omega : i = k ∨ i = k + 1 ∨ i = k + 2 ∨ i = k + 3) with rfl | rfl | rfl | rfl
              · exact hbk
              · exact h2.2
              · exact h3.2
              · exact h4.2
            · subst hm; exact one
          · subst hm; exact one
    obtain ⟨k1, k2, k3⟩ := key _ rfl
    exact ⟨k1, k2, Or.inr ⟨h1, k3⟩⟩
open Go.RowKit
theorem own_noIter {w : World} {B e sz n g p : Nat} {v : Value} {xs : List Value} {s : ByteArray} (h : w.ownsRow B e sz v n xs) (hg : w.heap[g]? = some (.stringIter s p)) : v.ownBlock ≠ some g := by
  rcases h.2 with ⟨rfl, _⟩ | ⟨g', cap, cur, rfl, _, hgg, _⟩
  · simp [Value.ownBlock]
  · simp [Value.ownBlock]
    rintro rfl
    rw [hgg] at hg
    simp at hg
theorem own_iterAt {w : World} {B e sz n g p q : Nat} {v : Value} {xs : List Value} {s : ByteArray} (h : w.ownsRow B e sz v n xs) (hg : w.heap[g]? = some (.stringIter s p)) : (w.iterAt g s q).ownsRow B e sz v n xs :=
  h.kept (row := some g) ⟨rfl, rfl, rfl, by rw [Lib.iterAt_size]; exact Nat.le_refl _, fun k _ hk => Lib.iterAt_other w g k s q (fun e => hk (by rw [e]))⟩ (Or.inr (own_noIter h hg))
set_option maxHeartbeats 4000000 in
set_option maxRecDepth 100000 in
theorem implLines_any (s : ByteArray) (hs : s.size ≤ 1048576) (w : World) :
    Calls Tryd.prog 19 #[.string s] w fun e w' => ∃ v, e = .returned v ∧ w'.ownsRow w.heap.size 9 1 v (linesOf s).length (strVs (linesOf s)) ∧ Below w.heap.size w w' := by
  obtain ⟨i0, hi, hz0, hz1, hz2⟩ := info_parts Tryd.infoString
  go_enter Tryd.func19, Tryd.ntmps19
  go_wp2_with fail
  go_loopg [3, 4] s.size (fun g v bv wr => ∃ (k b : Nat) (D : List (List UInt8)), k ≤ s.size ∧ b ≤ k ∧ bv = .int .i64 (b : Int) ∧ g + k = s.size ∧ D.length ≤ k ∧ Hid (∀ i, b ≤ i → i < k → byt s i ≠ 10) ∧ Hid (D ++ rest s b = linesOf s) ∧ wr.ownsRow w.heap.size 9 1 v D.length (strVs D) ∧ Below w.heap.size w wr ∧ wr.heap[w.heap.size + 1]? = some (.stringIter s k))
  case atStart =>
    refine ⟨0, 0, [], by omega, by omega, rfl, by omega, by simp, hide (fun i h1 h2 => by omega), hide rfl, (own_none w w.heap.size (Nat.le_refl _)).alloc _, ((Below.refl _ _).alloc (Nat.le_refl _) _).alloc (by simp) _, ?_⟩
    have h := World.iter_heap (w.alloc (.cells #[] 9)) s 0
    rw [show (w.alloc (Obj.cells #[] 9)).heap.size = w.heap.size + 1 from by simp] at h
    exact h
  case round =>
    obtain ⟨k, b, D, hk, hbk, rfl, hg, hDk, HN, HT, hown, hb, hit⟩ := hrel
    have HG := hide hg
    clear hg
    by_cases hlt : k < s.size
    · have hnx := fun ty => Lib.run_next_any_at (P := Tryd.prog) wr (w.heap.size + 1) s k ty hit hlt
      obtain ⟨d1, d2, d3⟩ := rune_step s k hlt
      have hit2 := Lib.iterAt_heap wr (w.heap.size + 1) s k (k + (Utf8.decode s k).2) hit
      have hown2 := own_iterAt (q := k + (Utf8.decode s k).2) hown hit
      have hb2 := Lib.below_iterAt hb (k := w.heap.size + 1) (by omega) s (k + (Utf8.decode s k).2)
      obtain ⟨r, hr⟩ : ∃ r, r = (Utf8.decode s k).1 := ⟨_, rfl⟩
      obtain ⟨d, hd⟩ : ∃ d, d = (Utf8.decode s k).2 := ⟨_, rfl⟩
      rw [← hr, ← hd] at d3 hnx
      rw [← hd] at d1 d2 hit2 hown2 hb2
      obtain ⟨w2, hw2⟩ : ∃ x, x = wr.iterAt (w.heap.size + 1) s (k + d) := ⟨_, rfl⟩
      rw [← hw2] at hnx hit2 hown2 hb2
      have HI2 := hide hit2
      have HB2 := hide hb2
      have HO2 := hide hown2
      have HD3 := hide d3
      have HS : (w.heap.size ≤ w2.heap.size) ∧ w.heap.size + 1 < w2.heap.size := ⟨hb2.size, (Array.getElem?_eq_some_iff.1 hit2).1⟩
      have HSz := hide HS
      clear hr hd hw2 hit hown hb d3 hb2 hit2 hown2 HS
      by_cases hnl : r = 10
      · have h10 : ((r : Int) == 10) = true := by rw [beq_iff_eq]; omega
        have hd3 : byt s k = 10 ∧ d = 1 := by rcases HD3.out with h | h <;> omega
        have HT2 : Hid (D ++ [cutL s b k] ++ rest s (k + 1) = linesOf s) := hide (by rw [← HT.out, rest_nl s b k hbk hlt HN.out hd3.1]; simp)
        obtain rfl := hd3.2
        have hsl : ∀ wx : World, (Instr.slice 9 (.string s) (some (.int .i64 (b : Int))) (some (.int .i64 (k : Int))) none).run Tryd.prog wx = .ok (.string (s.extract b k)) wx := fun wx => by
          have := run_slice_string (P := Tryd.prog) wx 9 s .i64 .i64 (b : Int) (k : Int) Tryd.underlying9 (by omega) (by omega) (by omega)
          rw [this, Int.toNat_natCast, Int.toNat_natCast]
        clear hnl hd3
        have hB : w.heap.size ≤ w2.heap.size := HSz.out.1
        go_wp2_with (at_builtin; refine Hid.out ?_)
        refine hide ?_
        refine wpList_append_own _ rfl _ _ 50 rfl w.heap.size 9 i0 (.string ByteArray.empty) 1 16 Tryd.underlying50 hi hz0 hz1 hz2 rfl (by decide) _ _ _ rfl (HO2.out.alloc _) ⟨w2.heap.size, 0, none⟩ 1 1 [.string (s.extract b k)] rfl rfl ?c1 ?c2 ?c3 ?c4 ?c5 ?_
        case c1 => exact one_str _ _
        case c2 => intro u hu; simp at hu; subst hu; rfl
        case c3 => unfold maxLen; omega
        case c4 => omega
        case c5 => simp; omega
        intro v' w1 hown' hgrow _
        have hb1 : Below w.heap.size w w1 := below_grow HB2.out hB HO2.out ((Below.refl _ _).alloc hB _) hgrow
        have hit1 : w1.heap[w.heap.size + 1]? = some (.stringIter s (k + 1)) := by
          rw [hgrow.block (w.heap.size + 1) (by have := HSz.out.2; simp; omega) (own_noIter HO2.out HI2.out).symm, heap_alloc_old _ _ HSz.out.2]
          exact HI2.out
        have hown3 : w1.ownsRow w.heap.size 9 1 v' (D ++ [cutL s b k]).length (strVs (D ++ [cutL s b k])) := own_snocS rfl (by rw [strV_cut]; exact hown')
        clear hown' hgrow
        go_wp2_with fail
        go_roundg (gk - 1)
        case measure => have := HG.out; omega
        case rel => exact ⟨k + 1, k + 1, D ++ [cutL s b k], by omega, by omega, by go_num, by have := HG.out; omega, by simp; omega, hide (fun i h1 h2 => by omega), HT2, hown3, hb1, hit1⟩
      · have h10 : ((r : Int) == 10) = false := by rw [beq_eq_false_iff_ne]; omega
        have HN2 : Hid (∀ i, b ≤ i → i < k + d → byt s i ≠ 10) := hide (fun i h1 h2 => by
          by_cases e : i < k
          · exact HN.out i h1 e
          · rcases HD3.out with h | h
            · have : i = k := by omega
              subst this
              omega
            · have := h.2 i (by omega) h2
              omega)
        clear hnl
        go_wp2_with fail
        go_roundg (gk - d)
        case measure => have := HG.out; omega
        case rel => exact ⟨k + d, b, D, by omega, by omega, rfl, by have := HG.out; omega, by omega, HN2, HT, HO2.out, HB2.out, HI2.out⟩
    · obtain rfl : k = s.size := by omega
      have hnx := fun ty => Lib.run_next_end_at (P := Tryd.prog) wr (w.heap.size + 1) s s.size ty hit (Nat.lt_irrefl _)
      have HB2 := hide hb
      have HO2 := hide hown
      have hB : w.heap.size ≤ wr.heap.size := hb.size
      clear hb hown hit
      by_cases hw : b < s.size
      · have HT2 : Hid (D ++ [cutL s b s.size] = linesOf s) := hide (by rw [← HT.out, rest_end s b hw HN.out])
        have hsl : ∀ wx : World, (Instr.slice 9 (.string s) (some (.int .i64 (b : Int))) none none).run Tryd.prog wx = .ok (.string (s.extract b s.size)) wx := fun wx => by
          have := run_slice_string_from_if (P := Tryd.prog) wx 9 s .i64 (b : Int) Tryd.underlying9
          rw [this, if_pos ⟨by omega, by omega⟩, Int.toNat_natCast]
        have hbi : (b : Int) < (s.size : Int) := by omega
        clear hw
        go_wp2_with (at_builtin; refine wpList_append_own _ rfl _ _ 50 rfl w.heap.size 9 i0 (.string ByteArray.empty) 1 16 Tryd.underlying50 hi hz0 hz1 hz2 rfl (by decide) _ _ _ rfl (HO2.out.alloc _) ⟨wr.heap.size, 0, none⟩ 1 1 [.string (s.extract b s.size)] rfl rfl ?c1 ?c2 ?c3 ?c4 ?c5 ?_)
        case c1 => exact one_str _ _
        case c2 => intro u hu; simp at hu; subst hu; rfl
        case c3 => unfold maxLen; omega
        case c4 => omega
        case c5 => simp; omega
        intro v' w1 hown' hgrow _
        have hb1 : Below w.heap.size w w1 := below_grow HB2.out hB HO2.out ((Below.refl _ _).alloc hB _) hgrow
        have hown3 : w1.ownsRow w.heap.size 9 1 v' (D ++ [cutL s b s.size]).length (strVs (D ++ [cutL s b s.size])) := own_snocS rfl (by rw [strV_cut]; exact hown')
        clear hown' hgrow
        go_wp2_with fail
        go_ret
        refine ⟨_, rfl, ?_, hb1⟩
        rw [← HT2.out]
        exact hown3
      · obtain rfl : b = s.size := by omega
        have HT2 : Hid (D = linesOf s) := hide (by rw [← HT.out, rest_none, List.append_nil])
        clear hw
        go_wp2_with fail
        go_ret
        refine ⟨_, rfl, ?_, HB2.out⟩
        rw [← HT2.out]
        exact HO2.out
open Go.RowKit
set_option maxHeartbeats 4000000 in
set_option maxRecDepth 100000 in
theorem implEventOk_any (v : Value) (e : Evt) (h1 : e.key.size ≤ maxLen) (h2 : e.val.size ≤ maxLen) (h3 : e.left.length ≤ maxLen) (w : World) (hd : EvAt w v e) :
    Calls Tryd.prog 56 #[v] w fun r w' => r = .returned (.bool e.ok) ∧ Below w.heap.size w w' := by
  obtain ⟨a, cap, rfl, -⟩ := hd
  obtain ⟨kind, id, key, val, stage, lft, torn⟩ := e
  dsimp only at h1 h2 h3 ⊢
  unfold maxLen at h1 h2 h3
  have HOk : Hid (Evt.ok ⟨kind, id, key, val, stage, lft, torn⟩ = (decide (1 ≤ kind ∧ kind ≤ 10) && decide (1 ≤ id ∧ id ≤ 9) && decide (key.size ≤ 30) && decide (val.size ≤ 30) && decide (0 ≤ stage ∧ stage ≤ 1) && decide (lft.length ≤ 60) && decide (-1 ≤ torn ∧ torn ≤ 60))) := hide rfl
  obtain ⟨ok, hok⟩ : ∃ b, b = Evt.ok ⟨kind, id, key, val, stage, lft, torn⟩ := ⟨_, rfl⟩
  rw [← hok] at HOk ⊢
  obtain ⟨ll, hll⟩ : ∃ n, n = lft.length := ⟨_, rfl⟩
  rw [← hll] at HOk h3 ⊢
  clear hok hll
  by_cases g0 : kind < 1
  · have d0 : decide (kind < 1) = true := decide_eq_true (by omega)
    have HO : Hid (ok = false) := hide (by rw [HOk.out]; simp; omega)
    go_enter Tryd.func56, Tryd.ntmps56
    go_wp2
    go_ret
    rw [HO.out]
    exact ⟨rfl, (Below.refl _ _).alloc (Nat.le_refl _) _⟩
  have d0 : decide (kind < 1) = false := decide_eq_false (by omega)
  by_cases g1 : 10 < kind
  · have d1 : decide (10 < kind) = true := decide_eq_true (by omega)
    have HO : Hid (ok = false) := hide (by rw [HOk.out]; simp; omega)
    go_enter Tryd.func56, Tryd.ntmps56
    go_wp2
    go_ret
    rw [HO.out]
    exact ⟨rfl, (Below.refl _ _).alloc (Nat.le_refl _) _⟩
  have d1 : decide (10 < kind) = false := decide_eq_false (by omega)
  by_cases g2 : id < 1
  · have d2 : decide (id < 1) = true := decide_eq_true (by omega)
    have HO : Hid (ok = false) := hide (by rw [HOk.out]; simp; omega)
    go_enter Tryd.func56, Tryd.ntmps56
    go_wp2
    go_ret
    rw [HO.out]
    exact ⟨rfl, (Below.refl _ _).alloc (Nat.le_refl _) _⟩
  have d2 : decide (id < 1) = false := decide_eq_false (by omega)
  by_cases g3 : 9 < id
  · have d3 : decide (9 < id) = true := decide_eq_true (by omega)
    have HO : Hid (ok = false) := hide (by rw [HOk.out]; simp; omega)
    go_enter Tryd.func56, Tryd.ntmps56
    go_wp2
    go_ret
    rw [HO.out]
    exact ⟨rfl, (Below.refl _ _).alloc (Nat.le_refl _) _⟩
  have d3 : decide (9 < id) = false := decide_eq_false (by omega)
  by_cases g4 : 30 < key.size
  · have d4 : decide ((30 : Int) < (key.size : Int)) = true := decide_eq_true (by omega)
    have HO : Hid (ok = false) := hide (by rw [HOk.out]; simp; omega)
    go_enter Tryd.func56, Tryd.ntmps56
    go_wp2
    go_ret
    rw [HO.out]
    exact ⟨rfl, (Below.refl _ _).alloc (Nat.le_refl _) _⟩
  have d4 : decide ((30 : Int) < (key.size : Int)) = false := decide_eq_false (by omega)
  by_cases g5 : 30 < val.size
  · have d5 : decide ((30 : Int) < (val.size : Int)) = true := decide_eq_true (by omega)
    have HO : Hid (ok = false) := hide (by rw [HOk.out]; simp; omega)
    go_enter Tryd.func56, Tryd.ntmps56
    go_wp2
    go_ret
    rw [HO.out]
    exact ⟨rfl, (Below.refl _ _).alloc (Nat.le_refl _) _⟩
  have d5 : decide ((30 : Int) < (val.size : Int)) = false := decide_eq_false (by omega)
  by_cases g6 : stage = 0 ∨ stage = 1
  rotate_left
  · have d6 : (stage == 0) = false := by simp; omega
    have d7 : (stage == 1) = false := by simp; omega
    have HO : Hid (ok = false) := hide (by rw [HOk.out]; simp; omega)
    go_enter Tryd.func56, Tryd.ntmps56
    go_wp2
    go_ret
    rw [HO.out]
    exact ⟨rfl, (Below.refl _ _).alloc (Nat.le_refl _) _⟩
  rcases g6 with rfl | rfl
  · have d6 : ((0 : Int) == 0) = true := rfl
    by_cases g7 : ll ≤ 60
    rotate_left
    · have d8 : decide ((ll : Int) ≤ 60) = false := decide_eq_false (by omega)
      have HO : Hid (ok = false) := hide (by rw [HOk.out]; simp; omega)
      go_enter Tryd.func56, Tryd.ntmps56
      go_wp2
      go_ret
      rw [HO.out]
      exact ⟨rfl, (Below.refl _ _).alloc (Nat.le_refl _) _⟩
    have d8 : decide ((ll : Int) ≤ 60) = true := decide_eq_true (by omega)
    by_cases g8 : -1 ≤ torn
    rotate_left
    · have d9 : decide (-1 ≤ torn) = false := decide_eq_false (by omega)
      have HO : Hid (ok = false) := hide (by rw [HOk.out]; simp; omega)
      go_enter Tryd.func56, Tryd.ntmps56
      go_wp2
      go_ret
      rw [HO.out]
      exact ⟨rfl, (Below.refl _ _).alloc (Nat.le_refl _) _⟩
    have d9 : decide (-1 ≤ torn) = true := decide_eq_true (by omega)
    by_cases g9 : torn ≤ 60
    rotate_left
    · have d10 : decide (torn ≤ 60) = false := decide_eq_false (by omega)
      have HO : Hid (ok = false) := hide (by rw [HOk.out]; simp; omega)
      go_enter Tryd.func56, Tryd.ntmps56
      go_wp2
      go_ret
      rw [HO.out]
      exact ⟨rfl, (Below.refl _ _).alloc (Nat.le_refl _) _⟩
    have d10 : decide (torn ≤ 60) = true := decide_eq_true (by omega)
    have HO : Hid (ok = true) := hide (by rw [HOk.out]; simp; omega)
    go_enter Tryd.func56, Tryd.ntmps56
    go_wp2
    go_ret
    rw [HO.out]
    exact ⟨rfl, (Below.refl _ _).alloc (Nat.le_refl _) _⟩
  · have d6 : ((1 : Int) == 0) = false := rfl
    have d7 : ((1 : Int) == 1) = true := rfl
    by_cases g7 : ll ≤ 60
    rotate_left
    · have d8 : decide ((ll : Int) ≤ 60) = false := decide_eq_false (by omega)
      have HO : Hid (ok = false) := hide (by rw [HOk.out]; simp; omega)
      go_enter Tryd.func56, Tryd.ntmps56
      go_wp2
      go_ret
      rw [HO.out]
      exact ⟨rfl, (Below.refl _ _).alloc (Nat.le_refl _) _⟩
    have d8 : decide ((ll : Int) ≤ 60) = true := decide_eq_true (by omega)
    by_cases g8 : -1 ≤ torn
    rotate_left
    · have d9 : decide (-1 ≤ torn) = false := decide_eq_false (by omega)
      have HO : Hid (ok = false) := hide (by rw [HOk.out]; simp; omega)
      go_enter Tryd.func56, Tryd.ntmps56
      go_wp2
      go_ret
      rw [HO.out]
      exact ⟨rfl, (Below.refl _ _).alloc (Nat.le_refl _) _⟩
    have d9 : decide (-1 ≤ torn) = true := decide_eq_true (by omega)
    by_cases g9 : torn ≤ 60
    rotate_left
    · have d10 : decide (torn ≤ 60) = false := decide_eq_false (by omega)
      have HO : Hid (ok = false) := hide (by rw [HOk.out]; simp; omega)
      go_enter Tryd.func56, Tryd.ntmps56
      go_wp2
      go_ret
      rw [HO.out]
      exact ⟨rfl, (Below.refl _ _).alloc (Nat.le_refl _) _⟩
    have d10 : decide (torn ≤ 60) = true := decide_eq_true (by omega)
    have HO : Hid (ok = true) := hide (by rw [HOk.out]; simp; omega)
    go_enter Tryd.func56, Tryd.ntmps56
    go_wp2
    go_ret
    rw [HO.out]
    exact ⟨rfl, (Below.refl _ _).alloc (Nat.le_refl _) _⟩
open Go.RowKit
def EvV (B : Nat) (W : World) (g : Nat) (e : Evt) (u : Value) : Prop :=
  B ≤ g ∧ W.heap[g]? = some (.cells (ev7 (e, u)).toArray 35 (0, 0)) ∧ W.ownsRow B 4 1 u e.left.length (bools e.left)
theorem EvV.lt {B : Nat} {W : World} {g : Nat} {e : Evt} {u : Value} (h : EvV B W g e u) : g < W.heap.size := (Array.getElem?_eq_some_iff.1 h.2.1).1
theorem EvV.cell {B : Nat} {W : World} {g : Nat} {e : Evt} {u : Value} (h : EvV B W g e u) (j : Nat) : W.cell? ⟨g, j, none⟩ = (ev7 (e, u)).toArray[j]? := Lib.cell_of_heap h.2.1 j
theorem EvV.froz {B : Nat} {W : World} {g : Nat} {e : Evt} {u : Value} (h : EvV B W g e u) (j : Nat) : W.frozen? ⟨g, j, none⟩ = false := Lib.frozen_of_heap h.2.1 j
theorem EvV.stays {B : Nat} {W W' : World} {g : Nat} {e : Evt} {u : Value} (h : EvV B W g e u) (hb : Below W.heap.size W W') : EvV B W' g e u := ⟨h.1, (hb.block g h.lt).trans h.2.1, own_stays h.2.2 hb⟩
theorem own_noEv {w : World} {B n g : Nat} {v : Value} {xs : List Value} {cs : Array Value} {fz : Nat × Nat} (h : w.ownsRow B 4 1 v n xs) (hg : w.heap[g]? = some (.cells cs 35 fz)) : v.ownBlock ≠ some g := by
  rcases h.2 with ⟨rfl, _⟩ | ⟨g', cap, cur, rfl, _, hgg, _⟩
  · simp [Value.ownBlock]
  · simp [Value.ownBlock]
    rintro rfl
    rw [hgg] at hg
    simp at hg
theorem EvV.set {B : Nat} {W : World} {g : Nat} {e e' : Evt} {u u' : Value} (h : EvV B W g e u) (hu : W.ownsRow B 4 1 u' e'.left.length (bools e'.left)) (j : Nat) (x : Value) (hs : (ev7 (e, u)).set j x = ev7 (e', u')) : EvV B (W.setCell ⟨g, j, none⟩ x) g e' u' := by
  refine ⟨h.1, ?_, ?_⟩
  · have h2 := h.2.1
    simp only [World.setCell, Array.getElem?_modify, h2, if_true, Option.map_some]
    rw [← hs]
    simp
  · refine hu.kept (row := some g) ⟨rfl, rfl, rfl, by simp [World.setCell], fun k _ hk => Below.heap_setCell _ _ _ _ (fun e => hk (by simp [e]))⟩ (Or.inr (own_noEv hu h.2.1))
theorem EvV.setB {B : Nat} {W : World} {g : Nat} {e : Evt} {u : Value} (h : EvV B W g e u) (j : Nat) (x : Value) : Below B W (W.setCell ⟨g, j, none⟩ x) := (Below.refl B W).setCell (p := ⟨g, j, none⟩) h.1 x
set_option maxHeartbeats 1000000 in
set_option maxRecDepth 100000 in
theorem readKey_any (x : ByteArray) (B g : Nat) (e : Evt) (u : Value) (W : World) (h : EvV B W g e u) :
    Calls Tryd.prog 70 #[.pointer (some ⟨g, 0, none⟩), .string x] W fun r w' => r = .returned (.bool true) ∧ EvV B w' g { e with key := x } u ∧ Below B W w' := by
  have c2 := h.cell 2
  have f2 := h.froz 2
  have HE := hide (h.set (e' := { e with key := x }) h.2.2 2 (.string x) rfl)
  have HB := hide (h.setB 2 (.string x))
  clear h
  go_enter Tryd.func70, Tryd.ntmps70
  go_wp2_with fail
  go_ret
  exact ⟨rfl, HE.out, HB.out⟩
set_option maxHeartbeats 1000000 in
set_option maxRecDepth 100000 in
theorem readVal_any (x : ByteArray) (B g : Nat) (e : Evt) (u : Value) (W : World) (h : EvV B W g e u) :
    Calls Tryd.prog 71 #[.pointer (some ⟨g, 0, none⟩), .string x] W fun r w' => r = .returned (.bool true) ∧ EvV B w' g { e with val := x } u ∧ Below B W w' := by
  have c3 := h.cell 3
  have f3 := h.froz 3
  have HE := hide (h.set (e' := { e with val := x }) h.2.2 3 (.string x) rfl)
  have HB := hide (h.setB 3 (.string x))
  clear h
  go_enter Tryd.func71, Tryd.ntmps71
  go_wp2_with fail
  go_ret
  exact ⟨rfl, HE.out, HB.out⟩
def RdPost (B g : Nat) (W : World) (r : Option Evt) (e : Ending) (w' : World) : Prop := (match r with | none => e = .returned (.bool false) | some ev => e = .returned (.bool true) ∧ ∃ u, EvV B w' g ev u) ∧ Below B W w'
set_option maxHeartbeats 1000000 in
set_option maxRecDepth 100000 in
theorem readId_any (x : List UInt8) (hx : x.length ≤ 1048576) (B g : Nat) (e : Evt) (u : Value) (W : World) (h : EvV B W g e u) :
    Calls Tryd.prog 72 #[.pointer (some ⟨g, 0, none⟩), .string (ba x)] W (RdPost B g W ((decO x).map fun n => { e with id := n })) := by
  have HR := hide (implReadDecimal_any (ba x) (by rw [ba_size]; exact hx) W)
  have HH := hide h
  clear h
  go_enter Tryd.func72, Tryd.ntmps72
  go_wp2_with fail
  refine HR.out.mono ?_
  rintro r w1 ⟨hy, hno, hb⟩
  have h1 := HH.out.stays hb
  have HB1 := hide (hb.mono (Nat.le_of_lt (Nat.lt_of_le_of_lt HH.out.1 HH.out.lt)))
  have c1 := h1.cell 1
  have f1 := h1.froz 1
  have HE := hide (fun n : Int => (⟨h1.set (e' := { e with id := n }) h1.2.2 1 (.int .i64 n) rfl, h1.setB 1 (.int .i64 n)⟩ : _ ∧ _))
  clear hb h1
  by_cases hok : okD (ba x)
  · have HD := hide (dec_yes hok)
    obtain rfl := hy hok
    clear hy hno hok
    go_wp2_with fail
    go_ret
    rw [HD.out]
    exact ⟨⟨rfl, u, (HE.out _).1⟩, HB1.out.trans (HE.out _).2⟩
  · have HD := hide (dec_no hok)
    obtain rfl := hno hok
    clear hy hno hok
    go_wp2_with fail
    go_ret
    rw [HD.out]
    exact ⟨rfl, HB1.out.trans (HE.out _).2⟩
set_option maxHeartbeats 1000000 in
set_option maxRecDepth 100000 in
theorem readStage_any (x : List UInt8) (hx : x.length ≤ 1048576) (B g : Nat) (e : Evt) (u : Value) (W : World) (h : EvV B W g e u) :
    Calls Tryd.prog 73 #[.pointer (some ⟨g, 0, none⟩), .string (ba x)] W (RdPost B g W ((decO x).map fun n => { e with stage := n })) := by
  have HR := hide (implReadDecimal_any (ba x) (by rw [ba_size]; exact hx) W)
  have HH := hide h
  clear h
  go_enter Tryd.func73, Tryd.ntmps73
  go_wp2_with fail
  refine HR.out.mono ?_
  rintro r w1 ⟨hy, hno, hb⟩
  have h1 := HH.out.stays hb
  have HB1 := hide (hb.mono (Nat.le_of_lt (Nat.lt_of_le_of_lt HH.out.1 HH.out.lt)))
  have c1 := h1.cell 4
  have f1 := h1.froz 4
  have HE := hide (fun n : Int => (⟨h1.set (e' := { e with stage := n }) h1.2.2 4 (.int .i64 n) rfl, h1.setB 4 (.int .i64 n)⟩ : _ ∧ _))
  clear hb h1
  by_cases hok : okD (ba x)
  · have HD := hide (dec_yes hok)
    obtain rfl := hy hok
    clear hy hno hok
    go_wp2_with fail
    go_ret
    rw [HD.out]
    exact ⟨⟨rfl, u, (HE.out _).1⟩, HB1.out.trans (HE.out _).2⟩
  · have HD := hide (dec_no hok)
    obtain rfl := hno hok
    clear hy hno hok
    go_wp2_with fail
    go_ret
    rw [HD.out]
    exact ⟨rfl, HB1.out.trans (HE.out _).2⟩
open Go.RowKit
theorem EvV.iterAt {B : Nat} {W : World} {g gi : Nat} {e : Evt} {u : Value} {s : ByteArray} {p q : Nat} (h : EvV B W g e u) (hi : W.heap[gi]? = some (.stringIter s p)) : EvV B (W.iterAt gi s q) g e u := by
  refine ⟨h.1, ?_, own_iterAt h.2.2 hi⟩
  rw [Lib.iterAt_other W gi g s q (fun e => by subst e; rw [h.2.1] at hi; simp at hi)]
  exact h.2.1
set_option maxHeartbeats 4000000 in
set_option maxRecDepth 100000 in
theorem readLeft_any (x : List UInt8) (hx : x.length ≤ 1048576) (B g : Nat) (e : Evt) (he : e.left.length ≤ 1048576) (u : Value) (W : World) (h : EvV B W g e u) :
    Calls Tryd.prog 74 #[.pointer (some ⟨g, 0, none⟩), .string (ba x)] W (RdPost B g W ((bitsO x).map fun bs => { e with left := e.left ++ bs })) := by
  obtain ⟨i0, hinf, hz0, hz1, hz2⟩ := info_parts Tryd.infoBool
  have hlit := bl_lit x [45]
  obtain ⟨X, hX⟩ : ∃ y, y = ba x := ⟨_, rfl⟩
  rw [← hX] at hlit ⊢
  have HX := hide hX
  have HN : Hid (X.size = x.length) := hide (by rw [hX, ba_size])
  have hsz : X.size ≤ 1048576 := by rw [HN.out]; exact hx
  have HH := hide h
  clear h hX hx
  by_cases hd : x = [45]
  · rw [decide_eq_true hd] at hlit
    have HD := hide (bits_dash hd)
    clear hd
    go_enter Tryd.func74, Tryd.ntmps74
    go_wp2_with fail
    go_ret
    rw [HD.out]
    refine ⟨⟨rfl, u, ?_⟩, Below.refl _ _⟩
    rw [show ((fun bs => { e with left := e.left ++ bs }) [] : Evt) = e from by simp]
    exact HH.out
  rw [decide_eq_false hd] at hlit
  have HD := hide hd
  have HBg : Hid (B ≤ W.heap.size) := hide (Nat.le_of_lt (Nat.lt_of_le_of_lt HH.out.1 HH.out.lt))
  clear hd
  go_enter Tryd.func74, Tryd.ntmps74
  go_wp2_with fail
  go_loopg [] X.size (fun q wr => ∃ (k : Nat) (u' : Value), k ≤ X.size ∧ q + k = X.size ∧ Hid (∀ i, i < k → byt X i = 48 ∨ byt X i = 49) ∧ Hid (EvV B wr g { e with left := e.left ++ (x.take k).map (· == 49) } u') ∧ Hid (Below B W wr) ∧ wr.heap[W.heap.size]? = some (.stringIter X k))
  case atStart =>
    refine ⟨0, u, by omega, by omega, hide (fun i h => by omega), hide ?_, hide ((Below.refl _ _).alloc HBg.out _), World.iter_heap W X 0⟩
    have h := HH.out.stays ((Below.refl W.heap.size W).alloc (Nat.le_refl _) (.stringIter X 0))
    rw [show ({ e with left := e.left ++ (x.take 0).map (· == 49) } : Evt) = e from by simp]
    exact h
  case round =>
    obtain ⟨k, u', hk, hg, HBt, HE, HB, hit⟩ := hrel
    have HG := hide hg
    clear hg
    by_cases hlt : k < X.size
    · have hnx := fun ty => Lib.run_next_any_at (P := Tryd.prog) wr W.heap.size X k ty hit hlt
      obtain ⟨d1, d2, d3⟩ := rune_step X k hlt
      have hit2 := Lib.iterAt_heap wr W.heap.size X k (k + (Utf8.decode X k).2) hit
      have hE2 := HE.out.iterAt (q := k + (Utf8.decode X k).2) hit
      have hb2 := Lib.below_iterAt HB.out (k := W.heap.size) HBg.out X (k + (Utf8.decode X k).2)
      obtain ⟨r, hr⟩ : ∃ r, r = (Utf8.decode X k).1 := ⟨_, rfl⟩
      obtain ⟨d, hdd⟩ : ∃ d, d = (Utf8.decode X k).2 := ⟨_, rfl⟩
      rw [← hr, ← hdd] at d3 hnx
      rw [← hdd] at d1 d2 hit2 hE2 hb2
      obtain ⟨w2, hw2⟩ : ∃ x, x = wr.iterAt W.heap.size X (k + d) := ⟨_, rfl⟩
      rw [← hw2] at hnx hit2 hE2 hb2
      have HI2 := hide hit2
      have HB2 := hide hb2
      have HE2 := hide hE2
      have HD3 := hide d3
      have HK : Hid (k < x.length) := hide (by rw [← HN.out]; exact hlt)
      clear hr hdd hw2 hit d3 hb2 hit2 HE HB hE2
      by_cases h01 : r = 48 ∨ r = 49
      rotate_left
      · have h48 : ((r : Int) != 48) = true := by simp; omega
        have h49 : ((r : Int) != 49) = true := by simp; omega
        have HR : Hid (bitsO x = none) := hide (by
          refine bits_no HD.out k HK.out ?_ ?_
          · rw [← HX.out]
            rcases HD3.out with h | h
            · omega
            · have := h.2 k (Nat.le_refl _) (by omega)
              omega
          · rw [← HX.out]
            rcases HD3.out with h | h
            · omega
            · have := h.2 k (Nat.le_refl _) (by omega)
              omega)
        clear h01
        go_wp2_with fail
        go_ret
        rw [HR.out]
        exact ⟨rfl, HB2.out⟩
      have hd1 : byt X k = r ∧ d = 1 := by rcases HD3.out with h | h <;> omega
      obtain rfl := hd1.2
      have HT : Hid ((x.take (k + 1)).map (· == 49) = (x.take k).map (· == (49 : UInt8)) ++ [((r : Nat) : Int) == 49]) := hide (by rw [bit_next x k HK.out, ← HX.out, hd1.1])
      have HBt2 : Hid (∀ i, i < k + 1 → byt X i = 48 ∨ byt X i = 49) := hide (fun i hi => by
        by_cases e : i = k
        · rw [e, hd1.1]; exact h01
        · exact HBt.out i (by omega))
      have hnb : (((r : Int) != 48) && ((r : Int) != 49)) = false := by rcases h01 with rfl | rfl <;> rfl
      have HR0 := hide hd1.1
      obtain ⟨bb, hbb⟩ : ∃ b, b = (((r : Nat) : Int) == 49) := ⟨_, rfl⟩
      rw [← hbb] at HT
      have hB := Nat.le_trans HBg.out (by have := HB2.out.size; exact this : W.heap.size ≤ w2.heap.size)
      have hc5 : w2.cell? ⟨g, 5, none⟩ = some u' := HE2.out.cell 5
      have hlen : (e.left ++ (x.take k).map (· == (49 : UInt8))).length ≤ 2097152 := by
        rw [List.length_append, List.length_map]
        have := List.length_take_le k x
        have := HN.out
        omega
      obtain ⟨au, cu, hu'⟩ := own_slice HE2.out.2.2
      subst hu'
      obtain ⟨n0, hn0⟩ : ∃ n, n = (e.left ++ (x.take k).map (· == (49 : UInt8))).length := ⟨_, rfl⟩
      obtain ⟨bs0, hbs0⟩ : ∃ b, b = bools (e.left ++ (x.take k).map (· == (49 : UInt8))) := ⟨_, rfl⟩
      have HOw : Hid (w2.ownsRow B 4 1 (.slice au n0 cu) n0 bs0) := hide (by rw [hn0, hbs0]; exact HE2.out.2.2)
      have hlen2 : n0 ≤ 2097152 := by rw [hn0]; exact hlen
      have hc5' : w2.cell? ⟨g, 5, none⟩ = some (.slice au n0 cu) := by rw [hn0]; exact hc5
      have HN0 := hide hn0
      have HS0 := hide hbs0
      clear hc5 hlen hn0 hbs0 hd1
      rcases h01 with h0 | h0
      · subst h0
        have HBv : Hid (bb = false) := hide hbb
        clear hbb
        go_wp2_with (at_builtin; refine Hid.out ?_)
        refine hide ?_
        refine wpList_append_own _ rfl _ _ 33 rfl B 4 i0 (.bool false) 1 1 Tryd.underlying33 hinf hz0 hz1 hz2 rfl (by decide) _ _ _ rfl (HOw.out.alloc _) ⟨w2.heap.size, 0, none⟩ 1 1 [.bool false] rfl rfl ?c1 ?c2 ?c3 ?c4 ?c5 ?_
        case c1 => intro j u hu; cases j with | zero => injection hu with hu; subst hu; exact Lib.cell_of_heap (heap_alloc_new w2 _) 0 | succ j => simp at hu
        case c2 => intro u hu; simp at hu; subst hu; rfl
        case c3 => unfold maxLen; omega
        case c4 => omega
        case c5 => simp; omega
        intro v' w3 hown' hgrow _
        have hlt2 : g < (w2.alloc (.cells #[.bool false] 4)).heap.size := by have := HE2.out.lt; simp; omega
        have hg3 : w3.heap[g]? = some (.cells (ev7 ({ e with left := e.left ++ (x.take k).map (· == 49) }, .slice au n0 cu)).toArray 35 (0, 0)) := by
          rw [hgrow.block g hlt2 (own_noEv HOw.out HE2.out.2.1).symm, heap_alloc_old _ _ HE2.out.lt, HN0.out]
          exact HE2.out.2.1
        have hit3 : w3.heap[W.heap.size]? = some (.stringIter X (k + 1)) := by
          have hl : W.heap.size < w2.heap.size := (Array.getElem?_eq_some_iff.1 HI2.out).1
          rw [hgrow.block W.heap.size (by simp; omega) (own_noIter HOw.out HI2.out).symm, heap_alloc_old _ _ hl]
          exact HI2.out
        have hb3 : Below B w2 w3 := below_grow (Below.refl _ _) hB HOw.out ((Below.refl _ _).alloc hB _) hgrow
        obtain ⟨a3, c3, rfl⟩ := own_slice hown'
        have hE3 : EvV B (w3.setCell ⟨g, 5, none⟩ (.slice a3 (n0 + 1) c3)) g { e with left := e.left ++ (x.take (k + 1)).map (· == 49) } (.slice a3 (n0 + 1) c3) := by
          have ho : w3.ownsRow B 4 1 (.slice a3 (n0 + 1) c3) (e.left ++ (x.take (k + 1)).map (· == 49)).length (bools (e.left ++ (x.take (k + 1)).map (· == 49))) := by
            rw [HT.out, ← List.append_assoc, bools_snocE, ← HS0.out, List.length_append, ← HN0.out, HBv.out]
            exact hown'
          refine ⟨HE2.out.1, ?_, ?_⟩
          · simp only [World.setCell, Array.getElem?_modify, hg3, if_true, Option.map_some]
            simp [ev7]
          · refine ho.kept (row := some g) ⟨rfl, rfl, rfl, by simp [World.setCell], fun k _ hk => Below.heap_setCell _ _ _ _ (fun e => hk (by simp [e]))⟩ (Or.inr (own_noEv ho hg3))
        have hit4 : (w3.setCell ⟨g, 5, none⟩ (.slice a3 (n0 + 1) c3)).heap[W.heap.size]? = some (.stringIter X (k + 1)) := by
          rw [Below.heap_setCell _ _ _ _ (fun e => by subst e; rw [hg3] at hit3; simp at hit3)]
          exact hit3
        have d5 : w3.cell? ⟨g, 5, none⟩ = some (.slice au n0 cu) := Lib.cell_of_heap hg3 5
        have f5 : w3.frozen? ⟨g, 5, none⟩ = false := Lib.frozen_of_heap hg3 5
        have HB4 : Hid (Below B W (w3.setCell ⟨g, 5, none⟩ (.slice a3 (n0 + 1) c3))) := hide ((HB2.out.trans hb3).setCell (p := ⟨g, 5, none⟩) HE2.out.1 _)
        have HE4 := hide hE3
        have HI4 := hide hit4
        clear hown' hgrow hE3 hit4 hit3 hb3 hg3 hlt2 hc5'
        go_wp2_with fail
        go_roundg (gk - 1)
        case measure => have := HG.out; omega
        case rel => exact ⟨k + 1, _, by omega, by have := HG.out; omega, HBt2, HE4, HB4, HI4.out⟩
      · subst h0
        have HBv : Hid (bb = true) := hide hbb
        clear hbb
        go_wp2_with (at_builtin; refine Hid.out ?_)
        refine hide ?_
        refine wpList_append_own _ rfl _ _ 33 rfl B 4 i0 (.bool false) 1 1 Tryd.underlying33 hinf hz0 hz1 hz2 rfl (by decide) _ _ _ rfl (HOw.out.alloc _) ⟨w2.heap.size, 0, none⟩ 1 1 [.bool true] rfl rfl ?c1 ?c2 ?c3 ?c4 ?c5 ?_
        case c1 => intro j u hu; cases j with | zero => injection hu with hu; subst hu; exact Lib.cell_of_heap (heap_alloc_new w2 _) 0 | succ j => simp at hu
        case c2 => intro u hu; simp at hu; subst hu; rfl
        case c3 => unfold maxLen; omega
        case c4 => omega
        case c5 => simp; omega
        intro v' w3 hown' hgrow _
        have hlt2 : g < (w2.alloc (.cells #[.bool true] 4)).heap.size := by have := HE2.out.lt; simp; omega
        have hg3 : w3.heap[g]? = some (.cells (ev7 ({ e with left := e.left ++ (x.take k).map (· == 49) }, .slice au n0 cu)).toArray 35 (0, 0)) := by
          rw [hgrow.block g hlt2 (own_noEv HOw.out HE2.out.2.1).symm, heap_alloc_old _ _ HE2.out.lt, HN0.out]
          exact HE2.out.2.1
        have hit3 : w3.heap[W.heap.size]? = some (.stringIter X (k + 1)) := by
          have hl : W.heap.size < w2.heap.size := (Array.getElem?_eq_some_iff.1 HI2.out).1
          rw [hgrow.block W.heap.size (by simp; omega) (own_noIter HOw.out HI2.out).symm, heap_alloc_old _ _ hl]
          exact HI2.out
        have hb3 : Below B w2 w3 := below_grow (Below.refl _ _) hB HOw.out ((Below.refl _ _).alloc hB _) hgrow
        obtain ⟨a3, c3, rfl⟩ := own_slice hown'
        have hE3 : EvV B (w3.setCell ⟨g, 5, none⟩ (.slice a3 (n0 + 1) c3)) g { e with left := e.left ++ (x.take (k + 1)).map (· == 49) } (.slice a3 (n0 + 1) c3) := by
          have ho : w3.ownsRow B 4 1 (.slice a3 (n0 + 1) c3) (e.left ++ (x.take (k + 1)).map (· == 49)).length (bools (e.left ++ (x.take (k + 1)).map (· == 49))) := by
            rw [HT.out, ← List.append_assoc, bools_snocE, ← HS0.out, List.length_append, ← HN0.out, HBv.out]
            exact hown'
          refine ⟨HE2.out.1, ?_, ?_⟩
          · simp only [World.setCell, Array.getElem?_modify, hg3, if_true, Option.map_some]
            simp [ev7]
          · refine ho.kept (row := some g) ⟨rfl, rfl, rfl, by simp [World.setCell], fun k _ hk => Below.heap_setCell _ _ _ _ (fun e => hk (by simp [e]))⟩ (Or.inr (own_noEv ho hg3))
        have hit4 : (w3.setCell ⟨g, 5, none⟩ (.slice a3 (n0 + 1) c3)).heap[W.heap.size]? = some (.stringIter X (k + 1)) := by
          rw [Below.heap_setCell _ _ _ _ (fun e => by subst e; rw [hg3] at hit3; simp at hit3)]
          exact hit3
        have d5 : w3.cell? ⟨g, 5, none⟩ = some (.slice au n0 cu) := Lib.cell_of_heap hg3 5
        have f5 : w3.frozen? ⟨g, 5, none⟩ = false := Lib.frozen_of_heap hg3 5
        have HB4 : Hid (Below B W (w3.setCell ⟨g, 5, none⟩ (.slice a3 (n0 + 1) c3))) := hide ((HB2.out.trans hb3).setCell (p := ⟨g, 5, none⟩) HE2.out.1 _)
        have HE4 := hide hE3
        have HI4 := hide hit4
        clear hown' hgrow hE3 hit4 hit3 hb3 hg3 hlt2 hc5'
        go_wp2_with fail
        go_roundg (gk - 1)
        case measure => have := HG.out; omega
        case rel => exact ⟨k + 1, _, by omega, by have := HG.out; omega, HBt2, HE4, HB4, HI4.out⟩
    · obtain rfl : k = X.size := by omega
      have hnx := fun ty => Lib.run_next_end_at (P := Tryd.prog) wr W.heap.size X X.size ty hit (Nat.lt_irrefl _)
      have HR : Hid (bitsO x = some (x.map (· == 49))) := hide (bits_all HD.out (fun i hi => by rw [← HX.out]; exact HBt.out i (by rw [HN.out]; exact hi)))
      have HT : Hid (x.take X.size = x) := hide (by rw [HN.out]; exact List.take_length)
      clear hit
      go_wp2_with fail
      go_ret
      rw [HR.out]
      refine ⟨⟨rfl, u', ?_⟩, HB.out⟩
      have := HE.out
      rw [HT.out] at this
      exact this
end Go.Proofs.YtmmepgincbngeaaDoor
