/-
  Plain facts on disks, without any program: what is read behind a write, behind a sync, behind a fall.
-/
import Derived.Test.YtjjjnloimpehbaaPlain10
namespace Go.Proofs.Ytjjjnloimpehbaa
open Go.RowKit

theorem lateAt_append (ls ms : List (Int × ByteArray)) (page : Int) : ∀ k, k ≤ ls.length → lateAt (ls ++ ms) page k = lateAt ls page k := by
  intro k
  induction k with
  | zero => intro _; rfl
  | succ k ih =>
    intro hk
    have e : (ls ++ ms)[k]? = ls[k]? := List.getElem?_append_left (by omega)
    rw [lateAt, lateAt, e, ih (by omega)]

theorem lateAt_snoc (ls : List (Int × ByteArray)) (q page : Int) (t : ByteArray) : lateAt (ls ++ [(q, t)]) page (ls ++ [(q, t)]).length = if q = page then some t else lateAt ls page ls.length := by
  have e : (ls ++ [(q, t)])[ls.length]? = some (q, t) := by simp
  rw [List.length_append, List.length_singleton]
  by_cases h : q = page
  · rw [if_pos h]; subst h; exact lateAt_hit e
  · rw [if_neg h, lateAt_miss e h, lateAt_append ls _ page _ (Nat.le_refl _)]

/-- what is read of the page that was written -/
theorem read_written {ps : List ByteArray} {ls : List (Int × ByteArray)} {page : Int} {t : ByteArray} (h : 0 ≤ page ∧ page < (ps.length : Int)) : readD ps (ls ++ [(page, t)]) page = t :=
  readD_late h (by rw [lateAt_snoc, if_pos rfl])

/-- what is read of all other pages -/
theorem read_other {ps : List ByteArray} {ls : List (Int × ByteArray)} {page i : Int} {t : ByteArray} (h : i ≠ page) : readD ps (ls ++ [(page, t)]) i = readD ps ls i := by
  have e : lateAt (ls ++ [(page, t)]) i (ls ++ [(page, t)]).length = lateAt ls i ls.length := by rw [lateAt_snoc, if_neg (fun e => h e.symm)]
  rw [readD, readD, e]

theorem put_read {ps : List ByteArray} {q : Int} {t : ByteArray} {j : Nat} (hj : j < ps.length) : (putD ps (q, t)).getD j ⟨#[]⟩ = if q = (j : Int) then t else ps.getD j ⟨#[]⟩ := by
  unfold putD
  by_cases h : q = (j : Int)
  · subst h
    rw [if_pos (by show 0 ≤ (j : Int) ∧ (j : Int) < _; omega), if_pos rfl]
    simp [hj]
  · rw [if_neg h]
    split
    · next hq =>
      have hne : q.toNat ≠ j := by have := hq.1; omega
      simp [List.getD, hne]
    · rfl

theorem sync_read_to (ps : List ByteArray) (ls : List (Int × ByteArray)) (j : Nat) (hj : j < ps.length) : ∀ k, k ≤ ls.length → (syncD ps (ls.take k)).getD j ⟨#[]⟩ = match lateAt ls (j : Int) k with | some t => t | none => ps.getD j ⟨#[]⟩ := by
  intro k
  induction k with
  | zero => intro _; rfl
  | succ k ih =>
    intro hk
    have hlt : k < ls.length := by omega
    have e : ls[k]? = some (ls[k].1, ls[k].2) := List.getElem?_eq_getElem hlt
    rw [syncD_succ ps ls k hlt]
    have hp := put_read (ps := syncD ps (ls.take k)) (q := ls[k].1) (t := ls[k].2) (j := j) (by rw [syncD_length]; exact hj)
    refine Eq.trans hp ?_
    by_cases h : ls[k].1 = (j : Int)
    · rw [if_pos h, lateAt, e]
      simp [h]
    · rw [if_neg h, lateAt_miss e h]
      exact ih (by omega)

/-- what is kept behind a sync is what was read -/
theorem sync_page (ps : List ByteArray) (ls : List (Int × ByteArray)) (j : Nat) (hj : j < ps.length) : (syncD ps ls).getD j ⟨#[]⟩ = readD ps ls (j : Int) := by
  have h := sync_read_to ps ls j hj ls.length (Nat.le_refl _)
  rw [List.take_length] at h
  rw [h, readD, if_pos (by omega), Int.toNat_natCast]
  rfl

theorem sync_read (ps : List ByteArray) (ls : List (Int × ByteArray)) (j : Nat) (hj : j < ps.length) : readD (syncD ps ls) [] (j : Int) = readD ps ls (j : Int) := by
  rw [← sync_page ps ls j hj, readD, if_pos (by rw [syncD_length]; omega)]
  rfl

theorem sync_none (ps : List ByteArray) : syncD ps [] = ps := rfl

theorem fall_none (left : List Bool) (torn : Int) (ps : List ByteArray) : fallP left torn ps [] = ps := by
  rw [fallP]
  split <;> rfl

theorem fallL_nil (ps : List ByteArray) : fallL ps [] = [] := by
  rw [fallL]
  split <;> rfl

theorem fallK_lostAll (torn : Int) (ps : List ByteArray) (ls : List (Int × ByteArray)) (k : Nat) : fallK [] torn ps ls k = ps := by
  induction k with
  | zero => rfl
  | succ k ih => rw [fallK_lost (by simp), ih]

theorem fall_lostAll (torn : Int) (ps : List ByteArray) (ls : List (Int × ByteArray)) : fallP [] torn ps ls = ps := by
  rw [fallP]
  split
  · exact fallK_lostAll ..
  · rfl

theorem fallP_length (left : List Bool) (torn : Int) (ps : List ByteArray) (ls : List (Int × ByteArray)) : (fallP left torn ps ls).length = ps.length := by
  rw [fallP]
  split
  · exact fallK_length ..
  · rfl

/-- page by page: what was kept, or something that was late and is left -/
theorem fallK_page (left : List Bool) (torn : Int) (ps : List ByteArray) (ls : List (Int × ByteArray)) (i : Nat) (hi : i < ps.length) (n : Nat) (hn : n ≤ ls.length) :
    (fallK left torn ps ls n).getD i ⟨#[]⟩ = ps.getD i ⟨#[]⟩ ∨ ∃ k, ∃ h : k < ls.length, k < n ∧ ls[k].1 = (i : Int) ∧ left.getD k false = true ∧ (fallK left torn ps ls n).getD i ⟨#[]⟩ = fallT torn k ls[k].2 := by
  induction n with
  | zero => exact Or.inl rfl
  | succ n ih =>
    have hlt : n < ls.length := by omega
    have e : ls[n]? = some (ls[n].1, ls[n].2) := List.getElem?_eq_getElem hlt
    have up : ∀ {x : List ByteArray}, (x.getD i ⟨#[]⟩ = (fallK left torn ps ls n).getD i ⟨#[]⟩) → x.getD i ⟨#[]⟩ = ps.getD i ⟨#[]⟩ ∨ ∃ k, ∃ h : k < ls.length, k < n + 1 ∧ ls[k].1 = (i : Int) ∧ left.getD k false = true ∧ x.getD i ⟨#[]⟩ = fallT torn k ls[k].2 := fun {x} hx => by
      rw [hx]
      rcases ih (by omega) with h | ⟨k, h1, h2, h3⟩
      · exact Or.inl h
      · exact Or.inr ⟨k, h1, by omega, h3⟩
    cases hl : left.getD n false with
    | false => rw [fallK_lost hl]; exact up rfl
    | true =>
      rw [fallK_put e hl]
      by_cases h : ls[n].1 = (i : Int)
      · refine Or.inr ⟨n, hlt, by omega, h, hl, ?_⟩
        rw [put_read (by rw [fallK_length]; exact hi), if_pos h]
      · exact up (by rw [put_read (by rw [fallK_length]; exact hi), if_neg h])

end Go.Proofs.Ytjjjnloimpehbaa
