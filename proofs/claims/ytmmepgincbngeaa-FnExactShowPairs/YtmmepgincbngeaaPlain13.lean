/-
  Plain facts on reading numbers and short texts at a place of a longer text: what is read is what was written there (both ways). No program.
-/
import Derived.Test.YtmmepgincbngeaaPlain7
namespace Go.Proofs.Ytmmepgincbngeaa
open Go.RowKit

theorem ba_cat (A : ByteArray) (l : List UInt8) (X : ByteArray) : A ++ ⟨l.toArray⟩ ++ X = ⟨(A.data.toList ++ l ++ X.data.toList).toArray⟩ := by
  apply ByteArray.ext
  simp [ByteArray.data_append]

theorem ba_len (A : ByteArray) : A.data.toList.length = A.size := by rw [Array.length_toList]; rfl

/-- a number that was written is read -/
theorem rv_at (t A X : ByteArray) (n : Nat) (hn : n ≤ 1000000000) (ht : t = A ++ ⟨(vtext n).toArray⟩ ++ X) : rvGo (fun i => byt t (A.size + i)) (t.size - A.size) 5 0 = some (n, (vtext n).length) := by
  have h := rv_round n hn A.data.toList X.data.toList
  rw [← ba_cat, ← ht, ba_len] at h
  exact h

/-- how a number that is read came about -/
theorem rvGo_form (b : Nat → Nat) (len n c : Nat) : ∀ f j, rvGo b len f j = some (n, c) → (∀ i, i < j → 128 ≤ b i) → ∃ k, c = k + 1 ∧ k < f + j ∧ k < len ∧ n = accN b (k + 1) ∧ n ≤ 1000000000 ∧ b k < 128 ∧ (b k ≠ 0 ∨ k = 0) ∧ ∀ i, i < k → 128 ≤ b i
  | 0, j, h, _ => by simp [rvGo] at h
  | f + 1, j, h, hi => by
    rw [rvGo] at h
    split at h
    · next hl =>
      split at h
      · next hb =>
        split at h
        · next h2 =>
          simp at h
          exact ⟨j, by omega, by omega, hl, h.1.symm, by rw [← h.1]; exact h2.1, hb, h2.2, hi⟩
        · cases h
      · next hb =>
        obtain ⟨k, h1, h2, h3⟩ := rvGo_form b len n c f (j + 1) h (fun i hlt => by
          by_cases e : i = j
          · subst e; omega
          · exact hi i (by omega))
        exact ⟨k, h1, by omega, h3⟩
    · cases h

/-- a number that is read was written -/
theorem rv_back (t : ByteArray) (p n c : Nat) (h : rvGo (fun i => byt t (p + i)) (t.size - p) 5 0 = some (n, c)) : 1 ≤ c ∧ p + c ≤ t.size ∧ n ≤ 1000000000 ∧ t.extract p (p + c) = ⟨(vtext n).toArray⟩ := by
  obtain ⟨k, rfl, hk, hl, hn, hn2, hb, h2, hi⟩ := rvGo_form _ _ _ _ 5 0 h (fun i hlt => by omega)
  refine ⟨by omega, by omega, hn2, ?_⟩
  have he := extract_bytes t p (k + 1) (by omega)
  have hv := (vtext_iff k (fun i => byt t (p + i)) (by omega) (fun i => byt_lt _ _) hi hb).2 h2
  rw [← hn] at hv
  rw [← hv] at he
  apply ByteArray.ext
  rw [← he]

/-- a short text in bytes -/
def shortB (s : ByteArray) : ByteArray := ⟨(vtext s.size).toArray⟩ ++ s

theorem vtB_size (n : Nat) : (⟨(vtext n).toArray⟩ : ByteArray).size = (vtext n).length := List.size_toArray

/-- what ReadVar tells at p -/
def rdV (t : ByteArray) (p : Nat) : Option (Nat × Nat) := (rvGo (fun i => byt t (p + i)) (t.size - p) 5 0).map fun x => (x.1, p + x.2)

/-- what ReadShort tells at p -/
def rdS (t : ByteArray) (p : Nat) : Option (ByteArray × Nat) := (rdV t p).bind fun x => if x.1 ≤ 20000 ∧ x.1 ≤ t.size - x.2 then some (t.extract x.2 (x.2 + x.1), x.2 + x.1) else none

theorem rdV_past {t : ByteArray} {p : Nat} (h : t.size < p) : rdV t p = none := by
  rw [rdV, show t.size - p = 0 from by omega]
  simp [rvGo]

theorem rdS_past {t : ByteArray} {p : Nat} (h : t.size < p) : rdS t p = none := by rw [rdS, rdV_past h]; rfl

theorem extract_cat (A B : ByteArray) (X : ByteArray) : (A ++ B ++ X).extract A.size (A.size + B.size) = B := by
  apply ByteArray.ext
  apply Array.toList_inj.1
  rw [Lib.extract_data]
  simp only [ByteArray.data_append, Array.toList_append]
  rw [← ba_len A, ← ba_len B, List.append_assoc, List.drop_left, Nat.add_sub_cancel_left, List.take_left]

theorem extract_two (t : ByteArray) (p q r : Nat) (h1 : p ≤ q) (h2 : q ≤ r) : t.extract p r = t.extract p q ++ t.extract q r := by
  apply ByteArray.ext
  apply Array.toList_inj.1
  rw [ByteArray.data_append, Array.toList_append, Lib.extract_data, Lib.extract_data, Lib.extract_data]
  rw [show r - p = (q - p) + (r - q) from by omega, List.take_add, List.drop_drop, show p + (q - p) = q from by omega]

theorem rdV_at (t A X : ByteArray) (n : Nat) (hn : n ≤ 1000000000) (ht : t = A ++ ⟨(vtext n).toArray⟩ ++ X) : rdV t A.size = some (n, (A ++ ⟨(vtext n).toArray⟩).size) := by
  rw [rdV, rv_at t A X n hn ht, ByteArray.size_append, vtB_size]; rfl

theorem rdV_back {t : ByteArray} {p n q : Nat} (h : rdV t p = some (n, q)) : p < q ∧ q ≤ t.size ∧ n ≤ 1000000000 ∧ t.extract p q = ⟨(vtext n).toArray⟩ := by
  rw [rdV, Option.map_eq_some_iff] at h
  obtain ⟨⟨m, c⟩, h1, h2⟩ := h
  simp at h2
  obtain ⟨h3, h4, h5, h6⟩ := rv_back t p m c h1
  obtain ⟨rfl, rfl⟩ := h2
  exact ⟨by omega, h4, h5, h6⟩

theorem rdS_at (t A x X : ByteArray) (hx : x.size ≤ 20000) (ht : t = A ++ shortB x ++ X) : rdS t A.size = some (x, (A ++ shortB x).size) := by
  have h1 := rdV_at t A (x ++ X) x.size (by omega) (by rw [ht, shortB]; simp only [ByteArray.append_assoc])
  have h2 : t = (A ++ ⟨(vtext x.size).toArray⟩) ++ x ++ X := by rw [ht, shortB]; simp only [ByteArray.append_assoc]
  have hsz : t.size = (A ++ ⟨(vtext x.size).toArray⟩).size + x.size + X.size := by rw [h2, ByteArray.size_append, ByteArray.size_append]
  have h3 := extract_cat (A ++ ⟨(vtext x.size).toArray⟩) x X
  rw [← h2] at h3
  rw [rdS, h1]
  simp only [Option.bind_some]
  rw [if_pos ⟨hx, by omega⟩, h3, shortB, ← ByteArray.append_assoc, ByteArray.size_append (b := x)]

theorem rdS_back {t x : ByteArray} {p q : Nat} (h : rdS t p = some (x, q)) : p < q ∧ q ≤ t.size ∧ x.size ≤ 20000 ∧ t.extract p q = shortB x := by
  rw [rdS, Option.bind_eq_some_iff] at h
  obtain ⟨⟨n, r⟩, h1, h2⟩ := h
  obtain ⟨h3, h4, h5, h6⟩ := rdV_back h1
  simp only at h2
  split at h2
  · next hc =>
    simp at h2
    obtain ⟨h7, h8⟩ := h2
    have hs : x.size = n := by rw [← h7, ByteArray.size_extract]; omega
    refine ⟨by omega, by omega, by omega, ?_⟩
    rw [extract_two t p r q (by omega) (by omega), h6, shortB, hs, ← h7, ← h8]
  · cases h2
end Go.Proofs.Ytmmepgincbngeaa
