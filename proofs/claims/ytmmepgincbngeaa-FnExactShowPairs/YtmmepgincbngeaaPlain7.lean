/-
  Plain facts: what VarText, Decimal, ShortText and Hex write is read back. No program.
-/
import Derived.Test.YtmmepgincbngeaaPlain4
import Derived.Test.YtmmepgincbngeaaPlain5
import Derived.Lib.Strings
namespace Go.Proofs.Ytmmepgincbngeaa
open Go.RowKit

theorem rv_go (b : Nat → Nat) (len n : Nat) (hn : n ≤ 1000000000) : ∀ (g m j f : Nat), m < 128 ^ (g + 1) → g + 1 ≤ f → (1 ≤ m ∨ j = 0) → accN b j + 128 ^ j * m = n →
    (∀ i (h : i < (venc g m).length), b (j + i) = ((venc g m)[i]).toNat) → j + (venc g m).length ≤ len → rvGo b len f j = some (n, j + (venc g m).length) := by
  intro g
  induction g with
  | zero =>
    intro m j f hm hf h1 hA hb hlen
    have hm' : m < 128 := by simpa using hm
    rw [venc_last 0 m hm'] at hb hlen ⊢
    obtain ⟨f', rfl⟩ : ∃ f', f = f' + 1 := ⟨f - 1, by omega⟩
    have h0 : b j = m := by have := hb 0 (by simp); simpa [toNat_ofNat8 m (by omega)] using this
    have hj : j < len := by simp at hlen; omega
    have hacc : accN b (j + 1) = n := by rw [accN, h0, Nat.mod_eq_of_lt hm', Nat.mul_comm]; exact hA
    rw [rvGo, if_pos hj, if_pos (by omega), if_pos ⟨by omega, by omega⟩, hacc]; rfl
  | succ g ih =>
    intro m j f hm hf h1 hA hb hlen
    by_cases hs : m < 128
    · rw [venc_last (g + 1) m hs] at hb hlen ⊢
      obtain ⟨f', rfl⟩ : ∃ f', f = f' + 1 := ⟨f - 1, by omega⟩
      have h0 : b j = m := by have := hb 0 (by simp); simpa [toNat_ofNat8 m (by omega)] using this
      have hj : j < len := by simp at hlen; omega
      have hacc : accN b (j + 1) = n := by rw [accN, h0, Nat.mod_eq_of_lt hs, Nat.mul_comm]; exact hA
      rw [rvGo, if_pos hj, if_pos (by omega), if_pos ⟨by omega, by omega⟩, hacc]; rfl
    · have hv : venc (g + 1) m = UInt8.ofNat (m % 128 + 128) :: venc g (m / 128) := by rw [venc, if_neg hs]
      obtain ⟨f', rfl⟩ : ∃ f', f = f' + 1 := ⟨f - 1, by omega⟩
      have hb0 := hb 0 (by rw [hv]; simp)
      simp only [hv, List.getElem_cons_zero, Nat.add_zero, toNat_ofNat8 (m % 128 + 128) (by omega)] at hb0
      have hj : j < len := by rw [hv] at hlen; simp at hlen; omega
      have hq : m / 128 < 128 ^ (g + 1) := by
        rw [Nat.pow_succ] at hm
        exact Nat.div_lt_of_lt_mul (by rw [Nat.mul_comm]; exact hm)
      have hA' : accN b (j + 1) + 128 ^ (j + 1) * (m / 128) = n := by
        rw [accN, hb0, ← hA, Nat.pow_succ]
        have e1 : (m % 128 + 128) % 128 = m % 128 := by omega
        have e2 : m = m % 128 + 128 * (m / 128) := by omega
        rw [e1]
        conv => rhs; rw [e2]
        rw [Nat.mul_add, Nat.mul_comm (m % 128), Nat.mul_assoc]
        omega
      have hr := ih (m / 128) (j + 1) f' hq (by omega) (by omega) hA' (fun i h => by
        have := hb (i + 1) (by rw [hv]; simpa using h)
        simp only [hv, List.getElem_cons_succ] at this
        rw [← this]; congr 1; omega) (by rw [hv] at hlen; simp at hlen; omega)
      rw [rvGo, if_pos hj, if_neg (by omega), hr, hv]
      simp; omega

theorem byt_list (l : List UInt8) (i : Nat) (h : i < l.length) : byt ⟨l.toArray⟩ i = (l[i]).toNat := by
  have hs : i < (⟨l.toArray⟩ : ByteArray).size := by simpa [ByteArray.size] using h
  rw [← byt_eq _ i hs]; rfl

theorem size_list (l : List UInt8) : (⟨l.toArray⟩ : ByteArray).size = l.length := by simp [ByteArray.size]

/-- a number's bytes, ahead of them pre, behind them post, are read at their place -/
theorem rv_round (n : Nat) (hn : n ≤ 1000000000) (pre post : List UInt8) :
    rvGo (fun i => byt ⟨(pre ++ vtext n ++ post).toArray⟩ (pre.length + i)) ((⟨(pre ++ vtext n ++ post).toArray⟩ : ByteArray).size - pre.length) 5 0 = some (n, (vtext n).length) := by
  have h := rv_go (fun i => byt ⟨(pre ++ vtext n ++ post).toArray⟩ (pre.length + i)) ((⟨(pre ++ vtext n ++ post).toArray⟩ : ByteArray).size - pre.length) n hn 4 n 0 5 (pow5 n hn) (by omega) (Or.inr rfl) (by simp [accN])
    (fun i h => by
      have hl : pre.length + (0 + i) < (pre ++ vtext n ++ post).length := by simp; unfold vtext; omega
      rw [byt_list _ _ hl]
      congr 1
      rw [List.getElem_append_left (by simp; unfold vtext; omega), List.getElem_append_right (by omega)]
      simp [vtext])
    (by rw [size_list]; simp [vtext])
  simpa [vtext] using h

/-! decimal -/
theorem valD_take (l : List UInt8) : ∀ k, k ≤ l.length → valD ⟨l.toArray⟩ k = (l.take k).foldl (fun a d => 10 * a + (d.toNat - 48)) 0
  | 0, _ => by simp [valD]
  | k + 1, h => by
    rw [valD, valD_take l k (by omega), byt_list l k (by omega), List.take_succ_eq_append_getElem (by omega), List.foldl_append]
    rfl

theorem decF_val (f m : Nat) (h : m < 10 ^ f) : (decF f m).foldl (fun a d => 10 * a + (d.toNat - 48)) 0 = m ∧ (∀ d ∈ decF f m, isD d.toNat) ∧ (0 < m → ∃ d r, decF f m = d :: r ∧ d.toNat ≠ 48) := by
  induction f generalizing m with
  | zero => obtain rfl : m = 0 := by simp at h; omega
            simp [decF]
  | succ f ih =>
    by_cases hz : m = 0
    · subst hz; simp [decF]
    · obtain ⟨a, b, c⟩ := ih (m / 10) (by rw [Nat.pow_succ] at h; exact Nat.div_lt_of_lt_mul (by rw [Nat.mul_comm]; exact h))
      have ht : (UInt8.ofNat (48 + m % 10)).toNat = 48 + m % 10 := toNat_ofNat8 _ (by omega)
      rw [decF, if_neg hz]
      refine ⟨?_, ?_, ?_⟩
      · rw [List.foldl_append, a]
        simp only [List.foldl_cons, List.foldl_nil, ht]
        omega
      · intro d hd
        rcases List.mem_append.1 hd with hd | hd
        · exact b d hd
        · obtain rfl := List.mem_singleton.1 hd
          rw [ht]; unfold isD; omega
      · intro _
        by_cases hq : 0 < m / 10
        · obtain ⟨d, r, e, hd⟩ := c hq
          exact ⟨d, r ++ [UInt8.ofNat (48 + m % 10)], by rw [e]; rfl, hd⟩
        · have e0 : m / 10 = 0 := by omega
          exact ⟨UInt8.ofNat (48 + m % 10), [], by rw [e0, decF_zero]; rfl, by rw [ht]; omega⟩

theorem dec_round (n : Nat) (hn : n ≤ 1000000000) : okD ⟨(decN n).toArray⟩ ∧ valD ⟨(decN n).toArray⟩ (⟨(decN n).toArray⟩ : ByteArray).size = n := by
  by_cases hz : n = 0
  · subst hz
    have e : decN 0 = [48] := rfl
    rw [e]
    have hs : (⟨[(48 : UInt8)].toArray⟩ : ByteArray).size = 1 := rfl
    have hb : byt ⟨[(48 : UInt8)].toArray⟩ 0 = 48 := by rw [byt_list _ 0 (by simp)]; rfl
    refine ⟨⟨by rw [hs]; omega, fun i hi => ?_, Or.inl hs, ?_⟩, ?_⟩
    · obtain rfl : i = 0 := by rw [hs] at hi; omega
      rw [hb]; unfold isD; omega
    · rw [hs]; simp [valD, hb]
    · rw [hs]; simp [valD, hb]
  · have e : decN n = decF 20 n := by rw [decN, if_neg hz]
    obtain ⟨a, b, c⟩ := decF_val 20 n (pow20 n (by omega))
    obtain ⟨d, r, hdr, hd⟩ := c (by omega)
    rw [e]
    have hv : valD ⟨(decF 20 n).toArray⟩ (⟨(decF 20 n).toArray⟩ : ByteArray).size = n := by
      rw [size_list, valD_take _ _ (Nat.le_refl _), List.take_length, a]
    refine ⟨⟨?_, fun i hi => ?_, Or.inr ?_, by rw [hv]; exact hn⟩, hv⟩
    · rw [size_list, hdr]; simp
    · rw [size_list] at hi
      rw [byt_list _ i hi]
      exact b _ (List.getElem_mem hi)
    · rw [byt_list _ 0 (by rw [hdr]; simp)]
      simp only [hdr, List.getElem_cons_zero]
      exact hd

/-! figures -/
theorem hvN_fig (x : Nat) (h : x < 16) : hvN (fig x) = x := by
  have key : ∀ x : Fin 16, hvN (fig x.val) = x.val := by decide
  exact key ⟨x, h⟩

theorem hexOf_get (l : List UInt8) : ∀ i (h : i < l.length), ∃ (h1 : 2 * i < (hexOf l).length) (h2 : 2 * i + 1 < (hexOf l).length), ((hexOf l)[2 * i]).toNat = fig ((l[i]).toNat / 16) ∧ ((hexOf l)[2 * i + 1]).toNat = fig ((l[i]).toNat % 16) := by
  induction l with
  | nil => intro i h; simp at h
  | cons a l ih =>
    intro i h
    have e : hexOf (a :: l) = UInt8.ofNat (fig (a.toNat / 16)) :: UInt8.ofNat (fig (a.toNat % 16)) :: hexOf l := rfl
    have ha := UInt8.toNat_lt a
    cases i with
    | zero =>
      refine ⟨by rw [e]; simp, by rw [e]; simp, ?_, ?_⟩
      · simp only [e, List.getElem_cons_zero]
        exact toNat_ofNat8 _ (fig_lt _ (by omega))
      · simp only [e, Nat.mul_zero, Nat.zero_add, List.getElem_cons_succ, List.getElem_cons_zero]
        exact toNat_ofNat8 _ (fig_lt _ (by omega))
    | succ i =>
      obtain ⟨h1, h2, h3, h4⟩ := ih i (by simpa using h)
      refine ⟨by rw [e]; simp; omega, by rw [e]; simp; omega, ?_, ?_⟩
      · simp only [e, show 2 * (i + 1) = 2 * i + 1 + 1 from by omega, List.getElem_cons_succ]
        exact h3
      · simp only [e, show 2 * (i + 1) + 1 = 2 * i + 1 + 1 + 1 from by omega, List.getElem_cons_succ]
        exact h4

theorem hex_round (l : List UInt8) : (∀ i, i < (⟨(hexOf l).toArray⟩ : ByteArray).size → hexAt ⟨(hexOf l).toArray⟩ i < 16) ∧ outS ⟨(hexOf l).toArray⟩ l.length = l := by
  have at2 : ∀ i, i < l.length → hexAt ⟨(hexOf l).toArray⟩ (2 * i) = (l.getD i 0).toNat / 16 ∧ hexAt ⟨(hexOf l).toArray⟩ (2 * i + 1) = (l.getD i 0).toNat % 16 := fun i h => by
    obtain ⟨h1, h2, h3, h4⟩ := hexOf_get l i h
    have hlt := UInt8.toNat_lt l[i]
    have e : l.getD i 0 = l[i] := by simp [List.getD, h]
    unfold hexAt
    rw [byt_list _ _ h1, byt_list _ _ h2, h3, h4, hvN_fig _ (by omega), hvN_fig _ (by omega), e]
    exact ⟨rfl, rfl⟩
  constructor
  · intro i hi
    rw [size_list, hexOf_length] at hi
    obtain ⟨a, b⟩ := at2 (i / 2) (by omega)
    have := UInt8.toNat_lt (l.getD (i / 2) 0)
    rcases Nat.mod_two_eq_zero_or_one i with e | e
    · rw [show i = 2 * (i / 2) from by omega, a]; omega
    · rw [show i = 2 * (i / 2) + 1 from by omega, b]; omega
  · apply List.ext_getElem
    · simp [outS]
    · intro i h1 h2
      obtain ⟨a, b⟩ := at2 i h2
      have e : l.getD i 0 = l[i] := by simp [List.getD, h2]
      have := UInt8.toNat_lt l[i]
      simp only [outS, List.getElem_map, List.getElem_range, pairAt, a, b, e]
      apply UInt8.toNat_inj.1
      rw [toNat_ofNat8 _ (by omega)]
      omega
end Go.Proofs.Ytmmepgincbngeaa
