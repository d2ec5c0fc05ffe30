/-
  Plain facts on drawn keys: they ascend, and nothing that is drawn lies between a key and the key with a 0 behind it; the place of a key. No program.
-/
import Derived.Test.YtmmepgincbngeaaPlain17
namespace Go.Proofs.Ytmmepgincbngeaa
open Go.RowKit

theorem less_irrefl : ∀ s : List UInt8, Op.bytesLess s s = false
  | [] => rfl
  | x :: s => by rw [Op.bytesLess]; simp [less_irrefl s]

theorem less_trans : ∀ (s t u : List UInt8), Op.bytesLess s t = true → Op.bytesLess t u = true → Op.bytesLess s u = true
  | [], [], _, h, _ => by simp [Op.bytesLess] at h
  | [], _ :: _, [], _, k => by simp [Op.bytesLess] at k
  | [], _ :: _, _ :: _, _, _ => by simp [Op.bytesLess]
  | _ :: _, [], _, h, _ => by simp [Op.bytesLess] at h
  | _ :: _, _ :: _, [], _, k => by simp [Op.bytesLess] at k
  | x :: s, y :: t, z :: u, h, k => by
    simp only [Op.bytesLess, Bool.or_eq_true, Bool.and_eq_true, decide_eq_true_eq, beq_iff_eq] at h k ⊢
    rcases h with h | ⟨rfl, h⟩
    · rcases k with k | ⟨rfl, k⟩
      · exact Or.inl (UInt8.lt_trans h k)
      · exact Or.inl h
    · rcases k with k | ⟨rfl, k⟩
      · exact Or.inl k
      · exact Or.inr ⟨rfl, less_trans s t u h k⟩

theorem less_not {s t : List UInt8} (h : Op.bytesLess s t = true) : (Op.bytesLess t s || t == s) = false := by
  rw [Bool.or_eq_false_iff]
  constructor
  · cases hb : Op.bytesLess t s with
    | false => rfl
    | true => have := less_trans _ _ _ h hb; rw [less_irrefl] at this; cases this
  · rw [beq_eq_false_iff_ne]
    rintro rfl
    rw [less_irrefl] at h; cases h

theorem less_more : ∀ (s : List UInt8) (x : UInt8), Op.bytesLess s (s ++ [x]) = true
  | [], _ => by simp [Op.bytesLess]
  | y :: s, x => by rw [List.cons_append, Op.bytesLess]; simp [less_more s x]

theorem less_end : ∀ (s : List UInt8) (x y : UInt8), x < y → Op.bytesLess (s ++ [x]) (s ++ [y]) = true
  | [], _, _, h => by simp [Op.bytesLess, h]
  | z :: s, x, y, h => by rw [List.cons_append, List.cons_append, Op.bytesLess]; simp [less_end s x y h]

theorem far_all : (bases.all fun c => bases.all fun b => (List.range 4).all fun j => !(Op.bytesLess (c ++ ones j).toList b.toList) || Op.bytesLess ((c ++ ones j).toList ++ [48]) b.toList) = true := by decide +kernel

theorem top_all : (bases.all fun c => (List.range 4).all fun j => Op.bytesLess (c ++ ones j).toList [122, 122, 122, 122]) = true := by decide +kernel

theorem toList_app (s t : ByteArray) : (s ++ t).toList = s.toList ++ t.toList := by
  rw [ByteArray.toList_eq, ByteArray.toList_eq, ByteArray.toList_eq, ByteArray.data_append, Array.toList_append]

theorem nxt_far {m : Nat} {l k : ByteArray} (hm : m ≤ 3) (h : KeyAt m l) (hn : Nxt l k) : Op.bytesLess (l.toList ++ [48]) k.toList = true := by
  rcases hn with ⟨hb, hl⟩ | rfl
  · obtain ⟨c, hc, j, hj, rfl⟩ := h
    have h1 := List.all_eq_true.1 (List.all_eq_true.1 (List.all_eq_true.1 far_all c hc) k hb) j (List.mem_range.2 (by omega))
    rw [hl] at h1
    simpa using h1
  · rw [toList_app]
    rw [show (⟨#[49]⟩ : ByteArray).toList = [49] from by rw [ByteArray.toList_eq]]
    exact less_end _ 48 49 (by decide)

theorem key_top {m : Nat} {l : ByteArray} (hm : m ≤ 3) (h : KeyAt m l) : Op.bytesLess l.toList [122, 122, 122, 122] = true := by
  obtain ⟨c, hc, j, hj, rfl⟩ := h
  exact List.all_eq_true.1 (List.all_eq_true.1 top_all c hc) j (List.mem_range.2 (by omega))

theorem keys_far {ks : List ByteArray} (h : KeysF ks) (h4 : ks.length ≤ 4) (i : Nat) : ∀ d, i + d + 1 < ks.length → Op.bytesLess ((ks.getD i ⟨#[]⟩).toList ++ [48]) (ks.getD (i + d + 1) ⟨#[]⟩).toList = true
  | 0, hd => nxt_far (m := i) (by omega) (h.1 i (by omega)) (h.2 i (by omega))
  | d + 1, hd => by
    have h1 := keys_far h h4 i d (by omega)
    have h2 := nxt_far (m := i + d + 1) (by omega) (h.1 (i + d + 1) (by omega)) (h.2 (i + d + 1) (by omega))
    exact less_trans _ _ _ h1 (less_trans _ _ _ (less_more _ 48) h2)

theorem place_at (ks : List ByteArray) (key : ByteArray) (i : Nat) (hi : (Op.bytesLess (ks.getD i ⟨#[]⟩).toList key.toList || (ks.getD i ⟨#[]⟩).toList == key.toList) = true) : ∀ n, i < n → (∀ j, i < j → j < n → (Op.bytesLess (ks.getD j ⟨#[]⟩).toList key.toList || (ks.getD j ⟨#[]⟩).toList == key.toList) = false) → placeK ks key n = (i : Int)
  | 0, h, _ => by omega
  | n + 1, h, hj => by
    rw [placeK]
    by_cases he : i = n
    · subst he
      rw [if_pos hi]
    · rw [if_neg (by rw [hj n (by omega) (by omega)]; decide)]
      exact place_at ks key i hi n (by omega) (fun j h1 h2 => hj j h1 (by omega))

theorem place_own {ks : List ByteArray} (h : KeysF ks) (h4 : ks.length ≤ 4) (i : Nat) (hi : i < ks.length) : placeK ks (ks.getD i ⟨#[]⟩) ks.length = (i : Int) :=
  place_at ks _ i (by simp) ks.length hi (fun j h1 h2 => by
    have := keys_far h h4 i (j - i - 1) (by omega)
    rw [show i + (j - i - 1) + 1 = j from by omega] at this
    exact less_not (less_trans _ _ _ (less_more _ 48) this))

theorem place_zero {ks : List ByteArray} (h : KeysF ks) (h4 : ks.length ≤ 4) (i : Nat) (hi : i < ks.length) : placeK ks (ks.getD i ⟨#[]⟩ ++ ⟨#[48]⟩) ks.length = (i : Int) := by
  have e : (ks.getD i ⟨#[]⟩ ++ ⟨#[48]⟩).toList = (ks.getD i ⟨#[]⟩).toList ++ [48] := by rw [toList_app, show (⟨#[48]⟩ : ByteArray).toList = [48] from by rw [ByteArray.toList_eq]]
  refine place_at ks _ i (by rw [e, less_more]; rfl) ks.length hi (fun j h1 h2 => ?_)
  have := keys_far h h4 i (j - i - 1) (by omega)
  rw [show i + (j - i - 1) + 1 = j from by omega] at this
  rw [e]
  exact less_not this

theorem place_top {ks : List ByteArray} (h : KeysF ks) (h4 : ks.length ≤ 4) (h1 : 1 ≤ ks.length) : placeK ks ⟨#[122, 122, 122, 122]⟩ ks.length = (ks.length : Int) - 1 := by
  have := place_at ks ⟨#[122, 122, 122, 122]⟩ (ks.length - 1) (by
    have := key_top (m := ks.length - 1) (by omega) (h.1 (ks.length - 1) (by omega))
    rw [show (⟨#[122, 122, 122, 122]⟩ : ByteArray).toList = [122, 122, 122, 122] from by rw [ByteArray.toList_eq], this]; rfl) ks.length (by omega) (fun j a b => by omega)
  rw [this]; omega
end Go.Proofs.Ytmmepgincbngeaa
