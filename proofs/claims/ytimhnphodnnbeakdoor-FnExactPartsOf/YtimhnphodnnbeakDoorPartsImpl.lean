/-
  impl.PartsOf by its contract: a row of its own of the line's parts, and true or false ('partsOut'), where the library's table of blanks holds what its initialiser lays.
-/
import Derived.Test.YtimhnphodnnbeakDoorPartsSpec
import Derived.Test.YtimhnphodnnbeakDoorClone
import Derived.Test.YtimhnphodnnbeakDoorShelfFields
import Derived.Lib.AppendIntMem
namespace Go.Proofs.YtimhnphodnnbeakDoor
open Go.RowKit

set_option maxHeartbeats 1000000 in
set_option maxRecDepth 100000 in
theorem plainLine_any (s : ByteArray) (hs : s.size ≤ 1048576) (w : World) :
    Calls Tryd.prog 14 #[.string s] w fun e w' => e = .returned (.bool (plainB s)) ∧ w = w' := by
  go_enter Tryd.func14, Tryd.ntmps14
  go_wp2
  go_loopg [3] s.size (fun g iv wr => ∃ k : Nat, k ≤ s.size ∧ iv = .int .i64 (k : Int) ∧ g + k = s.size ∧ Hid (∀ i, i < k → 32 ≤ byt s i ∧ byt s i ≤ 126) ∧ w = wr)
  case atStart => exact ⟨0, Nat.zero_le _, rfl, rfl, hide (fun i h => by omega), rfl⟩
  case round =>
    obtain ⟨k, hk, rfl, hg, HA, rfl⟩ := hrel
    have HG := hide hg
    clear hg
    by_cases hlt : k < s.size
    · obtain ⟨y, hy⟩ : ∃ y, y = byt s k := ⟨_, rfl⟩
      have hyb : y < 256 := by rw [hy]; exact byt_lt s _
      have hs1 : s[k].toNat = y := by rw [hy]; exact byt_eq s _ hlt
      have HY := hide hy
      clear hy
      by_cases hpl : 32 ≤ y ∧ y ≤ 126
      · obtain ⟨hp1, hp2⟩ := hpl
        go_wp2
        go_roundg (gk - 1)
        case measure => have := HG.out; omega
        case rel => exact ⟨k + 1, by omega, by go_num, by have := HG.out; omega, hide (fun i h1 => by by_cases e : i = k; (rw [e, ← HY.out]; exact ⟨hp1, hp2⟩); exact HA.out i (by omega)), rfl⟩
      · have HP := hide (plainB_no s k hlt (by rw [← HY.out]; exact hpl))
        by_cases h1 : y < 32
        · clear hpl
          go_wp2
          go_ret
          rw [HP.out]
          exact ⟨rfl, rfl⟩
        · have h2 : 126 < y := by omega
          clear hpl
          go_wp2
          go_ret
          rw [HP.out]
          exact ⟨rfl, rfl⟩
    · have HP := hide (plainB_yes s (fun i hi => HA.out i (by omega)))
      go_wp2
      go_ret
      rw [HP.out]
      exact ⟨rfl, rfl⟩

theorem field_le : ∀ (l cur : List UInt8), ∀ x ∈ Lib.fieldsGo cur l, x.length ≤ cur.length + l.length
  | [], cur, x, h => by
    rw [Lib.fieldsGo] at h
    split at h
    · cases h
    · simp at h; subst h; simp
  | b :: l, cur, x, h => by
    rw [Lib.fieldsGo] at h
    split at h
    · split at h
      · have := field_le l [] x h; simp at this ⊢; omega
      · rcases List.mem_cons.1 h with rfl | h
        · simp
        · have := field_le l [] x h; simp at this ⊢; omega
    · have := field_le l (cur ++ [b]) x h; simp at this ⊢; omega

theorem field_count : ∀ (l cur : List UInt8), (Lib.fieldsGo cur l).length ≤ 1 + l.length
  | [], cur => by rw [Lib.fieldsGo]; split <;> simp
  | b :: l, cur => by
    rw [Lib.fieldsGo]
    split
    · split
      · have := field_count l []; simp; omega
      · have := field_count l []; simp; omega
    · have := field_count l (cur ++ [b]); simp; omega

/-- a row that the call owns stays so where nothing that was there is turned -/
theorem own_below {w w' : World} {B e sz n : Nat} {v : Value} {xs : List Value} (h : w.ownsRow B e sz v n xs) (hb : Below w.heap.size w w') : w'.ownsRow B e sz v n xs := by
  refine ⟨h.1, ?_⟩
  rcases h.2 with ⟨rfl, hn⟩ | ⟨g, cap, cur, rfl, hg, hh, rest⟩
  · exact Or.inl ⟨rfl, hn⟩
  · have hlt : g < w.heap.size := (h.lt g rfl).2
    exact Or.inr ⟨g, cap, cur, rfl, hg, (hb.block g hlt).trans hh, rest⟩

theorem set_same {α : Type} (l : List α) (k : Nat) (x : α) (h : l[k]? = some x) : l.set k x = l := by
  obtain ⟨hk, rfl⟩ := List.getElem?_eq_some_iff.1 h
  exact List.set_getElem_self hk

set_option maxHeartbeats 4000000 in
set_option maxRecDepth 100000 in
theorem implPartsOf_any (s : ByteArray) (hs : s.size ≤ 1048576) (w : World) (htab : Lib.TabIs Tryd.prog w "strings.asciiSpace" .u8 Lib.asciiSpaceTab) :
    Calls Tryd.prog 8 #[.string s] w fun e w' => ∃ v, e = .returned (.tuple #[v, .bool (partsOut s).2]) ∧ w'.ownsRow w.heap.size 9 1 v (partsOut s).1.length (strVs (partsOut s).1) ∧ Below w.heap.size w w' := by
  have HT := hide htab
  clear htab
  by_cases hbig : 600 < s.size
  · have HP : Hid (partsOut s = ([], false)) := hide (by rw [partsOut, if_neg (by omega)])
    have hq : decide ((600 : Int) < (s.size : Int)) = true := by simp; omega
    go_enter Tryd.func8, Tryd.ntmps8
    go_wp2
    go_ret2
    rw [HP.out]
    exact ⟨_, rfl, own_none w w.heap.size (Nat.le_refl _), (Below.refl _ _).alloc (Nat.le_refl _) _⟩
  · have hq : decide ((600 : Int) < (s.size : Int)) = false := by simp; omega
    by_cases hpl : plainB s = true
    · obtain ⟨L, hL⟩ : ∃ L, L = Lib.fields s.data.toList := ⟨_, rfl⟩
      have HC := hide (fun w htab => Tryd.strings_Fields_laid s w (by omega) (fun j b hj => by
        have hm := List.mem_of_getElem? hj
        rw [plainB, List.all_eq_true] at hpl
        have := of_decide_eq_true (hpl b hm)
        omega) htab)
      have HL : Hid (∀ x ∈ L, x.length ≤ 600) := hide (fun x hx => by
        rw [hL] at hx
        have := field_le s.data.toList [] x hx
        have e : s.data.toList.length = s.size := by rw [Array.length_toList]; rfl
        simp at this; omega)
      have hLn : L.length ≤ 601 := by
        rw [hL]
        have := field_count s.data.toList []
        have e : s.data.toList.length = s.size := by rw [Array.length_toList]; rfl
        unfold Lib.fields; omega
      rw [← hL] at HC
      have HLe := hide hL
      have HPl := hide hpl
      clear hL hpl
      go_enter Tryd.func8, Tryd.ntmps8
      go_wp2_with fail
      refine (plainLine_any s hs _).mono ?_
      rintro e w1 ⟨rfl, rfl⟩
      rw [HPl.out]
      go_wp2_with fail
      refine (HC.out _ HT.out).mono ?_
      rintro e w1 ⟨rfl, hw1⟩
      have hown1 : w1.ownsRow w.heap.size 9 1 (.slice (some ⟨w.heap.size, 0, none⟩) L.length L.length) L.length (strVs L) := by
        rw [hw1]
        have h := World.ownsRow_lit (base := w.heap.size) (e := 9) (size := 1) w (L.map fun l => Value.string ⟨l.toArray⟩).toArray L.length (Nat.le_refl _) (by unfold maxLen; omega) (by simp)
        rw [List.toList_toArray] at h
        exact h
      have hb1 : Below w.heap.size w w1 := by rw [hw1]; exact (Below.refl _ _).alloc (Nat.le_refl _) _
      clear hw1
      by_cases h10 : 10 < L.length
      · have HP : Hid (partsOut s = ([], false)) := hide (by rw [partsOut, if_neg (fun h => by have := h.2.2; rw [← HLe.out] at this; omega)])
        have hB := hb1.size
        go_wp2_with fail
        go_ret2
        rw [HP.out]
        exact ⟨_, rfl, own_none w1 w.heap.size hB, hb1.alloc hB _⟩
      · have HP : Hid (partsOut s = (L, true)) := hide (by rw [partsOut, if_pos ⟨by omega, HPl.out, by rw [← HLe.out]; omega⟩, ← HLe.out])
        go_wp2_with fail
        go_loopg [24] L.length (fun g iv wr => ∃ k : Nat, k ≤ L.length ∧ iv = .int .i64 (k : Int) ∧ g + k = L.length ∧ wr.ownsRow w.heap.size 9 1 (.slice (some ⟨w.heap.size, 0, none⟩) L.length L.length) L.length (strVs L) ∧ Below w.heap.size w wr)
        case atStart => exact ⟨0, Nat.zero_le _, rfl, rfl, hown1, hb1⟩
        case round =>
          obtain ⟨k, hk, rfl, hg, hown, hb⟩ := hrel
          have HG := hide hg
          clear hg hown1 hb1
          by_cases hlt : k < L.length
          · obtain ⟨x, hx⟩ : ∃ x : ByteArray, x = ⟨(L[k]).toArray⟩ := ⟨_, rfl⟩
            have hget : (strVs L)[k]? = some (.string x) := by rw [hx]; simp [strVs, strV, hlt]
            have hxs : x.size ≤ 600 := by
              have := HL.out L[k] (List.getElem_mem hlt)
              rw [hx]; simpa [ByteArray.size] using this
            have hcell : wr.cell? ⟨w.heap.size, k, none⟩ = some (.string x) := by rw [hown.cellAt k (by omega), hget]
            have HGet := hide hget
            have hk0 : (0 : Int) ≤ (k : Int) := by omega
            have hk1 : (k : Int) < (L.length : Int) := by omega
            clear hx hget
            go_wp2_with fail
            refine (clone_any x (by omega) _).mono ?_
            rintro e w2 ⟨rfl, hb2⟩
            have hown2 := own_below hown hb2
            have hfz : w2.frozen? ⟨w.heap.size, k, none⟩ = false := hown2.frozenAt k
            have hcell2 : w2.cell? ⟨w.heap.size, k, none⟩ = some (.string x) := by rw [hown2.cellAt k (by omega), HGet.out]
            have hb3 : Below w.heap.size w w2 := hb.trans (hb2.mono hb.size)
            clear hb2 hcell
            go_wp2_with fail
            go_roundg (gk - 1)
            case measure => have := HG.out; omega
            case rel => exact ⟨k + 1, by omega, by go_num, by have := HG.out; omega, by have h := (hown2.stored k (.string x)).1; rw [set_same _ _ _ HGet.out] at h; exact h, hb3.setCell (Nat.le_refl _) _⟩
          · go_wp2_with fail
            go_ret2
            rw [HP.out]
            exact ⟨_, rfl, hown, hb⟩
    · have HP : Hid (partsOut s = ([], false)) := hide (by rw [partsOut, if_neg (fun h => hpl h.2.1)])
      have HPl : Hid (plainB s = false) := hide (by rw [← Bool.not_eq_true]; exact hpl)
      clear hpl
      go_enter Tryd.func8, Tryd.ntmps8
      go_wp2_with fail
      refine (plainLine_any s hs _).mono ?_
      rintro e w1 ⟨rfl, rfl⟩
      rw [HPl.out]
      go_wp2_with fail
      go_ret2
      rw [HP.out]
      exact ⟨_, rfl, own_none w w.heap.size (Nat.le_refl _), (Below.refl _ _).alloc (Nat.le_refl _) _⟩
end Go.Proofs.YtimhnphodnnbeakDoor
