/-
  spec.SamePairs and spec.ShowPairs by contracts.
-/
import Derived.Test.YtdbpbhemnnffeaaSpecModel
import Derived.Test.YtdbpbhemnnffeaaFrame
import Derived.BigQuiet
import Derived.Laws.StructEq
namespace Go.Proofs.Ytdbpbhemnnffeaa
open Go.RowKit

/-- what is shown of pairs -/
def showP (L : List (ByteArray × ByteArray)) : ByteArray := L.foldl (fun s p => s ++ p.1 ++ ⟨#[32]⟩ ++ p.2 ++ ⟨#[10]⟩) ⟨#[]⟩

theorem showP_next (L : List (ByteArray × ByteArray)) (i : Nat) {p : ByteArray × ByteArray} (h : L[i]? = some p) : showP (L.take (i + 1)) = showP (L.take i) ++ p.1 ++ ⟨#[32]⟩ ++ p.2 ++ ⟨#[10]⟩ := by
  rw [take_nextM L i p h, showP, List.foldl_append]
  rfl

theorem ba_inj {x y : ByteArray} (h : x.toList = y.toList) : x = y := by
  rw [ByteArray.toList_eq, ByteArray.toList_eq] at h
  exact ByteArray.ext (Array.toList_inj.1 h)

theorem eqPairA (a b c d : ByteArray) (w : World) : (Op.equalIn 10000 31 (.agg #[.string a, .string b]) (.agg #[.string c, .string d])).run Try.prog w = .ok (a.toList == c.toList && b.toList == d.toList) w := by
  have u9 := Try.underlying9
  have a9 := Try.isAgg9
  have z9 := Try.sizeOf9
  have hS : Try.prog.underlying 31 = some (.struct (Try.prog.fieldsOf 31)) := by kernel_rfl
  rw [show (10000 : Nat) = 9999 + 1 from rfl, run_equalIn_agg w 9999 31 _ _ hS (by kernel_rfl)]
  simp only [Program.fieldsOf, Try.underlying31]
  go_simp
  by_cases h1 : a.toList = c.toList <;> by_cases h2 : b.toList = d.toList <;> simp [h1, h2]

set_option maxHeartbeats 1000000 in
set_option maxRecDepth 100000 in
theorem specSamePairs_any (L L2 : List (ByteArray × ByteArray)) (hl : L.length ≤ 1200000) (hl2 : L2.length ≤ 1200000) (v v2 : Value) (w : World) (hr : RowAt w 2 v L.length (prq L)) (hr2 : RowAt w 2 v2 L2.length (prq L2)) :
    Calls Try.prog 5 #[v, v2] w fun e w' => e = .returned (.bool (decide (L = L2))) ∧ Below w.heap.size w w' := by
  obtain ⟨hlen, a, cap, rfl, hrow⟩ := hr
  obtain ⟨hlen2, a2, cap2, rfl, hrow2⟩ := hr2
  have HC := hide (fun (wr : World) (hb : Below w.heap.size w wr) (k : Nat) (hk : k < L.length) (p : ByteArray × ByteArray) (hp : L[k]? = some p) => prq_cells (⟨hlen, a, cap, rfl, hrow⟩ : RowAt w 2 (.slice a L.length cap) L.length (prq L)) hb hk hp)
  have HC2 := hide (fun (wr : World) (hb : Below w.heap.size w wr) (k : Nat) (hk : k < L2.length) (p : ByteArray × ByteArray) (hp : L2[k]? = some p) => prq_cells (⟨hlen2, a2, cap2, rfl, hrow2⟩ : RowAt w 2 (.slice a2 L2.length cap2) L2.length (prq L2)) hb hk hp)
  obtain ⟨n, hn⟩ : ∃ n, L.length = n := ⟨_, rfl⟩
  obtain ⟨n2, hn2⟩ : ∃ n, L2.length = n := ⟨_, rfl⟩
  have HN := hide (⟨hn, hn2⟩ : _ ∧ _)
  rw [hn] at HC hl
  rw [hn2] at HC2 hl2
  rw [hn, hn2]
  clear hn hrow hlen hn2 hrow2 hlen2
  by_cases hnn : n = n2
  rotate_left
  · have d1 : ((n : Int) != (n2 : Int)) = true := by simp; omega
    have HF : Hid (decide (L = L2) = false) := hide (decide_eq_false fun e => hnn (by rw [← HN.out.1, ← HN.out.2, e]))
    clear hnn
    go_enter Try.func5, Try.ntmps5
    go_wp2
    go_ret
    rw [HF.out]
    exact ⟨rfl, Below.refl _ _⟩
  subst hnn
  have d1 : ((n : Int) != (n : Int)) = false := by simp
  go_enter Try.func5, Try.ntmps5
  go_wp2
  go_loopg [5] n (fun q iv wr => ∃ (i : Nat), i ≤ n ∧ q + i = n ∧ iv = .int .i64 (i : Int) ∧ Hid (L.take i = L2.take i) ∧ Hid (Below w.heap.size w wr))
  case atStart => exact ⟨0, Nat.zero_le _, rfl, rfl, hide rfl, hide (Below.refl _ _)⟩
  case round =>
    obtain ⟨i, hin, hq, rfl, HT, HB⟩ := hrel
    have HQ := hide hq
    clear hq
    by_cases hlt : i < n
    · obtain ⟨p, hp⟩ : ∃ p, L[i]? = some p := ⟨L[i]'(by have := HN.out; omega), List.getElem?_eq_getElem _⟩
      obtain ⟨p2, hp2⟩ : ∃ p, L2[i]? = some p := ⟨L2[i]'(by have := HN.out; omega), List.getElem?_eq_getElem _⟩
      obtain ⟨x, y⟩ := p
      obtain ⟨x2, y2⟩ := p2
      obtain ⟨g, off, rfl, c0, c1⟩ := HC.out wr HB.out i hlt (x, y) hp
      obtain ⟨g2, off2, rfl, e0, e1⟩ := HC2.out wr HB.out i hlt (x2, y2) hp2
      have hi0 : (0 : Int) ≤ (i : Int) := by omega
      have hi1 : (i : Int) < (n : Int) := by omega
      have HPp := hide (⟨hp, hp2⟩ : _ ∧ _)
      have hS := fun wx => eqPairA x y x2 y2 wx
      have hS3 : Try.prog.eqGuardType Try.prog.depth 31 = false := by kernel_rfl
      obtain ⟨t, ht⟩ : ∃ t, (x.toList == x2.toList && y.toList == y2.toList) = t := ⟨_, rfl⟩
      rw [ht] at hS
      have HTt := hide ht
      clear ht
      clear hp hp2
      go_wp2_with fail
      go_quiet (fail)
      cases t with
      | true =>
        go_wp2_with fail
        go_roundg (gk - 1)
        case measure => have := HQ.out; omega
        case rel => exact ⟨i + 1, by omega, by have := HQ.out; omega, by go_num, hide (by
          have h := HTt.out
          rw [Bool.and_eq_true] at h
          have e1 := ba_inj (eq_of_beq h.1)
          have e2 := ba_inj (eq_of_beq h.2)
          rw [take_nextM L i _ HPp.out.1, take_nextM L2 i _ HPp.out.2, HT.out, e1, e2]), hide (below_drewN HB.out _)⟩
      | false =>
        have HF : Hid (decide (L = L2) = false) := hide (decide_eq_false fun e => by
          have h1 := HPp.out.1
          rw [e, HPp.out.2] at h1
          injection h1 with h1
          injection h1 with h1 h2
          have h := HTt.out
          rw [h1, h2] at h
          simp at h)
        go_wp2_with fail
        go_ret
        rw [HF.out]
        exact ⟨rfl, below_drewN HB.out _⟩
    · obtain rfl : i = n := by omega
      have HF : Hid (decide (L = L2) = true) := hide (decide_eq_true (by have h := HT.out; rw [List.take_of_length_le (by rw [HN.out.1]; exact Nat.le_refl _), List.take_of_length_le (by rw [HN.out.2]; exact Nat.le_refl _)] at h; exact h))
      go_wp2
      go_ret
      rw [HF.out]
      exact ⟨rfl, HB.out⟩

end Go.Proofs.Ytdbpbhemnnffeaa
