/-
  spec.SamePairs and spec.ShowPairs by contracts.
-/
import Derived.Test.YtmmepgincbngeaaSpecModel
import Derived.Test.YtmmepgincbngeaaFrame
import Derived.BigQuiet
import Derived.Laws.StructEq
namespace Go.Proofs.Ytmmepgincbngeaa
open Go.RowKit

/-- what is shown of pairs -/
def showP (L : List (ByteArray × ByteArray)) : ByteArray := L.foldl (fun s p => s ++ p.1 ++ ⟨#[32]⟩ ++ p.2 ++ ⟨#[10]⟩) ⟨#[]⟩

theorem showP_next (L : List (ByteArray × ByteArray)) (i : Nat) {p : ByteArray × ByteArray} (h : L[i]? = some p) : showP (L.take (i + 1)) = showP (L.take i) ++ p.1 ++ ⟨#[32]⟩ ++ p.2 ++ ⟨#[10]⟩ := by
  rw [take_nextM L i p h, showP, List.foldl_append]
  rfl

set_option maxHeartbeats 1000000 in
set_option maxRecDepth 100000 in
theorem specShowPairs_any (L : List (ByteArray × ByteArray)) (hl : L.length ≤ 1200000) (hz : ∀ p ∈ L, p.1.size ≤ 1048576 ∧ p.2.size ≤ 1048576) (v : Value) (w : World) (hr : RowAt w 2 v L.length (prq L)) :
    Calls Try.prog 5 #[v] w fun e w' => e = .returned (.string (showP L)) ∧ Below w.heap.size w w' := by
  obtain ⟨hlen, a, cap, rfl, hrow⟩ := hr
  have HC := hide (fun (wr : World) (hb : Below w.heap.size w wr) (k : Nat) (hk : k < L.length) (p : ByteArray × ByteArray) (hp : L[k]? = some p) => prq_cells (⟨hlen, a, cap, rfl, hrow⟩ : RowAt w 2 (.slice a L.length cap) L.length (prq L)) hb hk hp)
  obtain ⟨n, hn⟩ : ∃ n, L.length = n := ⟨_, rfl⟩
  have HN := hide hn
  have HZz := hide hz
  rw [hn] at HC hl ⊢
  clear hn hrow hlen hz
  go_enter Try.func5, Try.ntmps5
  go_wp2
  go_loopg [3, 4] n (fun q sv iv wr => ∃ (i : Nat) (s : ByteArray), i ≤ n ∧ q + i = n ∧ iv = .int .i64 (i : Int) ∧ sv = .string s ∧ Hid (s = showP (L.take i) ∧ s.size ≤ i * 2097154) ∧ Hid (Below w.heap.size w wr))
  case atStart => exact ⟨0, ⟨#[]⟩, Nat.zero_le _, rfl, rfl, rfl, hide ⟨rfl, Nat.le_refl _⟩, hide (Below.refl _ _)⟩
  case round =>
    obtain ⟨i, s, hin, hq, rfl, rfl, HSh, HB⟩ := hrel
    have HQ := hide hq
    clear hq
    by_cases hlt : i < n
    · obtain ⟨p, hp⟩ : ∃ p, L[i]? = some p := ⟨L[i]'(by have := HN.out; omega), List.getElem?_eq_getElem _⟩
      obtain ⟨x, y⟩ := p
      obtain ⟨g, off, rfl, c0, c1⟩ := HC.out wr HB.out i hlt (x, y) hp
      have HNx := hide (showP_next L i hp)
      obtain ⟨z1, z2⟩ := HZz.out (x, y) (List.mem_of_getElem? hp)
      have z1 : x.size ≤ 1048576 := z1
      have z2 : y.size ≤ 1048576 := z2
      have z3 : s.size ≤ 2600000000000 := by have := HSh.out.2; omega
      have HSz : Hid ((s ++ x ++ ⟨#[32]⟩ ++ y ++ ⟨#[10]⟩).size ≤ (i + 1) * 2097154) := hide (by have := HSh.out.2; simp only [ByteArray.size_append]; have e1 : (⟨#[32]⟩ : ByteArray).size = 1 := rfl; have e2 : (⟨#[10]⟩ : ByteArray).size = 1 := rfl; omega)
      have hi0 : (0 : Int) ≤ (i : Int) := by omega
      have hi1 : (i : Int) < (n : Int) := by omega
      clear hp
      go_wp2_with fail
      go_quiet (fail)
      go_wp2_with fail
      go_roundg (gk - 1)
      case measure => have := HQ.out; omega
      case rel => exact ⟨i + 1, _, by omega, by have := HQ.out; omega, by go_num, rfl, hide ⟨by rw [HNx.out, ← HSh.out.1], HSz.out⟩, hide (below_drewN HB.out _)⟩
    · obtain rfl : i = n := by omega
      go_wp2
      go_ret
      exact ⟨by rw [HSh.out.1, List.take_of_length_le (by rw [HN.out]; exact Nat.le_refl _)]; rfl, HB.out⟩

theorem ba_inj {x y : ByteArray} (h : x.toList = y.toList) : x = y := by
  rw [ByteArray.toList_eq, ByteArray.toList_eq] at h
  exact ByteArray.ext (Array.toList_inj.1 h)

theorem eqPairA (a b c d : ByteArray) (w : World) : (Op.equalIn 10000 32 (.agg #[.string a, .string b]) (.agg #[.string c, .string d])).run Try.prog w = .ok (a.toList == c.toList && b.toList == d.toList) w := by
  have u9 := Try.underlying9
  have a9 := Try.isAgg9
  have z9 := Try.sizeOf9
  have hS : Try.prog.underlying 32 = some (.struct (Try.prog.fieldsOf 32)) := by kernel_rfl
  rw [show (10000 : Nat) = 9999 + 1 from rfl, run_equalIn_agg w 9999 32 _ _ hS (by kernel_rfl)]
  simp only [Program.fieldsOf, Try.underlying32]
  go_simp
  by_cases h1 : a.toList = c.toList <;> by_cases h2 : b.toList = d.toList <;> simp [h1, h2]

end Go.Proofs.Ytmmepgincbngeaa
