/-
  Rows of ints in memory of one's own that may begin in the midst of their block ('IntOwn'), and laws.markIntS over such a row by a contract.
-/
import Derived.Test.YtacmpggigdlmmaaDoorNode
namespace Go.Proofs.YtacmpggigdlmmaaDoor
open Go.RowKit

/-- a row of ints in memory of its own, from a place of its block on -/
def IntOwn (w : World) (B : Nat) (v : Value) (l : List Int) : Prop :=
  ∃ a cap, v = .slice a l.length cap ∧ l.length ≤ cap ∧ (a = none ∧ l = [] ∨ ∃ g off cs, a = some ⟨g, off, none⟩ ∧ B ≤ g ∧ w.heap[g]? = some (.cells cs 3 (0, 0)) ∧ ∀ i, i < l.length → cs[off + i]? = (ints l)[i]?)

theorem intOwn_cap {w : World} {B : Nat} {v : Value} {l : List Int} (h : IntOwn w B v l) : ∃ a cap, v = .slice a l.length cap ∧ l.length ≤ cap := by
  obtain ⟨a, cap, e, hc, -⟩ := h
  exact ⟨a, cap, e, hc⟩

theorem intOwn_row {w : World} {B : Nat} {v : Value} {l : List Int} (h : IntOwn w B v l) : RowAt w 1 v l.length (ints l) := by
  obtain ⟨a, cap, rfl, hcap, h⟩ := h
  refine ⟨by rw [ints_length]; omega, a, cap, rfl, ?_⟩
  rcases h with ⟨-, rfl⟩ | ⟨g, off, cs, rfl, -, hh, hc⟩
  · exact Or.inl rfl
  · exact Or.inr ⟨g, off, rfl, (Array.getElem?_eq_some_iff.1 hh).1, fun j hj => (cell_at hh (off + j)).1.trans (hc j (by omega))⟩

theorem intOwn_slice {w : World} {B : Nat} {v : Value} {l : List Int} (h : IntOwn w B v l) : ∃ a cap, v = .slice a l.length cap := by
  obtain ⟨a, cap, e, -⟩ := h
  exact ⟨a, cap, e⟩

theorem intOwn_lt {w : World} {B : Nat} {v : Value} {l : List Int} (h : IntOwn w B v l) : ∀ k, v.ownBlock = some k → B ≤ k ∧ k < w.heap.size := by
  obtain ⟨a, cap, rfl, hcap, h⟩ := h
  intro k hk
  rcases h with ⟨rfl, -⟩ | ⟨g, off, cs, rfl, hB, hh, -⟩
  · cases hk
  · injection hk with hk
    have hk : g = k := hk
    subst hk
    exact ⟨hB, (Array.getElem?_eq_some_iff.1 hh).1⟩

theorem intOwn_typ {w : World} {B : Nat} {v : Value} {l : List Int} (h : IntOwn w B v l) {k : Nat} (hk : v.ownBlock = some k) : ∃ cs, w.heap[k]? = some (.cells cs 3 (0, 0)) := by
  obtain ⟨a, cap, rfl, hcap, h⟩ := h
  rcases h with ⟨rfl, -⟩ | ⟨g, off, cs, rfl, hB, hh, -⟩
  · cases hk
  · injection hk with hk
    have hk : g = k := hk
    subst hk
    exact ⟨cs, hh⟩

theorem intOwn_kept {w w' : World} {B : Nat} {v : Value} {l : List Int} {S : Nat → Prop} (h : IntOwn w B v l) (hk : Kept w w' S) (hS : ∀ k, v.ownBlock = some k → ¬ S k) : IntOwn w' B v l := by
  obtain ⟨a, cap, rfl, hcap, h⟩ := h
  refine ⟨a, cap, rfl, hcap, ?_⟩
  rcases h with h | ⟨g, off, cs, rfl, hB, hh, hc⟩
  · exact Or.inl h
  · exact Or.inr ⟨g, off, cs, rfl, hB, (hk.2.2.2.2 g (Array.getElem?_eq_some_iff.1 hh).1 (hS g rfl)).trans hh, hc⟩

theorem intOwn_below {w w' : World} {B : Nat} {v : Value} {l : List Int} (h : IntOwn w B v l) (hb : Below w.heap.size w w') : IntOwn w' B v l :=
  intOwn_kept h (kept_of_all hb (fun _ => False)) (fun _ _ h => h)

theorem intOwn_down {w : World} {B B' : Nat} {v : Value} {l : List Int} (h : IntOwn w B v l) (hB : B' ≤ B) : IntOwn w B' v l := by
  obtain ⟨a, cap, rfl, hcap, h⟩ := h
  refine ⟨a, cap, rfl, hcap, ?_⟩
  rcases h with h | ⟨g, off, cs, rfl, hg, hh, hc⟩
  · exact Or.inl h
  · exact Or.inr ⟨g, off, cs, rfl, Nat.le_trans hB hg, hh, hc⟩

theorem intOwn_of_own {w : World} {B : Nat} {v : Value} {l : List Int} (h : w.ownsRow B 3 1 v l.length (ints l)) : IntOwn w B v l := by
  have hc := h
  rcases h.2 with ⟨rfl, h0⟩ | ⟨g, cap, cur, rfl, hg, hh, hnc, -⟩
  · have h0 : l.length = 0 := h0
    exact ⟨none, 0, by rw [h0], by omega, Or.inl ⟨rfl, List.eq_nil_of_length_eq_zero h0⟩⟩
  · exact ⟨_, _, rfl, hnc, Or.inr ⟨g, 0, cur, rfl, hg, hh, fun i hi => by rw [Nat.zero_add]; exact (cell_at hh i).1.symm.trans (hc.cellAt i (by omega))⟩⟩

/-- all but the first one -/
theorem intOwn_tail {w : World} {B g off c c' : Nat} {x : Int} {l : List Int} {n n' : Nat} (hn : n = l.length + 1) (hn' : n' = l.length) (hc' : l.length ≤ c') (h : IntOwn w B (.slice (some ⟨g, off, none⟩) n c) (x :: l)) : IntOwn w B (.slice (some ⟨g, off + 1, none⟩) n' c') l := by
  subst hn hn'
  obtain ⟨a, cap, e, -, h⟩ := h
  injection e with e1 e2 e3
  subst e1
  rcases h with ⟨h, -⟩ | ⟨g', off', cs, e, hB, hh, hc⟩
  · cases h
  · injection e with e
    injection e with e1 e2
    subst e1 e2
    refine ⟨_, _, rfl, hc', Or.inr ⟨g, off + 1, cs, rfl, hB, hh, fun i hi => ?_⟩⟩
    have := hc (i + 1) (by simp; omega)
    rw [Nat.add_assoc, Nat.add_comm 1 i, this]
    simp [ints]

theorem intOwn_apart {w : World} {B B' e sz n : Nat} {v v' : Value} {xs : List Value} {l : List Int} (h : w.ownsRow B e sz v n xs) (h' : IntOwn w B' v' l) (hne : e ≠ 3) (k : Nat) (h1 : v.ownBlock = some k) : v'.ownBlock ≠ some k := by
  intro h2
  obtain ⟨cs, hh'⟩ := intOwn_typ h' h2
  rcases h.2 with ⟨rfl, -⟩ | ⟨g, cap, cur, rfl, -, hh, -⟩
  · cases h1
  · injection h1 with h1
    have h1 : g = k := h1
    subst h1
    rw [hh] at hh'
    injection hh' with hh'
    injection hh' with _ he _
    exact hne he

theorem intOwn_stored {w : World} {B g off n cap : Nat} {m : List Int} (k : Nat) (x : Int) (hn : n = m.length) (hk : k < m.length) (h : IntOwn w B (.slice (some ⟨g, off, none⟩) n cap) m) : IntOwn (w.setCell ⟨g, off + k, none⟩ (.int .i64 x)) B (.slice (some ⟨g, off, none⟩) n cap) (m.set k x) := by
  subst hn
  obtain ⟨a, cap', e, hcp, h⟩ := h
  injection e with e1 e2 e3
  subst e1 e3
  rcases h with ⟨h, -⟩ | ⟨g', off', cs, e, hB, hh, hc⟩
  · cases h
  · injection e with e
    injection e with e1 e2
    subst e1 e2
    have h2 := heap_setCell_same w g (off + k) _ _ (.int .i64 x) hh
    refine ⟨_, _, by rw [List.length_set], by rw [List.length_set]; exact hcp, Or.inr ⟨g, off, _, rfl, hB, h2, fun i hi => ?_⟩⟩
    rw [List.length_set] at hi
    rw [← ints_set]
    have hsz : off + k < cs.size := by
      have := hc k hk
      rw [ints_at m k hk] at this
      exact (Array.getElem?_eq_some_iff.1 this).1
    by_cases e : k = i
    · subst e
      rw [Array.getElem?_setIfInBounds_self_of_lt hsz, List.getElem?_set_self (by rw [ints_length]; exact hk)]
    · rw [Array.getElem?_setIfInBounds_ne (by omega), List.getElem?_set_ne e]
      exact hc i hi

theorem intOwn_cell {w : World} {B g off n cap : Nat} {m : List Int} (k : Nat) (hn : n = m.length) (hk : k < m.length) (h : IntOwn w B (.slice (some ⟨g, off, none⟩) n cap) m) : w.cell? ⟨g, off + k, none⟩ = some (.int .i64 m[k]) ∧ w.frozen? ⟨g, off + k, none⟩ = false := by
  subst hn
  obtain ⟨a, cap', e, hcp, h⟩ := h
  injection e with e1 e2 e3
  subst e1 e3
  rcases h with ⟨h, -⟩ | ⟨g', off', cs, e, hB, hh, hc⟩
  · cases h
  · injection e with e
    injection e with e1 e2
    subst e1 e2
    exact ⟨(cell_at hh _).1.trans ((hc k hk).trans (ints_at m k hk)), (cell_at hh _).2⟩

set_option maxHeartbeats 1000000 in
set_option maxRecDepth 100000 in
theorem markIntS_off (l : List Int) (hl : l.length ≤ 2000000) (v : Value) (B k0 : Nat) (hk1 : k0 ≤ 1048576000) (w : World) (ha : IntOwn w B v l) :
    Calls Tryd.prog 29 #[v, .int .i64 (k0 : Int)] w fun e w' => e = .returned (.int .i64 ((k0 + l.length : Nat) : Int)) ∧ IntOwn w' B v (marksI k0 l.length) ∧ Kept w w' (fun k => v.ownBlock = some k) := by
  obtain ⟨a, cap, rfl⟩ := intOwn_slice ha
  have HA := hide ha
  clear ha
  go_enter Tryd.func29, Tryd.ntmps29
  go_wp2
  go_loopg [1, 5] l.length (fun q kv iv wr => ∃ (k : Nat) (m : List Int), k ≤ l.length ∧ kv = .int .i64 ((k0 + k : Nat) : Int) ∧ iv = .int .i64 (k : Int) ∧ q + k = l.length ∧ Hid (IntOwn wr B (.slice a l.length cap) m) ∧ Hid (m.length = l.length ∧ ∀ i, i < k → m[i]? = some ((k0 + i : Nat) : Int)) ∧ Hid (Kept w wr (fun k => (Value.slice a l.length cap).ownBlock = some k)))
  case atStart => exact ⟨0, l, Nat.zero_le _, rfl, rfl, rfl, HA, hide ⟨rfl, fun i h => by omega⟩, hide (kept_refl _ _)⟩
  case round =>
    obtain ⟨k, m, hk, rfl, rfl, hg, HOwn, HM, HK⟩ := hrel
    have HG := hide hg
    clear hg
    by_cases hlt : k < l.length
    · obtain ⟨g, off, rfl⟩ : ∃ g off, a = some ⟨g, off, none⟩ := by
        obtain ⟨a', c', e, -, h⟩ := HOwn.out
        injection e with e1
        rcases h with ⟨-, h0⟩ | ⟨g, off, cs, e, -⟩
        · have := HM.out.1; rw [h0] at this; simp at this; omega
        · exact ⟨g, off, by rw [e1, e]⟩
      have hi0 : (0 : Int) ≤ (k : Int) := by omega
      have hi1 : (k : Int) < (l.length : Int) := by omega
      obtain ⟨hcell2, hfz⟩ := intOwn_cell k HM.out.1.symm (by rw [HM.out.1]; exact hlt) HOwn.out
      have HO := hide (intOwn_stored k ((k0 + k : Nat) : Int) HM.out.1.symm (by rw [HM.out.1]; exact hlt) HOwn.out)
      have HM2 : Hid ((m.set k ((k0 + k : Nat) : Int)).length = l.length ∧ ∀ i, i < k + 1 → (m.set k ((k0 + k : Nat) : Int))[i]? = some ((k0 + i : Nat) : Int)) := hide ⟨by rw [List.length_set]; exact HM.out.1, fun i hi => by
        by_cases e : k = i
        · subst e; rw [List.getElem?_set_self (by rw [HM.out.1]; exact hlt)]
        · rw [List.getElem?_set_ne e]; exact HM.out.2 i (by omega)⟩
      have HK2 : Hid (Kept w (wr.setCell ⟨g, off + k, none⟩ (.int .i64 ((k0 + k : Nat) : Int))) (fun k => (Value.slice (some ⟨g, off, none⟩) l.length cap).ownBlock = some k)) := hide (kept_trans HK.out (kept_setCell wr g (off + k) _) (fun j _ h => by rw [h]; rfl))
      go_wp2_with fail
      go_roundg (gk - 1)
      case measure => have := HG.out; omega
      case rel => exact ⟨k + 1, _, by omega, by go_num, by go_num, by have := HG.out; omega, HO, HM2, HK2⟩
    · have hkn : k = l.length := by omega
      have HO : Hid (IntOwn wr B (.slice a l.length cap) (marksI k0 l.length)) := hide (by
        have e : m = marksI k0 l.length := marksI_of k0 l.length m HM.out.1 (fun i hi => HM.out.2 i (by omega))
        rw [← e]; exact HOwn.out)
      have HKn := hide hkn
      clear hkn
      go_wp2_with fail
      go_ret
      exact ⟨by rw [HKn.out]; rfl, HO.out, HK.out⟩

set_option maxHeartbeats 2000000 in
set_option maxRecDepth 100000 in
theorem heldIntS_big (n : Nat) (hn : n ≤ 2000000) (v : Value) (k0 : Nat) (hk1 : k0 ≤ 1048576000) (w : World) (ha : RowAt w 1 v n (ints (marksI k0 n))) :
    Calls Tryd.prog 32 #[v, .int .i64 (k0 : Int)] w fun e w' => e = .returned (.int .i64 ((k0 + n : Nat) : Int)) ∧ Below w.heap.size w w' := by
  obtain ⟨-, a, cap, rfl, h2⟩ := ha
  have HR := hide h2
  clear h2
  go_enter Tryd.func32, Tryd.ntmps32
  go_wp2
  go_loopg [1, 5] n (fun q kv iv wr => ∃ k : Nat, k ≤ n ∧ kv = .int .i64 ((k0 + k : Nat) : Int) ∧ iv = .int .i64 (k : Int) ∧ q + k = n ∧ Below w.heap.size w wr)
  case atStart => exact ⟨0, Nat.zero_le _, rfl, rfl, rfl, Below.refl _ _⟩
  case round =>
    obtain ⟨k, hk, rfl, rfl, hg, hb⟩ := hrel
    have HG := hide hg
    clear hg
    by_cases hlt : k < n
    · rcases HR.out with h0 | ⟨g, off, rfl, hglt, hc⟩
      · omega
      · obtain ⟨x, hx⟩ : ∃ x : Int, x = ((k0 + k : Nat) : Int) := ⟨_, rfl⟩
        have hcell : wr.cell? ⟨g, off + k, none⟩ = some (.int .i64 x) := by rw [hb.cell (by exact hglt), hc k (by omega), marksI_at k0 n k hlt, hx]
        rw [hx, show ((k0 + k : Nat) : Int) = (k0 : Int) + (k : Int) from by omega] at hcell
        have hi0 : (0 : Int) ≤ (k : Int) := by omega
        have hi1 : (k : Int) < (n : Int) := by omega
        have HB := hide hb
        clear hx hc hb
        go_wp2_with fail
        try (go_quiet (fail); go_wp2_with fail)
        go_roundg (gk - 1)
        case measure => have := HG.out; omega
        case rel => exact ⟨k + 1, by omega, by go_num, by go_num, by have := HG.out; omega, by first | exact HB.out | exact below_drewN HB.out _⟩
    · have hkn : k = n := by omega
      have HK := hide hkn
      clear hkn
      go_wp2_with fail
      go_ret
      exact ⟨by rw [HK.out]; rfl, hb⟩
end Go.Proofs.YtacmpggigdlmmaaDoor
