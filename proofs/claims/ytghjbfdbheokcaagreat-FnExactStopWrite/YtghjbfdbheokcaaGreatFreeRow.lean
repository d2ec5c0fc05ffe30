/-
  Rows of frees (a number and a row of pages each), read only ('FreesAt') or in new memory ('OwnF'), and the laws' own helpers over them by contracts: szFree, szFreeS, toFree, toFreeS, eqFree, eqFreeS.
-/
import Derived.Test.YtghjbfdbheokcaaGreatNode
namespace Go.Proofs.YtghjbfdbheokcaaGreat
open Go.RowKit

/-- the cells of a row of frees: a number, and the value of the row of pages -/
def frs (l : List (Int × Value)) : List Value := l.flatMap fun p => [.int .i64 p.1, p.2]

theorem frs_cons (p : Int × Value) (l : List (Int × Value)) : frs (p :: l) = Value.int .i64 p.1 :: p.2 :: frs l := rfl

theorem frs_append (l m : List (Int × Value)) : frs (l ++ m) = frs l ++ frs m := by simp [frs]

theorem frs_length (l : List (Int × Value)) : (frs l).length = l.length * 2 := by
  induction l with
  | nil => rfl
  | cons p l ih => rw [frs_cons, List.length_cons, List.length_cons, ih, List.length_cons]; omega

theorem frs_at (l : List (Int × Value)) : ∀ k p, l[k]? = some p → (frs l)[k * 2]? = some (.int .i64 p.1) ∧ (frs l)[k * 2 + 1]? = some p.2 := by
  induction l with
  | nil => intro k p h; simp at h
  | cons q l ih =>
    intro k p h
    rw [frs_cons]
    cases k with
    | zero => simp at h; subst h; exact ⟨rfl, rfl⟩
    | succ k =>
      have := ih k p (by simpa using h)
      rw [show (k + 1) * 2 = k * 2 + 1 + 1 from by omega]
      simpa using this

theorem frs_set (l : List (Int × Value)) : ∀ (k : Nat) (x : Int) (u : Value), k < l.length → ((frs l).set (k * 2) (.int .i64 x)).set (k * 2 + 1) u = frs (l.set k (x, u)) := by
  induction l with
  | nil => intro k p x h; simp at h
  | cons q l ih =>
    intro k x u h
    cases k with
    | zero => rfl
    | succ k =>
      have h2 := ih k x u (by simpa using h)
      rw [List.set_cons_succ, frs_cons, show (k + 1) * 2 = k * 2 + 1 + 1 from by omega, frs_cons, ← h2]
      rfl

theorem frs_set0 (l : List (Int × Value)) : ∀ (k : Nat) (x : Int) (p : Int × Value), l[k]? = some p → (frs l).set (k * 2) (.int .i64 x) = frs (l.set k (x, p.2)) := by
  induction l with
  | nil => intro k x p h; simp at h
  | cons q l ih =>
    intro k x p h
    cases k with
    | zero => simp at h; subst h; rfl
    | succ k =>
      have h2 := ih k x p (by simpa using h)
      rw [List.set_cons_succ, frs_cons, show (k + 1) * 2 = k * 2 + 1 + 1 from by omega, frs_cons, ← h2]
      rfl

theorem frs_made (n : Nat) : (madeCells #[Value.int .i64 0, .slice none 0 0] (n * 2)).toList = frs (List.replicate n (0, .slice none 0 0)) := by
  apply List.ext_getElem?
  intro i
  have hlen : (frs (List.replicate n ((0 : Int), Value.slice none 0 0))).length = n * 2 := by rw [frs_length, List.length_replicate]
  by_cases hi : i < n * 2
  · have h1 : (madeCells #[Value.int .i64 0, .slice none 0 0] (n * 2)).toList[i]? = some (#[Value.int .i64 0, .slice none 0 0][i % 2]!) := by
      simp [madeCells, hi]
    have h2 := frs_at (List.replicate n ((0 : Int), Value.slice none 0 0)) (i / 2) (0, .slice none 0 0) (by rw [List.getElem?_replicate, if_pos (by omega)])
    rw [h1]
    rcases Nat.mod_two_eq_zero_or_one i with h | h
    · rw [h, show i = i / 2 * 2 from by omega, h2.1]; simp
    · rw [h, show i = i / 2 * 2 + 1 from by omega, h2.2]; simp
  · rw [List.getElem?_eq_none (by simp [madeCells]; omega), List.getElem?_eq_none (by rw [hlen]; omega)]

/-- a row of frees that reads so -/
def FreesAt (w : World) (v : Value) (fs : List (Int × List Int)) : Prop :=
  ∃ l : List (Int × Value), l.length = fs.length ∧ RowAt w 2 v fs.length (frs l) ∧ ∀ (k : Nat) (p : Int × Value) (f : Int × List Int), l[k]? = some p → fs[k]? = some f → p.1 = f.1 ∧ RowAt w 1 p.2 f.2.length (ints f.2)

theorem frees_below {w w' : World} {v : Value} {fs : List (Int × List Int)} (h : FreesAt w v fs) (hb : Below w.heap.size w w') : FreesAt w' v fs := by
  obtain ⟨l, h1, h2, h3⟩ := h
  exact ⟨l, h1, row_below h2 hb, fun k p f hp hf => ⟨(h3 k p f hp hf).1, row_below (h3 k p f hp hf).2 hb⟩⟩

theorem frees_slice {w : World} {v : Value} {fs : List (Int × List Int)} (h : FreesAt w v fs) : ∃ a cap, v = .slice a fs.length cap := by
  obtain ⟨l, h1, h2, h3⟩ := h
  obtain ⟨-, a, cap, e, -⟩ := h2
  exact ⟨a, cap, e⟩

theorem frees_at {w : World} {a : Option Addr} {n cap : Nat} {fs : List (Int × List Int)} (h : FreesAt w (.slice a n cap) fs) {k : Nat} {tx : Int} {ps : List Int} (hk : fs[k]? = some (tx, ps)) :
    ∃ b off x c, a = some ⟨b, off, none⟩ ∧ b < w.heap.size ∧ w.cell? ⟨b, off + k * 2, none⟩ = some (.int .i64 tx) ∧ w.cell? ⟨b, off + k * 2 + 1, none⟩ = some (.slice x ps.length c) ∧ RowAt w 1 (.slice x ps.length c) ps.length (ints ps) := by
  obtain ⟨l, h1, h2, h3⟩ := h
  have hlt : k < fs.length := (List.getElem?_eq_some_iff.1 hk).1
  obtain ⟨p, hp⟩ : ∃ p, l[k]? = some p := ⟨_, List.getElem?_eq_getElem (by omega)⟩
  obtain ⟨e1, e2⟩ := h3 k p _ hp hk
  obtain ⟨-, a', cap', e, hr⟩ := h2
  injection e with e _ _
  subst e
  rcases hr with h0 | ⟨b, off, rfl, hb, hc⟩
  · omega
  · obtain ⟨x, c, hx⟩ : ∃ x c, p.2 = .slice x ps.length c := by obtain ⟨-, x, c, e, -⟩ := e2; exact ⟨x, c, e⟩
    rw [hx] at e2
    refine ⟨b, off, x, c, rfl, hb, ?_, ?_, e2⟩
    · rw [hc (k * 2) (by omega), (frs_at l k p hp).1, e1]
    · rw [Nat.add_assoc, hc (k * 2 + 1) (by omega), (frs_at l k p hp).2, hx]

/-- frees of which the first k are in memory of their own: no two rows share a block -/
def OwnTo (w : World) (B : Nat) (m : List (Int × Value)) (fs : List (Int × List Int)) (k : Nat) : Prop :=
  m.length = fs.length ∧ (∀ (i : Nat) (p : Int × Value) (f : Int × List Int), i < k → m[i]? = some p → fs[i]? = some f → p.1 = f.1 ∧ w.ownsRow B 3 1 p.2 f.2.length (ints f.2)) ∧ ∀ (i j : Nat) (p q : Int × Value) (b : Nat), i < k → j < k → m[i]? = some p → m[j]? = some q → p.2.ownBlock = some b → q.2.ownBlock = some b → i = j

def OwnF (w : World) (B : Nat) (v : Value) (m : List (Int × Value)) (fs : List (Int × List Int)) : Prop := w.ownsRow B 103 2 v fs.length (frs m) ∧ OwnTo w B m fs fs.length

theorem ownTo_kept {w w' : World} {B k : Nat} {m : List (Int × Value)} {fs : List (Int × List Int)} {S : Nat → Prop} (h : OwnTo w B m fs k) (hk : Kept w w' S) (hS : ∀ (i : Nat) (p : Int × Value) (b : Nat), i < k → m[i]? = some p → p.2.ownBlock = some b → ¬ S b) : OwnTo w' B m fs k :=
  ⟨h.1, fun i p f hi hp hf => ⟨(h.2.1 i p f hi hp hf).1, own_kept (h.2.1 i p f hi hp hf).2 hk (fun b hb => hS i p b hi hp hb)⟩, h.2.2⟩

theorem ownTo_stays {w w' : World} {B k : Nat} {m : List (Int × Value)} {fs : List (Int × List Int)} (h : OwnTo w B m fs k) (hb : Below w.heap.size w w') : OwnTo w' B m fs k :=
  ⟨h.1, fun i p f hi hp hf => ⟨(h.2.1 i p f hi hp hf).1, own_stays (h.2.1 i p f hi hp hf).2 hb⟩, h.2.2⟩

theorem ownTo_down {w : World} {B B' k : Nat} {m : List (Int × Value)} {fs : List (Int × List Int)} (h : OwnTo w B m fs k) (hb : B' ≤ B) : OwnTo w B' m fs k :=
  ⟨h.1, fun i p f hi hp hf => ⟨(h.2.1 i p f hi hp hf).1, own_down (h.2.1 i p f hi hp hf).2 hb⟩, h.2.2⟩

theorem ownF_stays {w w' : World} {B : Nat} {v : Value} {m : List (Int × Value)} {fs : List (Int × List Int)} (h : OwnF w B v m fs) (hb : Below w.heap.size w w') : OwnF w' B v m fs := ⟨own_stays h.1 hb, ownTo_stays h.2 hb⟩

theorem ownF_down {w : World} {B B' : Nat} {v : Value} {m : List (Int × Value)} {fs : List (Int × List Int)} (h : OwnF w B v m fs) (hb : B' ≤ B) : OwnF w B' v m fs := ⟨own_down h.1 hb, ownTo_down h.2 hb⟩

theorem frees_of_own {w : World} {B : Nat} {v : Value} {m : List (Int × Value)} {fs : List (Int × List Int)} (h : OwnF w B v m fs) : FreesAt w v fs :=
  ⟨m, h.2.1, row_of_own h.1, fun k p f hp hf => ⟨(h.2.2.1 k p f (List.getElem?_eq_some_iff.1 hf).1 hp hf).1, row_of_own (h.2.2.1 k p f (List.getElem?_eq_some_iff.1 hf).1 hp hf).2⟩⟩

theorem Tryz.free_int : (103 : Nat) ≠ 3 := by decide

/-- the blocks of frees: the row's own, and those of the pages -/
def freeBlocks (v : Value) (m : List (Int × Value)) (b : Nat) : Prop := v.ownBlock = some b ∨ ∃ (i : Nat) (p : Int × Value), m[i]? = some p ∧ p.2.ownBlock = some b

theorem ownF_lt {w : World} {B : Nat} {v : Value} {m : List (Int × Value)} {fs : List (Int × List Int)} (h : OwnF w B v m fs) : ∀ b, freeBlocks v m b → B ≤ b ∧ b < w.heap.size := by
  rintro b (hb | ⟨i, p, hp, hb⟩)
  · exact h.1.lt b hb
  · have hi : i < fs.length := by have := (List.getElem?_eq_some_iff.1 hp).1; have := h.2.1; omega
    exact (h.2.2.1 i p _ hi hp (List.getElem?_eq_getElem hi)).2.lt b hb

theorem ownF_kept {w w' : World} {B : Nat} {v : Value} {m : List (Int × Value)} {fs : List (Int × List Int)} {S : Nat → Prop} (h : OwnF w B v m fs) (hk : Kept w w' S) (hS : ∀ b, freeBlocks v m b → ¬ S b) : OwnF w' B v m fs :=
  ⟨own_kept h.1 hk (fun b hb => hS b (Or.inl hb)), ownTo_kept h.2 hk (fun i p b _ hp hb => hS b (Or.inr ⟨i, p, hp, hb⟩))⟩

/-- a row of pages more -/
theorem ownTo_set {w : World} {B k : Nat} {m : List (Int × Value)} {fs : List (Int × List Int)} {tx : Int} {ps : List Int} {u : Value} (h : OwnTo w B m fs k) (hf : fs[k]? = some (tx, ps)) (hu : w.ownsRow B 3 1 u ps.length (ints ps))
    (hn : ∀ (i : Nat) (p : Int × Value) (b : Nat), i < k → m[i]? = some p → p.2.ownBlock = some b → u.ownBlock ≠ some b) : OwnTo w B (m.set k (tx, u)) fs (k + 1) := by
  have hkl : k < m.length := by rw [h.1]; exact (List.getElem?_eq_some_iff.1 hf).1
  refine ⟨by rw [List.length_set]; exact h.1, fun i p f hi hp hf' => ?_, fun i j p q b hi hj hp hq h1 h2 => ?_⟩
  · by_cases e : k = i
    · subst e
      rw [List.getElem?_set_self hkl] at hp
      injection hp with hp
      rw [hf] at hf'
      injection hf' with hf'
      subst hp hf'
      exact ⟨rfl, hu⟩
    · rw [List.getElem?_set_ne e] at hp
      exact h.2.1 i p f (by omega) hp hf'
  · by_cases e : k = i
    · by_cases e' : k = j
      · omega
      · subst e
        rw [List.getElem?_set_self hkl] at hp
        rw [List.getElem?_set_ne e'] at hq
        injection hp with hp
        subst hp
        exact absurd h1 (hn j q b (by omega) hq h2)
    · by_cases e' : k = j
      · subst e'
        rw [List.getElem?_set_self hkl] at hq
        rw [List.getElem?_set_ne e] at hp
        injection hq with hq
        subst hq
        exact absurd h2 (hn i p b (by omega) hp h1)
      · rw [List.getElem?_set_ne e] at hp
        rw [List.getElem?_set_ne e'] at hq
        exact h.2.2 i j p q b (by omega) (by omega) hp hq h1 h2

/-- how many pages the first k frees have -/
def sumF (l : List (Int × List Int)) (k : Nat) : Nat := ((l.take k).map fun p => p.2.length).sum

theorem sumF_succ (l : List (Int × List Int)) (k : Nat) {tx : Int} {ps : List Int} (h : l[k]? = some (tx, ps)) : sumF l (k + 1) = sumF l k + ps.length := by
  obtain ⟨hk, e⟩ := List.getElem?_eq_some_iff.1 h
  unfold sumF
  rw [List.take_succ_eq_append_getElem hk, List.map_append, List.sum_append, e]
  simp

theorem sumF_zero (l : List (Int × List Int)) : sumF l 0 = 0 := by simp [sumF]

theorem sumF_mono (l : List (Int × List Int)) (k : Nat) : sumF l k ≤ sumF l l.length := by
  unfold sumF
  conv => rhs; rw [List.take_length, ← List.take_append_drop k l, List.map_append, List.sum_append]
  omega

/-- how much a list of frees holds -/
def bulkF (l : List (Int × List Int)) : Nat := l.length + sumF l l.length

theorem bulkF_in {l : List (Int × List Int)} {m : Nat} (h : bulkF l ≤ m) : l.length ≤ m ∧ ∀ f ∈ l, f.2.length ≤ m := by
  unfold bulkF at h
  refine ⟨by omega, fun f hf => ?_⟩
  obtain ⟨i, hi, rfl⟩ := List.getElem_of_mem hf
  have h1 := sumF_succ l i (tx := l[i].1) (ps := l[i].2) (List.getElem?_eq_getElem hi)
  have h2 := sumF_mono l (i + 1)
  omega

set_option maxHeartbeats 400000 in
theorem szFree_any (tx : Int) (a : Option Addr) (n cap : Nat) (hn : n ≤ maxLen) (left : Nat) (hleft : left ≤ 1048576) (w : World) :
    Calls Tryz.prog 70 #[.agg #[.int .i64 tx, .slice a n cap], .int .i64 (left : Int)] w fun e w' => e = .returned (.int .i64 (szOut left n)) ∧ Below w.heap.size w w' := by
  have HC := hide (fun wx => szIntS_any a n cap hn left hleft wx)
  have HB : Hid (∀ o, Below w.heap.size w (w.alloc o)) := hide (fun o => (Below.refl w.heap.size w).alloc (Nat.le_refl _) _)
  by_cases h : n ≤ left
  · rw [szOut_yes h] at HC ⊢
    obtain ⟨z, hz⟩ : ∃ z, z = left - n := ⟨_, rfl⟩
    rw [← hz] at HC ⊢
    clear hz h hn
    go_enter Tryz.func70, Tryz.ntmps70
    go_wp2_with fail
    refine (HC.out _).mono ?_
    rintro e w1 ⟨rfl, rfl⟩
    go_wp2_with fail
    go_ret
    exact ⟨rfl, HB.out _⟩
  · rw [szOut_no (by omega)] at HC ⊢
    clear h hn
    go_enter Tryz.func70, Tryz.ntmps70
    go_wp2_with fail
    refine (HC.out _).mono ?_
    rintro e w1 ⟨rfl, rfl⟩
    go_wp2_with fail
    go_ret
    exact ⟨rfl, HB.out _⟩

set_option maxHeartbeats 1000000 in
theorem szFreeS_any (l : List (Int × List Int)) (hl : l.length ≤ maxLen) (hs : ∀ p ∈ l, p.2.length ≤ maxLen) (v : Value) (left : Nat) (hleft : left ≤ 1048576) (w : World) (hr : FreesAt w v l) :
    Calls Tryz.prog 40 #[v, .int .i64 (left : Int)] w fun e w' => e = .returned (.int .i64 (szOut left (bulkF l))) ∧ Below w.heap.size w w' := by
  obtain ⟨a, cap, rfl⟩ := frees_slice hr
  have HR := hide hr
  have HS := hide hs
  clear hr hs
  unfold maxLen at hl
  have HBk : Hid (bulkF l = l.length + sumF l l.length) := hide rfl
  by_cases h0 : left < l.length
  · have HO : Hid (szOut left (bulkF l) = -1) := hide (szOut_no (by rw [HBk.out]; omega))
    go_enter Tryz.func40, Tryz.ntmps40
    go_wp2
    go_ret
    rw [HO.out]
    exact ⟨rfl, Below.refl _ _⟩
  · go_enter Tryz.func40, Tryz.ntmps40
    go_wp2
    go_loopg [1, 5] l.length (fun g lv iv wr => ∃ k m : Nat, k ≤ l.length ∧ iv = .int .i64 (k : Int) ∧ g + k = l.length ∧ lv = .int .i64 (m : Int) ∧ m ≤ 1048576 ∧ Hid (m + l.length + sumF l k = left) ∧ Below w.heap.size w wr)
    case atStart => exact ⟨0, left - l.length, Nat.zero_le _, rfl, rfl, by go_num, by omega, hide (by rw [sumF_zero]; omega), Below.refl _ _⟩
    case round =>
      obtain ⟨k, m, hk, rfl, hg, rfl, hm, HM, hb⟩ := hrel
      have HG := hide hg
      clear hg
      by_cases hlt : k < l.length
      · obtain ⟨tx, ps, hf⟩ : ∃ tx ps, l[k]? = some (tx, ps) := ⟨_, _, List.getElem?_eq_getElem hlt⟩
        obtain ⟨b, off, x, c, rfl, hbl, hc0, hc1, -⟩ := frees_at (frees_below HR.out hb) hf
        have hxs : ps.length ≤ maxLen := HS.out _ (List.mem_of_getElem? hf)
        have HSum := hide (sumF_succ l k hf)
        obtain ⟨n, hn⟩ : ∃ n, n = ps.length := ⟨_, rfl⟩
        rw [← hn] at hc1 hxs HSum
        have hk0 : (0 : Int) ≤ (k : Int) := by omega
        have hk1 : (k : Int) < (l.length : Int) := by omega
        clear hf hn
        by_cases hneg : m < n
        · have HO : Hid (szOut left (bulkF l) = -1) := hide (szOut_no (by have h1 := HBk.out; have h2 := HM.out; have h3 := HSum.out; have h4 := sumF_mono l (k + 1); omega))
          have HC := hide (szFree_any tx x n c hxs m hm)
          rw [szOut_no hneg] at HC
          go_wp2_with fail
          refine (HC.out _).mono ?_
          rintro e w2 ⟨rfl, hb2⟩
          go_wp2_with fail
          go_ret
          rw [HO.out]
          exact ⟨rfl, hb.trans (hb2.mono hb.size)⟩
        · have HC := hide (szFree_any tx x n c hxs m hm)
          rw [szOut_yes (by omega)] at HC
          obtain ⟨m', hm'⟩ : ∃ m', m' = m - n := ⟨_, rfl⟩
          rw [← hm'] at HC
          have hml : m' ≤ 1048576 := by omega
          have HM2 : Hid (m' + l.length + sumF l (k + 1) = left) := hide (by have h2 := HM.out; have h3 := HSum.out; omega)
          clear hm' hneg
          go_wp2_with fail
          refine (HC.out _).mono ?_
          rintro e w2 ⟨rfl, hb2⟩
          go_wp2_with fail
          go_roundg (gk - 1)
          case measure => have := HG.out; omega
          case rel => exact ⟨k + 1, m', by omega, by go_num, by have := HG.out; omega, rfl, hml, HM2, hb.trans (hb2.mono hb.size)⟩
      · have HO : Hid (szOut left (bulkF l) = (m : Int)) := hide (by
          have h1 := HBk.out
          have h2 := HM.out
          obtain rfl : k = l.length := by omega
          rw [szOut_yes (by omega)]
          congr 1
          omega)
        go_wp2
        go_ret
        rw [HO.out]
        exact ⟨rfl, hb⟩
end Go.Proofs.YtghjbfdbheokcaaGreat
