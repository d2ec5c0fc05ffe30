/-
  Facts and contracts that the law's own text rests on, by their texts' names: SeenRow, Sep, SepApp.
-/
import Derived.Test.YtdbpbhemnnffeaaGreatDoorXw3
import Derived.Test.YtdbpbhemnnffeaaGreatDoorXw5
import Derived.Deep.RegionHeld
import Derived.Test.YtdbpbhemnnffeaaGreatDoorXw2
import Derived.Deep.AppendLies
namespace Go.Proofs.YtdbpbhemnnffeaaGreatDoor
open Go.RowKit
def SeensAt (w : World) (v : Value) (fs : List (Int × List (ByteArray × ByteArray))) : Prop :=
  ∃ l : List (Int × Value), l.length = fs.length ∧ RowAt w 2 v fs.length (frs l) ∧ ∀ (k : Nat) (p : Int × Value) (f : Int × List (ByteArray × ByteArray)), l[k]? = some p → fs[k]? = some f → p.1 = f.1 ∧ RowAt w 2 p.2 f.2.length (prs f.2)
theorem seens_below {w w' : World} {v : Value} {fs : List (Int × List (ByteArray × ByteArray))} (h : SeensAt w v fs) (hb : Below w.heap.size w w') : SeensAt w' v fs := by
  obtain ⟨l, h1, h2, h3⟩ := h
  exact ⟨l, h1, row_below h2 hb, fun k p f hp hf => ⟨(h3 k p f hp hf).1, row_below (h3 k p f hp hf).2 hb⟩⟩
theorem seens_slice {w : World} {v : Value} {fs : List (Int × List (ByteArray × ByteArray))} (h : SeensAt w v fs) : ∃ a cap, v = .slice a fs.length cap := by
  obtain ⟨l, h1, h2, h3⟩ := h
  obtain ⟨-, a, cap, e, -⟩ := h2
  exact ⟨a, cap, e⟩
theorem seens_at {w : World} {a : Option Addr} {n cap : Nat} {fs : List (Int × List (ByteArray × ByteArray))} (h : SeensAt w (.slice a n cap) fs) {k : Nat} {tx : Int} {ps : List (ByteArray × ByteArray)} (hk : fs[k]? = some (tx, ps)) :
    ∃ b off x c, a = some ⟨b, off, none⟩ ∧ b < w.heap.size ∧ w.cell? ⟨b, off + k * 2, none⟩ = some (.int .i64 tx) ∧ w.cell? ⟨b, off + k * 2 + 1, none⟩ = some (.slice x ps.length c) ∧ RowAt w 2 (.slice x ps.length c) ps.length (prs ps) := by
  obtain ⟨l, h1, h2, h3⟩ := h
  have hlt : k < fs.length := (List.getElem?_eq_some_iff.1 hk).1
  obtain ⟨p, hp⟩ : ∃ p, l[k]? = some p := ⟨_, List.getElem?_eq_getElem (by omega)⟩
  obtain ⟨e1, e2⟩ := h3 k p _ hp hk
  obtain ⟨-, a', cap', e, hr⟩ := h2
  injection e with e _ _
  subst e
  rcases hr with h0 | ⟨b, off, rfl, hb, hc⟩
  · omega
  · obtain ⟨x, c, hx⟩ : ∃ x c, p.2 = .slice x ps.length c := by obtain ⟨-, x, c, e, -⟩ := e2; exact ⟨x, c, e⟩
    rw [hx] at e2
    refine ⟨b, off, x, c, rfl, hb, ?_, ?_, e2⟩
    · rw [hc (k * 2) (by omega), (frs_at l k p hp).1, e1]
    · rw [Nat.add_assoc, hc (k * 2 + 1) (by omega), (frs_at l k p hp).2, hx]
def SOwnTo (w : World) (B : Nat) (m : List (Int × Value)) (fs : List (Int × List (ByteArray × ByteArray))) (k : Nat) : Prop :=
  m.length = fs.length ∧ (∀ (i : Nat) (p : Int × Value) (f : Int × List (ByteArray × ByteArray)), i < k → m[i]? = some p → fs[i]? = some f → p.1 = f.1 ∧ w.ownsRow B 101 2 p.2 f.2.length (prs f.2)) ∧ ∀ (i j : Nat) (p q : Int × Value) (b : Nat), i < k → j < k → m[i]? = some p → m[j]? = some q → p.2.ownBlock = some b → q.2.ownBlock = some b → i = j
def SOwnF (w : World) (B : Nat) (v : Value) (m : List (Int × Value)) (fs : List (Int × List (ByteArray × ByteArray))) : Prop := w.ownsRow B 84 2 v fs.length (frs m) ∧ SOwnTo w B m fs fs.length
theorem sOwnTo_kept {w w' : World} {B k : Nat} {m : List (Int × Value)} {fs : List (Int × List (ByteArray × ByteArray))} {S : Nat → Prop} (h : SOwnTo w B m fs k) (hk : Kept w w' S) (hS : ∀ (i : Nat) (p : Int × Value) (b : Nat), i < k → m[i]? = some p → p.2.ownBlock = some b → ¬ S b) : SOwnTo w' B m fs k :=
  ⟨h.1, fun i p f hi hp hf => ⟨(h.2.1 i p f hi hp hf).1, own_kept (h.2.1 i p f hi hp hf).2 hk (fun b hb => hS i p b hi hp hb)⟩, h.2.2⟩
theorem sOwnTo_stays {w w' : World} {B k : Nat} {m : List (Int × Value)} {fs : List (Int × List (ByteArray × ByteArray))} (h : SOwnTo w B m fs k) (hb : Below w.heap.size w w') : SOwnTo w' B m fs k :=
  ⟨h.1, fun i p f hi hp hf => ⟨(h.2.1 i p f hi hp hf).1, own_stays (h.2.1 i p f hi hp hf).2 hb⟩, h.2.2⟩
theorem sOwnTo_down {w : World} {B B' k : Nat} {m : List (Int × Value)} {fs : List (Int × List (ByteArray × ByteArray))} (h : SOwnTo w B m fs k) (hb : B' ≤ B) : SOwnTo w B' m fs k :=
  ⟨h.1, fun i p f hi hp hf => ⟨(h.2.1 i p f hi hp hf).1, own_down (h.2.1 i p f hi hp hf).2 hb⟩, h.2.2⟩
theorem sOwnF_down {w : World} {B B' : Nat} {v : Value} {m : List (Int × Value)} {fs : List (Int × List (ByteArray × ByteArray))} (h : SOwnF w B v m fs) (hb : B' ≤ B) : SOwnF w B' v m fs := ⟨own_down h.1 hb, sOwnTo_down h.2 hb⟩
theorem seens_of_own {w : World} {B : Nat} {v : Value} {m : List (Int × Value)} {fs : List (Int × List (ByteArray × ByteArray))} (h : SOwnF w B v m fs) : SeensAt w v fs :=
  ⟨m, h.2.1, row_of_own h.1, fun k p f hp hf => ⟨(h.2.2.1 k p f (List.getElem?_eq_some_iff.1 hf).1 hp hf).1, row_of_own (h.2.2.1 k p f (List.getElem?_eq_some_iff.1 hf).1 hp hf).2⟩⟩
theorem Tryz.seen_pair : (84 : Nat) ≠ 101 := by decide
def seenBlocks (v : Value) (m : List (Int × Value)) (b : Nat) : Prop := v.ownBlock = some b ∨ ∃ (i : Nat) (p : Int × Value), m[i]? = some p ∧ p.2.ownBlock = some b
theorem sOwnF_lt {w : World} {B : Nat} {v : Value} {m : List (Int × Value)} {fs : List (Int × List (ByteArray × ByteArray))} (h : SOwnF w B v m fs) : ∀ b, seenBlocks v m b → B ≤ b ∧ b < w.heap.size := by
  rintro b (hb | ⟨i, p, hp, hb⟩)
  · exact h.1.lt b hb
  · have hi : i < fs.length := by have := (List.getElem?_eq_some_iff.1 hp).1; have := h.2.1; omega
    exact (h.2.2.1 i p _ hi hp (List.getElem?_eq_getElem hi)).2.lt b hb
theorem sOwnTo_set {w : World} {B k : Nat} {m : List (Int × Value)} {fs : List (Int × List (ByteArray × ByteArray))} {tx : Int} {ps : List (ByteArray × ByteArray)} {u : Value} (h : SOwnTo w B m fs k) (hf : fs[k]? = some (tx, ps)) (hu : w.ownsRow B 101 2 u ps.length (prs ps))
    (hn : ∀ (i : Nat) (p : Int × Value) (b : Nat), i < k → m[i]? = some p → p.2.ownBlock = some b → u.ownBlock ≠ some b) : SOwnTo w B (m.set k (tx, u)) fs (k + 1) := by
  have hkl : k < m.length := by rw [h.1]; exact (List.getElem?_eq_some_iff.1 hf).1
  refine ⟨by rw [List.length_set]; exact h.1, fun i p f hi hp hf' => ?_, fun i j p q b hi hj hp hq h1 h2 => ?_⟩
  · by_cases e : k = i
    · subst e
      rw [List.getElem?_set_self hkl] at hp
      injection hp with hp
      rw [hf] at hf'
      injection hf' with hf'
      subst hp hf'
      exact ⟨rfl, hu⟩
    · rw [List.getElem?_set_ne e] at hp
      exact h.2.1 i p f (by omega) hp hf'
  · by_cases e : k = i
    · by_cases e' : k = j
      · omega
      · subst e
        rw [List.getElem?_set_self hkl] at hp
        rw [List.getElem?_set_ne e'] at hq
        injection hp with hp
        subst hp
        exact absurd h1 (hn j q b (by omega) hq h2)
    · by_cases e' : k = j
      · subst e'
        rw [List.getElem?_set_self hkl] at hq
        rw [List.getElem?_set_ne e] at hp
        injection hq with hq
        subst hq
        exact absurd h2 (hn i p b (by omega) hp h1)
      · rw [List.getElem?_set_ne e] at hp
        rw [List.getElem?_set_ne e'] at hq
        exact h.2.2 i j p q b (by omega) (by omega) hp hq h1 h2
def sumSn (l : List (Int × List (ByteArray × ByteArray))) (k : Nat) : Nat := ((l.take k).map fun p => pBulk p.2).sum
theorem sumSn_succ (l : List (Int × List (ByteArray × ByteArray))) (k : Nat) {tx : Int} {ps : List (ByteArray × ByteArray)} (h : l[k]? = some (tx, ps)) : sumSn l (k + 1) = sumSn l k + pBulk ps := by
  unfold sumSn
  rw [List.take_add_one, h, List.map_append, List.sum_append]
  simp
theorem sumSn_zero (l : List (Int × List (ByteArray × ByteArray))) : sumSn l 0 = 0 := by simp [sumSn]
theorem sumSn_mono (l : List (Int × List (ByteArray × ByteArray))) (k : Nat) : sumSn l k ≤ sumSn l l.length := by
  unfold sumSn
  conv => rhs; rw [List.take_length, ← List.take_append_drop k l, List.map_append, List.sum_append]
  omega
def bulkSn (l : List (Int × List (ByteArray × ByteArray))) : Nat := l.length + sumSn l l.length
theorem bulkSn_in {l : List (Int × List (ByteArray × ByteArray))} {m : Nat} (h : bulkSn l ≤ m) : l.length ≤ m ∧ ∀ f ∈ l, pBulk f.2 ≤ m := by
  unfold bulkSn at h
  refine ⟨by omega, fun f hf => ?_⟩
  obtain ⟨i, hi, rfl⟩ := List.getElem_of_mem hf
  have h1 := sumSn_succ l i (tx := l[i].1) (ps := l[i].2) (List.getElem?_eq_getElem hi)
  have h2 := sumSn_mono l (i + 1)
  omega
set_option maxHeartbeats 1000000 in
theorem szSeen_any (tx : Int) (ps : List (ByteArray × ByteArray)) (hn : ps.length ≤ maxLen) (hz : ∀ p ∈ ps, p.1.size ≤ maxLen ∧ p.2.size ≤ maxLen) (v : Value) (left : Nat) (hleft : left ≤ 1048576) (w : World) (hr : RowAt w 2 v ps.length (prs ps)) :
    Calls Tryz.prog 40 #[.agg #[.int .i64 tx, v], .int .i64 (left : Int)] w fun e w' => e = .returned (.int .i64 (szOut left (pBulk ps))) ∧ Below w.heap.size w w' := by
  have HC := hide (fun wx h => szPairS_any ps hn hz v left hleft wx h)
  obtain ⟨pa, pc, rfl⟩ : ∃ a cap, v = .slice a ps.length cap := by obtain ⟨-, a, cap, e, -⟩ := hr; exact ⟨a, cap, e⟩
  have HB : Hid (∀ o, Below w.heap.size w (w.alloc o)) := hide (fun o => (Below.refl w.heap.size w).alloc (Nat.le_refl _) _)
  have HR := hide hr
  obtain ⟨n, hn'⟩ : ∃ n, n = pBulk ps := ⟨_, rfl⟩
  rw [← hn'] at HC ⊢
  clear hn' hr hn hz
  by_cases h : n ≤ left
  · rw [szOut_yes h] at HC ⊢
    obtain ⟨z, hz⟩ : ∃ z, z = left - n := ⟨_, rfl⟩
    rw [← hz] at HC ⊢
    clear hz h
    go_enter Tryz.func40, Tryz.ntmps40
    go_wp2_with fail
    refine (HC.out _ (row_below HR.out (HB.out _))).mono ?_
    rintro e w1 ⟨rfl, hb1⟩
    have HB1 := hide ((HB.out _).trans (hb1.mono (HB.out _).size))
    clear hb1
    go_wp2_with fail
    go_ret
    exact ⟨rfl, HB1.out⟩
  · rw [szOut_no (by omega)] at HC ⊢
    clear h
    go_enter Tryz.func40, Tryz.ntmps40
    go_wp2_with fail
    refine (HC.out _ (row_below HR.out (HB.out _))).mono ?_
    rintro e w1 ⟨rfl, hb1⟩
    have HB1 := hide ((HB.out _).trans (hb1.mono (HB.out _).size))
    clear hb1
    go_wp2_with fail
    go_ret
    exact ⟨rfl, HB1.out⟩
set_option maxHeartbeats 1000000 in
theorem szSeenS_any (l : List (Int × List (ByteArray × ByteArray))) (hl : l.length ≤ maxLen) (hs : ∀ f ∈ l, f.2.length ≤ maxLen ∧ ∀ p ∈ f.2, p.1.size ≤ maxLen ∧ p.2.size ≤ maxLen) (v : Value) (left : Nat) (hleft : left ≤ 1048576) (w : World) (hr : SeensAt w v l) :
    Calls Tryz.prog 17 #[v, .int .i64 (left : Int)] w fun e w' => e = .returned (.int .i64 (szOut left (bulkSn l))) ∧ Below w.heap.size w w' := by
  obtain ⟨a, cap, rfl⟩ := seens_slice hr
  have HR := hide hr
  have HS := hide hs
  clear hr hs
  unfold maxLen at hl
  have HBk : Hid (bulkSn l = l.length + sumSn l l.length) := hide rfl
  by_cases h0 : left < l.length
  · have HO : Hid (szOut left (bulkSn l) = -1) := hide (szOut_no (by rw [HBk.out]; omega))
    go_enter Tryz.func17, Tryz.ntmps17
    go_wp2
    go_ret
    rw [HO.out]
    exact ⟨rfl, Below.refl _ _⟩
  · go_enter Tryz.func17, Tryz.ntmps17
    go_wp2
    go_loopg [1, 5] l.length (fun g lv iv wr => ∃ k m : Nat, k ≤ l.length ∧ iv = .int .i64 (k : Int) ∧ g + k = l.length ∧ lv = .int .i64 (m : Int) ∧ m ≤ 1048576 ∧ Hid (m + l.length + sumSn l k = left) ∧ Below w.heap.size w wr)
    case atStart => exact ⟨0, left - l.length, Nat.zero_le _, rfl, rfl, by go_num, by omega, hide (by rw [sumSn_zero]; omega), Below.refl _ _⟩
    case round =>
      obtain ⟨k, m, hk, rfl, hg, rfl, hm, HM, hb⟩ := hrel
      have HG := hide hg
      clear hg
      by_cases hlt : k < l.length
      · obtain ⟨tx, ps, hf⟩ : ∃ tx ps, l[k]? = some (tx, ps) := ⟨_, _, List.getElem?_eq_getElem hlt⟩
        obtain ⟨b, off, x, c, rfl, hbl, hc0, hc1, hrow⟩ := seens_at (seens_below HR.out hb) hf
        obtain ⟨hxs, hxz⟩ := HS.out _ (List.mem_of_getElem? hf)
        have HCz := hide (fun wx h => szSeen_any tx ps hxs hxz (.slice x ps.length c) m hm wx h)
        have HRow := hide hrow
        have HSum := hide (sumSn_succ l k hf)
        obtain ⟨n, hn⟩ : ∃ n, n = pBulk ps := ⟨_, rfl⟩
        rw [← hn] at HCz HSum
        obtain ⟨nl, hnl⟩ : ∃ nl, nl = ps.length := ⟨_, rfl⟩
        rw [← hnl] at hc1 HCz HRow
        have hk0 : (0 : Int) ≤ (k : Int) := by omega
        have hk1 : (k : Int) < (l.length : Int) := by omega
        clear hf hn hnl hrow hxs hxz
        by_cases hneg : m < n
        · have HO : Hid (szOut left (bulkSn l) = -1) := hide (szOut_no (by have h1 := HBk.out; have h2 := HM.out; have h3 := HSum.out; have h4 := sumSn_mono l (k + 1); omega))
          have HC := HCz
          rw [szOut_no hneg] at HC
          go_wp2_with fail
          refine (HC.out _ HRow.out).mono ?_
          rintro e w2 ⟨rfl, hb2⟩
          go_wp2_with fail
          go_ret
          rw [HO.out]
          exact ⟨rfl, hb.trans (hb2.mono hb.size)⟩
        · have HC := HCz
          rw [szOut_yes (by omega)] at HC
          obtain ⟨m', hm'⟩ : ∃ m', m' = m - n := ⟨_, rfl⟩
          rw [← hm'] at HC
          have hml : m' ≤ 1048576 := by omega
          have HM2 : Hid (m' + l.length + sumSn l (k + 1) = left) := hide (by have h2 := HM.out; have h3 := HSum.out; omega)
          clear hm' hneg
          go_wp2_with fail
          refine (HC.out _ HRow.out).mono ?_
          rintro e w2 ⟨rfl, hb2⟩
          go_wp2_with fail
          go_roundg (gk - 1)
          case measure => have := HG.out; omega
          case rel => exact ⟨k + 1, m', by omega, by go_num, by have := HG.out; omega, rfl, hml, HM2, hb.trans (hb2.mono hb.size)⟩
      · have HO : Hid (szOut left (bulkSn l) = (m : Int)) := hide (by
          have h1 := HBk.out
          have h2 := HM.out
          obtain rfl : k = l.length := by omega
          rw [szOut_yes (by omega)]
          congr 1
          omega)
        go_wp2
        go_ret
        rw [HO.out]
        exact ⟨rfl, hb⟩
set_option maxHeartbeats 1000000 in
set_option maxRecDepth 100000 in
theorem toSeen_any (tx : Int) (ps : List (ByteArray × ByteArray)) (hp : ps.length ≤ 1048576) (v : Value) (w : World) (hr : RowAt w 2 v ps.length (prs ps)) :
    Calls Tryz.prog 47 #[.agg #[.int .i64 tx, v]] w fun e w' => ∃ v', e = .returned (.agg #[.int .i64 tx, v']) ∧ w'.ownsRow w.heap.size 101 2 v' ps.length (prs ps) ∧ Below w.heap.size w w' := by
  obtain ⟨pa, pc, rfl⟩ : ∃ a cap, v = .slice a ps.length cap := by obtain ⟨-, a, cap, e, -⟩ := hr; exact ⟨a, cap, e⟩
  have HC3 := hide (fun wx h => toPairS_any ps hp (.slice pa ps.length pc) wx h)
  have H3 := hide hr
  clear hr hp
  obtain ⟨w0, hw0⟩ : ∃ w0, w0 = ((w.alloc (Obj.cells #[.int .i64 tx, .slice pa ps.length pc] 96)).alloc (Obj.cells #[.int .i64 0, .slice none 0 0] 84)).alloc (Obj.cells #[.int .i64 tx, .slice none 0 0] 84) := ⟨_, rfl⟩
  have hb0 : Below w.heap.size w w0 := by rw [hw0]; exact (((Below.refl w.heap.size w).alloc (Nat.le_refl _) _).alloc (by simp) _).alloc (by simp; omega) _
  obtain ⟨-, q1, q2, hs0⟩ := three_allocs w (Obj.cells #[.int .i64 tx, .slice pa ps.length pc] 96) (Obj.cells #[.int .i64 0, .slice none 0 0] 84) (Obj.cells #[.int .i64 tx, .slice none 0 0] 84)
  rw [← hw0] at q1 q2 hs0
  have HB0 := hide hb0
  clear hb0
  go_enter Tryz.func47, Tryz.ntmps47
  go_wp2_with fail
  rw [← hw0]
  clear hw0
  refine (HC3.out _ (row_below H3.out HB0.out)).mono ?_
  rintro e w3 ⟨u3, rfl, hown3, hb3⟩
  obtain ⟨x3, c3, rfl⟩ := own_slice hown3
  obtain ⟨a1, ha1⟩ : ∃ a, a = w.heap.size + 1 := ⟨_, rfl⟩
  obtain ⟨a2, ha2⟩ : ∃ a, a = w.heap.size + 1 + 1 := ⟨_, rfl⟩
  rw [← ha2, ← ha1]
  rw [← ha1] at q1
  rw [← ha2] at q2
  have HA := hide (⟨ha1, ha2, hs0⟩ : a1 = w.heap.size + 1 ∧ a2 = w.heap.size + 1 + 1 ∧ w0.heap.size = w.heap.size + 3)
  have hne : a1 ≠ a2 := by omega
  have r3 := (hb3.block a1 (by omega)).trans q1
  have o3 := (hb3.block a2 (by omega)).trans q2
  have c23 : w3.cell? ⟨a2, 1, none⟩ = some (.slice none 0 0) := (cell_at o3 1).1
  have f23 := (cell_at o3 1).2
  obtain ⟨y3, hy3⟩ : ∃ y, y = w3.setCell ⟨a2, 1, none⟩ (.slice x3 ps.length c3) := ⟨_, rfl⟩
  have r3' : y3.heap[a1]? = some (Obj.cells #[.int .i64 0, .slice none 0 0] 84) := by rw [hy3]; exact blk_other r3 hne
  have o3' : y3.heap[a2]? = some (Obj.cells #[.int .i64 tx, .slice x3 ps.length c3] 84) := by rw [hy3]; exact heap_setCell_same w3 a2 1 _ _ _ o3
  have k3 : Kept w3 y3 (fun k => k = a1 ∨ k = a2) := by rw [hy3]; exact kept_mono (kept_setCell _ _ _ _) (fun j _ h => Or.inr h)
  have d0 : (w3.setCell ⟨a2, 1, none⟩ (.slice x3 ps.length c3)).cell? ⟨a2, 0, none⟩ = some (.int .i64 tx) := by rw [← hy3]; exact (cell_at o3' 0).1
  have d1 : (w3.setCell ⟨a2, 1, none⟩ (.slice x3 ps.length c3)).cell? ⟨a2, 1, none⟩ = some (.slice x3 ps.length c3) := by rw [← hy3]; exact (cell_at o3' 1).1
  have e0 : (w3.setCell ⟨a2, 1, none⟩ (.slice x3 ps.length c3)).cell? ⟨a1, 0, none⟩ = some (.int .i64 0) := by rw [← hy3]; exact (cell_at r3' 0).1
  have e1 : (w3.setCell ⟨a2, 1, none⟩ (.slice x3 ps.length c3)).cell? ⟨a1, 1, none⟩ = some (.slice none 0 0) := by rw [← hy3]; exact (cell_at r3' 1).1
  have g0 : (w3.setCell ⟨a2, 1, none⟩ (.slice x3 ps.length c3)).frozen? ⟨a1, 0, none⟩ = false := by rw [← hy3]; exact (cell_at r3' 0).2
  have g1 : (w3.setCell ⟨a2, 1, none⟩ (.slice x3 ps.length c3)).frozen? ⟨a1, 1, none⟩ = false := by rw [← hy3]; exact (cell_at r3' 1).2
  have HR3 := hide r3'
  have HK3 := hide k3
  have HY3 := hide hy3
  have HO3 := hide hown3
  have HB3 := hide hb3
  clear hb3 hown3 r3 o3 r3' o3' k3 hy3 ha1 ha2 hs0 q1 q2 hne
  go_wp2_with fail
  rw [← HY3.out]
  have k4 : Kept w3 ((y3.setCell ⟨a1, 0, none⟩ (.int .i64 tx)).setCell ⟨a1, 1, none⟩ (.slice x3 ps.length c3)) (fun k => k = a1 ∨ k = a2) := kept_trans (kept_trans HK3.out (kept_setCell _ _ _ _) (fun j _ h => Or.inl h)) (kept_setCell _ _ _ _) (fun j _ h => Or.inl h)
  have z : ((y3.setCell ⟨a1, 0, none⟩ (.int .i64 tx)).setCell ⟨a1, 1, none⟩ (.slice x3 ps.length c3)).heap[a1]? = some (Obj.cells #[.int .i64 tx, .slice x3 ps.length c3] 84) := heap_setCell_same _ a1 1 _ _ _ (heap_setCell_same _ a1 0 _ _ _ HR3.out)
  have z0 := (cell_at z 0).1
  have z1 := (cell_at z 1).1
  have hA := HA.out
  have hsz3 := HB3.out.size
  refine bodyPost_ret (v := .agg #[.int .i64 tx, .slice x3 ps.length c3]) (by simp [results, Tryz.results47, go_sem, z0, z1]) rfl ⟨_, rfl, ?_, ?_⟩
  · exact own_down (own_kept HO3.out k4 (fun k hk => by have := (HO3.out.lt k hk).1; omega)) (by omega)
  · exact (HB0.out.trans (HB3.out.mono HB0.out.size)).trans (below_of_kept k4 (by have := HB0.out.size; omega) (fun k hk => by omega))
theorem Tryz.infoSeen : (Tryz.prog.info? 84).map (fun i => (i.zero, i.size, i.bytes)) = some (some (.agg #[.int .i64 0, .slice none 0 0]), 2, 32) := by kernel_rfl
set_option maxHeartbeats 1000000 in
set_option maxRecDepth 100000 in
theorem toSeenS_any (fs : List (Int × List (ByteArray × ByteArray))) (hl : fs.length ≤ 1048576) (hs : ∀ f ∈ fs, f.2.length ≤ 1048576) (v : Value) (w : World) (hr : SeensAt w v fs) :
    Calls Tryz.prog 24 #[v] w fun e w' => ∃ v' m, e = .returned v' ∧ SOwnF w' w.heap.size v' m fs ∧ Below w.heap.size w w' := by
  obtain ⟨i0, hi, hz0, hz1, hz2⟩ := info_parts Tryz.infoSeen
  obtain ⟨a, cap, rfl⟩ := seens_slice hr
  have HR := hide hr
  have HS := hide hs
  clear hr hs
  go_enter Tryz.func24, Tryz.ntmps24
  go_wp2_with (at_make; refine wpList_make_full _ rfl _ _ 57 rfl w.heap.size 84 i0 (.agg #[.int .i64 0, .slice none 0 0]) 2 Tryz.underlying57 hi hz0 hz1 .i64 .i64 _ _ fs.length rfl rfl rfl rfl (by rw [hz2]; omega) (by unfold maxLen; omega) (Nat.le_refl _) ?_)
  intro w1 hown1 hg1
  have hb1 : Below w.heap.size w w1 := (Below.refl _ _).grown hg1 (Nat.le_refl _) (fun k hk => by cases hk)
  have hown2 : w1.ownsRow w.heap.size 84 2 (.slice (some ⟨w.heap.size, 0, none⟩) fs.length fs.length) fs.length (frs (List.replicate fs.length (0, .slice none 0 0))) := own_n hown1 rfl (frs_made _)
  clear hg1 hown1
  go_wp2
  go_loopg [4] fs.length (fun q iv wr => ∃ (k : Nat) (m : List (Int × Value)), k ≤ fs.length ∧ iv = .int .i64 (k : Int) ∧ q + k = fs.length ∧ wr.ownsRow w.heap.size 84 2 (.slice (some ⟨w.heap.size, 0, none⟩) fs.length fs.length) fs.length (frs m) ∧ Hid (SOwnTo wr w.heap.size m fs k) ∧ Below w.heap.size w wr)
  case atStart => exact ⟨0, _, Nat.zero_le _, rfl, rfl, hown2, hide ⟨by simp, fun i p f h => by omega, fun i j p q b h => by omega⟩, hb1⟩
  case round =>
    obtain ⟨k, m, hk, rfl, hg, hown, HM, hb⟩ := hrel
    have HG := hide hg
    clear hg hown2 hb1
    by_cases hlt : k < fs.length
    · obtain ⟨tx, ps, hf⟩ : ∃ tx ps, fs[k]? = some (tx, ps) := ⟨_, _, List.getElem?_eq_getElem hlt⟩
      obtain ⟨b, off, x, c, rfl, hbl, hc0, hc1, hrow⟩ := seens_at (seens_below HR.out hb) hf
      have HC := hide (fun wx h => toSeen_any tx ps (HS.out _ (List.mem_of_getElem? hf)) (.slice x ps.length c) wx h)
      have HRow := hide hrow
      have hkm : k < m.length := by rw [HM.out.1]; exact hlt
      obtain ⟨p, hp⟩ : ∃ p, m[k]? = some p := ⟨_, List.getElem?_eq_getElem hkm⟩
      obtain ⟨u0, u1, hu⟩ : ∃ (u0 : Int) (u1 : Value), (frs m)[k * 2]? = some (.int .i64 u0) ∧ (frs m)[k * 2 + 1]? = some u1 := ⟨_, _, frs_at m k p hp⟩
      have HU := hide hu
      have HF := hide hf
      have HKm := hide hkm
      have hk0 : (0 : Int) ≤ (k : Int) := by omega
      have hk1 : (k : Int) < (fs.length : Int) := by omega
      clear hkm hu hf hrow hp
      go_wp2_with fail
      refine (HC.out _ HRow.out).mono ?_
      rintro e w2 ⟨u, rfl, hou, hb2⟩
      obtain ⟨ua, uc, rfl⟩ := own_slice hou
      have hown2 := own_stays hown hb2
      have hd0 : w2.cell? ⟨w.heap.size, k * 2, none⟩ = some (.int .i64 u0) := by rw [hown2.cellAt (k * 2) (by omega), HU.out.1]
      have hd1 : w2.cell? ⟨w.heap.size, k * 2 + 1, none⟩ = some u1 := by rw [hown2.cellAt (k * 2 + 1) (by omega), HU.out.2]
      have hf0 : w2.frozen? ⟨w.heap.size, k * 2, none⟩ = false := hown2.frozenAt _
      have hf1 : w2.frozen? ⟨w.heap.size, k * 2 + 1, none⟩ = false := hown2.frozenAt _
      have hb3 : Below w.heap.size w w2 := hb.trans (hb2.mono hb.size)
      have HO := hide (((hown2.stored (k * 2) (.int .i64 tx)).1.stored (k * 2 + 1) (.slice ua ps.length uc)).1)
      rw [frs_set m k tx _ HKm.out] at HO
      have HM2 : Hid (SOwnTo ((w2.setCell ⟨w.heap.size, k * 2, none⟩ (.int .i64 tx)).setCell ⟨w.heap.size, k * 2 + 1, none⟩ (.slice ua ps.length uc)) w.heap.size (m.set k (tx, .slice ua ps.length uc)) fs (k + 1)) := hide (by
        have h1 := sOwnTo_stays HM.out hb2
        have h2 : SOwnTo w2 w.heap.size (m.set k (tx, .slice ua ps.length uc)) fs (k + 1) := sOwnTo_set h1 HF.out (own_down hou hb.size) (fun i p b hi hp hpb hub => by
          have hil : i < fs.length := by omega
          have := ((HM.out.2.1 i p _ hi hp (List.getElem?_eq_getElem hil)).2.lt b hpb).2
          have := (hou.lt b hub).1
          omega)
        refine sOwnTo_kept h2 (kept_trans (kept_setCell w2 w.heap.size (k * 2) _) (kept_setCell _ w.heap.size (k * 2 + 1) _) (fun j _ h => h)) (fun i p b hi hp hpb hbw => ?_)
        have hil : i < fs.length := by omega
        have h3 := (h2.2.1 i p _ hi hp (List.getElem?_eq_getElem hil)).2
        exact one_type hown2 h3 Tryz.seen_pair b (by rw [hbw]; rfl) hpb)
      clear hown hb2 hou
      go_wp2_with fail
      go_roundg (gk - 1)
      case measure => have := HG.out; omega
      case rel => exact ⟨k + 1, _, by omega, by go_num, by have := HG.out; omega, HO.out, HM2, (hb3.setCell (Nat.le_refl _) _).setCell (Nat.le_refl _) _⟩
    · obtain rfl : k = fs.length := by omega
      go_wp2
      go_ret
      exact ⟨_, m, rfl, ⟨hown, HM.out⟩, hb⟩
set_option maxHeartbeats 400000 in
theorem eqSeen_same (tx : Int) (ps : List (ByteArray × ByteArray)) (hp : ps.length ≤ 1048576) (v u : Value) (w : World) (hr : RowAt w 2 v ps.length (prs ps)) (hq : RowAt w 2 u ps.length (prs ps)) :
    Calls Tryz.prog 55 #[.agg #[.int .i64 tx, v], .agg #[.int .i64 tx, u]] w fun e w' => e = .returned (.bool true) ∧ Below w.heap.size w w' := by
  have HC3 := hide (fun wx h h' => eqPairS_row ps ps (by omega) (by omega) v u wx h h')
  rw [decide_eq_true rfl] at HC3
  have HR := hide (⟨hr, hq⟩ : _ ∧ _)
  clear hr hq hp
  obtain ⟨w0, hw0⟩ : ∃ w0, w0 = (w.alloc (Obj.cells #[.int .i64 tx, v] 84)).alloc (Obj.cells #[.int .i64 tx, u] 84) := ⟨_, rfl⟩
  have hb0 : Below w.heap.size w w0 := by rw [hw0]; exact ((Below.refl w.heap.size w).alloc (Nat.le_refl _) _).alloc (by simp) _
  have HB0 := hide hb0
  have dl : (tx != tx) = false := by simp
  clear hb0
  go_enter Tryz.func55, Tryz.ntmps55
  go_wp2_with fail
  rw [← hw0]
  clear hw0
  refine (HC3.out _ (row_below HR.out.1 HB0.out) (row_below HR.out.2 HB0.out)).mono ?_
  rintro e w3 ⟨rfl, hb3⟩
  have HB3 : Hid (Below w.heap.size w w3) := hide (HB0.out.trans (hb3.mono HB0.out.size))
  clear hb3
  go_wp2_with fail
  go_ret
  exact ⟨rfl, HB3.out⟩
set_option maxHeartbeats 2000000 in
set_option maxRecDepth 100000 in
theorem eqSeenS_same (fs : List (Int × List (ByteArray × ByteArray))) (hl : fs.length ≤ 1048576) (hs : ∀ f ∈ fs, f.2.length ≤ 1048576) (v u : Value) (w : World) (hr : SeensAt w v fs) (hq : SeensAt w u fs) :
    Calls Tryz.prog 30 #[v, u] w fun e w' => e = .returned (.bool true) ∧ Below w.heap.size w w' := by
  obtain ⟨a, cap, rfl⟩ := seens_slice hr
  obtain ⟨a', cap', rfl⟩ := seens_slice hq
  have HR := hide hr
  have HQ := hide hq
  have HS := hide hs
  clear hr hq hs
  go_enter Tryz.func30, Tryz.ntmps30
  go_wp2
  go_loopg [5] fs.length (fun q iv wr => ∃ k : Nat, k ≤ fs.length ∧ iv = .int .i64 (k : Int) ∧ q + k = fs.length ∧ Below w.heap.size w wr)
  case atStart => exact ⟨0, Nat.zero_le _, rfl, rfl, Below.refl _ _⟩
  case round =>
    obtain ⟨k, hk, rfl, hg, hb⟩ := hrel
    have HG := hide hg
    clear hg
    by_cases hlt : k < fs.length
    · obtain ⟨tx, ps, hf⟩ : ∃ tx ps, fs[k]? = some (tx, ps) := ⟨_, _, List.getElem?_eq_getElem hlt⟩
      obtain ⟨b, off, x, c, rfl, hbl, hc0, hc1, hrow⟩ := seens_at (seens_below HR.out hb) hf
      obtain ⟨b', off', x', c', rfl, hbl', hd0, hd1, hrow'⟩ := seens_at (seens_below HQ.out hb) hf
      have HC := hide (fun wx h h' => eqSeen_same tx ps (HS.out _ (List.mem_of_getElem? hf)) (.slice x ps.length c) (.slice x' ps.length c') wx h h')
      have HRow := hide (⟨hrow, hrow'⟩ : _ ∧ _)
      have hk0 : (0 : Int) ≤ (k : Int) := by omega
      have hk1 : (k : Int) < (fs.length : Int) := by omega
      obtain ⟨n, hn⟩ : ∃ n, n = ps.length := ⟨_, rfl⟩
      rw [← hn] at hc1 hd1 HC HRow
      clear hf hrow hrow' hn
      go_wp2_with fail
      go_region_held3 (fun wx => wx.cell? ⟨b, off + k * 2, none⟩ = some (.int .i64 tx) ∧ wx.cell? ⟨b, off + k * 2 + 1, none⟩ = some (.slice x n c) ∧ wx.cell? ⟨b', off' + k * 2, none⟩ = some (.int .i64 tx) ∧ wx.cell? ⟨b', off' + k * 2 + 1, none⟩ = some (.slice x' n c')) (first | exact ⟨hc0, hc1, hd0, hd1⟩ | exact hS2) ((go_at_call 55; refine (HC.out _ (row_below HRow.out.1 (Below.refl _ _).drew) (row_below HRow.out.2 (Below.refl _ _).drew)).mono ?_; rintro e w2 ⟨rfl, hb2⟩; have hS2 : w2.cell? ⟨b, off + k * 2, none⟩ = some (.int .i64 tx) ∧ w2.cell? ⟨b, off + k * 2 + 1, none⟩ = some (.slice x n c) ∧ w2.cell? ⟨b', off' + k * 2, none⟩ = some (.int .i64 tx) ∧ w2.cell? ⟨b', off' + k * 2 + 1, none⟩ = some (.slice x' n c') := ⟨(hb2.cell (by exact hbl)).trans hc0, (hb2.cell (by exact hbl)).trans hc1, (hb2.cell (by exact hbl')).trans hd0, (hb2.cell (by exact hbl')).trans hd1⟩))
      all_goals
        have hb3 : Below w.heap.size w w2 := hb.trans ((Below.refl _ _).drew.trans (hb2.mono hb.size))
        clear hb2
        go_wp2_with fail
        go_roundg (gk - 1)
        case measure => have := HG.out; omega
        case rel => exact ⟨k + 1, by omega, by go_num, by have := HG.out; omega, hb3⟩
    · go_wp2
      go_ret
      exact ⟨rfl, hb⟩
open Go.RowKit
structure Ast where
  F : Nat → Prop
  P : World → Prop
  loc : ∀ W W', P W → (∀ k, F k → W'.heap[k]? = W.heap[k]?) → P W'
def cellA (g : Nat) (o : Obj) : Ast := ⟨fun k => k = g, fun W => W.heap[g]? = some o, fun _ _ h hk => (hk g rfl).trans h⟩
def rowA (B e sz : Nat) (v : Value) (n : Nat) (xs : List Value) : Ast := ⟨fun k => v.ownBlock = some k, fun W => W.ownsRow B e sz v n xs, fun W W' h hk => by
  refine ⟨h.1, ?_⟩
  rcases h.2 with ⟨rfl, hn⟩ | ⟨g, cap, cur, rfl, hg, hh, rest⟩
  · exact Or.inl ⟨rfl, hn⟩
  · exact Or.inr ⟨g, cap, cur, rfl, hg, (hk g rfl).trans hh, rest⟩⟩
def Sep (B : Nat) (W : World) (l : List Ast) : Prop := (∀ A ∈ l, A.P W ∧ ∀ k, A.F k → B ≤ k ∧ k < W.heap.size) ∧ l.Pairwise (fun A A' => ∀ k, A.F k → ¬ A'.F k)
theorem sep_nil (B : Nat) (W : World) : Sep B W [] := ⟨fun _ h => (by cases h), List.Pairwise.nil⟩
theorem sep_get {B : Nat} {W : World} {l : List Ast} (h : Sep B W l) (i : Nat) {A : Ast} (hi : l[i]? = some A) : A.P W := (h.1 A (List.mem_of_getElem? hi)).1
theorem sep_lt {B : Nat} {W : World} {l : List Ast} (h : Sep B W l) (i : Nat) {A : Ast} (hi : l[i]? = some A) : ∀ k, A.F k → B ≤ k ∧ k < W.heap.size := (h.1 A (List.mem_of_getElem? hi)).2
theorem sep_apart {B : Nat} {W : World} {l : List Ast} (h : Sep B W l) (i j : Nat) {A A' : Ast} (hi : l[i]? = some A) (hj : l[j]? = some A') (hne : i ≠ j) : ∀ k, A.F k → ¬ A'.F k := by
  obtain ⟨hi1, rfl⟩ := List.getElem?_eq_some_iff.1 hi
  obtain ⟨hj1, rfl⟩ := List.getElem?_eq_some_iff.1 hj
  rcases Nat.lt_or_gt_of_ne hne with h1 | h1
  · exact List.pairwise_iff_getElem.1 h.2 i j hi1 hj1 h1
  · exact fun k ha hb => List.pairwise_iff_getElem.1 h.2 j i hj1 hi1 h1 k hb ha
theorem sep_agree {B : Nat} {W W' : World} {l : List Ast} (h : Sep B W l) (hs : W.heap.size ≤ W'.heap.size) (hk : ∀ A ∈ l, ∀ k, A.F k → W'.heap[k]? = W.heap[k]?) : Sep B W' l :=
  ⟨fun A hA => ⟨A.loc W W' (h.1 A hA).1 (hk A hA), fun k hF => ⟨((h.1 A hA).2 k hF).1, Nat.lt_of_lt_of_le ((h.1 A hA).2 k hF).2 hs⟩⟩, h.2⟩
theorem sep_below {B : Nat} {W W' : World} {l : List Ast} (h : Sep B W l) (hb : Below W.heap.size W W') : Sep B W' l :=
  sep_agree h hb.size (fun A hA k hF => hb.block k ((h.1 A hA).2 k hF).2)
theorem sep_drew {B : Nat} {W : World} {l : List Ast} (h : Sep B W l) : Sep B W.drew l := sep_below h (Below.refl _ _).drew
theorem sep_cons {B : Nat} {W : World} {A : Ast} {l : List Ast} : Sep B W (A :: l) ↔ (A.P W ∧ ∀ k, A.F k → B ≤ k ∧ k < W.heap.size) ∧ (∀ A' ∈ l, ∀ k, A.F k → ¬ A'.F k) ∧ Sep B W l := by
  constructor
  · rintro ⟨h1, h2⟩
    obtain ⟨h3, h4⟩ := List.pairwise_cons.1 h2
    exact ⟨h1 A List.mem_cons_self, h3, fun A' h => h1 A' (List.mem_cons_of_mem _ h), h4⟩
  · rintro ⟨h1, h2, h3, h4⟩
    refine ⟨fun A' h => ?_, List.pairwise_cons.2 ⟨h2, h4⟩⟩
    rcases List.mem_cons.1 h with rfl | h
    · exact h1
    · exact h3 A' h
theorem sep_del {B : Nat} {W : World} {A : Ast} {l : List Ast} (h : Sep B W (A :: l)) : Sep B W l := (sep_cons.1 h).2.2
theorem sep_add {B : Nat} {W W' : World} {l : List Ast} (h : Sep B W l) (hb : Below W.heap.size W W') (A : Ast) (hP : A.P W') (hF : ∀ k, A.F k → W.heap.size ≤ k ∧ k < W'.heap.size) (hB : B ≤ W.heap.size) : Sep B W' (A :: l) :=
  sep_cons.2 ⟨⟨hP, fun k hk => ⟨Nat.le_trans hB (hF k hk).1, (hF k hk).2⟩⟩, fun A' hA' k hk hk' => by have := ((h.1 A' hA').2 k hk').2; have := (hF k hk).1; omega, sep_below h hb⟩
theorem sep_new {B : Nat} {W : World} {l : List Ast} (h : Sep B W l) (o : Obj) (hB : B ≤ W.heap.size) : Sep B (W.alloc o) (cellA W.heap.size o :: l) :=
  sep_add h ((Below.refl _ _).alloc (Nat.le_refl _) o) (cellA W.heap.size o) (heap_alloc_new W o) (fun k hk => by have hk : k = W.heap.size := hk; subst hk; exact ⟨Nat.le_refl _, by simp⟩) hB
theorem sep_set {B : Nat} {W W' : World} {l : List Ast} (h : Sep B W l) (i : Nat) {A : Ast} (hi : l[i]? = some A) (hk : Kept W W' A.F) (A' : Ast) (hP : A'.P W') (hF : ∀ k, A'.F k → (A.F k ∨ W.heap.size ≤ k) ∧ k < W'.heap.size) (hB : B ≤ W.heap.size) : Sep B W' (l.set i A') := by
  obtain ⟨hi1, hie⟩ := List.getElem?_eq_some_iff.1 hi
  have hap : ∀ (j : Nat) (hj : j < l.length), j ≠ i → ∀ k, A'.F k → ¬ l[j].F k := fun j hj hne k ha hb => by
    rcases (hF k ha).1 with h1 | h1
    · exact sep_apart h i j hi (List.getElem?_eq_getElem hj) (fun e => hne e.symm) k h1 hb
    · have := (sep_lt h j (List.getElem?_eq_getElem hj) k hb).2; omega
  refine ⟨fun X hX => ?_, ?_⟩
  · obtain ⟨j, hj, rfl⟩ := List.getElem_of_mem hX
    rw [List.length_set] at hj
    rw [List.getElem_set]
    split
    · refine ⟨hP, fun k hk' => ⟨?_, (hF k hk').2⟩⟩
      rcases (hF k hk').1 with h1 | h1
      · exact (sep_lt h i hi k h1).1
      · omega
    · rename_i hne
      have h1 := h.1 l[j] (List.getElem_mem hj)
      have h2 : ∀ k, l[j].F k → ¬ A.F k := sep_apart h j i (List.getElem?_eq_getElem hj) hi (fun e => hne e.symm)
      exact ⟨l[j].loc W W' h1.1 (fun k hF' => hk.2.2.2.2 k (h1.2 k hF').2 (h2 k hF')), fun k hF' => ⟨(h1.2 k hF').1, Nat.lt_of_lt_of_le (h1.2 k hF').2 hk.2.2.2.1⟩⟩
  · refine List.pairwise_iff_getElem.2 fun p q hp hq hpq => ?_
    rw [List.length_set] at hp hq
    rw [List.getElem_set, List.getElem_set]
    split
    · rename_i e
      subst e
      rw [if_neg (by omega)]
      exact hap q hq (by omega)
    · rename_i e
      split
      · rename_i e2
        subst e2
        exact fun k ha hb => hap p hp (by omega) k hb ha
      · exact List.pairwise_iff_getElem.1 h.2 p q hp hq hpq
theorem sep_store {B : Nat} {W : World} {l : List Ast} (h : Sep B W l) (i : Nat) {g : Nat} {cs : Array Value} {T : TypeId} (hi : l[i]? = some (cellA g (.cells cs T (0, 0)))) (off : Nat) (v : Value) : Sep B (W.setCell ⟨g, off, none⟩ v) (l.set i (cellA g (.cells (cs.setIfInBounds off v) T (0, 0)))) := by
  have h1 : W.heap[g]? = some (.cells cs T (0, 0)) := sep_get h i hi
  have h2 := sep_lt h i hi g rfl
  refine sep_set h i hi (kept_setCell W g off v) _ (heap_setCell_same W g off cs T v h1) (fun k hk => ⟨Or.inl hk, ?_⟩) (Nat.le_of_lt (Nat.lt_of_le_of_lt h2.1 h2.2))
  have hk : k = g := hk
  subst hk
  simpa using h2.2
theorem sep_perm {B : Nat} {W : World} {l l' : List Ast} (h : Sep B W l) (hp : l.Perm l') : Sep B W l' :=
  ⟨fun A hA => h.1 A (hp.mem_iff.2 hA), (hp.pairwise_iff (fun hd k ha hb => hd k hb ha)).1 h.2⟩
open Go.RowKit
theorem sep_join {B : Nat} {W W' : World} {l l' : List Ast} (h : Sep B W l) (hb : Below W.heap.size W W') (h' : Sep W.heap.size W' l') (hB : B ≤ W.heap.size) : Sep B W' (l' ++ l) := by
  have h2 := sep_below h hb
  refine ⟨fun A hA => ?_, List.pairwise_append.2 ⟨h'.2, h2.2, fun A hA A' hA' k hk hk' => ?_⟩⟩
  · rcases List.mem_append.1 hA with hA | hA
    · exact ⟨(h'.1 A hA).1, fun k hk => ⟨Nat.le_trans hB ((h'.1 A hA).2 k hk).1, ((h'.1 A hA).2 k hk).2⟩⟩
    · exact h2.1 A hA
  · have h3 := ((h'.1 A hA).2 k hk).1
    have h4 := ((h.1 A' hA').2 k hk').2
    omega
theorem sep_pick {B : Nat} {W : World} {pre rest : List Ast} (h : Sep B W (pre ++ rest)) (js : List Nat) (hnd : js.Nodup) (pre' : List Ast) (he : pre'.map some = js.map (fun i => pre[i]?)) : Sep B W (pre' ++ rest) := by
  obtain ⟨h1, h2⟩ := h
  obtain ⟨p1, p2, p3⟩ := List.pairwise_append.1 h2
  have hl : pre'.length = js.length := by have := congrArg List.length he; simpa using this
  have hat : ∀ (j : Nat) (hj : j < pre'.length), ∃ hp : js[j]'(by omega) < pre.length, pre[js[j]'(by omega)] = pre'[j] := fun j hj => by
    have e := congrArg (fun l => l[j]?) he
    simp only [List.getElem?_map, List.getElem?_eq_getElem hj, List.getElem?_eq_getElem (show j < js.length by omega), Option.map_some] at e
    have e := Option.some.inj e
    obtain ⟨q1, q2⟩ := List.getElem?_eq_some_iff.1 e.symm
    exact ⟨q1, q2⟩
  have hmem : ∀ A ∈ pre', A ∈ pre := fun A hA => by
    obtain ⟨j, hj, rfl⟩ := List.getElem_of_mem hA
    obtain ⟨q1, q2⟩ := hat j hj
    rw [← q2]
    exact List.getElem_mem q1
  have hs : ∀ (i j : Nat) (hi : i < pre.length) (hj : j < pre.length), i ≠ j → ∀ k, pre[i].F k → ¬ pre[j].F k := fun i j hi hj hne => by
    rcases Nat.lt_or_gt_of_ne hne with h | h
    · exact List.pairwise_iff_getElem.1 p1 i j hi hj h
    · exact fun k ha hb => List.pairwise_iff_getElem.1 p1 j i hj hi h k hb ha
  refine ⟨fun A hA => ?_, List.pairwise_append.2 ⟨List.pairwise_iff_getElem.2 fun i j hi hj hij => ?_, p2, fun A hA A' hA' => p3 A (hmem A hA) A' hA'⟩⟩
  · rcases List.mem_append.1 hA with hA | hA
    · exact h1 A (List.mem_append_left _ (hmem A hA))
    · exact h1 A (List.mem_append_right _ hA)
  · obtain ⟨q1, q2⟩ := hat i hi
    obtain ⟨r1, r2⟩ := hat j hj
    rw [← q2, ← r2]
    refine hs _ _ q1 r1 (fun e => ?_)
    have := List.pairwise_iff_getElem.1 hnd i j (by omega) (by omega) hij
    exact this e
end Go.Proofs.YtdbpbhemnnffeaaGreatDoor
