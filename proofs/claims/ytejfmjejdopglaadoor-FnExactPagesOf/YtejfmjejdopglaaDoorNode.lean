/-
  Nodes (a flag, keys, values, kids), read only ('NodeAt') or in new memory ('NodeOwn'), and the laws' own helpers over them by contracts: szNode, toNode, eqNode, markNode, heldNode.
-/
import Derived.Test.YtejfmjejdopglaaDoorIntRow
namespace Go.Proofs.YtejfmjejdopglaaDoor
open Go.RowKit

/-- a node that reads so -/
def NodeAt (w : World) (v : Value) (lf : Bool) (ks vs : List ByteArray) (cs : List Int) : Prop :=
  ∃ vk vv vc, v = .agg #[.bool lf, vk, vv, vc] ∧ RowAt w 1 vk ks.length (strs ks) ∧ RowAt w 1 vv vs.length (strs vs) ∧ RowAt w 1 vc cs.length (ints cs)

/-- a node in memory of its own: no two of its rows share a block -/
def NodeOwn (w : World) (B : Nat) (v : Value) (lf : Bool) (ks vs : List ByteArray) (cs : List Int) : Prop :=
  ∃ vk vv vc, v = .agg #[.bool lf, vk, vv, vc] ∧ w.ownsRow B 9 1 vk ks.length (strs ks) ∧ w.ownsRow B 9 1 vv vs.length (strs vs) ∧ w.ownsRow B 3 1 vc cs.length (ints cs) ∧ ∀ k, vk.ownBlock = some k → vv.ownBlock ≠ some k

theorem node_of_own {w : World} {B : Nat} {v : Value} {lf : Bool} {ks vs : List ByteArray} {cs : List Int} (h : NodeOwn w B v lf ks vs cs) : NodeAt w v lf ks vs cs := by
  obtain ⟨vk, vv, vc, e, h1, h2, h3, -⟩ := h
  exact ⟨vk, vv, vc, e, row_of_own h1, row_of_own h2, row_of_own h3⟩

theorem node_below {w w' : World} {v : Value} {lf : Bool} {ks vs : List ByteArray} {cs : List Int} (h : NodeAt w v lf ks vs cs) (hb : Below w.heap.size w w') : NodeAt w' v lf ks vs cs := by
  obtain ⟨vk, vv, vc, e, h1, h2, h3⟩ := h
  exact ⟨vk, vv, vc, e, row_below h1 hb, row_below h2 hb, row_below h3 hb⟩

theorem nodeOwn_below {w w' : World} {B : Nat} {v : Value} {lf : Bool} {ks vs : List ByteArray} {cs : List Int} (h : NodeOwn w B v lf ks vs cs) (hb : Below w.heap.size w w') : NodeOwn w' B v lf ks vs cs := by
  obtain ⟨vk, vv, vc, e, h1, h2, h3, h4⟩ := h
  exact ⟨vk, vv, vc, e, own_stays h1 hb, own_stays h2 hb, own_stays h3 hb, h4⟩

theorem own_slice {w : World} {B e sz n : Nat} {v : Value} {xs : List Value} (h : w.ownsRow B e sz v n xs) : ∃ a cap, v = .slice a n cap := by
  obtain ⟨-, a, cap, e, -⟩ := row_of_own h
  exact ⟨a, cap, e⟩

/-- the blocks of a node's rows -/
def nodeBlocks (v : Value) (k : Nat) : Prop := ∃ b vk vv vc, v = .agg #[b, vk, vv, vc] ∧ (vk.ownBlock = some k ∨ vv.ownBlock = some k ∨ vc.ownBlock = some k)

theorem agg4 {a b c d a' b' c' d' : Value} (h : Value.agg #[a, b, c, d] = .agg #[a', b', c', d']) : a = a' ∧ b = b' ∧ c = c' ∧ d = d' := by
  injection h with h
  have := congrArg Array.toList h
  simp at this
  exact this

theorem nodeOwn_lt {w : World} {B : Nat} {v : Value} {lf : Bool} {ks vs : List ByteArray} {cs : List Int} (h : NodeOwn w B v lf ks vs cs) : ∀ k, nodeBlocks v k → B ≤ k ∧ k < w.heap.size := by
  obtain ⟨vk, vv, vc, rfl, h1, h2, h3, -⟩ := h
  rintro k ⟨b, vk', vv', vc', e, hk⟩
  obtain ⟨-, rfl, rfl, rfl⟩ := agg4 e
  rcases hk with hk | hk | hk
  · exact h1.lt k hk
  · exact h2.lt k hk
  · exact h3.lt k hk

theorem nodeOwn_kept {w w' : World} {B : Nat} {v : Value} {lf : Bool} {ks vs : List ByteArray} {cs : List Int} {S : Nat → Prop} (h : NodeOwn w B v lf ks vs cs) (hk : Kept w w' S) (hS : ∀ k, nodeBlocks v k → ¬ S k) : NodeOwn w' B v lf ks vs cs := by
  obtain ⟨vk, vv, vc, rfl, h1, h2, h3, h4⟩ := h
  exact ⟨vk, vv, vc, rfl, own_kept h1 hk (fun k e => hS k ⟨_, vk, vv, vc, rfl, Or.inl e⟩), own_kept h2 hk (fun k e => hS k ⟨_, vk, vv, vc, rfl, Or.inr (Or.inl e)⟩), own_kept h3 hk (fun k e => hS k ⟨_, vk, vv, vc, rfl, Or.inr (Or.inr e)⟩), h4⟩

theorem one_type {w : World} {B B' e e' sz sz' n n' : Nat} {v v' : Value} {xs xs' : List Value} (h : w.ownsRow B e sz v n xs) (h' : w.ownsRow B' e' sz' v' n' xs') (hne : e ≠ e') (k : Nat) (h1 : v.ownBlock = some k) : v'.ownBlock ≠ some k := by
  intro h2
  rcases h.2 with ⟨rfl, -⟩ | ⟨g, cap, cur, rfl, -, hh, -⟩
  · cases h1
  · rcases h'.2 with ⟨rfl, -⟩ | ⟨g', cap', cur', rfl, -, hh', -⟩
    · cases h2
    · injection h1 with h1
      injection h2 with h2
      have h1 : g = k := h1
      have h2 : g' = k := h2
      subst h1
      subst h2
      rw [hh] at hh'
      injection hh' with hh'
      injection hh' with _ he _
      exact hne he

theorem Tryd.str_int : (9 : Nat) ≠ 3 := by decide

/-- how much there is to a node -/
def bulkN (ks vs : List ByteArray) (cs : List Int) : Nat := bulkS ks + bulkS vs + cs.length

set_option maxHeartbeats 1000000 in
theorem szNode_any (v : Value) (lf : Bool) (ks vs : List ByteArray) (cs : List Int) (hk : ks.length ≤ maxLen) (hks : ∀ s ∈ ks, s.size ≤ maxLen) (hv : vs.length ≤ maxLen) (hvs : ∀ s ∈ vs, s.size ≤ maxLen) (hc : cs.length ≤ maxLen) (left : Nat) (hleft : left ≤ 1048576) (w : World) (hd : NodeAt w v lf ks vs cs) :
    Calls Tryd.prog 27 #[v, .int .i64 (left : Int)] w fun e w' => e = .returned (.int .i64 (szOut left (bulkN ks vs cs))) ∧ Below w.heap.size w w' := by
  obtain ⟨vk, vv, vc, rfl, h1, h2, h3⟩ := hd
  obtain ⟨ca, ccap, rfl⟩ : ∃ a cap, vc = .slice a cs.length cap := by obtain ⟨-, a, cap, e, -⟩ := h3; exact ⟨a, cap, e⟩
  obtain ⟨w0, hw0⟩ : ∃ w0, w0 = w.alloc (Obj.cells #[.bool lf, vk, vv, .slice ca cs.length ccap] 50) := ⟨_, rfl⟩
  have hb0 : Below w.heap.size w w0 := by rw [hw0]; exact (Below.refl w.heap.size w).alloc (Nat.le_refl _) _
  have hblk : w0.heap[w.heap.size]? = some (Obj.cells #[.bool lf, vk, vv, .slice ca cs.length ccap] 50) := by rw [hw0]; exact heap_alloc_new w _
  have c2 : w0.cell? ⟨w.heap.size, 2, none⟩ = some vv := (cell_at hblk 2).1
  have c3 : w0.cell? ⟨w.heap.size, 3, none⟩ = some (.slice ca cs.length ccap) := (cell_at hblk 3).1
  have HC1 := hide (szStringS_any ks hk hks vk left hleft w0 (row_below h1 hb0))
  have HB := hide hb0
  clear hk hks h1 hb0 hblk h3
  by_cases n1 : bulkS ks ≤ left
  · obtain ⟨m, hm⟩ : ∃ m, m = left - bulkS ks := ⟨_, rfl⟩
    rw [szOut_yes n1, ← hm] at HC1
    have HC2 := hide (szStringS_any vs hv hvs vv m (by omega) w0 (row_below h2 HB.out))
    by_cases n2 : bulkS vs ≤ m
    · obtain ⟨r, hr⟩ : ∃ r, r = m - bulkS vs := ⟨_, rfl⟩
      rw [szOut_yes n2, ← hr] at HC2
      have HC3 := hide (szIntS_any ca cs.length ccap hc r (by omega))
      have HO : Hid (szOut left (bulkN ks vs cs) = szOut r cs.length) := hide (by
        unfold szOut bulkN
        by_cases n3 : cs.length ≤ r
        · rw [if_pos (by omega), if_pos n3]; congr 1; omega
        · rw [if_neg (by omega), if_neg n3])
      have hml : m ≤ 1048576 := by omega
      have hrl : r ≤ 1048576 := by omega
      by_cases n3 : cs.length ≤ r
      · obtain ⟨z, hz⟩ : ∃ z, z = r - cs.length := ⟨_, rfl⟩
        rw [szOut_yes n3, ← hz] at HO HC3
        clear hm hr hz n1 n2 n3 h2 hv hvs hc
        go_enter Tryd.func27, Tryd.ntmps27
        go_wp2_with fail
        rw [← hw0]
        clear hw0
        refine HC1.out.mono ?_
        rintro e w1 ⟨rfl, rfl⟩
        go_wp2_with fail
        refine HC2.out.mono ?_
        rintro e w1 ⟨rfl, rfl⟩
        go_wp2_with fail
        refine (HC3.out _).mono ?_
        rintro e w1 ⟨rfl, rfl⟩
        go_wp2_with fail
        go_ret
        rw [HO.out]
        exact ⟨rfl, HB.out⟩
      · rw [szOut_no (show r < cs.length by omega)] at HO HC3
        clear hm hr n1 n2 n3 h2 hv hvs hc
        go_enter Tryd.func27, Tryd.ntmps27
        go_wp2_with fail
        rw [← hw0]
        clear hw0
        refine HC1.out.mono ?_
        rintro e w1 ⟨rfl, rfl⟩
        go_wp2_with fail
        refine HC2.out.mono ?_
        rintro e w1 ⟨rfl, rfl⟩
        go_wp2_with fail
        refine (HC3.out _).mono ?_
        rintro e w1 ⟨rfl, rfl⟩
        go_wp2_with fail
        go_ret
        rw [HO.out]
        exact ⟨rfl, HB.out⟩
    · rw [szOut_no (by omega)] at HC2
      have HO : Hid (szOut left (bulkN ks vs cs) = -1) := hide (szOut_no (by unfold bulkN; omega))
      have hml : m ≤ 1048576 := by omega
      clear hm n1 n2 h2 hv hvs hc
      go_enter Tryd.func27, Tryd.ntmps27
      go_wp2_with fail
      rw [← hw0]
      clear hw0
      refine HC1.out.mono ?_
      rintro e w1 ⟨rfl, rfl⟩
      go_wp2_with fail
      refine HC2.out.mono ?_
      rintro e w1 ⟨rfl, rfl⟩
      go_wp2_with fail
      go_ret
      rw [HO.out]
      exact ⟨rfl, HB.out⟩
  · rw [szOut_no (by omega)] at HC1
    have HO : Hid (szOut left (bulkN ks vs cs) = -1) := hide (szOut_no (by unfold bulkN; omega))
    clear n1 h2 hv hvs hc
    go_enter Tryd.func27, Tryd.ntmps27
    go_wp2_with fail
    rw [← hw0]
    clear hw0
    refine HC1.out.mono ?_
    rintro e w1 ⟨rfl, rfl⟩
    go_wp2_with fail
    go_ret
    rw [HO.out]
    exact ⟨rfl, HB.out⟩

theorem blk_other {w : World} {g g' j : Nat} {u : Value} {o : Obj} (h : w.heap[g]? = some o) (hne : g ≠ g') : (w.setCell ⟨g', j, none⟩ u).heap[g]? = some o := (heap_setCell_other w ⟨g', j, none⟩ g u (by exact hne)).trans h

set_option maxHeartbeats 1000000 in
set_option maxRecDepth 100000 in
theorem toNode_any (v : Value) (lf : Bool) (ks vs : List ByteArray) (cs : List Int) (hk : ks.length ≤ 1048576) (hv : vs.length ≤ 1048576) (hc : cs.length ≤ 1048576) (w : World) (hd : NodeAt w v lf ks vs cs) :
    Calls Tryd.prog 30 #[v] w fun e w' => ∃ v', e = .returned v' ∧ NodeOwn w' w.heap.size v' lf ks vs cs ∧ Below w.heap.size w w' := by
  obtain ⟨vk, vv, vc, rfl, h1, h2, h3⟩ := hd
  have HC1 := hide (fun wx h => toStringS_any ks hk vk wx h)
  have HC2 := hide (fun wx h => toStringS_any vs hv vv wx h)
  have HC3 := hide (fun wx h => toIntS_any cs hc vc wx h)
  have H1 := hide h1
  have H2 := hide h2
  have H3 := hide h3
  clear h1 h2 h3 hk hv hc
  obtain ⟨w0, hw0⟩ : ∃ w0, w0 = ((w.alloc (Obj.cells #[.bool lf, vk, vv, vc] 50)).alloc (Obj.cells #[.bool false, .slice none 0 0, .slice none 0 0, .slice none 0 0] 58)).alloc (Obj.cells #[.bool lf, .slice none 0 0, .slice none 0 0, .slice none 0 0] 58) := ⟨_, rfl⟩
  have hb0 : Below w.heap.size w w0 := by rw [hw0]; exact (((Below.refl w.heap.size w).alloc (Nat.le_refl _) _).alloc (by simp) _).alloc (by simp; omega) _
  obtain ⟨q0, q1, q2, hs0⟩ := three_allocs w (Obj.cells #[.bool lf, vk, vv, vc] 50) (Obj.cells #[.bool false, .slice none 0 0, .slice none 0 0, .slice none 0 0] 58) (Obj.cells #[.bool lf, .slice none 0 0, .slice none 0 0, .slice none 0 0] 58)
  rw [← hw0] at q0 q1 q2 hs0
  have HB0 := hide hb0
  go_enter Tryd.func30, Tryd.ntmps30
  go_wp2_with fail
  rw [← hw0]
  clear hw0 hb0
  refine (HC1.out _ (row_below H1.out HB0.out)).mono ?_
  rintro e w1 ⟨u1, rfl, hown1, hb1⟩
  obtain ⟨x1, c1, rfl⟩ := own_slice hown1
  obtain ⟨a0, ha0⟩ : ∃ a, a = w.heap.size := ⟨_, rfl⟩
  rw [← ha0] at q0 q1 q2 hs0 ⊢
  obtain ⟨a1, ha1⟩ : ∃ a, a = a0 + 1 := ⟨_, rfl⟩
  obtain ⟨a2, ha2⟩ : ∃ a, a = a0 + 1 + 1 := ⟨_, rfl⟩
  rw [← ha2, ← ha1]
  rw [← ha1] at q1
  rw [← ha2] at q2
  have HA := hide (⟨ha0, ha1, ha2, hs0⟩ : a0 = w.heap.size ∧ a1 = a0 + 1 ∧ a2 = a0 + 1 + 1 ∧ w0.heap.size = a0 + 3)
  have hn20 : a0 ≠ a2 := by omega
  have hn21 : a1 ≠ a2 := by omega
  have p1 := (hb1.block a0 (by omega)).trans q0
  have r1 := (hb1.block a1 (by omega)).trans q1
  have o1 := (hb1.block a2 (by omega)).trans q2
  have HN := hide (⟨hn20, hn21⟩ : a0 ≠ a2 ∧ a1 ≠ a2)
  obtain ⟨y1, hy1⟩ : ∃ y, y = w1.setCell ⟨a2, 1, none⟩ (.slice x1 ks.length c1) := ⟨_, rfl⟩
  have p1' : y1.heap[a0]? = some (Obj.cells #[.bool lf, vk, vv, vc] 50) := by rw [hy1]; exact blk_other p1 hn20
  have r1' : y1.heap[a1]? = some (Obj.cells #[.bool false, .slice none 0 0, .slice none 0 0, .slice none 0 0] 58) := by rw [hy1]; exact blk_other r1 hn21
  have o1' : y1.heap[a2]? = some (Obj.cells #[.bool lf, .slice x1 ks.length c1, .slice none 0 0, .slice none 0 0] 58) := by rw [hy1]; exact heap_setCell_same w1 a2 1 _ _ _ o1
  have HY1 := hide (⟨p1', r1', o1'⟩ : _ ∧ _ ∧ _)
  have k1 : Kept w1 y1 (fun k => k = a2) := by rw [hy1]; exact kept_setCell _ _ _ _
  have HO1 := hide (own_kept hown1 k1 (fun k hk => by have := (hown1.lt k hk).1; have := HA.out; omega))
  have HB1 : Hid (Below w.heap.size w y1) := hide ((HB0.out.trans (hb1.mono HB0.out.size)).trans (below_of_kept k1 (by have := HB0.out.size; have := hb1.size; omega) (fun k hk => by have := HA.out; omega)))
  have c21 : w1.cell? ⟨a2, 1, none⟩ = some (.slice none 0 0) := (cell_at o1 1).1
  have f21 := (cell_at o1 1).2
  have c02 : (w1.setCell ⟨a2, 1, none⟩ (.slice x1 ks.length c1)).cell? ⟨a0, 2, none⟩ = some vv := by rw [← hy1]; exact (cell_at p1' 2).1
  have HS1 : Hid (a0 + 3 ≤ w1.heap.size ∧ y1.heap.size = w1.heap.size) := hide ⟨by have := hb1.size; omega, by rw [hy1]; simp⟩
  clear ha0 ha1 ha2 hs0 q0 q1 q2 hb1 hown1 p1 r1 o1 p1' r1' o1' k1 hn20 hn21
  go_wp2_with fail
  rw [← hy1]
  clear hy1 c21 f21 c02
  refine (HC2.out _ (row_below H2.out HB1.out)).mono ?_
  rintro e w2 ⟨u2, rfl, hown2, hb2⟩
  obtain ⟨x2, c2, rfl⟩ := own_slice hown2
  have p2 := (hb2.block a0 (Array.getElem?_eq_some_iff.1 HY1.out.1).1).trans HY1.out.1
  have r2 := (hb2.block a1 (Array.getElem?_eq_some_iff.1 HY1.out.2.1).1).trans HY1.out.2.1
  have o2 := (hb2.block a2 (Array.getElem?_eq_some_iff.1 HY1.out.2.2).1).trans HY1.out.2.2
  obtain ⟨y2, hy2⟩ : ∃ y, y = w2.setCell ⟨a2, 2, none⟩ (.slice x2 vs.length c2) := ⟨_, rfl⟩
  have p2' : y2.heap[a0]? = some (Obj.cells #[.bool lf, vk, vv, vc] 50) := by rw [hy2]; exact blk_other p2 HN.out.1
  have r2' : y2.heap[a1]? = some (Obj.cells #[.bool false, .slice none 0 0, .slice none 0 0, .slice none 0 0] 58) := by rw [hy2]; exact blk_other r2 HN.out.2
  have o2' : y2.heap[a2]? = some (Obj.cells #[.bool lf, .slice x1 ks.length c1, .slice x2 vs.length c2, .slice none 0 0] 58) := by rw [hy2]; exact heap_setCell_same w2 a2 2 _ _ _ o2
  have HY2 := hide (⟨p2', r2', o2'⟩ : _ ∧ _ ∧ _)
  have k2 : Kept w2 y2 (fun k => k = a2) := by rw [hy2]; exact kept_setCell _ _ _ _
  have HO1b := hide (own_kept (own_stays HO1.out hb2) k2 (fun k hk => by have := (HO1.out.lt k hk).1; have := HA.out; omega))
  have HO2 := hide (own_kept hown2 k2 (fun k hk => by have := (hown2.lt k hk).1; have := HA.out; have := HS1.out; omega))
  have HNe : Hid (∀ k, Value.ownBlock (.slice x1 ks.length c1) = some k → Value.ownBlock (.slice x2 vs.length c2) ≠ some k) := hide (fun k h1 h2 => by have := (HO1.out.lt k h1).2; have := (hown2.lt k h2).1; omega)
  have HB2 : Hid (Below w.heap.size w y2) := hide ((HB1.out.trans (hb2.mono HB1.out.size)).trans (below_of_kept k2 (by have := HB1.out.size; have := hb2.size; omega) (fun k hk => by have := HA.out; omega)))
  have c22 : w2.cell? ⟨a2, 2, none⟩ = some (.slice none 0 0) := (cell_at o2 2).1
  have f22 := (cell_at o2 2).2
  have c03 : (w2.setCell ⟨a2, 2, none⟩ (.slice x2 vs.length c2)).cell? ⟨a0, 3, none⟩ = some vc := by rw [← hy2]; exact (cell_at p2' 3).1
  have HS2 : Hid (a0 + 3 ≤ w2.heap.size ∧ y2.heap.size = w2.heap.size) := hide ⟨by have := hb2.size; have := HS1.out; omega, by rw [hy2]; simp⟩
  clear hb2 hown2 p2 r2 o2 p2' r2' o2' k2
  go_wp2_with fail
  rw [← hy2]
  clear hy2 c22 f22 c03
  refine (HC3.out _ (row_below H3.out HB2.out)).mono ?_
  rintro e w3 ⟨u3, rfl, hown3, hb3⟩
  obtain ⟨x3, c3, rfl⟩ := own_slice hown3
  have r3 := (hb3.block a1 (Array.getElem?_eq_some_iff.1 HY2.out.2.1).1).trans HY2.out.2.1
  have o3 := (hb3.block a2 (Array.getElem?_eq_some_iff.1 HY2.out.2.2).1).trans HY2.out.2.2
  have c23 : w3.cell? ⟨a2, 3, none⟩ = some (.slice none 0 0) := (cell_at o3 3).1
  have f23 := (cell_at o3 3).2
  obtain ⟨y3, hy3⟩ : ∃ y, y = w3.setCell ⟨a2, 3, none⟩ (.slice x3 cs.length c3) := ⟨_, rfl⟩
  have r3' : y3.heap[a1]? = some (Obj.cells #[.bool false, .slice none 0 0, .slice none 0 0, .slice none 0 0] 58) := by rw [hy3]; exact blk_other r3 HN.out.2
  have o3' : y3.heap[a2]? = some (Obj.cells #[.bool lf, .slice x1 ks.length c1, .slice x2 vs.length c2, .slice x3 cs.length c3] 58) := by rw [hy3]; exact heap_setCell_same w3 a2 3 _ _ _ o3
  have k3 : Kept w3 y3 (fun k => k = a1 ∨ k = a2) := by rw [hy3]; exact kept_mono (kept_setCell _ _ _ _) (fun j _ h => Or.inr h)
  have d0 : (w3.setCell ⟨a2, 3, none⟩ (.slice x3 cs.length c3)).cell? ⟨a2, 0, none⟩ = some (.bool lf) := by rw [← hy3]; exact (cell_at o3' 0).1
  have d1 : (w3.setCell ⟨a2, 3, none⟩ (.slice x3 cs.length c3)).cell? ⟨a2, 1, none⟩ = some (.slice x1 ks.length c1) := by rw [← hy3]; exact (cell_at o3' 1).1
  have d2 : (w3.setCell ⟨a2, 3, none⟩ (.slice x3 cs.length c3)).cell? ⟨a2, 2, none⟩ = some (.slice x2 vs.length c2) := by rw [← hy3]; exact (cell_at o3' 2).1
  have d3 : (w3.setCell ⟨a2, 3, none⟩ (.slice x3 cs.length c3)).cell? ⟨a2, 3, none⟩ = some (.slice x3 cs.length c3) := by rw [← hy3]; exact (cell_at o3' 3).1
  have e0 : (w3.setCell ⟨a2, 3, none⟩ (.slice x3 cs.length c3)).cell? ⟨a1, 0, none⟩ = some (.bool false) := by rw [← hy3]; exact (cell_at r3' 0).1
  have e1 : (w3.setCell ⟨a2, 3, none⟩ (.slice x3 cs.length c3)).cell? ⟨a1, 1, none⟩ = some (.slice none 0 0) := by rw [← hy3]; exact (cell_at r3' 1).1
  have e2 : (w3.setCell ⟨a2, 3, none⟩ (.slice x3 cs.length c3)).cell? ⟨a1, 2, none⟩ = some (.slice none 0 0) := by rw [← hy3]; exact (cell_at r3' 2).1
  have e3 : (w3.setCell ⟨a2, 3, none⟩ (.slice x3 cs.length c3)).cell? ⟨a1, 3, none⟩ = some (.slice none 0 0) := by rw [← hy3]; exact (cell_at r3' 3).1
  have g0 : (w3.setCell ⟨a2, 3, none⟩ (.slice x3 cs.length c3)).frozen? ⟨a1, 0, none⟩ = false := by rw [← hy3]; exact (cell_at r3' 0).2
  have g1 : (w3.setCell ⟨a2, 3, none⟩ (.slice x3 cs.length c3)).frozen? ⟨a1, 1, none⟩ = false := by rw [← hy3]; exact (cell_at r3' 1).2
  have g2 : (w3.setCell ⟨a2, 3, none⟩ (.slice x3 cs.length c3)).frozen? ⟨a1, 2, none⟩ = false := by rw [← hy3]; exact (cell_at r3' 2).2
  have g3 : (w3.setCell ⟨a2, 3, none⟩ (.slice x3 cs.length c3)).frozen? ⟨a1, 3, none⟩ = false := by rw [← hy3]; exact (cell_at r3' 3).2
  have HR3 := hide r3'
  have HK3 := hide k3
  have HY3 := hide hy3
  have HO3 := hide hown3
  have HB3 := hide hb3
  clear hb3 hown3 r3 o3 r3' o3' k3 hy3
  go_wp2_with fail
  rw [← HY3.out]
  have k4 : Kept w3 ((((y3.setCell ⟨a1, 0, none⟩ (.bool lf)).setCell ⟨a1, 1, none⟩ (.slice x1 ks.length c1)).setCell ⟨a1, 2, none⟩ (.slice x2 vs.length c2)).setCell ⟨a1, 3, none⟩ (.slice x3 cs.length c3)) (fun k => k = a1 ∨ k = a2) := kept_trans (kept_trans (kept_trans (kept_trans HK3.out (kept_setCell _ _ _ _) (fun j _ h => Or.inl h)) (kept_setCell _ _ _ _) (fun j _ h => Or.inl h)) (kept_setCell _ _ _ _) (fun j _ h => Or.inl h)) (kept_setCell _ _ _ _) (fun j _ h => Or.inl h)
  have z : ((((y3.setCell ⟨a1, 0, none⟩ (.bool lf)).setCell ⟨a1, 1, none⟩ (.slice x1 ks.length c1)).setCell ⟨a1, 2, none⟩ (.slice x2 vs.length c2)).setCell ⟨a1, 3, none⟩ (.slice x3 cs.length c3)).heap[a1]? = some (Obj.cells #[.bool lf, .slice x1 ks.length c1, .slice x2 vs.length c2, .slice x3 cs.length c3] 58) := heap_setCell_same _ a1 3 _ _ _ (heap_setCell_same _ a1 2 _ _ _ (heap_setCell_same _ a1 1 _ _ _ (heap_setCell_same y3 a1 0 _ _ _ HR3.out)))
  have z0 := (cell_at z 0).1
  have z1 := (cell_at z 1).1
  have z2 := (cell_at z 2).1
  have z3 := (cell_at z 3).1
  have hA := HA.out
  have hS2 := HS2.out
  have hsz3 := HB3.out.size
  refine bodyPost_ret (v := .agg #[.bool lf, .slice x1 ks.length c1, .slice x2 vs.length c2, .slice x3 cs.length c3]) (by simp [results, Tryd.results30, go_sem, z0, z1, z2, z3]) rfl ⟨_, rfl, ⟨_, _, _, rfl, ?_, ?_, ?_, HNe.out⟩, ?_⟩
  · exact own_down (own_kept (own_stays HO1b.out HB3.out) k4 (fun k hk => by have := (HO1b.out.lt k hk).1; omega)) (by omega)
  · exact own_down (own_kept (own_stays HO2.out HB3.out) k4 (fun k hk => by have := (HO2.out.lt k hk).1; have := HS1.out; omega)) (by have := HS1.out; omega)
  · exact own_down (own_kept HO3.out k4 (fun k hk => by have := (HO3.out.lt k hk).1; omega)) (by omega)
  · exact (HB2.out.trans (HB3.out.mono HB2.out.size)).trans (below_of_kept k4 (by have := HB2.out.size; omega) (fun k hk => by omega))
end Go.Proofs.YtejfmjejdopglaaDoor
