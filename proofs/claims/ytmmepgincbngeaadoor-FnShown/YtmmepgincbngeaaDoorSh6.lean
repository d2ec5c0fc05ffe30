/-
  Facts and contracts that the law's own text rests on, by their texts' names: WordLf, WordCl.
-/
import Derived.Test.YtmmepgincbngeaaDoorSh5
import Derived.Deep.Upon
import Derived.Laws.EntriesVeiled
import Derived.Test.YtmmepgincbngeaaDoorSh4
namespace Go.Proofs.YtmmepgincbngeaaDoor
open Go.RowKit
theorem EvV.iterAt {B : Nat} {W : World} {g gi : Nat} {e : Evt} {u : Value} {s : ByteArray} {p q : Nat} (h : EvV B W g e u) (hi : W.heap[gi]? = some (.stringIter s p)) : EvV B (W.iterAt gi s q) g e u := by
  refine ⟨h.1, ?_, own_iterAt h.2.2 hi⟩
  rw [Lib.iterAt_other W gi g s q (fun e => by subst e; rw [h.2.1] at hi; simp at hi)]
  exact h.2.1
set_option maxHeartbeats 4000000 in
set_option maxRecDepth 100000 in
theorem readLeft_any (x : List UInt8) (hx : x.length ≤ 1048576) (B g : Nat) (e : Evt) (he : e.left.length ≤ 1048576) (u : Value) (W : World) (h : EvV B W g e u) :
    Calls Tryd.prog 74 #[.pointer (some ⟨g, 0, none⟩), .string (ba x)] W (RdPost B g W ((bitsO x).map fun bs => { e with left := e.left ++ bs })) := by
  obtain ⟨i0, hinf, hz0, hz1, hz2⟩ := info_parts Tryd.infoBool
  have hlit := bl_lit x [45]
  obtain ⟨X, hX⟩ : ∃ y, y = ba x := ⟨_, rfl⟩
  rw [← hX] at hlit ⊢
  have HX := hide hX
  have HN : Hid (X.size = x.length) := hide (by rw [hX, ba_size])
  have hsz : X.size ≤ 1048576 := by rw [HN.out]; exact hx
  have HH := hide h
  clear h hX hx
  by_cases hd : x = [45]
  · rw [decide_eq_true hd] at hlit
    have HD := hide (bits_dash hd)
    clear hd
    go_enter Tryd.func74, Tryd.ntmps74
    go_wp2_with fail
    go_ret
    rw [HD.out]
    refine ⟨⟨rfl, u, ?_⟩, Below.refl _ _⟩
    rw [show ((fun bs => { e with left := e.left ++ bs }) [] : Evt) = e from by simp]
    exact HH.out
  rw [decide_eq_false hd] at hlit
  have HD := hide hd
  have HBg : Hid (B ≤ W.heap.size) := hide (Nat.le_of_lt (Nat.lt_of_le_of_lt HH.out.1 HH.out.lt))
  clear hd
  go_enter Tryd.func74, Tryd.ntmps74
  go_wp2_with fail
  go_loopg [] X.size (fun q wr => ∃ (k : Nat) (u' : Value), k ≤ X.size ∧ q + k = X.size ∧ Hid (∀ i, i < k → byt X i = 48 ∨ byt X i = 49) ∧ Hid (EvV B wr g { e with left := e.left ++ (x.take k).map (· == 49) } u') ∧ Hid (Below B W wr) ∧ wr.heap[W.heap.size]? = some (.stringIter X k))
  case atStart =>
    refine ⟨0, u, by omega, by omega, hide (fun i h => by omega), hide ?_, hide ((Below.refl _ _).alloc HBg.out _), World.iter_heap W X 0⟩
    have h := HH.out.stays ((Below.refl W.heap.size W).alloc (Nat.le_refl _) (.stringIter X 0))
    rw [show ({ e with left := e.left ++ (x.take 0).map (· == 49) } : Evt) = e from by simp]
    exact h
  case round =>
    obtain ⟨k, u', hk, hg, HBt, HE, HB, hit⟩ := hrel
    have HG := hide hg
    clear hg
    by_cases hlt : k < X.size
    · have hnx := fun ty => Lib.run_next_any_at (P := Tryd.prog) wr W.heap.size X k ty hit hlt
      obtain ⟨d1, d2, d3⟩ := rune_step X k hlt
      have hit2 := Lib.iterAt_heap wr W.heap.size X k (k + (Utf8.decode X k).2) hit
      have hE2 := HE.out.iterAt (q := k + (Utf8.decode X k).2) hit
      have hb2 := Lib.below_iterAt HB.out (k := W.heap.size) HBg.out X (k + (Utf8.decode X k).2)
      obtain ⟨r, hr⟩ : ∃ r, r = (Utf8.decode X k).1 := ⟨_, rfl⟩
      obtain ⟨d, hdd⟩ : ∃ d, d = (Utf8.decode X k).2 := ⟨_, rfl⟩
      rw [← hr, ← hdd] at d3 hnx
      rw [← hdd] at d1 d2 hit2 hE2 hb2
      obtain ⟨w2, hw2⟩ : ∃ x, x = wr.iterAt W.heap.size X (k + d) := ⟨_, rfl⟩
      rw [← hw2] at hnx hit2 hE2 hb2
      have HI2 := hide hit2
      have HB2 := hide hb2
      have HE2 := hide hE2
      have HD3 := hide d3
      have HK : Hid (k < x.length) := hide (by rw [← HN.out]; exact hlt)
      clear hr hdd hw2 hit d3 hb2 hit2 HE HB hE2
      by_cases h01 : r = 48 ∨ r = 49
      rotate_left
      · have h48 : ((r : Int) != 48) = true := by simp; omega
        have h49 : ((r : Int) != 49) = true := by simp; omega
        have HR : Hid (bitsO x = none) := hide (by
          refine bits_no HD.out k HK.out ?_ ?_
          · rw [← HX.out]
            rcases HD3.out with h | h
            · omega
            · have := h.2 k (Nat.le_refl _) (by omega)
              omega
          · rw [← HX.out]
            rcases HD3.out with h | h
            · omega
            · have := h.2 k (Nat.le_refl _) (by omega)
              omega)
        clear h01
        go_wp2_with fail
        go_ret
        rw [HR.out]
        exact ⟨rfl, HB2.out⟩
      have hd1 : byt X k = r ∧ d = 1 := by rcases HD3.out with h | h <;> omega
      obtain rfl := hd1.2
      have HT : Hid ((x.take (k + 1)).map (· == 49) = (x.take k).map (· == (49 : UInt8)) ++ [((r : Nat) : Int) == 49]) := hide (by rw [bit_next x k HK.out, ← HX.out, hd1.1])
      have HBt2 : Hid (∀ i, i < k + 1 → byt X i = 48 ∨ byt X i = 49) := hide (fun i hi => by
        by_cases e : i = k
        · rw [e, hd1.1]; exact h01
        · exact HBt.out i (by omega))
      have hnb : (((r : Int) != 48) && ((r : Int) != 49)) = false := by rcases h01 with rfl | rfl <;> rfl
      have HR0 := hide hd1.1
      obtain ⟨bb, hbb⟩ : ∃ b, b = (((r : Nat) : Int) == 49) := ⟨_, rfl⟩
      rw [← hbb] at HT
      have hB := Nat.le_trans HBg.out (by have := HB2.out.size; exact this : W.heap.size ≤ w2.heap.size)
      have hc5 : w2.cell? ⟨g, 5, none⟩ = some u' := HE2.out.cell 5
      have hlen : (e.left ++ (x.take k).map (· == (49 : UInt8))).length ≤ 2097152 := by
        rw [List.length_append, List.length_map]
        have := List.length_take_le k x
        have := HN.out
        omega
      obtain ⟨au, cu, hu'⟩ := own_slice HE2.out.2.2
      subst hu'
      obtain ⟨n0, hn0⟩ : ∃ n, n = (e.left ++ (x.take k).map (· == (49 : UInt8))).length := ⟨_, rfl⟩
      obtain ⟨bs0, hbs0⟩ : ∃ b, b = bools (e.left ++ (x.take k).map (· == (49 : UInt8))) := ⟨_, rfl⟩
      have HOw : Hid (w2.ownsRow B 4 1 (.slice au n0 cu) n0 bs0) := hide (by rw [hn0, hbs0]; exact HE2.out.2.2)
      have hlen2 : n0 ≤ 2097152 := by rw [hn0]; exact hlen
      have hc5' : w2.cell? ⟨g, 5, none⟩ = some (.slice au n0 cu) := by rw [hn0]; exact hc5
      have HN0 := hide hn0
      have HS0 := hide hbs0
      clear hc5 hlen hn0 hbs0 hd1
      rcases h01 with h0 | h0
      · subst h0
        have HBv : Hid (bb = false) := hide hbb
        clear hbb
        go_wp2_with (at_builtin; refine Hid.out ?_)
        refine hide ?_
        refine wpList_append_own _ rfl _ _ 33 rfl B 4 i0 (.bool false) 1 1 Tryd.underlying33 hinf hz0 hz1 hz2 rfl (by decide) _ _ _ rfl (HOw.out.alloc _) ⟨w2.heap.size, 0, none⟩ 1 1 [.bool false] rfl rfl ?c1 ?c2 ?c3 ?c4 ?c5 ?_
        case c1 => intro j u hu; cases j with | zero => injection hu with hu; subst hu; exact Lib.cell_of_heap (heap_alloc_new w2 _) 0 | succ j => simp at hu
        case c2 => intro u hu; simp at hu; subst hu; rfl
        case c3 => unfold maxLen; omega
        case c4 => omega
        case c5 => simp; omega
        intro v' w3 hown' hgrow _
        have hlt2 : g < (w2.alloc (.cells #[.bool false] 4)).heap.size := by have := HE2.out.lt; simp; omega
        have hg3 : w3.heap[g]? = some (.cells (ev7 ({ e with left := e.left ++ (x.take k).map (· == 49) }, .slice au n0 cu)).toArray 35 (0, 0)) := by
          rw [hgrow.block g hlt2 (own_noEv HOw.out HE2.out.2.1).symm, heap_alloc_old _ _ HE2.out.lt, HN0.out]
          exact HE2.out.2.1
        have hit3 : w3.heap[W.heap.size]? = some (.stringIter X (k + 1)) := by
          have hl : W.heap.size < w2.heap.size := (Array.getElem?_eq_some_iff.1 HI2.out).1
          rw [hgrow.block W.heap.size (by simp; omega) (own_noIter HOw.out HI2.out).symm, heap_alloc_old _ _ hl]
          exact HI2.out
        have hb3 : Below B w2 w3 := below_grow (Below.refl _ _) hB HOw.out ((Below.refl _ _).alloc hB _) hgrow
        obtain ⟨a3, c3, rfl⟩ := own_slice hown'
        have hE3 : EvV B (w3.setCell ⟨g, 5, none⟩ (.slice a3 (n0 + 1) c3)) g { e with left := e.left ++ (x.take (k + 1)).map (· == 49) } (.slice a3 (n0 + 1) c3) := by
          have ho : w3.ownsRow B 4 1 (.slice a3 (n0 + 1) c3) (e.left ++ (x.take (k + 1)).map (· == 49)).length (bools (e.left ++ (x.take (k + 1)).map (· == 49))) := by
            rw [HT.out, ← List.append_assoc, bools_snocE, ← HS0.out, List.length_append, ← HN0.out, HBv.out]
            exact hown'
          refine ⟨HE2.out.1, ?_, ?_⟩
          · simp only [World.setCell, Array.getElem?_modify, hg3, if_true, Option.map_some]
            simp [ev7]
          · refine ho.kept (row := some g) ⟨rfl, rfl, rfl, by simp [World.setCell], fun k _ hk => Below.heap_setCell _ _ _ _ (fun e => hk (by simp [e]))⟩ (Or.inr (own_noEv ho hg3))
        have hit4 : (w3.setCell ⟨g, 5, none⟩ (.slice a3 (n0 + 1) c3)).heap[W.heap.size]? = some (.stringIter X (k + 1)) := by
          rw [Below.heap_setCell _ _ _ _ (fun e => by subst e; rw [hg3] at hit3; simp at hit3)]
          exact hit3
        have d5 : w3.cell? ⟨g, 5, none⟩ = some (.slice au n0 cu) := Lib.cell_of_heap hg3 5
        have f5 : w3.frozen? ⟨g, 5, none⟩ = false := Lib.frozen_of_heap hg3 5
        have HB4 : Hid (Below B W (w3.setCell ⟨g, 5, none⟩ (.slice a3 (n0 + 1) c3))) := hide ((HB2.out.trans hb3).setCell (p := ⟨g, 5, none⟩) HE2.out.1 _)
        have HE4 := hide hE3
        have HI4 := hide hit4
        clear hown' hgrow hE3 hit4 hit3 hb3 hg3 hlt2 hc5'
        go_wp2_with fail
        go_roundg (gk - 1)
        case measure => have := HG.out; omega
        case rel => exact ⟨k + 1, _, by omega, by have := HG.out; omega, HBt2, HE4, HB4, HI4.out⟩
      · subst h0
        have HBv : Hid (bb = true) := hide hbb
        clear hbb
        go_wp2_with (at_builtin; refine Hid.out ?_)
        refine hide ?_
        refine wpList_append_own _ rfl _ _ 33 rfl B 4 i0 (.bool false) 1 1 Tryd.underlying33 hinf hz0 hz1 hz2 rfl (by decide) _ _ _ rfl (HOw.out.alloc _) ⟨w2.heap.size, 0, none⟩ 1 1 [.bool true] rfl rfl ?c1 ?c2 ?c3 ?c4 ?c5 ?_
        case c1 => intro j u hu; cases j with | zero => injection hu with hu; subst hu; exact Lib.cell_of_heap (heap_alloc_new w2 _) 0 | succ j => simp at hu
        case c2 => intro u hu; simp at hu; subst hu; rfl
        case c3 => unfold maxLen; omega
        case c4 => omega
        case c5 => simp; omega
        intro v' w3 hown' hgrow _
        have hlt2 : g < (w2.alloc (.cells #[.bool true] 4)).heap.size := by have := HE2.out.lt; simp; omega
        have hg3 : w3.heap[g]? = some (.cells (ev7 ({ e with left := e.left ++ (x.take k).map (· == 49) }, .slice au n0 cu)).toArray 35 (0, 0)) := by
          rw [hgrow.block g hlt2 (own_noEv HOw.out HE2.out.2.1).symm, heap_alloc_old _ _ HE2.out.lt, HN0.out]
          exact HE2.out.2.1
        have hit3 : w3.heap[W.heap.size]? = some (.stringIter X (k + 1)) := by
          have hl : W.heap.size < w2.heap.size := (Array.getElem?_eq_some_iff.1 HI2.out).1
          rw [hgrow.block W.heap.size (by simp; omega) (own_noIter HOw.out HI2.out).symm, heap_alloc_old _ _ hl]
          exact HI2.out
        have hb3 : Below B w2 w3 := below_grow (Below.refl _ _) hB HOw.out ((Below.refl _ _).alloc hB _) hgrow
        obtain ⟨a3, c3, rfl⟩ := own_slice hown'
        have hE3 : EvV B (w3.setCell ⟨g, 5, none⟩ (.slice a3 (n0 + 1) c3)) g { e with left := e.left ++ (x.take (k + 1)).map (· == 49) } (.slice a3 (n0 + 1) c3) := by
          have ho : w3.ownsRow B 4 1 (.slice a3 (n0 + 1) c3) (e.left ++ (x.take (k + 1)).map (· == 49)).length (bools (e.left ++ (x.take (k + 1)).map (· == 49))) := by
            rw [HT.out, ← List.append_assoc, bools_snocE, ← HS0.out, List.length_append, ← HN0.out, HBv.out]
            exact hown'
          refine ⟨HE2.out.1, ?_, ?_⟩
          · simp only [World.setCell, Array.getElem?_modify, hg3, if_true, Option.map_some]
            simp [ev7]
          · refine ho.kept (row := some g) ⟨rfl, rfl, rfl, by simp [World.setCell], fun k _ hk => Below.heap_setCell _ _ _ _ (fun e => hk (by simp [e]))⟩ (Or.inr (own_noEv ho hg3))
        have hit4 : (w3.setCell ⟨g, 5, none⟩ (.slice a3 (n0 + 1) c3)).heap[W.heap.size]? = some (.stringIter X (k + 1)) := by
          rw [Below.heap_setCell _ _ _ _ (fun e => by subst e; rw [hg3] at hit3; simp at hit3)]
          exact hit3
        have d5 : w3.cell? ⟨g, 5, none⟩ = some (.slice au n0 cu) := Lib.cell_of_heap hg3 5
        have f5 : w3.frozen? ⟨g, 5, none⟩ = false := Lib.frozen_of_heap hg3 5
        have HB4 : Hid (Below B W (w3.setCell ⟨g, 5, none⟩ (.slice a3 (n0 + 1) c3))) := hide ((HB2.out.trans hb3).setCell (p := ⟨g, 5, none⟩) HE2.out.1 _)
        have HE4 := hide hE3
        have HI4 := hide hit4
        clear hown' hgrow hE3 hit4 hit3 hb3 hg3 hlt2 hc5'
        go_wp2_with fail
        go_roundg (gk - 1)
        case measure => have := HG.out; omega
        case rel => exact ⟨k + 1, _, by omega, by have := HG.out; omega, HBt2, HE4, HB4, HI4.out⟩
    · obtain rfl : k = X.size := by omega
      have hnx := fun ty => Lib.run_next_end_at (P := Tryd.prog) wr W.heap.size X X.size ty hit (Nat.lt_irrefl _)
      have HR : Hid (bitsO x = some (x.map (· == 49))) := hide (bits_all HD.out (fun i hi => by rw [← HX.out]; exact HBt.out i (by rw [HN.out]; exact hi)))
      have HT : Hid (x.take X.size = x) := hide (by rw [HN.out]; exact List.take_length)
      clear hit
      go_wp2_with fail
      go_ret
      rw [HR.out]
      refine ⟨⟨rfl, u', ?_⟩, HB.out⟩
      have := HE.out
      rw [HT.out] at this
      exact this
open Go.RowKit
inductive Rd where
  | key | val | id | stage | left
def rdF : Rd → Value
  | .key => .func (.func 70) #[] #[]
  | .val => .func (.func 71) #[] #[]
  | .id => .func (.func 72) #[] #[]
  | .stage => .func (.func 73) #[] #[]
  | .left => .func (.func 74) #[] #[]
noncomputable def rdU (x : List UInt8) (e : Evt) : Rd → Option Evt
  | .key => some { e with key := ba x }
  | .val => some { e with val := ba x }
  | .id => (decO x).map fun n => { e with id := n }
  | .stage => (decO x).map fun n => { e with stage := n }
  | .left => (bitsO x).map fun bs => { e with left := e.left ++ bs }
noncomputable def rdsU : List Rd → List (List UInt8) → Evt → Option Evt
  | r :: rs, x :: xs, e => (rdU x e r).bind (rdsU rs xs)
  | _, _, e => some e
def evK (kind : Int) : Evt := ⟨kind, 1, ⟨#[]⟩, ⟨#[]⟩, 0, [], -1⟩
theorem rdU_left {x : List UInt8} {e e' : Evt} {r : Rd} (h : rdU x e r = some e') : e'.left.length ≤ e.left.length + x.length := by
  cases r <;> simp only [rdU] at h
  · injection h with h; subst h; simp
  · injection h with h; subst h; simp
  · obtain ⟨n, -, h⟩ := Option.map_eq_some_iff.1 h; subst h; simp
  · obtain ⟨n, -, h⟩ := Option.map_eq_some_iff.1 h; subst h; simp
  · obtain ⟨n, hb, h⟩ := Option.map_eq_some_iff.1 h; subst h; have := bitsO_len hb; simp; omega
def evZ : Evt := ⟨0, 0, ⟨#[]⟩, ⟨#[]⟩, 0, [], 0⟩
theorem rdsU_next {rs : List Rd} {xs : List (List UInt8)} {i : Nat} {r : Rd} {x : List UInt8} (hr : rs[i]? = some r) (hx : xs[i]? = some x) (e : Evt) : rdsU (rs.drop i) (xs.drop i) e = (rdU x e r).bind (rdsU (rs.drop (i + 1)) (xs.drop (i + 1))) := by
  obtain ⟨h1, h2⟩ := List.getElem?_eq_some_iff.1 hr
  obtain ⟨h3, h4⟩ := List.getElem?_eq_some_iff.1 hx
  rw [List.drop_eq_getElem_cons h1, List.drop_eq_getElem_cons h3, h2, h4]
  rfl
theorem cells_setW {W : World} {g : Nat} {cs : Array Value} {T : TypeId} (h : W.heap[g]? = some (.cells cs T (0, 0))) (cs' : Array Value) (hn : cs'.size = cs.size) : (W.setCells g 0 cs'.toList).heap[g]? = some (.cells cs' T (0, 0)) := by
  have hs : Sep 0 W [cellA g (.cells cs T (0, 0))] := sep_cons.2 ⟨⟨h, fun k hk => by have hk : k = g := hk; subst hk; exact ⟨Nat.zero_le _, (Array.getElem?_eq_some_iff.1 h).1⟩⟩, fun A hA => by (cases hA), sep_nil 0 W⟩
  exact sep_get (sep_cellsAll hs 0 rfl cs' hn) 0 rfl
theorem rowat_get {w : World} {n c : Nat} {a : Option Addr} {vs : List Value} (h : RowAt w 1 (.slice a n c) n vs) (hn : 0 < n) : ∃ b off, a = some ⟨b, off, none⟩ ∧ ∀ wx, Below w.heap.size w wx → ∀ i, i < n → wx.cell? ⟨b, off + i, none⟩ = vs[i]? := by
  obtain ⟨hl, a', cap, ea, h2⟩ := h
  injection ea with e1 e2 e3
  subst e1
  rcases h2 with h0 | ⟨b, off, rfl, hlt, hc⟩
  · omega
  · exact ⟨b, off, rfl, fun wx hb i hi => by rw [hb.cell (by exact hlt), hc i (by omega)]⟩
theorem rd_any (r : Rd) (x : List UInt8) (hx : x.length ≤ 1048576) (B g : Nat) (e : Evt) (he : e.left.length ≤ 1048576) (u : Value) (W : World) (h : EvV B W g e u) :
    ∃ f, rdF r = .func (.func f) #[] #[] ∧ (f = 70 ∨ f = 71 ∨ f = 72 ∨ f = 73 ∨ f = 74) ∧ Calls Tryd.prog f #[.pointer (some ⟨g, 0, none⟩), .string (ba x)] W (RdPost B g W (rdU x e r)) := by
  cases r
  · exact ⟨_, rfl, by simp, (readKey_any (ba x) B g e u W h).mono (fun _ _ hh => ⟨⟨hh.1, u, hh.2.1⟩, hh.2.2⟩)⟩
  · exact ⟨_, rfl, by simp, (readVal_any (ba x) B g e u W h).mono (fun _ _ hh => ⟨⟨hh.1, u, hh.2.1⟩, hh.2.2⟩)⟩
  · exact ⟨_, rfl, by simp, readId_any x hx B g e u W h⟩
  · exact ⟨_, rfl, by simp, readStage_any x hx B g e u W h⟩
  · exact ⟨_, rfl, by simp, readLeft_any x hx B g e he u W h⟩
set_option maxHeartbeats 8000000 in
set_option maxRecDepth 100000 in
theorem word_any (kind : Int) (rs : List Rd) (hrs : rs.length ≤ 3) (xs : List (List UInt8)) (hxl : xs.length ≤ 10) (hxs : ∀ x ∈ xs, x.length ≤ 600) (a ar : Option Addr) (c cr p q : Nat) (w : World)
    (hr : RowAt w 1 (.slice a xs.length c) xs.length (strVs xs)) (hq : w.cell? ⟨q, 0, none⟩ = some (.int .i64 kind)) (hp : w.cell? ⟨p, 0, none⟩ = some (.slice ar rs.length cr)) (hrr : RowAt w 1 (.slice ar rs.length cr) rs.length (rs.map rdF)) (hpl : p < w.heap.size) (hql : q < w.heap.size) :
    Calls Tryd.prog 83 #[.slice a xs.length c, .pointer (some ⟨p, 0, none⟩), .pointer (some ⟨q, 0, none⟩)] w fun e w' => EvRet w w' (if xs.length = rs.length then rdsU rs xs (evK kind) else none) e := by
  obtain ⟨m, hm⟩ : ∃ m, m = xs.length := ⟨_, rfl⟩
  obtain ⟨n, hn⟩ : ∃ n, n = rs.length := ⟨_, rfl⟩
  have HM := hide hm
  have HN := hide hn
  have HR := hide hr
  have HRR := hide hrr
  have HXs := hide hxs
  have HPQ := hide (And.intro hpl hql)
  rw [← hm, ← hn]
  rw [← hm] at HR hxl
  rw [← hn] at HRR hp hrs
  clear hm hn hr hrr hxs hpl hql
  have hpa : ∀ o, (w.alloc o).cell? ⟨p, 0, none⟩ = some (.slice ar n cr) := fun o => by rw [((Below.refl w.heap.size w).alloc (Nat.le_refl _) o).cell (by exact HPQ.out.1)]; exact hp
  have hqa : ∀ o, (w.alloc o).cell? ⟨q, 0, none⟩ = some (.int .i64 kind) := fun o => by rw [((Below.refl w.heap.size w).alloc (Nat.le_refl _) o).cell (by exact HPQ.out.2)]; exact hq
  have hpa2 : ∀ o o', ((w.alloc o).alloc o').cell? ⟨p, 0, none⟩ = some (.slice ar n cr) := fun o o' => by rw [(((Below.refl w.heap.size w).alloc (Nat.le_refl _) o).alloc (by simp) o').cell (by exact HPQ.out.1)]; exact hp
  obtain ⟨R, hRdef⟩ : ∃ r, r = (if m = n then rdsU rs xs (evK kind) else none) := ⟨_, rfl⟩
  rw [← hRdef]
  have HRd := hide hRdef
  clear hp hq hRdef
  go_enter Tryd.func83, Tryd.ntmps83
  by_cases hmn : m = n
  rotate_left
  · have hne : ((m : Int) != (n : Int)) = true := by simp; omega
    have HRn : Hid (R = none) := hide (by rw [HRd.out, if_neg hmn])
    clear hmn
    go_wp2_with fail
    refine bodyPost_ret (v := .tuple #[.agg #[.int .i64 0, .int .i64 0, .string ⟨#[]⟩, .string ⟨#[]⟩, .int .i64 0, .slice none 0 0, .int .i64 0], .bool false]) (results_ct Tryd.results83 rfl rfl (run_agg (range_all (heap_alloc_new w _)) Tryd.underlying35 rfl Tryd.sizeEvI)) rfl ?_
    rw [HRn.out]
    exact ⟨⟨_, _, rfl, rfl, rfl, rfl⟩, (Below.refl _ _).alloc (Nat.le_refl _) _⟩
  subst hmn
  have HR0 : Hid (R = rdsU rs xs (evK kind)) := hide (by rw [HRd.out, if_pos rfl])
  clear HRd
  go_wp2_with fail
  go_loopg [19] m (fun g iv wr => ∃ (i : Nat) (e : Evt) (u : Value), i ≤ m ∧ g + i = m ∧ iv = .int .i64 (i : Int) ∧ e.left.length ≤ i * 600 ∧ Hid (R = rdsU (rs.drop i) (xs.drop i) e) ∧ Hid (EvV (w.heap.size + 1) wr (w.heap.size + 1) e u) ∧ Hid (wr.heap[w.heap.size]? = some (.cells (ev7 (evZ, .slice none 0 0)).toArray 35 (0, 0))) ∧ Hid (Below w.heap.size w wr))
  case atStart =>
    refine ⟨0, evK kind, .slice none 0 0, by omega, by omega, rfl, Nat.le_refl _, HR0, hide ?_, hide ?_, hide ?_⟩
    · refine ⟨Nat.le_refl _, ?_, ⟨rfl, Or.inl ⟨rfl, rfl⟩⟩⟩
      have h := heap_alloc_new (w.alloc (Obj.cells #[.int .i64 0, .int .i64 0, .string ⟨#[]⟩, .string ⟨#[]⟩, .int .i64 0, .slice none 0 0, .int .i64 0] 35)) (Obj.cells #[.int .i64 kind, .int .i64 1, .string ⟨#[]⟩, .string ⟨#[]⟩, .int .i64 0, .slice none 0 0, .int .i64 (-1)] 35)
      rw [show (w.alloc (Obj.cells #[.int .i64 0, .int .i64 0, .string ⟨#[]⟩, .string ⟨#[]⟩, .int .i64 0, .slice none 0 0, .int .i64 0] 35)).heap.size = w.heap.size + 1 from by simp] at h
      exact h
    · rw [heap_alloc_old _ _ (by simp)]
      exact heap_alloc_new w _
    · exact ((Below.refl _ _).alloc (Nat.le_refl _) _).alloc (by simp) _
  case round =>
    obtain ⟨i, e, u, him, hg, rfl, hle, HRi, HE, HZ, HB⟩ := hrel
    have HG := hide hg
    clear hg
    by_cases hlt : i < m
    · obtain ⟨r, hri⟩ : ∃ r, rs[i]? = some r := ⟨rs[i]'(by rw [← HN.out]; exact hlt), List.getElem?_eq_getElem _⟩
      obtain ⟨x, hxi⟩ : ∃ x, xs[i]? = some x := ⟨xs[i]'(by rw [← HM.out]; exact hlt), List.getElem?_eq_getElem _⟩
      have hxz : x.length ≤ 600 := HXs.out x (List.mem_of_getElem? hxi)
      have HNx := hide (rdsU_next hri hxi e)
      obtain ⟨f, hf, hfs, hC⟩ := rd_any r x (by omega) (w.heap.size + 1) (w.heap.size + 1) e (by omega) u wr HE.out
      have HUl := hide (fun e' h => rdU_left (x := x) (e := e) (e' := e') (r := r) h)
      obtain ⟨bx, ox, rfl, HCx⟩ := rowat_get HR.out (by omega)
      obtain ⟨br, orr, rfl, HCr⟩ := rowat_get HRR.out (by omega)
      have c0 : wr.cell? ⟨bx, ox + i, none⟩ = some (.string (ba x)) := by rw [HCx wr HB.out i hlt, strVs, List.getElem?_map, hxi]; rfl
      have c1 : wr.cell? ⟨br, orr + i, none⟩ = some (.func (.func f) #[] #[]) := by rw [HCr wr HB.out i hlt, List.getElem?_map, hri, ← hf]; rfl
      obtain ⟨ro, hro⟩ : ∃ y, y = rdU x e r := ⟨_, rfl⟩
      rw [← hro] at hC HNx HUl
      have HC := hide hC
      have hi0 : (0 : Int) ≤ (i : Int) := by omega
      have hi1 : (i : Int) < (m : Int) := by omega
      clear hC HCx HCr hro hri hxi hf
      rcases hfs with rfl | rfl | rfl | rfl | rfl
      all_goals go_wp2_with fail
      all_goals refine HC.out.mono ?_
      all_goals rintro e1 w1 ⟨hm, hb⟩
      all_goals have hg0 : w.heap.size < wr.heap.size := by have := HE.out.lt; omega
      all_goals have HZ1 : Hid (w1.heap[w.heap.size]? = some (.cells (ev7 (evZ, .slice none 0 0)).toArray 35 (0, 0))) := hide ((hb.block w.heap.size (by omega)).trans HZ.out)
      all_goals have HB1 : Hid (Below w.heap.size w w1) := hide (HB.out.trans (hb.mono (by omega)))
      all_goals clear hb hg0
      all_goals cases ro with
        | none =>
          have hm : e1 = .returned (.bool false) := hm
          subst hm
          have hth : Hid (w1.there w.heap.size 0 (ev7 (evZ, .slice none 0 0)).toArray.size) := hide (there_of HZ1.out 0 7 (show 0 + 7 ≤ 7 by decide))
          have HOne : Hid ((ev7 (evZ, .slice none 0 0)).toArray.toList.all (·.oneCell') = true) := hide rfl
          have HSt := hide (cells_setW HZ1.out (ev7 (evZ, .slice none 0 0)).toArray rfl)
          have HBs := hide (below_cells (Nat.le_refl w.heap.size) (ev7 (evZ, .slice none 0 0)).toArray.toList 0 w1 HB1.out)
          obtain ⟨w2, hw2⟩ : ∃ y, y = w1.setCells w.heap.size 0 (ev7 (evZ, .slice none 0 0)).toArray.toList := ⟨_, rfl⟩
          rw [← hw2] at HSt HBs
          have HW2 := hide hw2.symm
          have HNz : Hid ((Tryd.prog.info? 35).map (·.size) = some (ev7 (evZ, .slice none 0 0)).toArray.size) := hide Tryd.sizeEvI
          clear hw2
          go_wp2_with ((with_reducible refine wpList_storeL ?_ 35 (.tmp 4) (.tmp 31) ?_ w.heap.size 0 (ev7 (evZ, .slice none 0 0)).toArray ?_ ?_ hth.out ?_ ?_ HW2.out ?_); exact rfl; exact rfl; exact rfl; exact rfl; exact HNz.out; exact HOne.out)
          refine bodyPost_ret (v := .tuple #[.agg (ev7 (evZ, .slice none 0 0)).toArray, .bool false]) (results_ct Tryd.results83 rfl rfl (run_agg (range_all HSt.out) Tryd.underlying35 rfl Tryd.sizeEvI)) rfl ?_
          rw [HRi.out, HNx.out]
          exact ⟨⟨_, _, rfl, rfl, rfl, rfl⟩, HBs.out⟩
        | some ev =>
          obtain ⟨rfl, u2, hE2⟩ := hm
          have HE2 := hide hE2
          clear hE2
          have hl2 := HUl.out ev rfl
          go_wp2_with fail
          go_roundg (gk - 1)
          case measure => have := HG.out; omega
          case rel => exact ⟨i + 1, ev, u2, by omega, by have := HG.out; omega, by go_num, by omega, hide (by rw [HRi.out, HNx.out]; rfl), HE2, HZ1, HB1⟩
    · obtain rfl : i = m := by omega
      have HRe : Hid (R = some e) := hide (by rw [HRi.out, HN.out, List.drop_length]; cases h : xs.drop rs.length <;> rfl)
      obtain ⟨au, cu, rfl⟩ := own_slice HE.out.2.2
      obtain ⟨cs, hcs⟩ : ∃ cs, cs = (ev7 (e, .slice au e.left.length cu)).toArray := ⟨_, rfl⟩
      have HC1 : Hid (wr.heap[w.heap.size + 1]? = some (.cells cs 35 (0, 0))) := hide (by rw [hcs]; exact HE.out.2.1)
      have HSz : Hid (cs.size = 7) := hide (by rw [hcs]; rfl)
      have HOne : Hid (cs.toList.all (·.oneCell') = true) := hide (by rw [hcs]; rfl)
      have hth : Hid (wr.there w.heap.size 0 cs.size) := hide (by rw [HSz.out]; exact there_of HZ.out 0 7 (show 0 + 7 ≤ 7 by decide))
      have HSt := hide (cells_setW HZ.out cs HSz.out)
      have HBs := hide (below_cells (Nat.le_refl w.heap.size) cs.toList 0 wr HB.out)
      have HOw : Hid ((wr.setCells w.heap.size 0 cs.toList).ownsRow w.heap.size 4 1 (.slice au e.left.length cu) e.left.length (bools e.left)) := hide (by
        refine own_down (B := w.heap.size + 1) ?_ (by omega)
        refine own_kept (S := fun k => k = w.heap.size) HE.out.2.2 ⟨World.os_setCells _ _ _ _, ?_, World.output_setCells _ _ _ _, by rw [size_cells]; exact Nat.le_refl _, fun k hk hne => World.heap_setCells_other wr w.heap.size 0 _ hk hne⟩ (fun k hk e => by have := (HE.out.2.2.lt k hk).1; omega)
        exact (below_cells (B := w.heap.size) (W0 := wr) (Nat.le_refl _) cs.toList 0 wr (Below.refl _ _)).tape)
      have HCs := hide hcs
      have HRg := hide (range_all HC1.out)
      obtain ⟨w2, hw2⟩ : ∃ y, y = wr.setCells w.heap.size 0 cs.toList := ⟨_, rfl⟩
      rw [← hw2] at HSt HBs HOw
      have HW2 := hide hw2.symm
      have HNz : Hid ((Tryd.prog.info? 35).map (·.size) = some cs.size) := hide (by rw [HSz.out]; exact Tryd.sizeEvI)
      clear hw2 hcs
      go_wp2_with (first | ((with_reducible refine wpList_loadL ?_ 35 (.tmp 6) ?_ (w.heap.size + 1) 0 ?_ cs HRg.out _ Tryd.underlying35 ?_ ?_ ?_); exact rfl; exact rfl; exact rfl; exact rfl; exact HNz.out) | ((with_reducible refine wpList_storeL ?_ 35 (.tmp 4) (.tmp 33) ?_ w.heap.size 0 cs ?_ ?_ hth.out ?_ ?_ HW2.out ?_); exact rfl; exact rfl; exact rfl; exact rfl; exact HNz.out; exact HOne.out))
      refine bodyPost_ret (v := .tuple #[.agg cs, .bool true]) (results_ct Tryd.results83 rfl rfl (run_agg (range_all HSt.out) Tryd.underlying35 rfl HNz.out)) rfl ?_
      rw [HRe.out]
      exact ⟨⟨_, _, rfl, HSz.out, HOne.out, rfl, _, HCs.out, HOw.out⟩, HBs.out⟩
end Go.Proofs.YtmmepgincbngeaaDoor
