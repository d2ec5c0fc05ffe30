/-
  Several texts in one. spec.DrawNode by a contract. · A node in a variable of its own whose rows lie wherever: its flag turned, the first of a row turned, a key appended. No function of the program. · l05Any, DrawPlaceOf by contracts: a node that may be wrong, of few and short parts. · Plain facts on nodes: a right node's bytes fit a page; it comes back from its bytes; with one byte turned there is none. No program. · spec.DrawNodeText, spec.DrawReadNode by contracts. · laws.sameInts, laws.sameTexts, laws.sameNode by contracts. · More of the laws' helpers over nodes by contracts: eqNode at two nodes of the same, markNode, heldNode. · The exact law of ReadNode by contracts. · laws.turned: at every text of at most 1048576 bytes and a row of whole numbers below 10000: one byte of the text is another; of a text without bytes it is "x". · spec.ShortText and impl.ShortText by their contracts: for a text of at most 20000 bytes both give the bytes of its length, then the text, and true; for a longer one the empty text and false. · impl.entryText and impl.NodeText by contracts. · FnNodes by contracts.
-/
import Derived.Test.YtglcfaibgjiigaaDoorDrawNode
import Derived.Test.YtglcfaibgjiigaaDoorNodeGrow
import Derived.Deep.RegionWith
import Derived.Test.YtglcfaibgjiigaaDoorPlain16
import Derived.Test.YtglcfaibgjiigaaDoorNodeSpec2
import Derived.Test.YtglcfaibgjiigaaDoorDrawPick
import Derived.Test.YtglcfaibgjiigaaDoorIntRow
import Derived.Test.YtglcfaibgjiigaaDoorNode
import Derived.Deep.RegionHeld3
import Derived.Test.YtglcfaibgjiigaaDoorImplReadNode
import Derived.Test.YtglcfaibgjiigaaDoorSpecRead
import Derived.Test.YtglcfaibgjiigaaDoorDraw4
import Derived.Test.YtglcfaibgjiigaaDoorSeal
import Derived.Test.YtglcfaibgjiigaaDoorVar
import Derived.Laws.Concat
import Derived.Test.YtglcfaibgjiigaaDoorImplNode
import Derived.Lib.AppendStr
namespace Go.Proofs.YtglcfaibgjiigaaDoor
open Go.RowKit

end Go.Proofs.YtglcfaibgjiigaaDoor

namespace Go.Proofs.YtglcfaibgjiigaaDoor
open Go.RowKit

/-- a row is no node's variable -/
theorem row_not_var {w : World} {B e n gn : Nat} {v : Value} {xs : List Value} {cs : Array Value} (h : w.ownsRow B e 1 v n xs) (hq : w.heap[gn]? = some (.cells cs 27 (0, 0))) (he : e ≠ 27) : v.ownBlock ≠ some gn := by
  intro h1
  rcases h.2 with ⟨rfl, -⟩ | ⟨g, cap, cur, rfl, -, hh, -⟩
  · cases h1
  · have h1 : g = gn := Option.some.inj h1
    subst h1
    rw [hh] at hq
    injection hq with hq
    injection hq with _ hq _
    exact he hq

theorem Tryd.str_node : (9 : Nat) ≠ 27 := by decide

theorem Tryd.int_node : (3 : Nat) ≠ 27 := by decide

/-- a node in the variable at block gn, its rows in memory from B on -/
def NVar (w : World) (gn B : Nat) (n : Nd) (v1 v2 v3 : Value) : Prop :=
  w.heap[gn]? = some (.cells #[.bool n.lf, v1, v2, v3] 27 (0, 0)) ∧ NodeOwn w B (.agg #[.bool n.lf, v1, v2, v3]) n.lf n.ks n.vs n.cs

theorem nvar_rows {w : World} {gn B : Nat} {n : Nd} {v1 v2 v3 : Value} (h : NVar w gn B n v1 v2 v3) : w.ownsRow B 9 1 v1 n.ks.length (strs n.ks) ∧ w.ownsRow B 9 1 v2 n.vs.length (strs n.vs) ∧ w.ownsRow B 3 1 v3 n.cs.length (ints n.cs) ∧ ∀ k, v1.ownBlock = some k → v2.ownBlock ≠ some k := by
  obtain ⟨-, u1, u2, u3, e, h1, h2, h3, h4⟩ := h
  obtain ⟨-, rfl, rfl, rfl⟩ := agg4 e
  exact ⟨h1, h2, h3, h4⟩

theorem nvar_mk {w : World} {gn B : Nat} {n : Nd} {v1 v2 v3 : Value} (h0 : w.heap[gn]? = some (.cells #[.bool n.lf, v1, v2, v3] 27 (0, 0))) (h1 : w.ownsRow B 9 1 v1 n.ks.length (strs n.ks)) (h2 : w.ownsRow B 9 1 v2 n.vs.length (strs n.vs)) (h3 : w.ownsRow B 3 1 v3 n.cs.length (ints n.cs)) (h4 : ∀ k, v1.ownBlock = some k → v2.ownBlock ≠ some k) : NVar w gn B n v1 v2 v3 := ⟨h0, _, _, _, rfl, h1, h2, h3, h4⟩

theorem nvar_grown {w w' : World} {g gn B : Nat} {n : Nd} {v1 v2 v3 : Value} (h : NVar w gn B n v1 v2 v3) (hg : w.grownBy w' (some g)) (hne : gn ≠ g) (hlt : g < B) : NVar w' gn B n v1 v2 v3 := by
  obtain ⟨h1, h2, h3, h4⟩ := nvar_rows h
  exact nvar_mk ((hg.block gn (Array.getElem?_eq_some_iff.1 h.1).1 (fun e => by injection e with e; exact hne e)).trans h.1) (h1.kept hg (Or.inr (fun e => by have := (h1.lt _ e).1; omega))) (h2.kept hg (Or.inr (fun e => by have := (h2.lt _ e).1; omega))) (h3.kept hg (Or.inr (fun e => by have := (h3.lt _ e).1; omega))) h4

theorem nvar_below {w w' : World} {gn B : Nat} {n : Nd} {v1 v2 v3 : Value} (h : NVar w gn B n v1 v2 v3) (hb : Below w.heap.size w w') : NVar w' gn B n v1 v2 v3 :=
  ⟨(hb.block gn (Array.getElem?_eq_some_iff.1 h.1).1).trans h.1, nodeOwn_below h.2 hb⟩

/-- the flag turned -/
theorem nvar_flag {w : World} {gn B : Nat} {n : Nd} {v1 v2 v3 : Value} (h : NVar w gn B n v1 v2 v3) (b : Bool) : NVar (w.setCell ⟨gn, 0, none⟩ (.bool b)) gn B ⟨b, n.ks, n.vs, n.cs⟩ v1 v2 v3 := by
  obtain ⟨h1, h2, h3, h4⟩ := nvar_rows h
  have hs := grown_setCell w gn 0 (.bool b)
  exact nvar_mk (heap_setCell_same w gn 0 _ _ _ h.1) (h1.kept hs (Or.inr (row_not_var h1 h.1 Tryd.str_node))) (h2.kept hs (Or.inr (row_not_var h2 h.1 Tryd.str_node))) (h3.kept hs (Or.inr (row_not_var h3 h.1 Tryd.int_node))) h4

theorem strs_set2 (l : List ByteArray) (k : Nat) (x : ByteArray) : (strs l).set k (.string x) = strs (l.set k x) := by simp [strs, List.map_set]

theorem ints_set2 (l : List Int) (k : Nat) (x : Int) : (ints l).set k (.int .i64 x) = ints (l.set k x) := by simp [ints, List.map_set]

/-- the first key turned -/
theorem nvar_key0 {w : World} {gn B b c : Nat} {n : Nd} {v2 v3 : Value} (h : NVar w gn B n (.slice (some ⟨b, 0, none⟩) n.ks.length c) v2 v3) (x : ByteArray) : NVar (w.setCell ⟨b, 0, none⟩ (.string x)) gn B ⟨n.lf, n.ks.set 0 x, n.vs, n.cs⟩ (.slice (some ⟨b, 0, none⟩) n.ks.length c) v2 v3 := by
  obtain ⟨h1, h2, h3, h4⟩ := nvar_rows h
  have hs := grown_setCell w b 0 (.string x)
  have hne : some gn ≠ some b := fun e => row_not_var h1 h.1 Tryd.str_node (by injection e with e; rw [e]; rfl)
  refine nvar_mk ((hs.block gn (Array.getElem?_eq_some_iff.1 h.1).1 hne).trans h.1) ?_ (h2.kept hs (Or.inr (fun e => h4 b rfl e))) (h3.kept hs (Or.inr (one_type h1 h3 Tryd.str_int b rfl))) h4
  have o3 := (h1.stored 0 (.string x)).1
  rw [strs_set2] at o3
  rw [List.length_set]
  exact o3

/-- the first value turned -/
theorem nvar_val0 {w : World} {gn B b c : Nat} {n : Nd} {v1 v3 : Value} (h : NVar w gn B n v1 (.slice (some ⟨b, 0, none⟩) n.vs.length c) v3) (x : ByteArray) : NVar (w.setCell ⟨b, 0, none⟩ (.string x)) gn B ⟨n.lf, n.ks, n.vs.set 0 x, n.cs⟩ v1 (.slice (some ⟨b, 0, none⟩) n.vs.length c) v3 := by
  obtain ⟨h1, h2, h3, h4⟩ := nvar_rows h
  have hs := grown_setCell w b 0 (.string x)
  have hne : some gn ≠ some b := fun e => row_not_var h2 h.1 Tryd.str_node (by injection e with e; rw [e]; rfl)
  refine nvar_mk ((hs.block gn (Array.getElem?_eq_some_iff.1 h.1).1 hne).trans h.1) (h1.kept hs (Or.inr (fun e => h4 b e rfl))) ?_ (h3.kept hs (Or.inr (one_type h2 h3 Tryd.str_int b rfl))) h4
  have o3 := (h2.stored 0 (.string x)).1
  rw [strs_set2] at o3
  rw [List.length_set]
  exact o3

/-- the first kid turned -/
theorem nvar_kid0 {w : World} {gn B b c : Nat} {n : Nd} {v1 v2 : Value} (h : NVar w gn B n v1 v2 (.slice (some ⟨b, 0, none⟩) n.cs.length c)) (x : Int) : NVar (w.setCell ⟨b, 0, none⟩ (.int .i64 x)) gn B ⟨n.lf, n.ks, n.vs, n.cs.set 0 x⟩ v1 v2 (.slice (some ⟨b, 0, none⟩) n.cs.length c) := by
  obtain ⟨h1, h2, h3, h4⟩ := nvar_rows h
  have hs := grown_setCell w b 0 (.int .i64 x)
  have hne : some gn ≠ some b := fun e => row_not_var h3 h.1 Tryd.int_node (by injection e with e; rw [e]; rfl)
  refine nvar_mk ((hs.block gn (Array.getElem?_eq_some_iff.1 h.1).1 hne).trans h.1) (h1.kept hs (Or.inr (one_type h3 h1 Tryd.str_int.symm b rfl))) (h2.kept hs (Or.inr (one_type h3 h2 Tryd.str_int.symm b rfl))) ?_ h4
  have o3 := (h3.stored 0 (.int .i64 x)).1
  rw [ints_set2] at o3
  rw [List.length_set]
  exact o3

/-- a key appended -/
theorem nvar_key {w w' : World} {gn B b cap : Nat} {n : Nd} {v1 v2 v3 : Value} {x : ByteArray} {o : Obj} (h : NVar w gn B n v1 v2 v3) (hown : w'.ownsRow B 9 1 (.slice (some ⟨b, 0, none⟩) (n.ks.length + 1) cap) (n.ks.length + 1) (strs n.ks ++ [.string x])) (hg : (w.alloc o).grownBy w' v1.ownBlock) (hb : v1.ownBlock = some b ∨ b = (w.alloc o).heap.size) :
    NVar (w'.setCell ⟨gn, 1, none⟩ (.slice (some ⟨b, 0, none⟩) (n.ks.length + 1) cap)) gn B ⟨n.lf, n.ks ++ [x], n.vs, n.cs⟩ (.slice (some ⟨b, 0, none⟩) (n.ks.length + 1) cap) v2 v3 ∧ w'.cell? ⟨gn, 1, none⟩ = some v1 ∧ w'.frozen? ⟨gn, 1, none⟩ = false := by
  have hA := nvar_below h ((Below.refl _ _).alloc (Nat.le_refl _) o)
  obtain ⟨h1, h2, h3, h4⟩ := nvar_rows hA
  have hgn : w'.heap[gn]? = _ := (hg.block gn (Array.getElem?_eq_some_iff.1 hA.1).1 (fun e => row_not_var h1 hA.1 Tryd.str_node e.symm)).trans hA.1
  have hs := grown_setCell w' gn 1 (.slice (some ⟨b, 0, none⟩) (n.ks.length + 1) cap)
  have k2 := h2.kept hg (apart h4)
  have k3 := h3.kept hg (apart (fun k e => one_type h1 h3 Tryd.str_int k e))
  refine ⟨nvar_mk (heap_setCell_same w' gn 1 _ _ _ hgn) ?_ (k2.kept hs (Or.inr (row_not_var k2 hgn Tryd.str_node))) (k3.kept hs (Or.inr (row_not_var k3 hgn Tryd.int_node))) ?_, (cell_at hgn 1).1, (cell_at hgn 1).2⟩
  · rw [List.length_append, ← str_snoc]
    exact hown.kept hs (Or.inr (row_not_var hown hgn Tryd.str_node))
  · intro k e1 e2
    have e1 : b = k := Option.some.inj e1
    subst e1
    rcases hb with hb | hb
    · exact h4 b hb e2
    · have := (h2.lt b e2).2; omega
end Go.Proofs.YtglcfaibgjiigaaDoor

namespace Go.Proofs.YtglcfaibgjiigaaDoor
open Go.RowKit

/-- small enough for every function of the chapter -/
def SmallN (n : Nd) : Prop := n.ks.length ≤ 5 ∧ n.vs.length ≤ 5 ∧ n.cs.length ≤ 5 ∧ (∀ s ∈ n.ks, s.size ≤ 25) ∧ ∀ s ∈ n.vs, s.size ≤ 25

theorem small_drawn {n : Nd} (h : DrawnN n) : SmallN n ∧ n.ks.length ≤ 4 := by
  obtain ⟨h1, h2, h3, h4, h5⟩ := h
  refine ⟨⟨by omega, ?_, ?_, fun s hs => ?_, fun s hs => by have := h5 s hs; omega⟩, h2⟩
  · cases e : n.lf with
    | true => rw [(h3.1 e).1]; omega
    | false => rw [(h3.2 e).2]; simp
  · cases e : n.lf with
    | true => rw [(h3.1 e).2]; simp
    | false => rw [(h3.2 e).1]; omega
  · obtain ⟨i, hi, rfl⟩ := List.getElem_of_mem hs
    have := keyAt_size (h4.1 i hi)
    rw [List.getD_eq_getElem?_getD, List.getElem?_eq_getElem hi, Option.getD_some] at this
    omega

theorem nvar_key0_cell {w : World} {gn B b c : Nat} {n : Nd} {v2 v3 : Value} (h : NVar w gn B n (.slice (some ⟨b, 0, none⟩) n.ks.length c) v2 v3) (hp : 0 < n.ks.length) : (∃ s, w.cell? ⟨b, 0, none⟩ = some (.string s)) ∧ w.frozen? ⟨b, 0, none⟩ = false := by
  have h1 := (nvar_rows h).1
  exact ⟨⟨n.ks[0], by rw [h1.cellAt 0 (by omega), strs_at _ 0 hp]⟩, h1.frozenAt 0⟩

theorem nvar_val0_cell {w : World} {gn B b c : Nat} {n : Nd} {v1 v3 : Value} (h : NVar w gn B n v1 (.slice (some ⟨b, 0, none⟩) n.vs.length c) v3) (hp : 0 < n.vs.length) : (∃ s, w.cell? ⟨b, 0, none⟩ = some (.string s)) ∧ w.frozen? ⟨b, 0, none⟩ = false := by
  have h1 := (nvar_rows h).2.1
  exact ⟨⟨n.vs[0], by rw [h1.cellAt 0 (by omega), strs_at _ 0 hp]⟩, h1.frozenAt 0⟩

theorem nvar_kid0_cell {w : World} {gn B b c : Nat} {n : Nd} {v1 v2 : Value} (h : NVar w gn B n v1 v2 (.slice (some ⟨b, 0, none⟩) n.cs.length c)) (hp : 0 < n.cs.length) : (∃ z, w.cell? ⟨b, 0, none⟩ = some (.int .i64 z)) ∧ w.frozen? ⟨b, 0, none⟩ = false := by
  have h1 := (nvar_rows h).2.2.1
  exact ⟨⟨n.cs[0], by rw [h1.cellAt 0 (by omega), ints_at _ 0 hp]⟩, h1.frozenAt 0⟩

theorem nvar_key0_small {n : Nd} (h : SmallN n) (t : ByteArray) (ht : t.size ≤ 25) : SmallN ⟨n.lf, n.ks.set 0 t, n.vs, n.cs⟩ :=
  ⟨by rw [List.length_set]; exact h.1, h.2.1, h.2.2.1, fun s hs => by rcases List.mem_or_eq_of_mem_set hs with hs | rfl; exact h.2.2.2.1 s hs; exact ht, h.2.2.2.2⟩

theorem nvar_val0_small {n : Nd} (h : SmallN n) (t : ByteArray) (ht : t.size ≤ 25) : SmallN ⟨n.lf, n.ks, n.vs.set 0 t, n.cs⟩ :=
  ⟨h.1, by show (n.vs.set 0 t).length ≤ 5; rw [List.length_set]; exact h.2.1, h.2.2.1, h.2.2.2.1, fun s hs => by rcases List.mem_or_eq_of_mem_set hs with hs | rfl; exact h.2.2.2.2 s hs; exact ht⟩

theorem below_cell {w : World} {b B j : Nat} {u : Value} (h : B ≤ b) (_hB : B ≤ w.heap.size) : Below B w (w.setCell ⟨b, j, none⟩ u) := (Below.refl B w).setCell h _

theorem drawn_belowN {w w' : World} {g B : Nat} {a : Option Addr} {len cap : Nat} (hc : CurAt w g a len cap) (hd : CodeIn w B a len) (hB : B ≤ g) (hb : Below w.heap.size w w') : Drawn w w' g B a len cap := by
  have hg := cur_lt hc
  have hgr : w.grownBy w' (some g) := ⟨hb.os, hb.tape, hb.output, hb.size, fun k hk _ => hb.block k hk⟩
  refine ⟨?_, hgr, code_grown hd hgr hB hg⟩
  obtain ⟨i, x, hi, hblk⟩ := hc
  exact ⟨i, x, hi, (hb.block g hg).trans hblk⟩

theorem drawn_drewN {w w' : World} {g B : Nat} {a : Option Addr} {len cap : Nat} (h : Drawn w.drew w' g B a len cap) : Drawn w w' g B a len cap := ⟨h.1, ⟨h.2.1.os, h.2.1.tape, h.2.1.output, h.2.1.size, h.2.1.block⟩, h.2.2⟩

def AnPost (w : World) (g B : Nat) (a : Option Addr) (len cap : Nat) (e : Ending) (w' : World) : Prop := ∃ n v, e = .returned v ∧ SmallN n ∧ NodeOwn w' w.heap.size v n.lf n.ks n.vs n.cs ∧ Drawn w w' g B a len cap

set_option maxHeartbeats 16000000 in
set_option maxRecDepth 100000 in
theorem l05Any_any (g B : Nat) (a : Option Addr) (len cap : Nat) (w : World) (hc : CurAt w g a len cap) (hd : CodeIn w B a len) (hB : B ≤ g) :
    Calls Tryd.prog 58 #[.pointer (some ⟨g, 0, none⟩)] w fun e w' => AnPost w g B a len cap e w' := by
  obtain ⟨i0, HI1, HI2, HI3, HI4⟩ := info_parts Tryd.infoStrR
  have HGl : Hid (g < w.heap.size) := hide (cur_lt hc)
  obtain ⟨wa, hwa⟩ : ∃ wa, wa = w.alloc (Obj.cells #[.bool false, .slice none 0 0, .slice none 0 0, .slice none 0 0] 27) := ⟨_, rfl⟩
  have hba : Below w.heap.size w wa := by rw [hwa]; exact (Below.refl _ _).alloc (Nat.le_refl _) _
  have HDa := hide (drawn_belowN hc hd hB hba)
  have HVa : Hid (wa.heap[w.heap.size]? = some (.cells #[.bool false, .slice none 0 0, .slice none 0 0, .slice none 0 0] 27 (0, 0))) := hide (by rw [hwa]; exact heap_alloc_new w _)
  have HSa : Hid (wa.heap.size = w.heap.size + 1) := hide (by rw [hwa]; simp)
  have HGa : Hid (g < wa.heap.size) := hide (by have h1 := HGl.out; have h2 := HSa.out; omega)
  have HNo := hide (l05Node_any g B a len cap wa HDa.out.1 HDa.out.2.2 hB)
  have HB12 := hide (fun wx h h' => l01Below_any g B a len cap 12 (by omega) (by omega) wx h h' hB)
  have HBe2 := hide (fun wx h h' => l01Below_any g B a len cap 2 (by omega) (by omega) wx h h' hB)
  have HLo : Hid (∀ (k : Nat) (wx : World), k < 2 → Calls Tryd.prog 112 #[.int .i64 (24 + (k : Int)), .int .u8 66] wx fun e w' => ∃ t : ByteArray, t.size = 24 + k ∧ e = .returned (.string t) ∧ Below wx.heap.size wx w') := hide (fun k wx hk => by
    have h := l01Long_any (24 + k) 66 (by omega) (by omega) wx
    rw [show ((24 + k : Nat) : Int) = 24 + (k : Int) from by omega] at h
    exact h)
  clear hc hd hba
  go_enter Tryd.func58, Tryd.ntmps58
  go_wp2_with fail
  rw [← hwa]
  clear hwa
  refine HNo.out.mono ?_
  rintro e w1 ⟨n, v, rfl, hn, hown, hd1⟩
  obtain ⟨v1, v2, v3, rfl, h1, h2, h3, h4⟩ := hown
  obtain ⟨a1, c1, rfl⟩ := own_slice h1
  obtain ⟨a2, c2, rfl⟩ := own_slice h2
  obtain ⟨a3, c3, rfl⟩ := own_slice h3
  obtain ⟨wn, hwn⟩ : ∃ wn, wn = w1.alloc (.cells #[.bool n.lf, .slice a1 n.ks.length c1, .slice a2 n.vs.length c2, .slice a3 n.cs.length c3] 27 (0, 0)) := ⟨_, rfl⟩
  have hbn : Below w1.heap.size w1 wn := by rw [hwn]; exact (Below.refl _ _).alloc (Nat.le_refl _) _
  obtain ⟨gn, hgn⟩ : ∃ gn, gn = w1.heap.size := ⟨_, rfl⟩
  have HNn : Hid (NVar wn gn wa.heap.size n (.slice a1 n.ks.length c1) (.slice a2 n.vs.length c2) (.slice a3 n.cs.length c3)) := hide (nvar_mk (by rw [hwn, hgn]; exact heap_alloc_new w1 _) (own_stays h1 hbn) (own_stays h2 hbn) (own_stays h3 hbn) h4)
  have HDn : Hid (Drawn wa wn g B a len cap) := hide (drawn_low hd1 hbn (by have := hd1.2.1.size; omega) (cur_lt hd1.1) hB)
  have HLw : Hid (wa.heap.size ≤ gn) := hide (by rw [hgn]; exact hd1.2.1.size)
  have HGn : Hid (gn ≠ g) := hide (by rw [hgn]; have := cur_lt hd1.1; omega)
  have HSm0 := hide (small_drawn hn).1
  have HK4 := hide (small_drawn hn).2
  have HK1 : Hid (1 ≤ n.ks.length) := hide hn.1
  have HGm := hide hgn
  clear h1 h2 h3 h4 hbn hd1 hn
  go_wp2_with fail
  rw [← HGm.out]
  try rw [← hwn]
  clear hwn hgn
  refine (HB12.out _ HDn.out.1 HDn.out.2.2).mono ?_
  rintro e w2 ⟨x, hx, rfl, hd2⟩
  have HN2 := hide (nvar_grown HNn.out hd2.2.1 HGn.out HGa.out)
  have HD2 := hide (drawn_trans HDn.out hd2)
  have c1' := (cell_at HN2.out.1 1).1
  have c2' := (cell_at HN2.out.1 2).1
  have c3' := (cell_at HN2.out.1 3).1
  have c0' := (cell_at HN2.out.1 0).1
  have f0' := (cell_at HN2.out.1 0).2
  clear hd2 HNn HDn
  by_cases x0 : x = 0
  · subst x0
    have HSm : Hid (SmallN ⟨!n.lf, n.ks, n.vs, n.cs⟩) := hide ⟨HSm0.out.1, HSm0.out.2.1, HSm0.out.2.2.1, HSm0.out.2.2.2.1, HSm0.out.2.2.2.2⟩
    have HN := hide (nvar_flag HN2.out (!n.lf))
    have HDr := hide (drawn_low HD2.out (below_cell (w := w2) (b := gn) (j := 0) (u := .bool (!n.lf)) (B := wa.heap.size) HLw.out (by have := HD2.out.2.1.size; omega)) (Nat.le_refl _) HGa.out hB)
    obtain ⟨nf, hnf⟩ : ∃ nf, nf = !n.lf := ⟨_, rfl⟩
    rw [← hnf] at HN HDr HSm
    have HNf := hide hnf
    obtain ⟨w7, hw7⟩ : ∃ w7, w7 = w2.setCell ⟨gn, 0, none⟩ (.bool nf) := ⟨_, rfl⟩
    rw [← hw7] at HN HDr
    have HW7 := hide hw7
    have hv6 : w7.heap[w.heap.size]? = _ := (HDr.out.2.1.block w.heap.size (by rw [HSa.out]; omega) (fun e => by injection e with e; have := HGl.out; omega)).trans HVa.out
    have q0 : w7.cell? ⟨gn, 0, none⟩ = some (.bool nf) := (cell_at HN.out.1 0).1
    have q1 : w7.cell? ⟨gn, 1, none⟩ = some (.slice a1 n.ks.length c1) := (cell_at HN.out.1 1).1
    have q2 : w7.cell? ⟨gn, 2, none⟩ = some (.slice a2 n.vs.length c2) := (cell_at HN.out.1 2).1
    have q3 : w7.cell? ⟨gn, 3, none⟩ = some (.slice a3 n.cs.length c3) := (cell_at HN.out.1 3).1
    have o0 : w7.cell? ⟨w.heap.size, 0, none⟩ = some (.bool false) := (cell_at hv6 0).1
    have o1 : w7.cell? ⟨w.heap.size, 1, none⟩ = some (.slice none 0 0) := (cell_at hv6 1).1
    have o2 : w7.cell? ⟨w.heap.size, 2, none⟩ = some (.slice none 0 0) := (cell_at hv6 2).1
    have o3 : w7.cell? ⟨w.heap.size, 3, none⟩ = some (.slice none 0 0) := (cell_at hv6 3).1
    have z0 := (cell_at hv6 0).2
    have z1 := (cell_at hv6 1).2
    have z2 := (cell_at hv6 2).2
    have z3 := (cell_at hv6 3).2
    have HRt := hide (ret_node hv6 HN.out.2 (by rw [HSa.out]; omega))
    clear hv6
    rw [hw7] at q0 q1 q2 q3 o0 o1 o2 o3 z0 z1 z2 z3
    rw [hnf] at q0 q1 q2 q3 o0 o1 o2 o3 z0 z1 z2 z3
    clear hw7 hnf
    go_wp2_with fail
    rw [← HNf.out]
    rw [← HW7.out]
    have hrt := HRt.out
    have t0 := (cell_at hrt.1 0).1
    have t1 := (cell_at hrt.1 1).1
    have t2 := (cell_at hrt.1 2).1
    have t3 := (cell_at hrt.1 3).1
    refine bodyPost_ret (v := .agg #[.bool nf, .slice a1 n.ks.length c1, .slice a2 n.vs.length c2, .slice a3 n.cs.length c3]) (by simp [results, Tryd.results58, go_sem, t0, t1, t2, t3]) rfl ⟨⟨nf, n.ks, n.vs, n.cs⟩, _, rfl, HSm.out, nodeOwn_down hrt.2.1 (by rw [HSa.out]; omega), drawn_low (drawn_trans HDa.out HDr.out) hrt.2.2 (Nat.le_refl _) HGl.out hB⟩
  by_cases x1 : x = 1
  · subst x1
    obtain ⟨b0, hb0⟩ : ∃ b0, a1 = some ⟨b0, 0, none⟩ := by
      rcases (nvar_rows HN2.out).1.2 with ⟨e, h0⟩ | ⟨b, c, cur, e, _⟩
      · have := HK1.out; omega
      · injection e with e1; exact ⟨b, e1⟩
    subst hb0
    have HPos : Hid (0 < n.ks.length) := hide (by have := HK1.out; omega)
    have HRb : Hid (wa.heap.size ≤ b0) := hide ((nvar_rows HN2.out).1.lt b0 rfl).1
    have hi1 : (0 : Int) < (n.ks.length : Int) := by have := HK1.out; omega
    go_wp2_with fail
    go_region_with (first | (go_at_call 112; refine (HLo.out k _ hk).mono ?_; rintro e w6 ⟨t, ht, rfl, hb6⟩; have HN6 := hide (nvar_below HN5.out hb6); have HD6 := hide (drawn_low HD5.out hb6 (by have := HD5.out.2.1.size; omega) (by have := cur_lt HD5.out.1; omega) hB); have b6 : w6.cell? ⟨gn, 1, none⟩ = some (.slice (some ⟨b0, 0, none⟩) n.ks.length c1) := (cell_at HN6.out.1 1).1; obtain ⟨⟨ts, tc⟩, tf⟩ := nvar_key0_cell HN6.out HPos.out) | (go_at_call 81; refine (HBe2.out _ ?_ ?_).mono ?_; exact HD2.out.1; exact HD2.out.2.2; rintro e w5 ⟨k, hk, rfl, h5⟩; have HD5 := hide (drawn_trans (drawn_dr HD2.out) h5); have HN5 := hide (nvar_grown (show NVar w2.drew gn _ _ _ _ _ from HN2.out) h5.2.1 HGn.out HGa.out); have b5 : w5.cell? ⟨gn, 1, none⟩ = some (.slice (some ⟨b0, 0, none⟩) n.ks.length c1) := (cell_at HN5.out.1 1).1; have hw : IntKind.i64.wrap (24 + (k : Int)) = 24 + (k : Int) := IntWalk.i64_in _ ⟨by omega, by omega⟩))
    all_goals
      have HSm : Hid (SmallN ⟨n.lf, n.ks.set 0 t, n.vs, n.cs⟩) := hide (nvar_key0_small HSm0.out t (by omega))
      have HN := hide (nvar_key0 HN6.out t)
      have HDr := hide (drawn_low HD6.out (below_cell (w := w6) (b := b0) (j := 0) (u := .string t) (B := wa.heap.size) HRb.out (by have := HD6.out.2.1.size; omega)) (Nat.le_refl _) HGa.out hB)
      obtain ⟨w7, hw7⟩ : ∃ w7, w7 = w6.setCell ⟨b0, 0, none⟩ (.string t) := ⟨_, rfl⟩
      rw [← hw7] at HN HDr
      try rw [← hw7]
      clear hw7
      have hv6 : w7.heap[w.heap.size]? = _ := (HDr.out.2.1.block w.heap.size (by rw [HSa.out]; omega) (fun e => by injection e with e; have := HGl.out; omega)).trans HVa.out
      have q0 : w7.cell? ⟨gn, 0, none⟩ = some (.bool n.lf) := (cell_at HN.out.1 0).1
      have q1 : w7.cell? ⟨gn, 1, none⟩ = some (.slice (some ⟨b0, 0, none⟩) n.ks.length c1) := (cell_at HN.out.1 1).1
      have q2 : w7.cell? ⟨gn, 2, none⟩ = some (.slice a2 n.vs.length c2) := (cell_at HN.out.1 2).1
      have q3 : w7.cell? ⟨gn, 3, none⟩ = some (.slice a3 n.cs.length c3) := (cell_at HN.out.1 3).1
      have o0 : w7.cell? ⟨w.heap.size, 0, none⟩ = some (.bool false) := (cell_at hv6 0).1
      have o1 : w7.cell? ⟨w.heap.size, 1, none⟩ = some (.slice none 0 0) := (cell_at hv6 1).1
      have o2 : w7.cell? ⟨w.heap.size, 2, none⟩ = some (.slice none 0 0) := (cell_at hv6 2).1
      have o3 : w7.cell? ⟨w.heap.size, 3, none⟩ = some (.slice none 0 0) := (cell_at hv6 3).1
      have z0 := (cell_at hv6 0).2
      have z1 := (cell_at hv6 1).2
      have z2 := (cell_at hv6 2).2
      have z3 := (cell_at hv6 3).2
      have HRt := hide (ret_node hv6 HN.out.2 (by rw [HSa.out]; omega))
      clear hv6
      go_wp2_with fail
      have hrt := HRt.out
      have t0 := (cell_at hrt.1 0).1
      have t1 := (cell_at hrt.1 1).1
      have t2 := (cell_at hrt.1 2).1
      have t3 := (cell_at hrt.1 3).1
      refine bodyPost_ret (v := .agg #[.bool n.lf, .slice (some ⟨b0, 0, none⟩) n.ks.length c1, .slice a2 n.vs.length c2, .slice a3 n.cs.length c3]) (by simp [results, Tryd.results58, go_sem, t0, t1, t2, t3]) rfl ⟨⟨n.lf, n.ks.set 0 t, n.vs, n.cs⟩, _, rfl, HSm.out, nodeOwn_down hrt.2.1 (by rw [HSa.out]; omega), drawn_low (drawn_trans HDa.out HDr.out) hrt.2.2 (Nat.le_refl _) HGl.out hB⟩
  by_cases x2 : x = 2
  · subst x2
    by_cases hk0 : n.cs.length = 0
    · rw [hk0] at HN2
      clear hk0
      have HN := HN2
      have HDr := HD2
      have HSm := HSm0
      clear c0' c1' c2' c3' f0'
      have hv6 : w2.heap[w.heap.size]? = _ := (HDr.out.2.1.block w.heap.size (by rw [HSa.out]; omega) (fun e => by injection e with e; have := HGl.out; omega)).trans HVa.out
      have q0 : w2.cell? ⟨gn, 0, none⟩ = some (.bool n.lf) := (cell_at HN.out.1 0).1
      have q1 : w2.cell? ⟨gn, 1, none⟩ = some (.slice a1 n.ks.length c1) := (cell_at HN.out.1 1).1
      have q2 : w2.cell? ⟨gn, 2, none⟩ = some (.slice a2 n.vs.length c2) := (cell_at HN.out.1 2).1
      have q3 : w2.cell? ⟨gn, 3, none⟩ = some (.slice a3 0 c3) := (cell_at HN.out.1 3).1
      have o0 : w2.cell? ⟨w.heap.size, 0, none⟩ = some (.bool false) := (cell_at hv6 0).1
      have o1 : w2.cell? ⟨w.heap.size, 1, none⟩ = some (.slice none 0 0) := (cell_at hv6 1).1
      have o2 : w2.cell? ⟨w.heap.size, 2, none⟩ = some (.slice none 0 0) := (cell_at hv6 2).1
      have o3 : w2.cell? ⟨w.heap.size, 3, none⟩ = some (.slice none 0 0) := (cell_at hv6 3).1
      have z0 := (cell_at hv6 0).2
      have z1 := (cell_at hv6 1).2
      have z2 := (cell_at hv6 2).2
      have z3 := (cell_at hv6 3).2
      have HRt := hide (ret_node hv6 HN.out.2 (by rw [HSa.out]; omega))
      clear hv6
      go_wp2_with fail
      have hrt := HRt.out
      have t0 := (cell_at hrt.1 0).1
      have t1 := (cell_at hrt.1 1).1
      have t2 := (cell_at hrt.1 2).1
      have t3 := (cell_at hrt.1 3).1
      refine bodyPost_ret (v := .agg #[.bool n.lf, .slice a1 n.ks.length c1, .slice a2 n.vs.length c2, .slice a3 0 c3]) (by simp [results, Tryd.results58, go_sem, t0, t1, t2, t3]) rfl ⟨n, _, rfl, HSm.out, nodeOwn_down hrt.2.1 (by rw [HSa.out]; omega), drawn_low (drawn_trans HDa.out HDr.out) hrt.2.2 (Nat.le_refl _) HGl.out hB⟩
    · obtain ⟨b0, hb0⟩ : ∃ b0, a3 = some ⟨b0, 0, none⟩ := by
        rcases (nvar_rows HN2.out).2.2.1.2 with ⟨e, h0⟩ | ⟨b, c, cur, e, _⟩
        · omega
        · injection e with e1; exact ⟨b, e1⟩
      subst hb0
      have hPos : 0 < n.cs.length := by omega
      have HPos := hide hPos
      have HRb : Hid (wa.heap.size ≤ b0) := hide ((nvar_rows HN2.out).2.2.1.lt b0 rfl).1
      have hi1 : (0 : Int) < (n.cs.length : Int) := by omega
      have d1 : decide ((0 : Int) < (n.cs.length : Int)) = true := decide_eq_true hi1
      have HPi : Hid (Calls Tryd.prog 113 #[.pointer (some ⟨g, 0, none⟩), .slice (some ⟨w2.heap.size, 0, none⟩) 5 5] (w2.alloc (Obj.cells #[.int .i64 0, .int .i64 1, .int .i64 2, .int .i64 39, .int .i64 40] 3)).drew fun e w' => ∃ z : Int, z ∈ ([0, 1, 2, 39, 40] : List Int) ∧ e = .returned (.int .i64 z) ∧ Drawn w2.drew w' g B a len cap) := hide (pick_ints g B a len cap [0, 1, 2, 39, 40] 5 rfl (by omega) (by omega) w2.drew w2.heap.size rfl HD2.out.1 HD2.out.2.2 hB _ rfl)
      have cm := fun o => (cell_at (nvar_below HN2.out ((Below.refl _ _).alloc (Nat.le_refl _) o)).1 3).1
      clear hk0 hPos
      go_wp2_with fail
      go_region_with (go_at_call 113; refine HPi.out.mono ?_; rintro e w6 ⟨z, hz, rfl, h6⟩; have HD6 := hide (drawn_trans HD2.out (drawn_drewN h6)); have HN6 := hide (nvar_grown HN2.out (drawn_drewN h6).2.1 HGn.out HGa.out); have b6 : w6.cell? ⟨gn, 3, none⟩ = some (.slice (some ⟨b0, 0, none⟩) n.cs.length c3) := (cell_at HN6.out.1 3).1; obtain ⟨⟨ts, tc⟩, tf⟩ := nvar_kid0_cell HN6.out HPos.out)
      all_goals
        have HSm : Hid (SmallN ⟨n.lf, n.ks, n.vs, n.cs.set 0 z⟩) := hide ⟨HSm0.out.1, HSm0.out.2.1, by show (n.cs.set 0 z).length ≤ 5; rw [List.length_set]; exact HSm0.out.2.2.1, HSm0.out.2.2.2.1, HSm0.out.2.2.2.2⟩
        have HN := hide (nvar_kid0 HN6.out z)
        have HDr := hide (drawn_low HD6.out (below_cell (w := w6) (b := b0) (j := 0) (u := .int .i64 z) (B := wa.heap.size) HRb.out (by have := HD6.out.2.1.size; omega)) (Nat.le_refl _) HGa.out hB)
        obtain ⟨w7, hw7⟩ : ∃ w7, w7 = w6.setCell ⟨b0, 0, none⟩ (.int .i64 z) := ⟨_, rfl⟩
        rw [← hw7] at HN HDr
        try rw [← hw7]
        clear hw7
        have hv6 : w7.heap[w.heap.size]? = _ := (HDr.out.2.1.block w.heap.size (by rw [HSa.out]; omega) (fun e => by injection e with e; have := HGl.out; omega)).trans HVa.out
        have q0 : w7.cell? ⟨gn, 0, none⟩ = some (.bool n.lf) := (cell_at HN.out.1 0).1
        have q1 : w7.cell? ⟨gn, 1, none⟩ = some (.slice a1 n.ks.length c1) := (cell_at HN.out.1 1).1
        have q2 : w7.cell? ⟨gn, 2, none⟩ = some (.slice a2 n.vs.length c2) := (cell_at HN.out.1 2).1
        have q3 : w7.cell? ⟨gn, 3, none⟩ = some (.slice (some ⟨b0, 0, none⟩) n.cs.length c3) := (cell_at HN.out.1 3).1
        have o0 : w7.cell? ⟨w.heap.size, 0, none⟩ = some (.bool false) := (cell_at hv6 0).1
        have o1 : w7.cell? ⟨w.heap.size, 1, none⟩ = some (.slice none 0 0) := (cell_at hv6 1).1
        have o2 : w7.cell? ⟨w.heap.size, 2, none⟩ = some (.slice none 0 0) := (cell_at hv6 2).1
        have o3 : w7.cell? ⟨w.heap.size, 3, none⟩ = some (.slice none 0 0) := (cell_at hv6 3).1
        have z0 := (cell_at hv6 0).2
        have z1 := (cell_at hv6 1).2
        have z2 := (cell_at hv6 2).2
        have z3 := (cell_at hv6 3).2
        have HRt := hide (ret_node hv6 HN.out.2 (by rw [HSa.out]; omega))
        clear hv6
        go_wp2_with fail
        have hrt := HRt.out
        have t0 := (cell_at hrt.1 0).1
        have t1 := (cell_at hrt.1 1).1
        have t2 := (cell_at hrt.1 2).1
        have t3 := (cell_at hrt.1 3).1
        refine bodyPost_ret (v := .agg #[.bool n.lf, .slice a1 n.ks.length c1, .slice a2 n.vs.length c2, .slice (some ⟨b0, 0, none⟩) n.cs.length c3]) (by simp [results, Tryd.results58, go_sem, t0, t1, t2, t3]) rfl ⟨⟨n.lf, n.ks, n.vs, n.cs.set 0 z⟩, _, rfl, HSm.out, nodeOwn_down hrt.2.1 (by rw [HSa.out]; omega), drawn_low (drawn_trans HDa.out HDr.out) hrt.2.2 (Nat.le_refl _) HGl.out hB⟩
  by_cases x3 : x = 3
  · subst x3
    have hrow := (nvar_rows HN2.out).1
    have hsz : n.ks.length ≤ 4 := HK4.out
    have hB2 : wa.heap.size ≤ w2.heap.size := HD2.out.2.1.size
    go_wp2_with (at_builtin; refine wpList_append_lies _ rfl _ _ 24 rfl wa.heap.size 9 i0 (.string ⟨#[]⟩) 1 16 Tryd.underlying24 HI1 HI2 HI3 HI4 rfl (by decide) (.slice a1 n.ks.length c1) n.ks.length (strs n.ks) rfl (hrow.alloc _) ⟨w2.heap.size, 0, none⟩ 1 1 [.string ⟨#[122, 122]⟩] rfl rfl (one_new w2 _ rfl _ _) ?c2 (by decide) ?c3 ?c4 ?c5 _ rfl ?_)
    case c2 => intro u hu; simp at hu; subst hu; rfl
    case c3 => unfold maxLen; omega
    case c4 => omega
    case c5 => simp; omega
    intro b4 d4 w4 hown4 hg4 hb4 hl4
    have hst := nvar_key HN2.out hown4 hg4 (hb4.imp id (fun e => by rw [e]; simp))
    have cc4 := hst.2.1
    have cf4 := hst.2.2
    have HSm : Hid (SmallN ⟨n.lf, n.ks ++ [⟨#[122, 122]⟩], n.vs, n.cs⟩) := hide ⟨by show (n.ks ++ [_]).length ≤ 5; simp; omega, HSm0.out.2.1, HSm0.out.2.2.1, fun s hs => by rcases List.mem_append.1 hs with hs | hs; exact HSm0.out.2.2.2.1 s hs; rw [List.mem_singleton] at hs; subst hs; decide, HSm0.out.2.2.2.2⟩
    have HN := hide hst.1
    have hbl : Below wa.heap.size w2 w4 := ((Below.refl wa.heap.size w2).alloc hB2 _).grown hg4 (by simp; omega) (fun k hk => (hrow.lt k hk).1)
    have HDr := hide (drawn_low HD2.out (hbl.trans (below_cell (w := w4) (b := gn) (j := 1) (u := .slice (some ⟨b4, 0, none⟩) (n.ks.length + 1) d4) (B := wa.heap.size) HLw.out (by have := hbl.size; omega))) (Nat.le_refl _) HGa.out hB)
    obtain ⟨w7, hw7⟩ : ∃ w7, w7 = w4.setCell ⟨gn, 1, none⟩ (.slice (some ⟨b4, 0, none⟩) (n.ks.length + 1) d4) := ⟨_, rfl⟩
    rw [← hw7] at HN HDr
    have HW7 := hide hw7
    clear hst hown4 hg4 hb4 hl4 hrow hbl
    have hv6 : w7.heap[w.heap.size]? = _ := (HDr.out.2.1.block w.heap.size (by rw [HSa.out]; omega) (fun e => by injection e with e; have := HGl.out; omega)).trans HVa.out
    have q0 : w7.cell? ⟨gn, 0, none⟩ = some (.bool n.lf) := (cell_at HN.out.1 0).1
    have q1 : w7.cell? ⟨gn, 1, none⟩ = some (.slice (some ⟨b4, 0, none⟩) (n.ks.length + 1) d4) := (cell_at HN.out.1 1).1
    have q2 : w7.cell? ⟨gn, 2, none⟩ = some (.slice a2 n.vs.length c2) := (cell_at HN.out.1 2).1
    have q3 : w7.cell? ⟨gn, 3, none⟩ = some (.slice a3 n.cs.length c3) := (cell_at HN.out.1 3).1
    have o0 : w7.cell? ⟨w.heap.size, 0, none⟩ = some (.bool false) := (cell_at hv6 0).1
    have o1 : w7.cell? ⟨w.heap.size, 1, none⟩ = some (.slice none 0 0) := (cell_at hv6 1).1
    have o2 : w7.cell? ⟨w.heap.size, 2, none⟩ = some (.slice none 0 0) := (cell_at hv6 2).1
    have o3 : w7.cell? ⟨w.heap.size, 3, none⟩ = some (.slice none 0 0) := (cell_at hv6 3).1
    have z0 := (cell_at hv6 0).2
    have z1 := (cell_at hv6 1).2
    have z2 := (cell_at hv6 2).2
    have z3 := (cell_at hv6 3).2
    have HRt := hide (ret_node hv6 HN.out.2 (by rw [HSa.out]; omega))
    clear hv6
    rw [hw7] at q0 q1 q2 q3 o0 o1 o2 o3 z0 z1 z2 z3
    clear hw7
    go_wp2_with fail
    rw [← HW7.out]
    have hrt := HRt.out
    have t0 := (cell_at hrt.1 0).1
    have t1 := (cell_at hrt.1 1).1
    have t2 := (cell_at hrt.1 2).1
    have t3 := (cell_at hrt.1 3).1
    refine bodyPost_ret (v := .agg #[.bool n.lf, .slice (some ⟨b4, 0, none⟩) (n.ks.length + 1) d4, .slice a2 n.vs.length c2, .slice a3 n.cs.length c3]) (by simp [results, Tryd.results58, go_sem, t0, t1, t2, t3]) rfl ⟨⟨n.lf, n.ks ++ [⟨#[122, 122]⟩], n.vs, n.cs⟩, _, rfl, HSm.out, nodeOwn_down hrt.2.1 (by rw [HSa.out]; omega), drawn_low (drawn_trans HDa.out HDr.out) hrt.2.2 (Nat.le_refl _) HGl.out hB⟩
  by_cases x4 : x = 4
  · subst x4
    by_cases hk0 : n.vs.length = 0
    · rw [hk0] at HN2
      clear hk0
      have HN := HN2
      have HDr := HD2
      have HSm := HSm0
      clear c0' c1' c2' c3' f0'
      have hv6 : w2.heap[w.heap.size]? = _ := (HDr.out.2.1.block w.heap.size (by rw [HSa.out]; omega) (fun e => by injection e with e; have := HGl.out; omega)).trans HVa.out
      have q0 : w2.cell? ⟨gn, 0, none⟩ = some (.bool n.lf) := (cell_at HN.out.1 0).1
      have q1 : w2.cell? ⟨gn, 1, none⟩ = some (.slice a1 n.ks.length c1) := (cell_at HN.out.1 1).1
      have q2 : w2.cell? ⟨gn, 2, none⟩ = some (.slice a2 0 c2) := (cell_at HN.out.1 2).1
      have q3 : w2.cell? ⟨gn, 3, none⟩ = some (.slice a3 n.cs.length c3) := (cell_at HN.out.1 3).1
      have o0 : w2.cell? ⟨w.heap.size, 0, none⟩ = some (.bool false) := (cell_at hv6 0).1
      have o1 : w2.cell? ⟨w.heap.size, 1, none⟩ = some (.slice none 0 0) := (cell_at hv6 1).1
      have o2 : w2.cell? ⟨w.heap.size, 2, none⟩ = some (.slice none 0 0) := (cell_at hv6 2).1
      have o3 : w2.cell? ⟨w.heap.size, 3, none⟩ = some (.slice none 0 0) := (cell_at hv6 3).1
      have z0 := (cell_at hv6 0).2
      have z1 := (cell_at hv6 1).2
      have z2 := (cell_at hv6 2).2
      have z3 := (cell_at hv6 3).2
      have HRt := hide (ret_node hv6 HN.out.2 (by rw [HSa.out]; omega))
      clear hv6
      go_wp2_with fail
      have hrt := HRt.out
      have t0 := (cell_at hrt.1 0).1
      have t1 := (cell_at hrt.1 1).1
      have t2 := (cell_at hrt.1 2).1
      have t3 := (cell_at hrt.1 3).1
      refine bodyPost_ret (v := .agg #[.bool n.lf, .slice a1 n.ks.length c1, .slice a2 0 c2, .slice a3 n.cs.length c3]) (by simp [results, Tryd.results58, go_sem, t0, t1, t2, t3]) rfl ⟨n, _, rfl, HSm.out, nodeOwn_down hrt.2.1 (by rw [HSa.out]; omega), drawn_low (drawn_trans HDa.out HDr.out) hrt.2.2 (Nat.le_refl _) HGl.out hB⟩
    · obtain ⟨b0, hb0⟩ : ∃ b0, a2 = some ⟨b0, 0, none⟩ := by
        rcases (nvar_rows HN2.out).2.1.2 with ⟨e, h0⟩ | ⟨b, c, cur, e, _⟩
        · omega
        · injection e with e1; exact ⟨b, e1⟩
      subst hb0
      have HPos : Hid (0 < n.vs.length) := hide (by omega)
      have HRb : Hid (wa.heap.size ≤ b0) := hide ((nvar_rows HN2.out).2.1.lt b0 rfl).1
      have hi1 : (0 : Int) < (n.vs.length : Int) := by omega
      have d1 : decide ((0 : Int) < (n.vs.length : Int)) = true := decide_eq_true hi1
      clear hk0
      go_wp2_with fail
      go_region_with (first | (go_at_call 112; refine (HLo.out k _ hk).mono ?_; rintro e w6 ⟨t, ht, rfl, hb6⟩; have HN6 := hide (nvar_below HN5.out hb6); have HD6 := hide (drawn_low HD5.out hb6 (by have := HD5.out.2.1.size; omega) (by have := cur_lt HD5.out.1; omega) hB); have b6 : w6.cell? ⟨gn, 2, none⟩ = some (.slice (some ⟨b0, 0, none⟩) n.vs.length c2) := (cell_at HN6.out.1 2).1; obtain ⟨⟨ts, tc⟩, tf⟩ := nvar_val0_cell HN6.out HPos.out) | (go_at_call 81; refine (HBe2.out _ ?_ ?_).mono ?_; exact HD2.out.1; exact HD2.out.2.2; rintro e w5 ⟨k, hk, rfl, h5⟩; have HD5 := hide (drawn_trans (drawn_dr HD2.out) h5); have HN5 := hide (nvar_grown (show NVar w2.drew gn _ _ _ _ _ from HN2.out) h5.2.1 HGn.out HGa.out); have b5 : w5.cell? ⟨gn, 2, none⟩ = some (.slice (some ⟨b0, 0, none⟩) n.vs.length c2) := (cell_at HN5.out.1 2).1; have hw : IntKind.i64.wrap (24 + (k : Int)) = 24 + (k : Int) := IntWalk.i64_in _ ⟨by omega, by omega⟩))
      all_goals
        have HSm : Hid (SmallN ⟨n.lf, n.ks, n.vs.set 0 t, n.cs⟩) := hide (nvar_val0_small HSm0.out t (by omega))
        have HN := hide (nvar_val0 HN6.out t)
        have HDr := hide (drawn_low HD6.out (below_cell (w := w6) (b := b0) (j := 0) (u := .string t) (B := wa.heap.size) HRb.out (by have := HD6.out.2.1.size; omega)) (Nat.le_refl _) HGa.out hB)
        obtain ⟨w7, hw7⟩ : ∃ w7, w7 = w6.setCell ⟨b0, 0, none⟩ (.string t) := ⟨_, rfl⟩
        rw [← hw7] at HN HDr
        try rw [← hw7]
        clear hw7
        have hv6 : w7.heap[w.heap.size]? = _ := (HDr.out.2.1.block w.heap.size (by rw [HSa.out]; omega) (fun e => by injection e with e; have := HGl.out; omega)).trans HVa.out
        have q0 : w7.cell? ⟨gn, 0, none⟩ = some (.bool n.lf) := (cell_at HN.out.1 0).1
        have q1 : w7.cell? ⟨gn, 1, none⟩ = some (.slice a1 n.ks.length c1) := (cell_at HN.out.1 1).1
        have q2 : w7.cell? ⟨gn, 2, none⟩ = some (.slice (some ⟨b0, 0, none⟩) n.vs.length c2) := (cell_at HN.out.1 2).1
        have q3 : w7.cell? ⟨gn, 3, none⟩ = some (.slice a3 n.cs.length c3) := (cell_at HN.out.1 3).1
        have o0 : w7.cell? ⟨w.heap.size, 0, none⟩ = some (.bool false) := (cell_at hv6 0).1
        have o1 : w7.cell? ⟨w.heap.size, 1, none⟩ = some (.slice none 0 0) := (cell_at hv6 1).1
        have o2 : w7.cell? ⟨w.heap.size, 2, none⟩ = some (.slice none 0 0) := (cell_at hv6 2).1
        have o3 : w7.cell? ⟨w.heap.size, 3, none⟩ = some (.slice none 0 0) := (cell_at hv6 3).1
        have z0 := (cell_at hv6 0).2
        have z1 := (cell_at hv6 1).2
        have z2 := (cell_at hv6 2).2
        have z3 := (cell_at hv6 3).2
        have HRt := hide (ret_node hv6 HN.out.2 (by rw [HSa.out]; omega))
        clear hv6
        go_wp2_with fail
        have hrt := HRt.out
        have t0 := (cell_at hrt.1 0).1
        have t1 := (cell_at hrt.1 1).1
        have t2 := (cell_at hrt.1 2).1
        have t3 := (cell_at hrt.1 3).1
        refine bodyPost_ret (v := .agg #[.bool n.lf, .slice a1 n.ks.length c1, .slice (some ⟨b0, 0, none⟩) n.vs.length c2, .slice a3 n.cs.length c3]) (by simp [results, Tryd.results58, go_sem, t0, t1, t2, t3]) rfl ⟨⟨n.lf, n.ks, n.vs.set 0 t, n.cs⟩, _, rfl, HSm.out, nodeOwn_down hrt.2.1 (by rw [HSa.out]; omega), drawn_low (drawn_trans HDa.out HDr.out) hrt.2.2 (Nat.le_refl _) HGl.out hB⟩
  have y0 : ((x : Int) == 0) = false := by rw [beq_eq_false_iff_ne]; omega
  have y1 : ((x : Int) == 1) = false := by rw [beq_eq_false_iff_ne]; omega
  have y2 : ((x : Int) == 2) = false := by rw [beq_eq_false_iff_ne]; omega
  have y3 : ((x : Int) == 3) = false := by rw [beq_eq_false_iff_ne]; omega
  have y4 : ((x : Int) == 4) = false := by rw [beq_eq_false_iff_ne]; omega
  have HN := HN2
  have HDr := HD2
  have HSm := HSm0
  clear c0' c1' c2' c3' f0'
  have hv6 : w2.heap[w.heap.size]? = _ := (HDr.out.2.1.block w.heap.size (by rw [HSa.out]; omega) (fun e => by injection e with e; have := HGl.out; omega)).trans HVa.out
  have q0 : w2.cell? ⟨gn, 0, none⟩ = some (.bool n.lf) := (cell_at HN.out.1 0).1
  have q1 : w2.cell? ⟨gn, 1, none⟩ = some (.slice a1 n.ks.length c1) := (cell_at HN.out.1 1).1
  have q2 : w2.cell? ⟨gn, 2, none⟩ = some (.slice a2 n.vs.length c2) := (cell_at HN.out.1 2).1
  have q3 : w2.cell? ⟨gn, 3, none⟩ = some (.slice a3 n.cs.length c3) := (cell_at HN.out.1 3).1
  have o0 : w2.cell? ⟨w.heap.size, 0, none⟩ = some (.bool false) := (cell_at hv6 0).1
  have o1 : w2.cell? ⟨w.heap.size, 1, none⟩ = some (.slice none 0 0) := (cell_at hv6 1).1
  have o2 : w2.cell? ⟨w.heap.size, 2, none⟩ = some (.slice none 0 0) := (cell_at hv6 2).1
  have o3 : w2.cell? ⟨w.heap.size, 3, none⟩ = some (.slice none 0 0) := (cell_at hv6 3).1
  have z0 := (cell_at hv6 0).2
  have z1 := (cell_at hv6 1).2
  have z2 := (cell_at hv6 2).2
  have z3 := (cell_at hv6 3).2
  have HRt := hide (ret_node hv6 HN.out.2 (by rw [HSa.out]; omega))
  clear hv6
  go_wp2_with fail
  have hrt := HRt.out
  have t0 := (cell_at hrt.1 0).1
  have t1 := (cell_at hrt.1 1).1
  have t2 := (cell_at hrt.1 2).1
  have t3 := (cell_at hrt.1 3).1
  refine bodyPost_ret (v := .agg #[.bool n.lf, .slice a1 n.ks.length c1, .slice a2 n.vs.length c2, .slice a3 n.cs.length c3]) (by simp [results, Tryd.results58, go_sem, t0, t1, t2, t3]) rfl ⟨n, _, rfl, HSm.out, nodeOwn_down hrt.2.1 (by rw [HSa.out]; omega), drawn_low (drawn_trans HDa.out HDr.out) hrt.2.2 (Nat.le_refl _) HGl.out hB⟩

end Go.Proofs.YtglcfaibgjiigaaDoor

namespace Go.Proofs.YtglcfaibgjiigaaDoor

theorem vtext_one {n : Nat} (h : n < 128) : (vtext n).length = 1 := by rw [vtext, venc_last 4 n h]; rfl

theorem shortB_size1 (s : ByteArray) (h : s.size < 128) : (shortB s).size = s.size + 1 := by
  rw [shortB, ByteArray.size_append, vtB_size, vtext_one h]
  omega

theorem sideT_size1 {lf : Bool} {ks vs : List ByteArray} {cs : List Int} (h : nodeOkB lf ks vs cs = true) {i : Nat} (hi : i < ks.length) : (sideT lf vs cs i).size ≤ 25 := by
  obtain ⟨h0, h1, h2, h3⟩ := node_yes h
  obtain ⟨c1, c2, c3, c4⟩ := cnt_yes h0
  unfold sideT
  split
  · next e =>
    have hv := h2 i (by have := (c3 e).1; omega)
    rw [shortB_size1 _ (by omega)]
    omega
  · next e =>
    have e' : lf = false := by cases lf; rfl; exact absurd rfl e
    have hk := kid_page (h3 i (by have := (c4 e').1; omega))
    rw [vtB_size, vtext_one (by omega)]
    omega

theorem nodeP_size1 {lf : Bool} {ks vs : List ByteArray} {cs : List Int} (h : nodeOkB lf ks vs cs = true) : ∀ k, k ≤ ks.length → (nodeP lf ks.length ks vs cs k).size ≤ 2 + 50 * k
  | 0, _ => by
    have c2 := (cnt_yes (node_yes h).1).2.1
    rw [nodeP, ByteArray.size_append, headB_size, vtB_size, vtext_one (by omega)]
    omega
  | k + 1, hk => by
    have ih := nodeP_size1 h k (by omega)
    have h1 := sideT_size1 h (show k < ks.length by omega)
    have h3 := key_short ((node_yes h).2.1 k (by omega))
    have h2 := shortB_size1 (ks.getD k ⟨#[]⟩) (by omega)
    rw [nodeP, ByteArray.size_append, ByteArray.size_append]
    omega

theorem nodeT_size {lf : Bool} {ks vs : List ByteArray} {cs : List Int} (h : nodeOkB lf ks vs cs = true) : (nodeT lf ks vs cs).size ≤ 206 := by
  have h1 := nodeP_size1 h ks.length (Nat.le_refl _)
  obtain ⟨c1, c2, -, -⟩ := cnt_yes (node_yes h).1
  have h2 : (nodeT lf ks vs cs).size = (nodeB lf ks vs cs).size + 4 := by
    unfold nodeT
    show (sealL (nodeB lf ks vs cs).data.toList).toArray.size = _
    rw [List.size_toArray, sealL_length]
    rfl
  rw [h2]
  unfold nodeB
  omega

theorem nodeO_size (lf : Bool) (ks vs : List ByteArray) (cs : List Int) : (nodeO lf ks vs cs).size ≤ 206 := by
  unfold nodeO
  split
  · next h => exact nodeT_size h
  · exact Nat.zero_le _

/-- a right node comes back -/
theorem readN_own {n x : Nd} {right : Bool} (h : ReadN (nodeO n.lf n.ks n.vs n.cs) x right) (hg : n.ok = true) : right = true ∧ x = n := by
  have hg' : nodeOkB n.lf n.ks n.vs n.cs = true := hg
  have hm : IsNd (nodeO n.lf n.ks n.vs n.cs) n := ⟨hg, by rw [nodeO, if_pos hg']⟩
  rcases h with ⟨h1, h2, h3⟩ | ⟨h1, h2, h3⟩
  · exact ⟨h1, (h3 n hm).symm⟩
  · exact absurd hm (h3 n)

theorem readN_back {t : ByteArray} {y : Nd} (h : ReadN t y true) : nodeO y.lf y.ks y.vs y.cs = t := by
  rcases h with ⟨-, h2, -⟩ | ⟨h1, -⟩
  · have hg' : nodeOkB y.lf y.ks y.vs y.cs = true := h2.1
    rw [nodeO, if_pos hg']
    exact h2.2
  · cases h1

theorem readN_unsealed {u : ByteArray} {z : Nd} {bent : Bool} (hu : isSealed u.data.toList = false) (h : ReadN u z bent) : bent = false := by
  rcases h with ⟨-, h2, -⟩ | ⟨h1, -⟩
  · exact absurd h2 (isNd_unsealed hu z)
  · exact h1

theorem nodeO_list {n : Nd} (h : n.ok = true) : (nodeO n.lf n.ks n.vs n.cs).data.toList = sealL (nodeB n.lf n.ks n.vs n.cs).data.toList := by
  have hg' : nodeOkB n.lf n.ks n.vs n.cs = true := h
  rw [nodeO, if_pos hg', nodeT_list]
end Go.Proofs.YtglcfaibgjiigaaDoor

namespace Go.Proofs.YtglcfaibgjiigaaDoor
open Go.RowKit

theorem text_unN (t : ByteArray) : ∃ s ok, unOut t = .tuple #[.string s, .bool ok] ∧ s.size ≤ t.size := by
  cases hsl : isSealed t.data.toList with
  | false => exact ⟨⟨#[]⟩, false, by rw [unOut, hsl]; rfl, by show 0 ≤ _; omega⟩
  | true => exact ⟨t.extract 0 (t.size - 4), true, by rw [unOut, hsl]; rfl, by rw [ByteArray.size_extract]; omega⟩

theorem drawn_lowN {w w' : World} {g B : Nat} {a : Option Addr} {len cap : Nat} (_hc : CurAt w g a len cap) (h : Drawn w w' g B a len cap) : Below g w w' :=
  ⟨h.2.1.os, h.2.1.tape, h.2.1.output, h.2.1.size, fun k hk => h.2.1.block k (by have := cur_lt _hc; omega) (fun e => by injection e with e; omega)⟩

set_option maxHeartbeats 1000000 in
set_option maxRecDepth 100000 in
theorem drawNodeText_any (a : Option Addr) (len cap : Nat) (w : World) (hd : CodeIn w w.heap.size a len) :
    Calls Tryd.prog 12 #[.slice a len cap] w fun e w' => ∃ n v, e = .returned v ∧ SmallN n ∧ NodeOwn w' w.heap.size v n.lf n.ks n.vs n.cs ∧ Below w.heap.size w w' := by
  obtain ⟨wa, hwa⟩ : ∃ wa, wa = w.alloc (Obj.cells #[.bool false, .slice none 0 0, .slice none 0 0, .slice none 0 0] 27) := ⟨_, rfl⟩
  have hba : Below w.heap.size w wa := by rw [hwa]; exact (Below.refl _ _).alloc (Nat.le_refl _) _
  have HBa := hide hba
  have HVa : Hid (wa.heap[w.heap.size]? = some (.cells #[.bool false, .slice none 0 0, .slice none 0 0, .slice none 0 0] 27 (0, 0))) := hide (by rw [hwa]; exact heap_alloc_new w _)
  have HSa : Hid (wa.heap.size = w.heap.size + 1) := hide (by rw [hwa]; simp)
  have HN := hide (l01New_any a len cap wa (code_below hd hba))
  clear hd hba
  go_enter Tryd.func12, Tryd.ntmps12
  go_wp2_with fail
  rw [← hwa]
  clear hwa
  refine HN.out.mono ?_
  rintro e w1 ⟨rfl, hc1, hd1, hb1⟩
  have HC1 := hide hc1
  have HD1 := hide hd1
  have HB1 := hide hb1
  clear hc1 hd1 hb1
  go_wp2_with fail
  refine (l05Any_any wa.heap.size wa.heap.size a len cap w1 HC1.out HD1.out (Nat.le_refl _)).mono ?_
  rintro e w2 ⟨n, v, rfl, hn, hown, hdr⟩
  have hgl := cur_lt HC1.out
  have hb2 : Below wa.heap.size w1 w2 := ⟨hdr.2.1.os, hdr.2.1.tape, hdr.2.1.output, hdr.2.1.size, fun k hk => hdr.2.1.block k (by omega) (fun e => by injection e with e; omega)⟩
  have HB2 : Hid (Below w.heap.size w w2) := hide ((HBa.out.trans (HB1.out.mono HBa.out.size)).trans (hb2.mono HBa.out.size))
  have hv : w2.heap[w.heap.size]? = _ := (hb2.block _ (by rw [HSa.out]; omega)).trans ((HB1.out.block _ (by rw [HSa.out]; omega)).trans HVa.out)
  have HNn := hide hn
  obtain ⟨v1, v2, v3, rfl, h1, h2, h3, h4⟩ := hown
  obtain ⟨a1, c1, rfl⟩ := own_slice h1
  obtain ⟨a2, c2, rfl⟩ := own_slice h2
  obtain ⟨a3, c3, rfl⟩ := own_slice h3
  have hsz := HB1.out.size
  have HRt := hide (ret_node (B := w1.heap.size) (lf := n.lf) hv ⟨_, _, _, rfl, h1, h2, h3, h4⟩ (by have := HSa.out; omega))
  have o0 : w2.cell? ⟨w.heap.size, 0, none⟩ = some (.bool false) := (cell_at hv 0).1
  have o1 : w2.cell? ⟨w.heap.size, 1, none⟩ = some (.slice none 0 0) := (cell_at hv 1).1
  have o2 : w2.cell? ⟨w.heap.size, 2, none⟩ = some (.slice none 0 0) := (cell_at hv 2).1
  have o3 : w2.cell? ⟨w.heap.size, 3, none⟩ = some (.slice none 0 0) := (cell_at hv 3).1
  have z0 := (cell_at hv 0).2
  have z1 := (cell_at hv 1).2
  have z2 := (cell_at hv 2).2
  have z3 := (cell_at hv 3).2
  have HSw : Hid (w.heap.size ≤ w1.heap.size) := hide (by have := HSa.out; omega)
  clear h1 h2 h3 h4 hv hb2 hdr hn hsz hgl
  go_wp2_with fail
  have hrt := HRt.out
  have t0 := (cell_at hrt.1 0).1
  have t1 := (cell_at hrt.1 1).1
  have t2 := (cell_at hrt.1 2).1
  have t3 := (cell_at hrt.1 3).1
  exact bodyPost_ret (v := .agg #[.bool n.lf, .slice a1 n.ks.length c1, .slice a2 n.vs.length c2, .slice a3 n.cs.length c3]) (by simp [results, Tryd.results12, go_sem, t0, t1, t2, t3]) rfl ⟨n, _, rfl, HNn.out, nodeOwn_down hrt.2.1 HSw.out, HB2.out.trans hrt.2.2⟩

set_option maxHeartbeats 4000000 in
set_option maxRecDepth 100000 in
theorem drawReadNode_any (a : Option Addr) (len cap : Nat) (w : World) (hd : CodeIn w w.heap.size a len) :
    Calls Tryd.prog 18 #[.slice a len cap] w fun e w' => ∃ t : ByteArray, e = .returned (.string t) ∧ t.size ≤ 300 ∧ Below w.heap.size w w' := by
  have HN := hide (l01New_any a len cap w hd)
  clear hd
  go_enter Tryd.func18, Tryd.ntmps18
  go_wp2_with fail
  refine HN.out.mono ?_
  rintro e w1 ⟨rfl, hc1, hd1, hb1⟩
  have HC1 := hide hc1
  have HD1 := hide hd1
  have HB1 := hide hb1
  clear hc1 hd1 hb1
  go_wp2_with fail
  refine (l05Any_any w.heap.size w.heap.size a len cap w1 HC1.out HD1.out (Nat.le_refl _)).mono ?_
  rintro e w2 ⟨n, v, rfl, hn, hown, hdr⟩
  have HMt := hide (specNodeText_any v n.lf n.ks n.vs n.cs (by have := hn.1; omega) (by have := hn.2.1; omega) (by have := hn.2.2.1; omega) (fun s hs => by have := hn.2.2.2.1 s hs; omega) (fun s hs => by have := hn.2.2.2.2 s hs; omega) w2 (node_of_own hown))
  have HDr := hide hdr
  obtain ⟨s, hs⟩ : ∃ s, s = nodeO n.lf n.ks n.vs n.cs := ⟨_, rfl⟩
  obtain ⟨ok0, hok0⟩ : ∃ ok0, ok0 = nodeOkB n.lf n.ks n.vs n.cs := ⟨_, rfl⟩
  have hsz : s.size ≤ 240 := by have := nodeO_size n.lf n.ks n.vs n.cs; rw [← hs] at this; omega
  rw [← hs, ← hok0] at HMt
  have HB2 : Hid (Below w.heap.size w w2) := hide (HB1.out.trans (drawn_lowN HC1.out hdr))
  clear hn hown hdr hs hok0
  go_wp2_with fail
  refine HMt.out.mono ?_
  rintro e w3 ⟨rfl, hb3⟩
  have HD3 := hide (drawn_trans HDr.out (drawn_belowN HDr.out.1 HDr.out.2.2 (Nat.le_refl _) hb3))
  have HB3 : Hid (Below w.heap.size w w3) := hide (HB2.out.trans (hb3.mono HB2.out.size))
  clear hb3
  go_wp2_with fail
  refine (l01Once_any w.heap.size w.heap.size a len cap 2 (by omega) (by omega) w3 HD3.out.1 HD3.out.2.2 (Nat.le_refl _)).mono ?_
  rintro e w4 ⟨b, rfl, hd4⟩
  have HD4 := hide (drawn_trans HD3.out hd4)
  have HB4 : Hid (Below w.heap.size w w4) := hide (HB3.out.trans (drawn_lowN HD3.out.1 hd4))
  clear hd4
  cases b with
  | false =>
    go_wp2_with fail
    go_ret
    exact ⟨s, rfl, by omega, HB4.out⟩
  | true =>
    obtain ⟨t, ok, hun, hts⟩ := text_unN s
    have HUn := hide (specUnsealed_any s (by omega) w4)
    rw [hun] at HUn
    clear hun
    go_wp2_with fail
    refine HUn.out.mono ?_
    rintro e w5 ⟨rfl, hb5⟩
    have HD5 := hide (drawn_trans HD4.out (drawn_belowN HD4.out.1 HD4.out.2.2 (Nat.le_refl _) hb5))
    have HB5 : Hid (Below w.heap.size w w5) := hide (HB4.out.trans (hb5.mono HB4.out.size))
    clear hb5
    cases ok with
    | false =>
      go_wp2_with fail
      go_ret
      exact ⟨s, rfl, by omega, HB5.out⟩
    | true =>
      go_wp2_with fail
      refine (l02Spoilt_any w.heap.size w.heap.size a len cap t (by omega) w5 HD5.out.1 HD5.out.2.2 (Nat.le_refl _)).mono ?_
      rintro e w6 ⟨u, hu, rfl, hd6⟩
      have HB6 : Hid (Below w.heap.size w w6) := hide (HB5.out.trans (drawn_lowN HD5.out.1 hd6))
      have hu2 : u.size ≤ 241 := by omega
      clear hd6 hu
      go_wp2_with fail
      refine (specSealed_yes u (by omega) w6).mono ?_
      rintro e w7 ⟨rfl, hb7⟩
      have HB7 : Hid (Below w.heap.size w w7) := hide (HB6.out.trans (hb7.mono HB6.out.size))
      clear hb7
      go_wp2_with fail
      go_ret
      refine ⟨_, rfl, ?_, HB7.out⟩
      rw [← list_len]
      show (sealL u.data.toList).length ≤ 300
      rw [sealL_length, list_len]
      omega
end Go.Proofs.YtglcfaibgjiigaaDoor

namespace Go.Proofs.YtglcfaibgjiigaaDoor
open Go.RowKit

set_option maxHeartbeats 1000000 in
set_option maxRecDepth 100000 in
theorem sameInts_rowN (l m : List Int) (hl : l.length ≤ 9223372036854775807) (_hm : m.length ≤ 9223372036854775807) (v u : Value) (w : World) (hr : RowAt w 1 v l.length (ints l)) (hq : RowAt w 1 u m.length (ints m)) :
    Calls Tryd.prog 72 #[v, u] w fun e w' => e = .returned (.bool (decide (l = m))) ∧ Below w.heap.size w w' := by
  obtain ⟨-, a, cap, rfl, h2⟩ := hr
  obtain ⟨-, a', cap', rfl, h3⟩ := hq
  have HR := hide h2
  have HQ := hide h3
  clear h2 h3
  by_cases hne : l.length = m.length
  · have HN := hide hne
    rw [← hne]
    clear hne
    go_enter Tryd.func72, Tryd.ntmps72
    go_wp2
    go_loopg [5] l.length (fun q iv wr => ∃ k : Nat, k ≤ l.length ∧ iv = .int .i64 (k : Int) ∧ q + k = l.length ∧ Hid (l.take k = m.take k) ∧ Below w.heap.size w wr)
    case atStart => exact ⟨0, Nat.zero_le _, rfl, rfl, hide (by simp), Below.refl _ _⟩
    case round =>
      obtain ⟨k, hk, rfl, hg, HT, hb⟩ := hrel
      have HG := hide hg
      clear hg
      by_cases hlt : k < l.length
      · rcases HR.out with hn0 | ⟨b, off, rfl, hbl, hc⟩
        · omega
        · rcases HQ.out with hn0 | ⟨b', off', rfl, hbl', hc'⟩
          · have := HN.out; omega
          · have hltm : k < m.length := by have := HN.out; omega
            obtain ⟨x, hx⟩ : ∃ x, x = l[k] := ⟨_, rfl⟩
            obtain ⟨y, hy⟩ : ∃ y, y = m[k] := ⟨_, rfl⟩
            have hcx : wr.cell? ⟨b, off + k, none⟩ = some (.int .i64 x) := by rw [hb.cell (by exact hbl), hc k (by omega), ints_at l k hlt, hx]
            have hcy : wr.cell? ⟨b', off' + k, none⟩ = some (.int .i64 y) := by rw [hb.cell (by exact hbl'), hc' k (by omega), ints_at m k hltm, hy]
            have HX := hide hx
            have HY := hide hy
            have hk0 : (0 : Int) ≤ (k : Int) := by omega
            have hk1 : (k : Int) < (l.length : Int) := by omega
            clear hc hc' hx hy
            by_cases hxy : x = y
            · have HT2 : Hid (l.take (k + 1) = m.take (k + 1)) := hide (by rw [List.take_succ_eq_append_getElem hlt, List.take_succ_eq_append_getElem hltm, HT.out, ← HX.out, ← HY.out, hxy])
              subst hxy
              have hbq : (x != x) = false := by simp
              go_wp2
              go_quiet (fail)
              go_wp2
              go_roundg (gk - 1)
              case measure => have := HG.out; omega
              case rel => exact ⟨k + 1, by omega, by go_num, by have := HG.out; omega, HT2, below_drewN hb _⟩
            · have HD := hide (list_ne hlt hltm (by rw [← HX.out, ← HY.out]; exact hxy))
              have hbq : (x != y) = true := by simp [hxy]
              have hbr : (x == y) = false := by simp [hxy]
              go_wp2
              go_quiet (fail)
              go_wp2
              go_ret
              rw [HD.out]
              exact ⟨rfl, below_drewN hb _⟩
      · have HD : Hid (decide (l = m) = true) := hide (decide_eq_true (by
          have h1 := HT.out
          rw [List.take_of_length_le (by omega), List.take_of_length_le (by have := HN.out; omega)] at h1
          exact h1))
        go_wp2
        go_ret
        rw [HD.out]
        exact ⟨rfl, hb⟩
  · have HD : Hid (decide (l = m) = false) := hide (decide_eq_false (fun e => hne (by rw [e])))
    have hq1 : ¬ ((l.length : Int) = (m.length : Int)) := by omega
    clear hne
    go_enter Tryd.func72, Tryd.ntmps72
    go_wp2
    go_ret
    rw [HD.out]
    exact ⟨rfl, Below.refl _ _⟩

set_option maxHeartbeats 1000000 in
set_option maxRecDepth 100000 in
theorem sameTexts_row (l m : List ByteArray) (hl : l.length ≤ 9223372036854775807) (_hm : m.length ≤ 9223372036854775807) (v u : Value) (w : World) (hr : RowAt w 1 v l.length (strs l)) (hq : RowAt w 1 u m.length (strs m)) :
    Calls Tryd.prog 71 #[v, u] w fun e w' => e = .returned (.bool (decide (l = m))) ∧ Below w.heap.size w w' := by
  obtain ⟨-, a, cap, rfl, h2⟩ := hr
  obtain ⟨-, a', cap', rfl, h3⟩ := hq
  have HR := hide h2
  have HQ := hide h3
  clear h2 h3
  by_cases hne : l.length = m.length
  · have HN := hide hne
    rw [← hne]
    clear hne
    go_enter Tryd.func71, Tryd.ntmps71
    go_wp2
    go_loopg [5] l.length (fun q iv wr => ∃ k : Nat, k ≤ l.length ∧ iv = .int .i64 (k : Int) ∧ q + k = l.length ∧ Hid (l.take k = m.take k) ∧ Below w.heap.size w wr)
    case atStart => exact ⟨0, Nat.zero_le _, rfl, rfl, hide (by simp), Below.refl _ _⟩
    case round =>
      obtain ⟨k, hk, rfl, hg, HT, hb⟩ := hrel
      have HG := hide hg
      clear hg
      by_cases hlt : k < l.length
      · rcases HR.out with hn0 | ⟨b, off, rfl, hbl, hc⟩
        · omega
        · rcases HQ.out with hn0 | ⟨b', off', rfl, hbl', hc'⟩
          · have := HN.out; omega
          · have hltm : k < m.length := by have := HN.out; omega
            obtain ⟨x, hx⟩ : ∃ x, x = l[k] := ⟨_, rfl⟩
            obtain ⟨y, hy⟩ : ∃ y, y = m[k] := ⟨_, rfl⟩
            have hcx : wr.cell? ⟨b, off + k, none⟩ = some (.string x) := by rw [hb.cell (by exact hbl), hc k (by omega), strs_at l k hlt, hx]
            have hcy : wr.cell? ⟨b', off' + k, none⟩ = some (.string y) := by rw [hb.cell (by exact hbl'), hc' k (by omega), strs_at m k hltm, hy]
            have HX := hide hx
            have HY := hide hy
            have hk0 : (0 : Int) ≤ (k : Int) := by omega
            have hk1 : (k : Int) < (l.length : Int) := by omega
            clear hc hc' hx hy
            by_cases hxy : x = y
            · have HT2 : Hid (l.take (k + 1) = m.take (k + 1)) := hide (by rw [List.take_succ_eq_append_getElem hlt, List.take_succ_eq_append_getElem hltm, HT.out, ← HX.out, ← HY.out, hxy])
              subst hxy
              have hbq := ba_beq x x
              rw [decide_eq_true rfl] at hbq
              go_wp2
              go_quiet (fail)
              go_wp2
              go_roundg (gk - 1)
              case measure => have := HG.out; omega
              case rel => exact ⟨k + 1, by omega, by go_num, by have := HG.out; omega, HT2, below_drewN hb _⟩
            · have HD := hide (list_ne hlt hltm (by rw [← HX.out, ← HY.out]; exact hxy))
              have hbq := ba_beq x y
              rw [decide_eq_false hxy] at hbq
              go_wp2
              go_quiet (fail)
              go_wp2
              go_ret
              rw [HD.out]
              exact ⟨rfl, below_drewN hb _⟩
      · have HD : Hid (decide (l = m) = true) := hide (decide_eq_true (by
          have h1 := HT.out
          rw [List.take_of_length_le (by omega), List.take_of_length_le (by have := HN.out; omega)] at h1
          exact h1))
        go_wp2
        go_ret
        rw [HD.out]
        exact ⟨rfl, hb⟩
  · have HD : Hid (decide (l = m) = false) := hide (decide_eq_false (fun e => hne (by rw [e])))
    have hq1 : ¬ ((l.length : Int) = (m.length : Int)) := by omega
    clear hne
    go_enter Tryd.func71, Tryd.ntmps71
    go_wp2
    go_ret
    rw [HD.out]
    exact ⟨rfl, Below.refl _ _⟩

set_option maxHeartbeats 8000000 in
set_option maxRecDepth 100000 in
theorem sameNode_same (n : Nd) (hk : n.ks.length ≤ 1048576) (hv : n.vs.length ≤ 1048576) (hc : n.cs.length ≤ 1048576) (v u : Value) (w : World) (hr : NodeAt w v n.lf n.ks n.vs n.cs) (hq : NodeAt w u n.lf n.ks n.vs n.cs) :
    Calls Tryd.prog 17 #[v, u] w fun e w' => e = .returned (.bool true) ∧ Below w.heap.size w w' := by
  obtain ⟨lf, ks, vs, cs⟩ := n
  dsimp only at hk hv hc hr hq
  obtain ⟨vk, vv, vc, rfl, h1, h2, h3⟩ := hr
  obtain ⟨uk, uv, uc, rfl, k1, k2, k3⟩ := hq
  have HK := hide (fun wx h h' => sameTexts_row ks ks (by omega) (by omega) vk uk wx h h')
  have HV := hide (fun wx h h' => sameTexts_row vs vs (by omega) (by omega) vv uv wx h h')
  have HC := hide (fun wx h h' => sameInts_rowN cs cs (by omega) (by omega) vc uc wx h h')
  rw [decide_eq_true rfl] at HK HV HC
  obtain ⟨wa, hwa⟩ : ∃ wa, wa = (w.alloc (Obj.cells #[.bool lf, vk, vv, vc] 27)).alloc (Obj.cells #[.bool lf, uk, uv, uc] 27) := ⟨_, rfl⟩
  obtain ⟨t1, t2, t3⟩ := two_allocs w (Obj.cells #[.bool lf, vk, vv, vc] 27) (Obj.cells #[.bool lf, uk, uv, uc] 27)
  rw [← hwa] at t1 t2 t3
  have hba : Below w.heap.size w wa := by rw [hwa]; exact ((Below.refl _ _).alloc (Nat.le_refl _) _).alloc (by simp) _
  have HR := hide (⟨row_below h1 hba, row_below h2 hba, row_below h3 hba, row_below k1 hba, row_below k2 hba, row_below k3 hba⟩ : _ ∧ _ ∧ _ ∧ _ ∧ _ ∧ _)
  obtain ⟨xk, yk, rfl⟩ : ∃ a cap, vk = .slice a ks.length cap := by obtain ⟨-, a, cap, e, -⟩ := h1; exact ⟨a, cap, e⟩
  obtain ⟨xv, yv, rfl⟩ : ∃ a cap, vv = .slice a vs.length cap := by obtain ⟨-, a, cap, e, -⟩ := h2; exact ⟨a, cap, e⟩
  obtain ⟨xc, yc, rfl⟩ : ∃ a cap, vc = .slice a cs.length cap := by obtain ⟨-, a, cap, e, -⟩ := h3; exact ⟨a, cap, e⟩
  obtain ⟨zk, dk, rfl⟩ : ∃ a cap, uk = .slice a ks.length cap := by obtain ⟨-, a, cap, e, -⟩ := k1; exact ⟨a, cap, e⟩
  obtain ⟨zv, dv, rfl⟩ : ∃ a cap, uv = .slice a vs.length cap := by obtain ⟨-, a, cap, e, -⟩ := k2; exact ⟨a, cap, e⟩
  obtain ⟨zc, dc, rfl⟩ : ∃ a cap, uc = .slice a cs.length cap := by obtain ⟨-, a, cap, e, -⟩ := k3; exact ⟨a, cap, e⟩
  have HBa := hide hba
  have HT := hide (⟨t1, t2⟩ : _ ∧ _)
  have dlf : (lf == lf) = true := by cases lf <;> rfl
  have p0 := (cell_at t1 0).1
  have p1 := (cell_at t1 1).1
  have q0 := (cell_at t2 0).1
  have q1 := (cell_at t2 1).1
  clear h1 h2 h3 k1 k2 k3 hba t3 t1 t2
  go_enter Tryd.func17, Tryd.ntmps17
  go_wp2_with fail
  rw [← hwa]
  clear hwa
  refine (HK.out _ HR.out.1 HR.out.2.2.2.1).mono ?_
  rintro e w1 ⟨rfl, hb1⟩
  have t1 := (hb1.block _ (Array.getElem?_eq_some_iff.1 HT.out.1).1).trans HT.out.1
  have t2 := (hb1.block _ (Array.getElem?_eq_some_iff.1 HT.out.2).1).trans HT.out.2
  have HT1 := hide (⟨t1, t2⟩ : _ ∧ _)
  have HR1 := hide (⟨row_below HR.out.2.1 hb1, row_below HR.out.2.2.1 hb1, row_below HR.out.2.2.2.2.1 hb1, row_below HR.out.2.2.2.2.2 hb1⟩ : _ ∧ _ ∧ _ ∧ _)
  have HB1 : Hid (Below w.heap.size w w1) := hide (HBa.out.trans (hb1.mono HBa.out.size))
  have p2 := (cell_at t1 2).1
  have q2 := (cell_at t2 2).1
  clear hb1 t1 t2 p0 p1 q0 q1
  go_wp2_with fail
  refine (HV.out _ HR1.out.1 HR1.out.2.2.1).mono ?_
  rintro e w2 ⟨rfl, hb2⟩
  have t1 := (hb2.block _ (Array.getElem?_eq_some_iff.1 HT1.out.1).1).trans HT1.out.1
  have t2 := (hb2.block _ (Array.getElem?_eq_some_iff.1 HT1.out.2).1).trans HT1.out.2
  have HR2 := hide (⟨row_below HR1.out.2.1 hb2, row_below HR1.out.2.2.2 hb2⟩ : _ ∧ _)
  have HB2 : Hid (Below w.heap.size w w2) := hide (HB1.out.trans (hb2.mono HB1.out.size))
  have p3 := (cell_at t1 3).1
  have q3 := (cell_at t2 3).1
  clear hb2 t1 t2 p2 q2
  go_wp2_with fail
  refine (HC.out _ HR2.out.1 HR2.out.2).mono ?_
  rintro e w3 ⟨rfl, hb3⟩
  have HB3 : Hid (Below w.heap.size w w3) := hide (HB2.out.trans (hb3.mono HB2.out.size))
  clear hb3
  go_wp2_with fail
  go_ret
  exact ⟨rfl, HB3.out⟩
end Go.Proofs.YtglcfaibgjiigaaDoor

namespace Go.Proofs.YtglcfaibgjiigaaDoor
open Go.RowKit

end Go.Proofs.YtglcfaibgjiigaaDoor

namespace Go.Proofs.YtglcfaibgjiigaaDoor
open Go.RowKit

theorem readN_len {t : ByteArray} {n : Nd} {ok : Bool} (h : ReadN t n ok) : n.ks.length ≤ 4 ∧ n.vs.length ≤ 4 ∧ n.cs.length ≤ 4 := by
  rcases h with ⟨-, h, -⟩ | ⟨-, rfl, -⟩
  · obtain ⟨h1, h2, h3, h4⟩ := cnt_yes (node_yes h.1).1
    cases hl : n.lf with
    | true => have := h3 hl; omega
    | false => have := h4 hl; omega
  · simp [Nd.none]

theorem nodeOwn_cells {w : World} {B : Nat} {v : Value} {lf : Bool} {ks vs : List ByteArray} {cs : List Int} (h : NodeOwn w B v lf ks vs cs) : ∃ a1 c1 a2 c2 a3 c3, v = .agg #[.bool lf, .slice a1 ks.length c1, .slice a2 vs.length c2, .slice a3 cs.length c3] := by
  obtain ⟨v1, v2, v3, rfl, h1, h2, h3, -⟩ := h
  obtain ⟨a1, c1, rfl⟩ := own_slice h1
  obtain ⟨a2, c2, rfl⟩ := own_slice h2
  obtain ⟨a3, c3, rfl⟩ := own_slice h3
  exact ⟨a1, c1, a2, c2, a3, c3, rfl⟩

theorem var4 {w : World} {a : Nat} {b0 v1 v2 v3 : Value} (h : w.heap[a]? = some (.cells #[b0, v1, v2, v3] 27 (0, 0))) : w.cell? ⟨a, 0, none⟩ = some b0 ∧ w.cell? ⟨a, 1, none⟩ = some v1 ∧ w.cell? ⟨a, 2, none⟩ = some v2 ∧ w.cell? ⟨a, 3, none⟩ = some v3 :=
  ⟨(cell_at h 0).1, (cell_at h 1).1, (cell_at h 2).1, (cell_at h 3).1⟩

theorem stays {w w' : World} {a : Nat} {o : Obj} (h : w.heap[a]? = some o) (hb : Below w.heap.size w w') : w'.heap[a]? = some o := (hb.block _ (Array.getElem?_eq_some_iff.1 h).1).trans h

end Go.Proofs.YtglcfaibgjiigaaDoor

namespace Go.Proofs.YtglcfaibgjiigaaDoor
open Go.RowKit

/-- u is t with one byte turned (of nothing: one byte) -/
def TurnedT (t u : ByteArray) : Prop := (t.size = 0 ∧ u = ⟨#[120]⟩) ∨ ∃ (i : Nat) (x : UInt8) (h : i < t.data.toList.length), x ≠ t.data.toList[i] ∧ u.data.toList = t.data.toList.set i x

theorem turnedT_size {t u : ByteArray} (h : TurnedT t u) : u.size ≤ t.size + 1 := by
  rcases h with ⟨h1, rfl⟩ | ⟨i, x, hi, -, h2⟩
  · have : (⟨#[120]⟩ : ByteArray).size = 1 := rfl
    omega
  · have h3 := congrArg List.length h2
    rw [List.length_set, list_len, list_len] at h3
    omega

theorem turned_unsealed {t u : ByteArray} {l : List UInt8} (ht : t.data.toList = sealL l) (h : TurnedT t u) : isSealed u.data.toList = false := by
  rcases h with ⟨h1, -⟩ | ⟨i, x, hi, hx, h2⟩
  · have h3 := congrArg List.length ht
    rw [list_len, sealL_length] at h3
    omega
  · rw [h2]
    simp only [ht] at hx ⊢
    exact sealL_turned l i (by rw [← ht]; exact hi) x hx

/-- '[]byte(t)': a row in new memory of the bytes of t -/
theorem bytes_exT (t : ByteArray) (w : World) : ∃ (C : Nat) (W : World), (convert 9 22 (.string t)).run Tryd.prog w = .ok (.slice (some ⟨w.heap.size, 0, none⟩) t.size C) W ∧ Below w.heap.size w W ∧
    (∀ j, j < t.size → W.cell? ⟨w.heap.size, j, none⟩ = some (.int .u8 (byt t j : Int)) ∧ W.frozen? ⟨w.heap.size, j, none⟩ = false) := by
  refine ⟨_, _, run_bytes_of_string (P := Tryd.prog) w 9 22 5 t Tryd.underlying9 Tryd.underlying22 Tryd.underlying5, ((Below.refl w.heap.size w).drew).alloc (Nat.le_refl _) _, fun j hj => ?_⟩
  have hb := heap_alloc_new w.drew (.cells (bytesRow t (grownCap w t.size 0 5)) 5 ((bytesRow t (grownCap w t.size 0 5)).size, (bytesRow t (grownCap w t.size 0 5)).size + 1))
  have hr := bytesRow_at t (grownCap w t.size 0 5) j hj
  constructor
  · rw [cell_of_row _ w.heap.size j _ _ _ hb, hr, ← byt_eq t j hj]
    rfl
  · have hlt : j < (bytesRow t (grownCap w t.size 0 5)).size := (Array.getElem?_eq_some_iff.1 hr).1
    simp only [World.frozen?]
    rw [show (World.alloc w.drew (.cells (bytesRow t (grownCap w t.size 0 5)) 5 ((bytesRow t (grownCap w t.size 0 5)).size, (bytesRow t (grownCap w t.size 0 5)).size + 1))).heap[w.heap.size]? = _ from hb]
    simp
    omega

theorem xor8T (a b : Nat) (ha : a < 256) (hb : b < 256) : bits BinOp.xor IntKind.u8 (a : Int) (b : Int) = ((a ^^^ b : Nat) : Int) := by
  have e : bits BinOp.xor IntKind.u8 (a : Int) (b : Int) = IntKind.u8.wrap ((BitVec.ofInt 8 (a : Int) ^^^ BitVec.ofInt 8 (b : Int)).toNat : Int) := rfl
  have hl : a ^^^ b < 256 := Nat.xor_lt_two_pow (n := 8) ha hb
  have h : (BitVec.ofInt 8 (a : Int) ^^^ BitVec.ofInt 8 (b : Int)).toNat = a ^^^ b := by
    rw [BitVec.toNat_xor, BitVec.ofInt_natCast, BitVec.ofInt_natCast, BitVec.toNat_ofNat, BitVec.toNat_ofNat, Nat.mod_eq_of_lt (by omega), Nat.mod_eq_of_lt (by omega)]
  rw [e, h]
  exact wrap8 _ _ (by omega)

set_option maxHeartbeats 4000000 in
set_option maxRecDepth 100000 in
theorem turned_any (t : ByteArray) (ht : t.size ≤ 1048576) (gp cp : Nat) (z0 z1 : Nat) (hz0 : z0 < 10000) (hz1 : z1 < 10000) (w : World) (hc0 : w.cell? ⟨gp, 0, none⟩ = some (.int .i64 (z0 : Int))) (hc1 : w.cell? ⟨gp, 1, none⟩ = some (.int .i64 (z1 : Int))) :
    Calls Tryd.prog 20 #[.string t, .slice (some ⟨gp, 0, none⟩) 12 cp] w fun e w' => ∃ u : ByteArray, e = .returned (.string u) ∧ TurnedT t u ∧ Below w.heap.size w w' := by
  obtain ⟨C, w5, hcv, hb5, hcell⟩ := bytes_exT t w
  have hgl : gp < w.heap.size := World.block_lt_of_cell? w _ hc0
  replace hc0 : w5.cell? ⟨gp, 0, none⟩ = some (.int .i64 (z0 : Int)) := (hb5.cell (by exact hgl)).trans hc0
  replace hc1 : w5.cell? ⟨gp, 1, none⟩ = some (.int .i64 (z1 : Int)) := (hb5.cell (by exact hgl)).trans hc1
  have HB5 := hide hb5
  have HCell := hide hcell
  clear hb5 hcell hgl
  by_cases h0 : t.size = 0
  · have HO : Hid (TurnedT t ⟨#[120]⟩) := hide (Or.inl ⟨h0, rfl⟩)
    rw [h0] at hcv
    clear HCell
    go_enter Tryd.func20, Tryd.ntmps20
    go_wp2_with fail
    go_ret
    exact ⟨_, rfl, HO.out, HB5.out⟩
  · obtain ⟨g5, hg5⟩ : ∃ g, g = w.heap.size := ⟨_, rfl⟩
    rw [← hg5] at hcv HCell
    have HG5 := hide hg5
    clear hg5
    obtain ⟨i, hi⟩ : ∃ i, i = z0 % t.size := ⟨_, rfl⟩
    have hil : i < t.size := by rw [hi]; exact Nat.mod_lt _ (by omega)
    have hi1 : (z0 : Int) % (t.size : Int) = (i : Int) := by rw [hi]; simp
    obtain ⟨y, hy⟩ : ∃ y, y = byt t i := ⟨_, rfl⟩
    have hyb : y < 256 := by rw [hy]; exact byt_lt t i
    have hci : w5.cell? ⟨g5, i, none⟩ = some (.int .u8 (y : Int)) := by rw [hy]; exact (HCell.out i (by omega)).1
    have hfi : w5.frozen? ⟨g5, i, none⟩ = false := (HCell.out i (by omega)).2
    obtain ⟨r, hr⟩ : ∃ r, r = z1 % 255 := ⟨_, rfl⟩
    have hrl : r < 255 := by omega
    have hm1 : (z1 : Int).tmod 255 = (r : Int) := by rw [Int.tmod_eq_emod_of_nonneg (by omega), hr]; omega
    have hm2 : (z1 : Int) % 255 = (r : Int) := by rw [hr]; omega
    obtain ⟨k, hk⟩ : ∃ k, k = 1 + r := ⟨_, rfl⟩
    have hw1 : IntKind.i64.wrap (1 + (r : Int)) = (k : Int) := by rw [IntWalk.i64_in _ ⟨by omega, by omega⟩]; omega
    have hw2 : IntKind.u8.wrap (k : Int) = (k : Int) := wrap8 k k (by omega)
    obtain ⟨x, hx⟩ : ∃ x, x = y ^^^ k := ⟨_, rfl⟩
    have hxb : x < 256 := by rw [hx]; exact Nat.xor_lt_two_pow (n := 8) hyb (by omega)
    have hw3 : bits BinOp.xor IntKind.u8 (y : Int) (k : Int) = (x : Int) := by rw [hx]; exact xor8T y k hyb (by omega)
    have HNe : Hid (x ≠ y) := hide (fun e => by
      rw [hx] at e
      have h2 : (y ^^^ k) ^^^ y = y ^^^ y := by rw [e]
      rw [Nat.xor_self, Nat.xor_comm y k, xor_back] at h2
      omega)
    have HY := hide hy
    clear hi hy hr hx hk
    have hi0 : (0 : Int) ≤ (i : Int) := by omega
    have hi2 : (i : Int) < (t.size : Int) := by omega
    have hne : ((t.size : Int) = 0) = False := by apply eq_false; omega
    have dne : decide ((t.size : Int) = 0) = false := decide_eq_false (by omega)
    go_enter Tryd.func20, Tryd.ntmps20
    go_wp2_with fail
    go_region
    obtain ⟨w6, hw6⟩ : ∃ w6, w6 = (w5.setCell ⟨g5, i, none⟩ (.int .u8 (x : Int))).drew := ⟨_, rfl⟩
    rw [← hw6]
    have HB6 : Hid (Below w.heap.size w w6) := hide (by rw [hw6]; exact (HB5.out.setCell (by exact Nat.le_of_eq HG5.out.symm) _).drew)
    obtain ⟨l, hl⟩ : ∃ l, l = t.data.toList := ⟨_, rfl⟩
    have hll : l.length = t.size := by rw [hl, list_len]
    obtain ⟨m, hm⟩ : ∃ m, m = l.set i (UInt8.ofNat x) := ⟨_, rfl⟩
    have hml : m.length = t.size := by rw [hm, List.length_set, hll]
    have hbt : ∀ j (hj : j < l.length), byt t j = (l[j]).toNat := fun j hj => by
      have e : t.data.toList[j]? = l[j]? := by rw [hl]
      rw [← byt_eq t j (by omega)]
      have h1 : j < t.data.toList.length := by rw [list_len]; omega
      rw [List.getElem?_eq_getElem h1, List.getElem?_eq_getElem hj] at e
      have := Option.some.inj e
      rw [← this]
      rfl
    have hcv2 := run_convert_bytes_back (P := Tryd.prog) w6 22 9 5 ⟨g5, 0, none⟩ C m Tryd.underlying22 Tryd.underlying5 Tryd.underlying9 (fun j hj => by
      have hjl : j < l.length := by omega
      rw [hw6, Addr.add_lit, Nat.zero_add]
      show (w5.setCell ⟨g5, i, none⟩ (.int .u8 (x : Int))).cell? ⟨g5, j, none⟩ = _
      by_cases hji : i = j
      · subst hji
        rw [World.cell?_setCell_same' w5 _ _ (by rw [hci]; rfl)]
        simp only [hm, List.getElem_set_self]
        rw [toNat_ofNat8 x hxb]
      · rw [show (w5.setCell ⟨g5, i, none⟩ (.int .u8 (x : Int))).cell? ⟨g5, j, none⟩ = w5.cell? ⟨g5, j, none⟩ from World.cell?_setCell_other _ _ _ _ (by intro e; apply hji; injection e), (HCell.out j (by omega)).1, hbt j hjl]
        simp only [hm, List.getElem_set_ne hji])
    rw [hml] at hcv2
    have HO : Hid (TurnedT t ⟨m.toArray⟩) := hide (Or.inr ⟨i, UInt8.ofNat x, by rw [← hl]; omega, fun e => HNe.out (by
      have h1 := congrArg UInt8.toNat e
      rw [toNat_ofNat8 x hxb] at h1
      rw [h1, HY.out, hbt i (by omega)]
      simp only [hl]), by rw [List.toList_toArray, hm, hl]⟩)
    clear hw6 hl hm hbt
    go_wp2_with fail
    go_ret
    exact ⟨_, rfl, HO.out, HB6.out⟩
end Go.Proofs.YtglcfaibgjiigaaDoor

namespace Go.Proofs.YtglcfaibgjiigaaDoor
open Go.RowKit

set_option maxHeartbeats 400000 in
theorem implShortText_yes (s : ByteArray) (h : s.size ≤ 20000) (w : World) :
    Calls Tryd.prog 114 #[.string s] w fun e w' => e = .returned (.tuple #[.string (⟨(vtext s.size).toArray⟩ ++ s), .bool true]) ∧ Below w.heap.size w w' := by
  have hlen := (vtext_length s.size).2
  go_enter Tryd.func114, Tryd.ntmps114
  go_wp2_with fail
  refine (implVarText_yes s.size (by omega) (by omega) _).mono ?_
  rintro e w2 ⟨rfl, hb⟩
  rw [Int.toNat_natCast]
  go_wp2
  go_ret2
  exact ⟨rfl, hb⟩

set_option maxHeartbeats 400000 in
theorem implShortText_no (s : ByteArray) (h : 20000 < s.size) (hs : s.size ≤ 9223372036854775807) (w : World) :
    Calls Tryd.prog 114 #[.string s] w fun e w' => e = .returned (.tuple #[.string ⟨#[]⟩, .bool false]) ∧ w' = w := by
  go_enter Tryd.func114, Tryd.ntmps114
  go_wp2
  go_ret2
  exact ⟨rfl, rfl⟩
end Go.Proofs.YtglcfaibgjiigaaDoor

namespace Go.Proofs.YtglcfaibgjiigaaDoor
open Go.RowKit

theorem cells_str (l : List UInt8) (s : ByteArray) : Lib.byteCells l ++ Lib.strCells s = Lib.byteCells (l ++ s.data.toList) := by
  simp [Lib.byteCells, Lib.strCells]

theorem own_lit1 (w : World) (q : Nat) (hq : q < 256) : (w.alloc (Obj.cells #[.int .u8 (q : Int)] 5)).ownsRow w.heap.size 5 1 (.slice (some ⟨w.heap.size, 0, none⟩) 1 1) ([UInt8.ofNat q] : List UInt8).length (Lib.byteCells [UInt8.ofNat q]) := by
  have := World.ownsRow_lit (base := w.heap.size) (e := 5) (size := 1) w #[.int .u8 (q : Int)] 1 (Nat.le_refl _) (by unfold maxLen; omega) (by simp)
  have e : Lib.byteCells [UInt8.ofNat q] = [.int .u8 (q : Int)] := by simp [Lib.byteCells]; omega
  rw [e]
  simpa using this

set_option maxHeartbeats 2000000 in
set_option maxRecDepth 100000 in
theorem entryText_any (v : Value) (lf : Bool) (ks vs : List ByteArray) (cs : List Int) (hok : nodeOkB lf ks vs cs = true) (i : Nat) (hlt : i < ks.length) (w : World) (hd : NodeAt w v lf ks vs cs) :
    Calls Tryd.prog 61 #[v, .int .i64 (i : Int)] w fun e w' => e = .returned (.tuple #[.string (shortB (ks.getD i ⟨#[]⟩) ++ sideT lf vs cs i), .bool true]) ∧ Below w.heap.size w w' := by
  obtain ⟨vk, vv, vc, rfl, h1, h2, h3⟩ := hd
  obtain ⟨xk, ck, rfl⟩ := row_slice h1
  obtain ⟨xv, cv, rfl⟩ := row_slice h2
  obtain ⟨xc, cc, rfl⟩ := row_slice h3
  obtain ⟨w0, hw0⟩ : ∃ w0, w0 = w.alloc (Obj.cells #[.bool lf, .slice xk ks.length ck, .slice xv vs.length cv, .slice xc cs.length cc] 27) := ⟨_, rfl⟩
  have hb0 : Below w.heap.size w w0 := by rw [hw0]; exact (Below.refl w.heap.size w).alloc (Nat.le_refl _) _
  have hblk : w0.heap[w.heap.size]? = some (Obj.cells #[.bool lf, .slice xk ks.length ck, .slice xv vs.length cv, .slice xc cs.length cc] 27) := by rw [hw0]; exact heap_alloc_new w _
  obtain ⟨y1, y2, y3, y4⟩ := node_yes hok
  obtain ⟨z1, z2, z3, z4⟩ := cnt_yes y1
  obtain ⟨x, hx⟩ : ∃ x, x = ks.getD i ⟨#[]⟩ := ⟨_, rfl⟩
  have hx24 : x.size ≤ 24 := by rw [hx]; exact key_short (y2 i hlt)
  have HR := hide (⟨row_below h1 hb0, row_below h2 hb0, row_below h3 hb0⟩ : _ ∧ _ ∧ _)
  have HV1 := hide (implShortText_yes x (by omega))
  rw [← hx, shortB]
  obtain ⟨b1, hb1⟩ : ∃ b : ByteArray, b = ⟨(vtext x.size).toArray⟩ ++ x := ⟨_, rfl⟩
  have hs1 : b1.size ≤ 29 := by have := shortB_size2 x; rw [shortB, ← hb1] at this; omega
  rw [← hb1] at HV1 ⊢
  obtain ⟨-, a1, cp1, e1, h0 | ⟨bk, ok, e0, hbk, hck⟩⟩ := HR.out.1
  · omega
  injection e1 with e11 _ e12
  subst e11 e12
  subst e0
  have c1 : w0.cell? ⟨w.heap.size, 1, none⟩ = some (.slice (some ⟨bk, ok, none⟩) ks.length ck) := (cell_at hblk 1).1
  have hxc : w0.cell? ⟨bk, ok + i, none⟩ = some (.string x) := by rw [hck i (by omega), strs_at ks i hlt, hx]; simp [List.getD, hlt]
  have hi0 : (0 : Int) ≤ (i : Int) := by omega
  have hi1 : (i : Int) < (ks.length : Int) := by omega
  have HPb : Hid (∀ wx, Below w0.heap.size w0 wx → wx.cell? ⟨w.heap.size, 0, none⟩ = some (.bool lf) ∧ wx.cell? ⟨w.heap.size, 2, none⟩ = some (.slice xv vs.length cv) ∧ wx.cell? ⟨w.heap.size, 3, none⟩ = some (.slice xc cs.length cc)) := hide (fun wx hb => by
    have hq := (hb.block _ (Array.getElem?_eq_some_iff.1 hblk).1).trans hblk
    exact ⟨(cell_at hq 0).1, (cell_at hq 2).1, (cell_at hq 3).1⟩)
  have HB0 := hide hb0
  clear hb0 hblk hck hx h1 h2 h3 hb1 y1 y2
  cases lf with
  | true =>
    have hlv : i < vs.length := by have := (z3 rfl).1; omega
    obtain ⟨-, a2, cp2, e2, h0 | ⟨bv, ov, e3, hbv, hcv⟩⟩ := HR.out.2.1
    · omega
    injection e2 with e21 _ e22
    subst e21 e22
    subst e3
    obtain ⟨z, hz⟩ : ∃ z, z = vs.getD i ⟨#[]⟩ := ⟨_, rfl⟩
    have HZc : Hid (∀ wx, Below w0.heap.size w0 wx → wx.cell? ⟨bv, ov + i, none⟩ = some (.string z)) := hide (fun wx hb => by rw [hb.cell (by exact hbv), hcv i (by omega), strs_at vs i hlv, hz]; simp [List.getD, hlv])
    have hz24 : z.size ≤ 24 := by rw [hz]; exact y3 i hlv
    have hiv : (i : Int) < (vs.length : Int) := by omega
    have HV2 := hide (implShortText_yes z (by omega))
    have hSd : sideT true vs cs i = ⟨(vtext z.size).toArray⟩ ++ z := by rw [sideT, if_pos rfl, ← hz, shortB]
    have hs2 := shortB_size2 z
    rw [shortB] at hs2
    obtain ⟨b2, hb2⟩ : ∃ b : ByteArray, b = ⟨(vtext z.size).toArray⟩ ++ z := ⟨_, rfl⟩
    rw [← hb2] at HV2 hSd hs2
    rw [hSd]
    clear hcv hz hb2 hSd y3 y4 z3 z4
    rw [hw0] at hxc
    go_enter Tryd.func61, Tryd.ntmps61
    go_wp2_with fail
    rw [← hw0]
    clear hw0
    refine (HV1.out _).mono ?_
    rintro e w2 ⟨rfl, hb⟩
    have HB2 := hide hb
    obtain ⟨p0, p2, p3⟩ := HPb.out w2 hb
    have hzc := HZc.out w2 hb
    clear hb c1 hxc
    go_wp2_with fail
    refine (HV2.out _).mono ?_
    rintro e w3 ⟨rfl, hb⟩
    have HB3 : Hid (Below w.heap.size w w3) := hide (HB0.out.trans ((HB2.out.trans (hb.mono HB2.out.size)).mono HB0.out.size))
    clear hb p0 p2 p3 hzc
    go_wp2_with fail
    go_ret2
    exact ⟨rfl, HB3.out⟩
  | false =>
    have hlv : i < cs.length := by have := (z4 rfl).1; omega
    obtain ⟨-, a2, cp2, e2, h0 | ⟨bv, ov, e3, hbv, hcv⟩⟩ := HR.out.2.2
    · omega
    injection e2 with e21 _ e22
    subst e21 e22
    subst e3
    obtain ⟨z, hz⟩ : ∃ z, z = cs.getD i 0 := ⟨_, rfl⟩
    have HZc : Hid (∀ wx, Below w0.heap.size w0 wx → wx.cell? ⟨bv, ov + i, none⟩ = some (.int .i64 z)) := hide (fun wx hb => by rw [hb.cell (by exact hbv), hcv i (by omega), ints_at cs i hlv, hz]; simp [List.getD, hlv])
    have hz24 : 2 ≤ z ∧ z ≤ 39 := by rw [hz]; exact kid_page (y4 i hlv)
    have hiv : (i : Int) < (cs.length : Int) := by omega
    have HV2 := hide (implVarText_yes z (by omega) (by omega))
    have hSd : sideT false vs cs i = ⟨(vtext z.toNat).toArray⟩ := by rw [sideT, if_neg (by decide), ← hz]
    have hs2 : (⟨(vtext z.toNat).toArray⟩ : ByteArray).size ≤ 29 := by rw [vtB_size]; have := (vtext_length z.toNat).2; omega
    obtain ⟨b2, hb2⟩ : ∃ b : ByteArray, b = ⟨(vtext z.toNat).toArray⟩ := ⟨_, rfl⟩
    rw [← hb2] at HV2 hSd hs2
    rw [hSd]
    clear hcv hz hb2 hSd y3 y4 z3 z4
    rw [hw0] at hxc
    go_enter Tryd.func61, Tryd.ntmps61
    go_wp2_with fail
    rw [← hw0]
    clear hw0
    refine (HV1.out _).mono ?_
    rintro e w2 ⟨rfl, hb⟩
    have HB2 := hide hb
    obtain ⟨p0, p2, p3⟩ := HPb.out w2 hb
    have hzc := HZc.out w2 hb
    clear hb c1 hxc
    go_wp2_with fail
    refine (HV2.out _).mono ?_
    rintro e w3 ⟨rfl, hb⟩
    have HB3 : Hid (Below w.heap.size w w3) := hide (HB0.out.trans ((HB2.out.trans (hb.mono HB2.out.size)).mono HB0.out.size))
    clear hb p0 p2 p3 hzc
    go_wp2_with fail
    go_ret2
    exact ⟨rfl, HB3.out⟩

/-- the first byte -/
def headN (lf : Bool) : Nat := if lf = true then 108 else 98

theorem headB_list (lf : Bool) : (headB lf).data.toList = [UInt8.ofNat (headN lf)] := by cases lf <;> rfl

set_option maxHeartbeats 4000000 in
set_option maxRecDepth 100000 in
theorem nodeText_right (v : Value) (lf : Bool) (ks vs : List ByteArray) (cs : List Int) (hok : nodeOkB lf ks vs cs = true) (hk : ks.length ≤ 1048576) (hv : vs.length ≤ 1048576) (hc : cs.length ≤ 1048576) (hks : ∀ s ∈ ks, s.size ≤ 1048576) (hvs : ∀ s ∈ vs, s.size ≤ 1048576) (w : World) (hT : SumTab w) (hd : NodeAt w v lf ks vs cs) :
    Calls Tryd.prog 13 #[v] w fun e w' => e = .returned (.tuple #[.string (nodeT lf ks vs cs), .bool true]) ∧ Below w.heap.size w w' := by
  obtain ⟨i0, hi, hz0, hz1, hz2⟩ := info_parts Tryd.infoU8
  have HS := hide (fun wx h => implNodeOk_any v lf ks vs cs hk hv hc hks hvs wx h)
  rw [hok] at HS
  have HE := hide (fun i hi wx h => entryText_any v lf ks vs cs hok i hi wx h)
  have HD := hide hd
  obtain ⟨vk, vv, vc, rfl, h1, h2, h3⟩ := hd
  obtain ⟨xk, ck, rfl⟩ := row_slice h1
  obtain ⟨xv, cv, rfl⟩ := row_slice h2
  obtain ⟨xc, cc, rfl⟩ := row_slice h3
  obtain ⟨w0, hw0⟩ : ∃ w0, w0 = w.alloc (Obj.cells #[.bool lf, .slice xk ks.length ck, .slice xv vs.length cv, .slice xc cs.length cc] 27) := ⟨_, rfl⟩
  have hb0 : Below w.heap.size w w0 := by rw [hw0]; exact (Below.refl w.heap.size w).alloc (Nat.le_refl _) _
  have hblk : w0.heap[w.heap.size]? = some (Obj.cells #[.bool lf, .slice xk ks.length ck, .slice xv vs.length cv, .slice xc cs.length cc] 27) := by rw [hw0]; exact heap_alloc_new w _
  have HPb : Hid (∀ wx, Below w0.heap.size w0 wx → wx.cell? ⟨w.heap.size, 0, none⟩ = some (.bool lf) ∧ wx.cell? ⟨w.heap.size, 1, none⟩ = some (.slice xk ks.length ck) ∧ wx.cell? ⟨w.heap.size, 2, none⟩ = some (.slice xv vs.length cv) ∧ wx.cell? ⟨w.heap.size, 3, none⟩ = some (.slice xc cs.length cc)) := hide (fun wx hb => by
    have hq := (hb.block _ (Array.getElem?_eq_some_iff.1 hblk).1).trans hblk
    exact ⟨(cell_at hq 0).1, (cell_at hq 1).1, (cell_at hq 2).1, (cell_at hq 3).1⟩)
  have HB0 := hide hb0
  have HT := hide hT
  have HOk := hide hok
  have HCn := hide (cnt_yes (node_yes hok).1)
  have hk4 := HCn.out.2.1
  have HVk := hide (implVarText_yes (ks.length : Int) (by omega) (by omega))
  rw [Int.toNat_natCast] at HVk
  obtain ⟨z0, hz⟩ : ∃ z : ByteArray, z = ⟨(vtext ks.length).toArray⟩ := ⟨_, rfl⟩
  rw [← hz] at HVk
  have hzs : z0.size ≤ 5 := by rw [hz, vtB_size]; exact (vtext_length _).2
  have HP0 : Hid ((nodeP lf ks.length ks vs cs 0).data.toList = [UInt8.ofNat (headN lf)] ++ z0.data.toList) := hide (by rw [nodeP, ← hz, ByteArray.data_append, Array.toList_append, headB_list])
  have HSe := hide (fun wx h => implSealed_yes (nodeB lf ks vs cs) (by have := (nodeB_size hok).1; omega) wx h)
  have HTt : Hid (nodeT lf ks vs cs = ⟨(sealL (nodeB lf ks vs cs).data.toList).toArray⟩) := hide rfl
  have HNB : Hid (nodeB lf ks vs cs = nodeP lf ks.length ks vs cs ks.length) := hide rfl
  have hSzw : w.heap.size < w0.heap.size := by rw [hw0]; simp
  have HSz := hide hSzw
  clear hok hT hb0 hblk h1 h2 h3 hz hks hvs hk hv hc hSzw
  have hmark : ∀ (lfx : Bool), headN lfx < 256 := fun l => by cases l <;> decide
  have HMk := hide (hmark lf)
  clear hmark
  cases lf with
  | true =>
    go_enter Tryd.func13, Tryd.ntmps13
    go_wp2_with fail
    rw [← hw0]
    clear hw0
    refine (HS.out _ (node_below HD.out HB0.out)).mono ?_
    rintro e w1 ⟨rfl, hb⟩
    have HC1 := hide hb
    obtain ⟨p0, p1, p2, p3⟩ := HPb.out w1 hb
    clear hb
    go_wp2_with fail
    refine (HVk.out _).mono ?_
    rintro e w2 ⟨rfl, hb⟩
    have HC2 : Hid (Below w0.heap.size w0 w2) := hide (HC1.out.trans (hb.mono HC1.out.size))
    have hown := own_lit1 w2 108 (by omega)
    have hB2 : w0.heap.size ≤ w2.heap.size := HC2.out.size
    have hownB := own_down hown hB2
    have hs2 : w0.heap.size ≤ (w2.alloc (Obj.cells #[.int .u8 108] 5)).heap.size := by simp; omega
    clear hb p0 p1 p2 p3 hown
    go_wp2_with (at_builtin; refine Lib.wpList_append_own_string _ rfl _ _ 22 9 rfl w0.heap.size 5 i0 Tryd.underlying22 Tryd.underlying9 hi hz0 hz1 hz2 _ _ _ rfl hownB z0 rfl ?d1 ?d2 hs2 ?_)
    case d1 => unfold maxLen; simp; omega
    case d2 => simp; omega
    intro v3 w3 hown3 hgrow3 _
    have hl3 : (nodeP true ks.length ks vs cs 0).data.toList = [UInt8.ofNat 108] ++ z0.data.toList := HP0.out
    have hownP : w3.ownsRow w0.heap.size 5 1 v3 (nodeP true ks.length ks vs cs 0).data.toList.length (Lib.byteCells (nodeP true ks.length ks vs cs 0).data.toList) := by
      rw [hl3, List.length_append, ba_len z0, ← cells_str]
      exact hown3
    have HC3 : Hid (Below w0.heap.size w0 w3) := hide ((HC2.out.alloc hB2 _).grown hgrow3 hs2 (fun k hk => (hownB.lt k hk).1))
    obtain ⟨p0, p1, p2, p3⟩ := HPb.out w3 HC3.out
    clear hown3 hgrow3 hl3 hownB hB2 hs2
    go_wp2_with fail
    clear p0 p1 p2 p3
    go_loopg [7, 32] ks.length (fun g sv iv wr => ∃ k : Nat, k ≤ ks.length ∧ iv = .int .i64 (k : Int) ∧ g + k = ks.length ∧ wr.ownsRow w0.heap.size 5 1 sv (nodeP true ks.length ks vs cs k).data.toList.length (Lib.byteCells (nodeP true ks.length ks vs cs k).data.toList) ∧ Hid (Below w0.heap.size w0 wr))
    case atStart => exact ⟨0, Nat.zero_le _, rfl, rfl, hownP, HC3⟩
    case round =>
      obtain ⟨k, hk, rfl, hg, hown, HB⟩ := hrel
      have HG := hide hg
      clear hg
      have hsz : (nodeP true ks.length ks vs cs k).data.toList.length ≤ 238 := by have h1 := nodeP_size HOk.out k hk; rw [ba_len]; omega
      by_cases hlt : k < ks.length
      · obtain ⟨p0, p1, p2, p3⟩ := HPb.out wr HB.out
        have HEk := hide (HE.out k hlt)
        have HK : Hid ((nodeP true ks.length ks vs cs (k + 1)).data.toList = (nodeP true ks.length ks vs cs k).data.toList ++ (shortB (ks.getD k ⟨#[]⟩) ++ sideT true vs cs k).data.toList) := hide (by rw [nodeP, ByteArray.append_assoc, ByteArray.data_append, Array.toList_append])
        have hes : (shortB (ks.getD k ⟨#[]⟩) ++ sideT true vs cs k).size ≤ 100 := by
          have h1 := sideT_size HOk.out hlt
          have h2 := shortB_size2 (ks.getD k ⟨#[]⟩)
          have h3 := key_short ((node_yes HOk.out).2.1 k hlt)
          rw [ByteArray.size_append]
          omega
        obtain ⟨z, hz⟩ : ∃ z, z = shortB (ks.getD k ⟨#[]⟩) ++ sideT true vs cs k := ⟨_, rfl⟩
        rw [← hz] at HEk HK hes
        obtain ⟨l, hl⟩ : ∃ l, l = (nodeP true ks.length ks vs cs k).data.toList := ⟨_, rfl⟩
        rw [← hl] at HK hown hsz
        have HOn := hide hown
        have HDr := hide (node_below HD.out (HB0.out.trans (HB.out.mono HB0.out.size)))
        clear hz hl hown
        go_wp2_with fail
        refine (HEk.out _ HDr.out).mono ?_
        rintro e w5 ⟨rfl, hb5⟩
        have hown5 := own_stays HOn.out hb5
        have HB5 : Hid (Below w0.heap.size w0 w5) := hide (HB.out.trans (hb5.mono HB.out.size))
        have hBs := HB5.out.size
        clear hb5 p0 p1 p2 p3
        go_wp2_with (at_builtin; refine Lib.wpList_append_own_string _ rfl _ _ 22 9 rfl w0.heap.size 5 i0 Tryd.underlying22 Tryd.underlying9 hi hz0 hz1 hz2 _ _ _ rfl hown5 z rfl ?d1 ?d2 hBs ?_)
        case d1 => unfold maxLen; omega
        case d2 => omega
        intro v6 w6 hown6 hgrow6 _
        have HB6 : Hid (Below w0.heap.size w0 w6) := hide (below_grow HB5.out hBs hown5 (Below.refl _ _) hgrow6)
        have hown7 : w6.ownsRow w0.heap.size 5 1 v6 (nodeP true ks.length ks vs cs (k + 1)).data.toList.length (Lib.byteCells (nodeP true ks.length ks vs cs (k + 1)).data.toList) := by
          rw [HK.out, List.length_append, ba_len z, ← cells_str]
          exact hown6
        clear hown6 hgrow6 hown5
        go_wp2_with fail
        go_roundg (gk - 1)
        case measure => have := HG.out; omega
        case rel => exact ⟨k + 1, by omega, by go_num, by have := HG.out; omega, hown7, HB6⟩
      · obtain rfl : k = ks.length := by omega
        have hcv := string_own (dst := 9) (src := 22) Tryd.underlying22 Tryd.underlying5 Tryd.underlying9 hown
        have hnb : (⟨(nodeP true ks.length ks vs cs ks.length).data.toList.toArray⟩ : ByteArray) = nodeB true ks vs cs := by rw [nodeB]
        rw [hnb] at hcv
        have HTr := hide (sumTab_below HT.out (HB0.out.trans (HB.out.mono HB0.out.size)))
        clear hown hnb hsz
        go_wp2_with fail
        refine (HSe.out _ HTr.out).mono ?_
        rintro e w7 ⟨rfl, hb7⟩
        have HB7 : Hid (Below w.heap.size w w7) := hide ((HB0.out.trans (HB.out.mono HB0.out.size)).trans (hb7.mono (by have := HB0.out.size; have := HB.out.size; omega)))
        clear hb7 hcv
        go_wp2_with fail
        go_ret2
        rw [HTt.out]
        exact ⟨rfl, HB7.out⟩
  | false =>
    go_enter Tryd.func13, Tryd.ntmps13
    go_wp2_with fail
    rw [← hw0]
    clear hw0
    refine (HS.out _ (node_below HD.out HB0.out)).mono ?_
    rintro e w1 ⟨rfl, hb⟩
    have HC1 := hide hb
    obtain ⟨p0, p1, p2, p3⟩ := HPb.out w1 hb
    clear hb
    go_wp2_with fail
    refine (HVk.out _).mono ?_
    rintro e w2 ⟨rfl, hb⟩
    have HC2 : Hid (Below w0.heap.size w0 w2) := hide (HC1.out.trans (hb.mono HC1.out.size))
    have hown := own_lit1 w2 98 (by omega)
    have hB2 : w0.heap.size ≤ w2.heap.size := HC2.out.size
    have hownB := own_down hown hB2
    have hs2 : w0.heap.size ≤ (w2.alloc (Obj.cells #[.int .u8 98] 5)).heap.size := by simp; omega
    clear hb p0 p1 p2 p3 hown
    go_wp2_with (at_builtin; refine Lib.wpList_append_own_string _ rfl _ _ 22 9 rfl w0.heap.size 5 i0 Tryd.underlying22 Tryd.underlying9 hi hz0 hz1 hz2 _ _ _ rfl hownB z0 rfl ?d1 ?d2 hs2 ?_)
    case d1 => unfold maxLen; simp; omega
    case d2 => simp; omega
    intro v3 w3 hown3 hgrow3 _
    have hl3 : (nodeP false ks.length ks vs cs 0).data.toList = [UInt8.ofNat 98] ++ z0.data.toList := HP0.out
    have hownP : w3.ownsRow w0.heap.size 5 1 v3 (nodeP false ks.length ks vs cs 0).data.toList.length (Lib.byteCells (nodeP false ks.length ks vs cs 0).data.toList) := by
      rw [hl3, List.length_append, ba_len z0, ← cells_str]
      exact hown3
    have HC3 : Hid (Below w0.heap.size w0 w3) := hide ((HC2.out.alloc hB2 _).grown hgrow3 hs2 (fun k hk => (hownB.lt k hk).1))
    obtain ⟨p0, p1, p2, p3⟩ := HPb.out w3 HC3.out
    clear hown3 hgrow3 hl3 hownB hB2 hs2
    go_wp2_with fail
    clear p0 p1 p2 p3
    go_loopg [7, 32] ks.length (fun g sv iv wr => ∃ k : Nat, k ≤ ks.length ∧ iv = .int .i64 (k : Int) ∧ g + k = ks.length ∧ wr.ownsRow w0.heap.size 5 1 sv (nodeP false ks.length ks vs cs k).data.toList.length (Lib.byteCells (nodeP false ks.length ks vs cs k).data.toList) ∧ Hid (Below w0.heap.size w0 wr))
    case atStart => exact ⟨0, Nat.zero_le _, rfl, rfl, hownP, HC3⟩
    case round =>
      obtain ⟨k, hk, rfl, hg, hown, HB⟩ := hrel
      have HG := hide hg
      clear hg
      have hsz : (nodeP false ks.length ks vs cs k).data.toList.length ≤ 238 := by have h1 := nodeP_size HOk.out k hk; rw [ba_len]; omega
      by_cases hlt : k < ks.length
      · obtain ⟨p0, p1, p2, p3⟩ := HPb.out wr HB.out
        have HEk := hide (HE.out k hlt)
        have HK : Hid ((nodeP false ks.length ks vs cs (k + 1)).data.toList = (nodeP false ks.length ks vs cs k).data.toList ++ (shortB (ks.getD k ⟨#[]⟩) ++ sideT false vs cs k).data.toList) := hide (by rw [nodeP, ByteArray.append_assoc, ByteArray.data_append, Array.toList_append])
        have hes : (shortB (ks.getD k ⟨#[]⟩) ++ sideT false vs cs k).size ≤ 100 := by
          have h1 := sideT_size HOk.out hlt
          have h2 := shortB_size2 (ks.getD k ⟨#[]⟩)
          have h3 := key_short ((node_yes HOk.out).2.1 k hlt)
          rw [ByteArray.size_append]
          omega
        obtain ⟨z, hz⟩ : ∃ z, z = shortB (ks.getD k ⟨#[]⟩) ++ sideT false vs cs k := ⟨_, rfl⟩
        rw [← hz] at HEk HK hes
        obtain ⟨l, hl⟩ : ∃ l, l = (nodeP false ks.length ks vs cs k).data.toList := ⟨_, rfl⟩
        rw [← hl] at HK hown hsz
        have HOn := hide hown
        have HDr := hide (node_below HD.out (HB0.out.trans (HB.out.mono HB0.out.size)))
        clear hz hl hown
        go_wp2_with fail
        refine (HEk.out _ HDr.out).mono ?_
        rintro e w5 ⟨rfl, hb5⟩
        have hown5 := own_stays HOn.out hb5
        have HB5 : Hid (Below w0.heap.size w0 w5) := hide (HB.out.trans (hb5.mono HB.out.size))
        have hBs := HB5.out.size
        clear hb5 p0 p1 p2 p3
        go_wp2_with (at_builtin; refine Lib.wpList_append_own_string _ rfl _ _ 22 9 rfl w0.heap.size 5 i0 Tryd.underlying22 Tryd.underlying9 hi hz0 hz1 hz2 _ _ _ rfl hown5 z rfl ?d1 ?d2 hBs ?_)
        case d1 => unfold maxLen; omega
        case d2 => omega
        intro v6 w6 hown6 hgrow6 _
        have HB6 : Hid (Below w0.heap.size w0 w6) := hide (below_grow HB5.out hBs hown5 (Below.refl _ _) hgrow6)
        have hown7 : w6.ownsRow w0.heap.size 5 1 v6 (nodeP false ks.length ks vs cs (k + 1)).data.toList.length (Lib.byteCells (nodeP false ks.length ks vs cs (k + 1)).data.toList) := by
          rw [HK.out, List.length_append, ba_len z, ← cells_str]
          exact hown6
        clear hown6 hgrow6 hown5
        go_wp2_with fail
        go_roundg (gk - 1)
        case measure => have := HG.out; omega
        case rel => exact ⟨k + 1, by omega, by go_num, by have := HG.out; omega, hown7, HB6⟩
      · obtain rfl : k = ks.length := by omega
        have hcv := string_own (dst := 9) (src := 22) Tryd.underlying22 Tryd.underlying5 Tryd.underlying9 hown
        have hnb : (⟨(nodeP false ks.length ks vs cs ks.length).data.toList.toArray⟩ : ByteArray) = nodeB false ks vs cs := by rw [nodeB]
        rw [hnb] at hcv
        have HTr := hide (sumTab_below HT.out (HB0.out.trans (HB.out.mono HB0.out.size)))
        clear hown hnb hsz
        go_wp2_with fail
        refine (HSe.out _ HTr.out).mono ?_
        rintro e w7 ⟨rfl, hb7⟩
        have HB7 : Hid (Below w.heap.size w w7) := hide ((HB0.out.trans (HB.out.mono HB0.out.size)).trans (hb7.mono (by have := HB0.out.size; have := HB.out.size; omega)))
        clear hb7 hcv
        go_wp2_with fail
        go_ret2
        rw [HTt.out]
        exact ⟨rfl, HB7.out⟩

set_option maxHeartbeats 1000000 in
set_option maxRecDepth 100000 in
theorem implNodeText_any (v : Value) (lf : Bool) (ks vs : List ByteArray) (cs : List Int) (hk : ks.length ≤ 1048576) (hv : vs.length ≤ 1048576) (hc : cs.length ≤ 1048576) (hks : ∀ s ∈ ks, s.size ≤ 1048576) (hvs : ∀ s ∈ vs, s.size ≤ 1048576) (w : World) (hT : SumTab w) (hd : NodeAt w v lf ks vs cs) :
    Calls Tryd.prog 13 #[v] w fun e w' => e = .returned (.tuple #[.string (nodeO lf ks vs cs), .bool (nodeOkB lf ks vs cs)]) ∧ Below w.heap.size w w' := by
  cases hok : nodeOkB lf ks vs cs with
  | true =>
    rw [nodeO, hok, if_pos rfl]
    exact nodeText_right v lf ks vs cs hok hk hv hc hks hvs w hT hd
  | false =>
    have HS := hide (fun wx h => implNodeOk_any v lf ks vs cs hk hv hc hks hvs wx h)
    rw [hok] at HS
    have HD := hide hd
    obtain ⟨vk, vv, vc, rfl, -, -, -⟩ := hd
    obtain ⟨w0, hw0⟩ : ∃ w0, w0 = w.alloc (Obj.cells #[.bool lf, vk, vv, vc] 27) := ⟨_, rfl⟩
    have HB0 : Hid (Below w.heap.size w w0) := hide (by rw [hw0]; exact (Below.refl w.heap.size w).alloc (Nat.le_refl _) _)
    have HO : Hid (nodeO lf ks vs cs = ⟨#[]⟩) := hide (by rw [nodeO, hok]; rfl)
    clear hok hk hv hc hks hvs hT
    go_enter Tryd.func13, Tryd.ntmps13
    go_wp2_with fail
    rw [← hw0]
    clear hw0
    refine (HS.out _ (node_below HD.out HB0.out)).mono ?_
    rintro e w1 ⟨rfl, hb⟩
    go_wp2_with fail
    go_ret2
    rw [HO.out]
    exact ⟨rfl, HB0.out.trans (hb.mono HB0.out.size)⟩
end Go.Proofs.YtglcfaibgjiigaaDoor

namespace Go.Proofs.YtglcfaibgjiigaaDoor
open Go.RowKit

theorem node_form {w : World} {v : Value} {lf : Bool} {ks vs : List ByteArray} {cs : List Int} (h : NodeAt w v lf ks vs cs) : ∃ a n c b m d e p f, v = .agg #[.bool lf, .slice a n c, .slice b m d, .slice e p f] := by
  obtain ⟨vk, vv, vc, rfl, h1, h2, h3⟩ := h
  obtain ⟨-, a1, c1, rfl, -⟩ := h1
  obtain ⟨-, a2, c2, rfl, -⟩ := h2
  obtain ⟨-, a3, c3, rfl, -⟩ := h3
  exact ⟨_, _, _, _, _, _, _, _, _, rfl⟩

theorem readN_turned {n z : Nd} {u : ByteArray} {bent : Bool} (hg : n.ok = true) (hu : TurnedT (nodeO n.lf n.ks n.vs n.cs) u) (h : ReadN u z bent) : bent = false := readN_unsealed (turned_unsealed (nodeO_list hg) hu) h

theorem readN_small {t : ByteArray} {n : Nd} {ok : Bool} (h : ReadN t n ok) : n.ks.length ≤ 4 ∧ n.vs.length ≤ 4 ∧ n.cs.length ≤ 4 ∧ (∀ s ∈ n.ks, s.size ≤ 24) ∧ ∀ s ∈ n.vs, s.size ≤ 24 := by
  obtain ⟨h1, h2, h3⟩ := readN_len h
  refine ⟨h1, h2, h3, ?_⟩
  rcases h with ⟨-, h, -⟩ | ⟨-, rfl, -⟩
  · obtain ⟨-, k1, k2, -⟩ := node_yes h.1
    refine ⟨fun s hs => ?_, fun s hs => ?_⟩
    · obtain ⟨i, hi, rfl⟩ := List.getElem_of_mem hs
      have := key_short (k1 i hi)
      rwa [List.getD_eq_getElem?_getD, List.getElem?_eq_getElem hi, Option.getD_some] at this
    · obtain ⟨i, hi, rfl⟩ := List.getElem_of_mem hs
      have := k2 i hi
      rwa [List.getD_eq_getElem?_getD, List.getElem?_eq_getElem hi, Option.getD_some] at this
  · exact ⟨fun s hs => (by cases hs), fun s hs => (by cases hs)⟩

set_option maxHeartbeats 16000000 in
set_option maxRecDepth 100000 in
theorem lawNodes (a : Option Addr) (len cap : Nat) (w : World) (hd : 1048576 < len ∨ CodeIn w w.heap.size a len) (hT : SumTab w) :
    Calls Tryd.prog 3 #[.slice a len cap] w fun e w' => e = .returned (.bool true) ∧ Below w.heap.size w w' := by
  have HT := hide hT
  clear hT
  by_cases hbig : 1048576 < len
  · clear hd
    go_enter Tryd.func3, Tryd.ntmps3
    go_wp2_with fail
    refine (big_yes a len cap hbig _).mono ?_
    rintro e w1 ⟨rfl, rfl⟩
    go_wp2_with fail
    go_ret
    exact ⟨rfl, Below.refl _ _⟩
  · have HD : Hid (CodeIn w w.heap.size a len) := hide (hd.resolve_left hbig)
    clear hd
    go_enter Tryd.func3, Tryd.ntmps3
    go_wp2_with fail
    refine (big_no a len cap (by omega) _).mono ?_
    rintro e w1 ⟨rfl, rfl⟩
    go_wp2_with fail
    refine (drawNodeText_any a len cap _ HD.out).mono ?_
    rintro e w1 ⟨n, v1, rfl, hsm, hmo, hb1⟩
    have hat := node_of_own hmo
    obtain ⟨s1, s2, s3, s4, s5⟩ := hsm
    obtain ⟨lf1, hlf1⟩ : ∃ lf, lf = n.lf := ⟨_, rfl⟩
    rw [← hlf1] at hat
    obtain ⟨a1, n1, c1, b1, m1, d1, e1, p1, f1, rfl⟩ := node_form hat
    have HTx := hide (fun wx ht h => implNodeText_any (.agg #[.bool lf1, .slice a1 n1 c1, .slice b1 m1 d1, .slice e1 p1 f1]) lf1 n.ks n.vs n.cs (by omega) (by omega) (by omega) (fun s hs => by have := s4 s hs; omega) (fun s hs => by have := s5 s hs; omega) wx ht h)
    have HOs := hide (fun wx h => specNodeOk_any (.agg #[.bool lf1, .slice a1 n1 c1, .slice b1 m1 d1, .slice e1 p1 f1]) lf1 n.ks n.vs n.cs (by omega) (by omega) (by omega) (fun s hs => by have := s4 s hs; omega) (fun s hs => by have := s5 s hs; omega) wx h)
    have HOi := hide (fun wx h => implNodeOk_any (.agg #[.bool lf1, .slice a1 n1 c1, .slice b1 m1 d1, .slice e1 p1 f1]) lf1 n.ks n.vs n.cs (by omega) (by omega) (by omega) (fun s hs => by have := s4 s hs; omega) (fun s hs => by have := s5 s hs; omega) wx h)
    have HSz := hide (⟨s1, s2, s3⟩ : _ ∧ _ ∧ _)
    have htz := nodeO_size n.lf n.ks n.vs n.cs
    obtain ⟨t, ht⟩ : ∃ t, t = nodeO n.lf n.ks n.vs n.cs := ⟨_, rfl⟩
    obtain ⟨ok, hok⟩ : ∃ ok, ok = n.ok := ⟨_, rfl⟩
    have hok2 : ok = nodeOkB lf1 n.ks n.vs n.cs := by rw [hok, hlf1]; rfl
    have ht2 : t = nodeO lf1 n.ks n.vs n.cs := by rw [ht, hlf1]
    rw [← ht2, ← hok2] at HTx
    rw [← hok2] at HOi HOs
    rw [← ht] at htz
    have HTt := hide ht
    have HOk := hide hok
    have HLf := hide hlf1
    obtain ⟨wA, hwA⟩ : ∃ wA, wA = w1.alloc (.cells #[.bool lf1, .slice a1 n1 c1, .slice b1 m1 d1, .slice e1 p1 f1] 27 (0, 0)) := ⟨_, rfl⟩
    obtain ⟨g1, hg1⟩ : ∃ g, g = w1.heap.size := ⟨_, rfl⟩
    have hbA : Below w1.heap.size w1 wA := by rw [hwA]; exact (Below.refl _ _).alloc (Nat.le_refl _) _
    have HVA : Hid (wA.heap[g1]? = some (.cells #[.bool lf1, .slice a1 n1 c1, .slice b1 m1 d1, .slice e1 p1 f1] 27 (0, 0))) := hide (by rw [hwA, hg1]; exact heap_alloc_new w1 _)
    have HA := hide (node_below hat hbA)
    have HBA : Hid (Below w.heap.size w wA) := hide (hb1.trans (hbA.mono hb1.size))
    clear s1 s2 s3 s4 s5 hmo hb1 hat ht hok hok2 ht2 hbA hlf1
    go_wp2_with fail
    rw [← hwA, ← hg1]
    clear hwA hg1
    refine (HTx.out _ (sumTab_below HT.out HBA.out) HA.out).mono ?_
    rintro e w2 ⟨rfl, hb2⟩
    have HB2 : Hid (Below w.heap.size w w2) := hide (HBA.out.trans (hb2.mono HBA.out.size))
    have HV2 := hide (stays HVA.out hb2)
    have HA2 := hide (node_below HA.out hb2)
    clear hb2
    go_wp2_with fail
    refine (implReadNode_any t (by omega) _ (sumTab_below HT.out HB2.out)).mono ?_
    rintro e w3 ⟨mx, v3, right, rfl, hrd, hmo3, hb3⟩
    have hat := node_of_own hmo3
    obtain ⟨lf3, hlf3⟩ : ∃ lf, lf = mx.lf := ⟨_, rfl⟩
    rw [← hlf3] at hat
    obtain ⟨a3, n3, c3, b3, m3, d3, e3, p3, f3, rfl⟩ := node_form hat
    have HYes : Hid (ok = true → right = true ∧ mx = n) := hide (fun h => by
      rw [HTt.out] at hrd
      exact readN_own hrd (by rw [← HOk.out]; exact h))
    have HLf3 := hide hlf3
    obtain ⟨wB, hwB⟩ : ∃ wB, wB = w3.alloc (.cells #[.bool lf3, .slice a3 n3 c3, .slice b3 m3 d3, .slice e3 p3 f3] 27 (0, 0)) := ⟨_, rfl⟩
    obtain ⟨g3, hg3⟩ : ∃ g, g = w3.heap.size := ⟨_, rfl⟩
    have hbB : Below w3.heap.size w3 wB := by rw [hwB]; exact (Below.refl _ _).alloc (Nat.le_refl _) _
    have HXB : Hid (wB.heap[g3]? = some (.cells #[.bool lf3, .slice a3 n3 c3, .slice b3 m3 d3, .slice e3 p3 f3] 27 (0, 0))) := hide (by rw [hwB, hg3]; exact heap_alloc_new w3 _)
    have HVB := hide (stays (stays HV2.out hb3) hbB)
    have HAB := hide (node_below (node_below HA2.out hb3) hbB)
    have HXmB := hide (node_below hat hbB)
    have HBB : Hid (Below w.heap.size w wB) := hide ((HB2.out.trans (hb3.mono HB2.out.size)).trans (hbB.mono (Nat.le_trans HB2.out.size hb3.size)))
    have hV3 := stays HV2.out hb3
    have p0 := (cell_at hV3 0).1
    have p1 := (cell_at hV3 1).1
    have p2 := (cell_at hV3 2).1
    have p3 := (cell_at hV3 3).1
    have hl0 : g1 < w3.heap.size := (Array.getElem?_eq_some_iff.1 hV3).1
    have hne0 : g1 ≠ w3.heap.size := by omega
    clear hrd hmo3 hb3 hat hbB hV3 hlf3
    go_wp2_with fail
    rw [← hwB, ← hg3]
    clear hwB hg3 p0 p1 p2 p3 hl0 hne0
    refine (HOs.out _ HAB.out).mono ?_
    rintro e w4 ⟨rfl, hb4⟩
    have HB4 : Hid (Below w.heap.size w w4) := hide (HBB.out.trans (hb4.mono HBB.out.size))
    have HV4 := hide (stays HVB.out hb4)
    have HX4 := hide (stays HXB.out hb4)
    have HA4 := hide (node_below HAB.out hb4)
    have HXm4 := hide (node_below HXmB.out hb4)
    have q0 := (cell_at HV4.out 0).1
    have q1 := (cell_at HV4.out 1).1
    have q2 := (cell_at HV4.out 2).1
    have q3 := (cell_at HV4.out 3).1
    have dok : (ok != ok) = false := by cases ok <;> rfl
    clear hb4
    go_wp2_with fail
    refine (HOi.out _ HA4.out).mono ?_
    rintro e w5 ⟨rfl, hb5⟩
    have HB5 : Hid (Below w.heap.size w w5) := hide (HB4.out.trans (hb5.mono HB4.out.size))
    have HV5 := hide (stays HV4.out hb5)
    have HX5 := hide (stays HX4.out hb5)
    have HA5 := hide (node_below HA4.out hb5)
    have HXm5 := hide (node_below HXm4.out hb5)
    clear hb5 q0 q1 q2 q3
    cases ok with
    | false =>
      have HB9 : Hid (Below w.heap.size w w5) := HB5
      go_wp2_with fail
      refine (drawReadNode_any a len cap _ (code_below HD.out HB9.out)).mono ?_
      rintro e wa ⟨u, rfl, hu, hba⟩
      have HBa : Hid (Below w.heap.size w wa) := hide (HB9.out.trans (hba.mono HB9.out.size))
      clear hba
      go_wp2_with fail
      refine (implReadNode_any u (by omega) _ (sumTab_below HT.out HBa.out)).mono ?_
      rintro e wb ⟨my, v5, may, rfl, hrd, hmo5, hbb⟩
      have hat := node_of_own hmo5
      obtain ⟨lf5, hlf5⟩ : ∃ lf, lf = my.lf := ⟨_, rfl⟩
      rw [← hlf5] at hat
      obtain ⟨a5, n5, c5, b5, m5, d5, e5, p5, f5, rfl⟩ := node_form hat
      have HRy := hide hrd
      obtain ⟨y1, y2, y3, y4, y5⟩ := readN_small hrd
      have HTy := hide (fun wx ht h => implNodeText_any (.agg #[.bool lf5, .slice a5 n5 c5, .slice b5 m5 d5, .slice e5 p5 f5]) lf5 my.ks my.vs my.cs (by omega) (by omega) (by omega) (fun s hs => by have := y4 s hs; omega) (fun s hs => by have := y5 s hs; omega) wx ht h)
      obtain ⟨ag, hag⟩ : ∃ ag, ag = nodeO lf5 my.ks my.vs my.cs := ⟨_, rfl⟩
      obtain ⟨oky, hoky⟩ : ∃ ok, ok = nodeOkB lf5 my.ks my.vs my.cs := ⟨_, rfl⟩
      rw [← hag, ← hoky] at HTy
      have HAg : Hid (may = true → ag = u) := hide (fun h => by rw [hag, hlf5]; exact readN_back (by rw [← h]; exact HRy.out))
      obtain ⟨wC, hwC⟩ : ∃ wC, wC = wb.alloc (.cells #[.bool lf5, .slice a5 n5 c5, .slice b5 m5 d5, .slice e5 p5 f5] 27 (0, 0)) := ⟨_, rfl⟩
      obtain ⟨g5, hg5⟩ : ∃ g, g = wb.heap.size := ⟨_, rfl⟩
      have hbC : Below wb.heap.size wb wC := by rw [hwC]; exact (Below.refl _ _).alloc (Nat.le_refl _) _
      have HVC : Hid (wC.heap[g5]? = some (.cells #[.bool lf5, .slice a5 n5 c5, .slice b5 m5 d5, .slice e5 p5 f5] 27 (0, 0))) := hide (by rw [hwC, hg5]; exact heap_alloc_new wb _)
      have HAC := hide (node_below hat hbC)
      have HBC : Hid (Below w.heap.size w wC) := hide ((HBa.out.trans (hbb.mono HBa.out.size)).trans (hbC.mono (Nat.le_trans HBa.out.size hbb.size)))
      clear hrd hmo5 hbb hat hbC y1 y2 y3 y4 y5 hag hoky hlf5
      go_wp2_with fail
      rw [← hwC, ← hg5]
      clear hwC hg5
      refine (specReadNode_any u (by omega) _).mono ?_
      rintro e wd ⟨mz, v6, want, rfl, hrd, hmo6, hbd⟩
      obtain ⟨-, e2⟩ := readN_one hrd HRy.out
      subst e2
      have hat := node_of_own hmo6
      obtain ⟨lf6, hlf6⟩ : ∃ lf, lf = mz.lf := ⟨_, rfl⟩
      rw [← hlf6] at hat
      obtain ⟨a6, n6, c6, b6, m6, d6, e6, p6, f6, rfl⟩ := node_form hat
      have hVd := stays HVC.out hbd
      obtain ⟨we, hwe⟩ : ∃ we, we = wd.alloc (.cells #[.bool lf6, .slice a6 n6 c6, .slice b6 m6 d6, .slice e6 p6 f6] 27 (0, 0)) := ⟨_, rfl⟩
      have hbe : Below wd.heap.size wd we := by rw [hwe]; exact (Below.refl _ _).alloc (Nat.le_refl _) _
      have HAe := hide (node_below (node_below HAC.out hbd) hbe)
      have HBe : Hid (Below w.heap.size w we) := hide ((HBC.out.trans (hbd.mono HBC.out.size)).trans (hbe.mono (Nat.le_trans HBC.out.size hbd.size)))
      have p0 := (cell_at hVd 0).1
      have p1 := (cell_at hVd 1).1
      have p2 := (cell_at hVd 2).1
      have p3 := (cell_at hVd 3).1
      have hl0 : g5 < wd.heap.size := (Array.getElem?_eq_some_iff.1 hVd).1
      have hne0 : g5 ≠ wd.heap.size := by omega
      clear hrd hmo6 hbd hat hbe hVd hlf6
      go_wp2_with fail
      rw [← hwe]
      clear hwe p0 p1 p2 p3 hl0 hne0
      refine (HTy.out _ (sumTab_below HT.out HBe.out) HAe.out).mono ?_
      rintro e wf ⟨rfl, hbf⟩
      have HBf : Hid (Below w.heap.size w wf) := hide (HBe.out.trans (hbf.mono HBe.out.size))
      clear hbf
      go_wp2_with fail
      refine (drawPlaces_any a len cap _ (code_below HD.out HBf.out)).mono ?_
      rintro e wg ⟨pv, zs, hzl, hz, rfl, hown, hbg⟩
      have HBg : Hid (Below w.heap.size w wg) := hide (HBf.out.trans (hbg.mono HBf.out.size))
      obtain ⟨gp, cp, hpv⟩ : ∃ gp cp, pv = .slice (some ⟨gp, 0, none⟩) 12 cp := by
        rcases hown.2 with ⟨_, h0⟩ | ⟨g, c, cur, e1, _⟩
        · omega
        · exact ⟨g, c, e1⟩
      subst hpv
      obtain ⟨z0, hz0⟩ : ∃ z, zs[0]? = some z := ⟨zs[0], by simp⟩
      obtain ⟨z1, hz1⟩ : ∃ z, zs[1]? = some z := ⟨zs[1], by simp⟩
      have HTu := hide (turned_any t (by omega) gp cp z0 z1 (hz z0 (List.mem_of_getElem? hz0)) (hz z1 (List.mem_of_getElem? hz1)) wg (by rw [hown.cellAt 0 (by omega), intVs, List.getElem?_map, hz0]; rfl) (by rw [hown.cellAt 1 (by omega), intVs, List.getElem?_map, hz1]; rfl))
      clear hbg hown hz hz0 hz1 hzl
      go_wp2_with fail
      refine HTu.out.mono ?_
      rintro e wh ⟨s2, rfl, htu, hbh⟩
      have hs2 := turnedT_size htu
      have HTd := hide htu
      have HBh : Hid (Below w.heap.size w wh) := hide (HBg.out.trans (hbh.mono HBg.out.size))
      clear hbh htu
      go_wp2_with fail
      refine (implReadNode_any s2 (by omega) _ (sumTab_below HT.out HBh.out)).mono ?_
      rintro e wi ⟨mb, v7, bent, rfl, hrd, hmo7, hbi⟩
      have hat := node_of_own hmo7
      obtain ⟨lf7, hlf7⟩ : ∃ lf, lf = mb.lf := ⟨_, rfl⟩
      rw [← hlf7] at hat
      obtain ⟨a7, n7, c7, b7, m7, d7, e7, p7, f7, rfl⟩ := node_form hat
      have HBi : Hid (Below w.heap.size w wi) := hide (HBh.out.trans (hbi.mono HBh.out.size))
      skip
      clear hrd hmo7 hbi hat hlf7
      have hbel : Hid (Below w.heap.size w (wi.alloc (.cells #[.bool lf7, .slice a7 n7 c7, .slice b7 m7 d7, .slice e7 p7 f7] 27 (0, 0)))) := hide (HBi.out.alloc HBi.out.size _)
      have htz2 : decide ((t.size : Int) ≤ 240) = true := decide_eq_true (by omega)
      cases want with
      | true =>
        have hau := HAg.out rfl
        subst hau
        have hbq := ba_beq ag ag
        rw [decide_eq_true rfl] at hbq
        go_wp2_with fail
        go_ret
        exact ⟨rfl, hbel.out⟩
      | false =>
        go_wp2_with fail
        go_ret
        exact ⟨rfl, hbel.out⟩
    | true =>
      obtain ⟨rfl, hx⟩ := HYes.out rfl
      subst hx
      have hlq : lf3 = lf1 := HLf3.out.trans HLf.out.symm
      subst hlq
      have HSm : Hid (∀ wx, NodeAt wx (.agg #[.bool lf3, .slice a3 n3 c3, .slice b3 m3 d3, .slice e3 p3 f3]) lf3 mx.ks mx.vs mx.cs → NodeAt wx (.agg #[.bool lf3, .slice a1 n1 c1, .slice b1 m1 d1, .slice e1 p1 f1]) lf3 mx.ks mx.vs mx.cs → Calls Tryd.prog 17 #[.agg #[.bool lf3, .slice a3 n3 c3, .slice b3 m3 d3, .slice e3 p3 f3], .agg #[.bool lf3, .slice a1 n1 c1, .slice b1 m1 d1, .slice e1 p1 f1]] wx fun e w' => e = .returned (.bool true) ∧ Below wx.heap.size wx w') := hide (fun wx h h' => by
        have hs := HSz.out
        have e := HLf3.out
        rw [e] at h h' ⊢
        exact sameNode_same mx (by omega) (by omega) (by omega) _ _ wx h h')
      have q0 := (cell_at HV5.out 0).1
      have q1 := (cell_at HV5.out 1).1
      have q2 := (cell_at HV5.out 2).1
      have q3 := (cell_at HV5.out 3).1
      have r0 := (cell_at HX5.out 0).1
      have r1 := (cell_at HX5.out 1).1
      have r2 := (cell_at HX5.out 2).1
      have r3 := (cell_at HX5.out 3).1
      go_wp2_with fail
      refine (HSm.out _ HXm5.out HA5.out).mono ?_
      rintro e w6 ⟨rfl, hb6⟩
      have HB9 : Hid (Below w.heap.size w w6) := hide (HB5.out.trans (hb6.mono HB5.out.size))
      clear hb6 q0 q1 q2 q3 r0 r1 r2 r3
      go_wp2_with fail
      refine (drawReadNode_any a len cap _ (code_below HD.out HB9.out)).mono ?_
      rintro e wa ⟨u, rfl, hu, hba⟩
      have HBa : Hid (Below w.heap.size w wa) := hide (HB9.out.trans (hba.mono HB9.out.size))
      clear hba
      go_wp2_with fail
      refine (implReadNode_any u (by omega) _ (sumTab_below HT.out HBa.out)).mono ?_
      rintro e wb ⟨my, v5, may, rfl, hrd, hmo5, hbb⟩
      have hat := node_of_own hmo5
      obtain ⟨lf5, hlf5⟩ : ∃ lf, lf = my.lf := ⟨_, rfl⟩
      rw [← hlf5] at hat
      obtain ⟨a5, n5, c5, b5, m5, d5, e5, p5, f5, rfl⟩ := node_form hat
      have HRy := hide hrd
      obtain ⟨y1, y2, y3, y4, y5⟩ := readN_small hrd
      have HTy := hide (fun wx ht h => implNodeText_any (.agg #[.bool lf5, .slice a5 n5 c5, .slice b5 m5 d5, .slice e5 p5 f5]) lf5 my.ks my.vs my.cs (by omega) (by omega) (by omega) (fun s hs => by have := y4 s hs; omega) (fun s hs => by have := y5 s hs; omega) wx ht h)
      obtain ⟨ag, hag⟩ : ∃ ag, ag = nodeO lf5 my.ks my.vs my.cs := ⟨_, rfl⟩
      obtain ⟨oky, hoky⟩ : ∃ ok, ok = nodeOkB lf5 my.ks my.vs my.cs := ⟨_, rfl⟩
      rw [← hag, ← hoky] at HTy
      have HAg : Hid (may = true → ag = u) := hide (fun h => by rw [hag, hlf5]; exact readN_back (by rw [← h]; exact HRy.out))
      obtain ⟨wC, hwC⟩ : ∃ wC, wC = wb.alloc (.cells #[.bool lf5, .slice a5 n5 c5, .slice b5 m5 d5, .slice e5 p5 f5] 27 (0, 0)) := ⟨_, rfl⟩
      obtain ⟨g5, hg5⟩ : ∃ g, g = wb.heap.size := ⟨_, rfl⟩
      have hbC : Below wb.heap.size wb wC := by rw [hwC]; exact (Below.refl _ _).alloc (Nat.le_refl _) _
      have HVC : Hid (wC.heap[g5]? = some (.cells #[.bool lf5, .slice a5 n5 c5, .slice b5 m5 d5, .slice e5 p5 f5] 27 (0, 0))) := hide (by rw [hwC, hg5]; exact heap_alloc_new wb _)
      have HAC := hide (node_below hat hbC)
      have HBC : Hid (Below w.heap.size w wC) := hide ((HBa.out.trans (hbb.mono HBa.out.size)).trans (hbC.mono (Nat.le_trans HBa.out.size hbb.size)))
      clear hrd hmo5 hbb hat hbC y1 y2 y3 y4 y5 hag hoky hlf5
      go_wp2_with fail
      rw [← hwC, ← hg5]
      clear hwC hg5
      refine (specReadNode_any u (by omega) _).mono ?_
      rintro e wd ⟨mz, v6, want, rfl, hrd, hmo6, hbd⟩
      obtain ⟨-, e2⟩ := readN_one hrd HRy.out
      subst e2
      have hat := node_of_own hmo6
      obtain ⟨lf6, hlf6⟩ : ∃ lf, lf = mz.lf := ⟨_, rfl⟩
      rw [← hlf6] at hat
      obtain ⟨a6, n6, c6, b6, m6, d6, e6, p6, f6, rfl⟩ := node_form hat
      have hVd := stays HVC.out hbd
      obtain ⟨we, hwe⟩ : ∃ we, we = wd.alloc (.cells #[.bool lf6, .slice a6 n6 c6, .slice b6 m6 d6, .slice e6 p6 f6] 27 (0, 0)) := ⟨_, rfl⟩
      have hbe : Below wd.heap.size wd we := by rw [hwe]; exact (Below.refl _ _).alloc (Nat.le_refl _) _
      have HAe := hide (node_below (node_below HAC.out hbd) hbe)
      have HBe : Hid (Below w.heap.size w we) := hide ((HBC.out.trans (hbd.mono HBC.out.size)).trans (hbe.mono (Nat.le_trans HBC.out.size hbd.size)))
      have p0 := (cell_at hVd 0).1
      have p1 := (cell_at hVd 1).1
      have p2 := (cell_at hVd 2).1
      have p3 := (cell_at hVd 3).1
      have hl0 : g5 < wd.heap.size := (Array.getElem?_eq_some_iff.1 hVd).1
      have hne0 : g5 ≠ wd.heap.size := by omega
      clear hrd hmo6 hbd hat hbe hVd hlf6
      go_wp2_with fail
      rw [← hwe]
      clear hwe p0 p1 p2 p3 hl0 hne0
      refine (HTy.out _ (sumTab_below HT.out HBe.out) HAe.out).mono ?_
      rintro e wf ⟨rfl, hbf⟩
      have HBf : Hid (Below w.heap.size w wf) := hide (HBe.out.trans (hbf.mono HBe.out.size))
      clear hbf
      go_wp2_with fail
      refine (drawPlaces_any a len cap _ (code_below HD.out HBf.out)).mono ?_
      rintro e wg ⟨pv, zs, hzl, hz, rfl, hown, hbg⟩
      have HBg : Hid (Below w.heap.size w wg) := hide (HBf.out.trans (hbg.mono HBf.out.size))
      obtain ⟨gp, cp, hpv⟩ : ∃ gp cp, pv = .slice (some ⟨gp, 0, none⟩) 12 cp := by
        rcases hown.2 with ⟨_, h0⟩ | ⟨g, c, cur, e1, _⟩
        · omega
        · exact ⟨g, c, e1⟩
      subst hpv
      obtain ⟨z0, hz0⟩ : ∃ z, zs[0]? = some z := ⟨zs[0], by simp⟩
      obtain ⟨z1, hz1⟩ : ∃ z, zs[1]? = some z := ⟨zs[1], by simp⟩
      have HTu := hide (turned_any t (by omega) gp cp z0 z1 (hz z0 (List.mem_of_getElem? hz0)) (hz z1 (List.mem_of_getElem? hz1)) wg (by rw [hown.cellAt 0 (by omega), intVs, List.getElem?_map, hz0]; rfl) (by rw [hown.cellAt 1 (by omega), intVs, List.getElem?_map, hz1]; rfl))
      clear hbg hown hz hz0 hz1 hzl
      go_wp2_with fail
      refine HTu.out.mono ?_
      rintro e wh ⟨s2, rfl, htu, hbh⟩
      have hs2 := turnedT_size htu
      have HTd := hide htu
      have HBh : Hid (Below w.heap.size w wh) := hide (HBg.out.trans (hbh.mono HBg.out.size))
      clear hbh htu
      go_wp2_with fail
      refine (implReadNode_any s2 (by omega) _ (sumTab_below HT.out HBh.out)).mono ?_
      rintro e wi ⟨mb, v7, bent, rfl, hrd, hmo7, hbi⟩
      have hat := node_of_own hmo7
      obtain ⟨lf7, hlf7⟩ : ∃ lf, lf = mb.lf := ⟨_, rfl⟩
      rw [← hlf7] at hat
      obtain ⟨a7, n7, c7, b7, m7, d7, e7, p7, f7, rfl⟩ := node_form hat
      have HBi : Hid (Below w.heap.size w wi) := hide (HBh.out.trans (hbi.mono HBh.out.size))
      have hbn : bent = false := readN_turned HOk.out.symm (by rw [← HTt.out]; exact HTd.out) hrd
      subst hbn
      clear hrd hmo7 hbi hat hlf7
      have hbel : Hid (Below w.heap.size w (wi.alloc (.cells #[.bool lf7, .slice a7 n7 c7, .slice b7 m7 d7, .slice e7 p7 f7] 27 (0, 0)))) := hide (HBi.out.alloc HBi.out.size _)
      have htz2 : decide ((t.size : Int) ≤ 240) = true := decide_eq_true (by omega)
      cases want with
      | true =>
        have hau := HAg.out rfl
        subst hau
        have hbq := ba_beq ag ag
        rw [decide_eq_true rfl] at hbq
        go_wp2_with fail
        go_ret
        exact ⟨rfl, hbel.out⟩
      | false =>
        go_wp2_with fail
        go_ret
        exact ⟨rfl, hbel.out⟩
end Go.Proofs.YtglcfaibgjiigaaDoor
