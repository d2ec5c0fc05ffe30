/-
  Facts and contracts that the law's own text rests on, by their texts' names: DiskSpecN, DiskCopyN, StepCall, SepWork, Draw, Draw2, NodeGrow, SepNode, GiveVar, TwoWays, Plain18, SpecIn, Meta.
-/
import Derived.Test.YtdbpbhemnnffeaaGreatDoorXw7
import Derived.Test.YtdbpbhemnnffeaaGreatDoorXw8
import Derived.Deep.AppendLies
import Derived.Deep.RegionLaw
import Derived.Test.YtdbpbhemnnffeaaGreatDoorXw1
import Derived.Test.YtdbpbhemnnffeaaGreatDoorXw6
import Derived.BigQuiet
import Derived.Deep.QuietTactic
import Derived.Laws.BitsAllLaws
import Derived.Laws.OwnMore
import Derived.Laws.Pointers
import Derived.Laws.Shifts
import Derived.Outline
import Derived.OwnWalk
import Derived.WalkKit
import Derived.WalkSmall
import Derived.WalkSpells
import Derived.Test.YtdbpbhemnnffeaaGreatDoorXw2
import Derived.Test.YtdbpbhemnnffeaaGreatDoorProg
import Derived.Deep.LoopGhost
import Derived.Test.YtdbpbhemnnffeaaGreatDoorXw4
import Derived.Deep.RegionHeld3
import Derived.Test.YtdbpbhemnnffeaaGreatDoorXw3
namespace Go.Proofs.YtdbpbhemnnffeaaGreatDoor
open Go.RowKit
theorem l01In_any (x a b : Int) (w : World) : Calls Tryz.prog 86 #[.int .i64 x, .int .i64 a, .int .i64 b] w fun e w' => e = .returned (.bool (decide (a ≤ x ∧ x ≤ b))) ∧ w = w' := by
  by_cases h : a ≤ x ∧ x ≤ b
  · rw [decide_eq_true h]; exact l01In_yes x a b w h.1 h.2
  · rw [decide_eq_false h]; exact l01In_no x a b w (by omega)
set_option maxHeartbeats 1000000 in
theorem specReadPage_any (v : Value) (ps : List ByteArray) (ls : List (Int × ByteArray)) (hp : ps.length ≤ 1048576) (hl : ls.length ≤ 1048576) (page : Int) (w : World) (hd : DiskAt w v ps ls) :
    Calls Tryz.prog 74 #[v, .int .i64 page] w fun e w' => e = .returned (.string (readD ps ls page)) ∧ Below w.heap.size w w' := by
  obtain ⟨vp, vl, rfl, h1, h2⟩ := hd
  obtain ⟨x1, c1, rfl⟩ : ∃ a cap, vp = .slice a ps.length cap := by obtain ⟨-, a, cap, e, -⟩ := h1; exact ⟨a, cap, e⟩
  obtain ⟨x2, c2, rfl⟩ : ∃ a cap, vl = .slice a ls.length cap := by obtain ⟨-, a, cap, e, -⟩ := h2; exact ⟨a, cap, e⟩
  have H1 := hide h1
  have H2 := hide h2
  clear h1 h2
  have HC := hide (l01In_any page 0 ((ps.length : Int) - 1))
  have hb0 : Below w.heap.size w (w.alloc (Obj.cells #[.slice x1 ps.length c1, .slice x2 ls.length c2] 45)) := (Below.refl w.heap.size w).alloc (Nat.le_refl _) _
  have HB0 := hide hb0
  clear hb0
  by_cases hin : 0 ≤ page ∧ page ≤ (ps.length : Int) - 1
  · rw [decide_eq_true hin] at HC
    go_enter Tryz.func74, Tryz.ntmps74
    go_wp2_with fail
    refine (HC.out _).mono ?_
    rintro e w1 ⟨rfl, rfl⟩
    go_wp2_with fail
    obtain ⟨w0, hw0⟩ : ∃ w0, w0 = w.alloc (Obj.cells #[.slice x1 ps.length c1, .slice x2 ls.length c2] 45) := ⟨_, rfl⟩
    rw [← hw0]
    rw [← hw0] at HB0
    have hblk : w0.heap[w.heap.size]? = some (Obj.cells #[.slice x1 ps.length c1, .slice x2 ls.length c2] 45) := by rw [hw0]; exact heap_alloc_new w _
    have cb0 : w0.cell? ⟨w.heap.size, 0, none⟩ = some (.slice x1 ps.length c1) := (cell_at hblk 0).1
    have cb1 : w0.cell? ⟨w.heap.size, 1, none⟩ = some (.slice x2 ls.length c2) := (cell_at hblk 1).1
    clear hw0 hblk
    go_loopg [5] ls.length (fun q iv wr => ∃ k : Nat, k ≤ ls.length ∧ iv = .int .i64 ((k : Int) - 1) ∧ q = k ∧ Hid (lateAt ls page ls.length = lateAt ls page k) ∧ w0 = wr)
    case atStart => exact ⟨ls.length, Nat.le_refl _, rfl, rfl, hide rfl, rfl⟩
    case round =>
      obtain ⟨k, hk, rfl, hgk, HL, rfl⟩ := hrel
      have HGk := hide hgk
      clear hgk
      by_cases hk0 : k = 0
      · subst hk0
        have HO : Hid (readD ps ls page = ps.getD page.toNat ⟨#[]⟩) := hide (readD_page (by omega) (by rw [HL.out]; rfl))
        obtain ⟨n, hn⟩ := Int.eq_ofNat_of_zero_le hin.1
        have hnl : n < ps.length := by omega
        obtain ⟨x, hx⟩ : ∃ x, x = ps.getD page.toNat ⟨#[]⟩ := ⟨_, rfl⟩
        rcases H1.out.2 with ⟨a, cap, e, h0 | ⟨b, off, e2, hbl, hc⟩⟩
        · omega
        · injection e with e1 e3 e4
          subst e1 e4
          subst e2
          have hcell : w0.cell? ⟨b, off + n, none⟩ = some (.string x) := by
            rw [HB0.out.cell (by exact hbl), hc n (by omega), strs_at ps n hnl, hx, hn]
            simp [List.getD, hnl]
          rw [← hx] at HO
          subst hn
          have hi0 : (0 : Int) ≤ (n : Int) := by omega
          have hi1 : (n : Int) < (ps.length : Int) := by omega
          clear hx hc
          go_wp2_with fail
          go_ret
          rw [HO.out]
          exact ⟨rfl, HB0.out⟩
      · obtain ⟨j, rfl⟩ : ∃ j, k = j + 1 := ⟨k - 1, by omega⟩
        have hjl : j < ls.length := by omega
        rcases H2.out.2 with ⟨a, cap, e, h0 | ⟨b, off, e2, hbl, hc⟩⟩
        · omega
        · injection e with e1 e3 e4
          subst e1 e4
          subst e2
          obtain ⟨q, t, hqt⟩ : ∃ q t, (q, t) = ls[j] := ⟨_, _, rfl⟩
          have hget : ls[j]? = some (q, t) := by rw [List.getElem?_eq_getElem hjl, hqt]
          have hc0 : w0.cell? ⟨b, off + j * 2, none⟩ = some (.int .i64 q) := by rw [HB0.out.cell (by exact hbl), hc (j * 2) (by omega), (puts_at ls j hjl).1, ← hqt]
          have hc1 : w0.cell? ⟨b, off + j * 2 + 1, none⟩ = some (.string t) := by rw [HB0.out.cell (by exact hbl), Nat.add_assoc, hc (j * 2 + 1) (by omega), (puts_at ls j hjl).2, ← hqt]
          have hi0 : (0 : Int) ≤ (j : Int) := by omega
          have hi1 : (j : Int) < (ls.length : Int) := by omega
          have hij : ((j + 1 : Nat) : Int) - 1 = (j : Int) := by omega
          rw [hij]
          have HGet := hide hget
          clear hc hqt hget hij
          by_cases hq : q = page
          · subst hq
            have HO : Hid (readD ps ls q = t) := hide (readD_late (by omega) (by rw [HL.out]; exact lateAt_hit HGet.out))
            go_wp2_with fail
            go_ret
            rw [HO.out]
            exact ⟨rfl, HB0.out⟩
          · have HL2 : Hid (lateAt ls page ls.length = lateAt ls page j) := hide (by rw [HL.out]; exact lateAt_miss HGet.out hq)
            go_wp2_with fail
            go_roundg j
            case measure => have := HGk.out; omega
            case rel => exact ⟨j, by omega, by go_num, rfl, HL2, rfl⟩
  · rw [decide_eq_false hin] at HC
    have HO : Hid (readD ps ls page = ⟨#[]⟩) := hide (readD_out (by omega))
    go_enter Tryz.func74, Tryz.ntmps74
    go_wp2_with fail
    refine (HC.out _).mono ?_
    rintro e w1 ⟨rfl, rfl⟩
    go_wp2_with fail
    go_ret
    rw [HO.out]
    exact ⟨rfl, HB0.out⟩
open Go.RowKit
theorem k1 {w w' : World} {o : Obj} {g k : Nat} {x : Obj} (hg : (w.alloc o).drew.grownBy w' (some g)) (hq : w.heap[k]? = some x) (hlt : k < w.heap.size) (hne : k ≠ g) : w'.heap[k]? = some x :=
  ((hg.block k (by show k < (w.alloc o).heap.size; simp; omega) (by intro e; injection e with e; exact hne e)).trans (Below.heap_alloc w o k hlt)).trans hq
theorem k2 {w w' : World} {o o' : Obj} {g k : Nat} {x : Obj} (hg : ((w.alloc o).alloc o').drew.grownBy w' (some g)) (hq : w.heap[k]? = some x) (hlt : k < w.heap.size) (hne : k ≠ g) : w'.heap[k]? = some x :=
  (((hg.block k (by show k < ((w.alloc o).alloc o').heap.size; simp; omega) (by intro e; injection e with e; exact hne e)).trans (Below.heap_alloc (w.alloc o) o' k (by simp; omega))).trans (Below.heap_alloc w o k hlt)).trans hq
theorem k3 {w w' : World} {o : Obj} {g k : Nat} {x : Obj} (hg : (w.alloc o).grownBy w' (some g)) (hq : w.heap[k]? = some x) (hne : k ≠ g) : w'.heap[k]? = some x := by
  have hlt : k < w.heap.size := (Array.getElem?_eq_some_iff.1 hq).1
  exact ((hg.block k (by simp; omega) (by intro e; injection e with e; exact hne e)).trans (Below.heap_alloc w o k hlt)).trans hq
theorem k4 {w w' : World} {g k : Nat} {x : Obj} (hg : w.grownBy w' (some g)) (hq : w.heap[k]? = some x) (hne : k ≠ g) : w'.heap[k]? = some x :=
  (hg.block k (Array.getElem?_eq_some_iff.1 hq).1 (by intro e; injection e with e; exact hne e)).trans hq
open Go.RowKit
theorem step_call2 {P : Program} (w : World) {ops : Array Oper} {o : Oper} {a : Act} {K : Act → World → Prop} {Q : Exit → Act → World → Prop} {E : Prop} (hgd : o.guard = none) (f : FuncId) (fn : Func) (hfn : P.funcs[f]? = some fn) (hname : ¬ fn.name = "runtime.NumGoroutine") (hbody : ¬ fn.body = none) (s x : Operand) (ts : Array TypeId)
    (ho : o.op = .call { callee := .value (.func f), args := #[s, x], argTypes := ts }) (u v : Value) (hs : a.eval s = u) (hx : a.eval x = v)
    (R : Ending → World → Prop) (hc : Calls P f #[u, v] w R) (hR : ∀ e w', R e w' → ∃ r, e = .returned r ∧ K (a.put o.dst r) w') :
    if Region.wanted o (yielded ops a.tmps) = true then Oper.wp P o a w K Q else E := by
  have hw : Region.wanted o (yielded ops a.tmps) = true := by simp [Region.wanted, hgd]
  rw [if_pos hw]
  unfold Oper.wp execOp
  have hf : a.eval (.func f) = .func (.func f) #[] #[] := rfl
  simp only [ho, resolve, invoke, hf, Deferred.ofValue, callFunc, Sem.run_bind, Sem.run_pure, Result.andThen_ok, List.map_toArray, List.map_cons, List.map_nil, hs, hx]
  simp [go_sem, hfn, hname, hbody]
  refine hc.mono ?_
  intro e w' h
  obtain ⟨r, rfl, hk⟩ := hR e w' h
  exact hk
theorem step_call1 {P : Program} (w : World) {ops : Array Oper} {o : Oper} {a : Act} {K : Act → World → Prop} {Q : Exit → Act → World → Prop} {E : Prop} (hgd : o.guard = none) (f : FuncId) (fn : Func) (hfn : P.funcs[f]? = some fn) (hname : ¬ fn.name = "runtime.NumGoroutine") (hbody : ¬ fn.body = none) (s : Operand) (ts : Array TypeId)
    (ho : o.op = .call { callee := .value (.func f), args := #[s], argTypes := ts }) (u : Value) (hs : a.eval s = u)
    (R : Ending → World → Prop) (hc : Calls P f #[u] w R) (hR : ∀ e w', R e w' → ∃ r, e = .returned r ∧ K (a.put o.dst r) w') :
    if Region.wanted o (yielded ops a.tmps) = true then Oper.wp P o a w K Q else E := by
  have hw : Region.wanted o (yielded ops a.tmps) = true := by simp [Region.wanted, hgd]
  rw [if_pos hw]
  unfold Oper.wp execOp
  have hf : a.eval (.func f) = .func (.func f) #[] #[] := rfl
  simp only [ho, resolve, invoke, hf, Deferred.ofValue, callFunc, Sem.run_bind, Sem.run_pure, Result.andThen_ok, List.map_toArray, List.map_cons, List.map_nil, hs]
  simp [go_sem, hfn, hname, hbody]
  refine hc.mono ?_
  intro e w' h
  obtain ⟨r, rfl, hk⟩ := hR e w' h
  exact hk
open Go.RowKit
def diskA (B : Nat) (v : Value) (ps : List ByteArray) (ls : List (Int × ByteArray)) : Ast := ⟨diskBlocks v, fun W => DiskOwn W B v ps ls, fun W W' h hk => by
  obtain ⟨vp, vl, rfl, h1, h2⟩ := h
  exact ⟨vp, vl, rfl, (rowA B 9 1 vp ps.length (strs ps)).loc W W' h1 (fun k e => hk k ⟨_, _, rfl, Or.inl e⟩), (rowA B 147 2 vl ls.length (puts ls)).loc W W' h2 (fun k e => hk k ⟨_, _, rfl, Or.inr e⟩)⟩⟩
open Go.RowKit
theorem grown_setCell (w : World) (g j : Nat) (u : Value) : w.grownBy (w.setCell ⟨g, j, none⟩ u) (some g) :=
  ⟨rfl, rfl, rfl, by simp, fun k _ hk => heap_setCell_other w ⟨g, j, none⟩ k u (fun e => hk (by simp [e]))⟩
theorem grown_trans {a b c : World} {r : Option Nat} (h : a.grownBy b r) (k : b.grownBy c r) : a.grownBy c r :=
  ⟨k.os.trans h.os, k.tape.trans h.tape, k.output.trans h.output, Nat.le_trans h.size k.size, fun j hj hne => (k.block j (Nat.lt_of_lt_of_le hj h.size) hne).trans (h.block j hj hne)⟩
open Go.RowKit
theorem grown_alloc {a b : World} {r : Option Nat} (h : a.grownBy b r) (o : Obj) : a.grownBy (b.alloc o) r := grown_trans h (World.grownBy_alloc b o r)
open Go.RowKit
def NSt (w : World) (gn : Nat) (n : Nd) (v1 v2 v3 : Value) : Prop :=
  w.heap[gn]? = some (.cells #[.bool n.lf, v1, v2, v3] 129 (0, 0)) ∧ w.ownsRow (gn + 1) 9 1 v1 n.ks.length (strs n.ks) ∧ w.ownsRow (gn + 1) 9 1 v2 n.vs.length (strs n.vs) ∧ w.ownsRow (gn + 1) 3 1 v3 n.cs.length (ints n.cs) ∧ ∀ k, v1.ownBlock = some k → v2.ownBlock ≠ some k
theorem nst_lt {w : World} {gn : Nat} {n : Nd} {v1 v2 v3 : Value} (h : NSt w gn n v1 v2 v3) : gn < w.heap.size := (Array.getElem?_eq_some_iff.1 h.1).1
theorem nst_grown {w w' : World} {g gn : Nat} {n : Nd} {v1 v2 v3 : Value} (h : NSt w gn n v1 v2 v3) (hg : w.grownBy w' (some g)) (hlt : g < gn) : NSt w' gn n v1 v2 v3 := by
  have hl := nst_lt h
  obtain ⟨h0, h1, h2, h3, h4⟩ := h
  refine ⟨(hg.block gn hl (fun e => by injection e with e; omega)).trans h0, h1.kept hg (Or.inr (fun e => by have := (h1.lt _ e).1; omega)), h2.kept hg (Or.inr (fun e => by have := (h2.lt _ e).1; omega)), h3.kept hg (Or.inr (fun e => by have := (h3.lt _ e).1; omega)), h4⟩
theorem nst_below {w w' : World} {gn : Nat} {n : Nd} {v1 v2 v3 : Value} (h : NSt w gn n v1 v2 v3) (hb : Below w.heap.size w w') : NSt w' gn n v1 v2 v3 := by
  have hl := nst_lt h
  obtain ⟨h0, h1, h2, h3, h4⟩ := h
  exact ⟨(hb.block gn hl).trans h0, own_stays h1 hb, own_stays h2 hb, own_stays h3 hb, h4⟩
theorem nst_node {w : World} {gn : Nat} {n : Nd} {v1 v2 v3 : Value} (h : NSt w gn n v1 v2 v3) : NodeOwn w (gn + 1) (.agg #[.bool n.lf, v1, v2, v3]) n.lf n.ks n.vs n.cs := ⟨v1, v2, v3, rfl, h.2.1, h.2.2.1, h.2.2.2.1, h.2.2.2.2⟩
theorem str_snoc (l : List ByteArray) (x : ByteArray) : strs l ++ [.string x] = strs (l ++ [x]) := by simp [strs]
theorem int_snoc (l : List Int) (x : Int) : ints l ++ [.int .i64 x] = ints (l ++ [x]) := by simp [ints]
theorem one_new (w : World) (n : Nat) (hn : n = w.heap.size) (x : Value) (T : TypeId) : ∀ (j : Nat) (u : Value), [x][j]? = some u → (w.alloc (Obj.cells #[x] T)).cell? ((⟨n, 0, none⟩ : Addr).add j) = some u := by
  subst hn
  intro j u hj
  obtain rfl : j = 0 := by have := (List.getElem?_eq_some_iff.1 hj).1; simp at this; omega
  rw [Addr.add_lit, ← hj]
  exact (cell_at (heap_alloc_new w _) 0).1
theorem apart {u v : Value} (h : ∀ k, u.ownBlock = some k → v.ownBlock ≠ some k) : v.ownBlock = none ∨ v.ownBlock ≠ u.ownBlock := by
  cases hv : v.ownBlock with
  | none => exact Or.inl rfl
  | some k => exact Or.inr (fun e => h k e.symm hv)
theorem away {u : Value} {gn : Nat} (h : ∀ k, u.ownBlock = some k → gn < k) : some gn ≠ u.ownBlock := fun e => by have := h gn e.symm; omega
theorem nst_key {w w' : World} {gn b cap : Nat} {n : Nd} {v1 v2 v3 : Value} {x : ByteArray} (h : NSt w gn n v1 v2 v3) (hown : w'.ownsRow (gn + 1) 9 1 (.slice (some ⟨b, 0, none⟩) (n.ks.length + 1) cap) (n.ks.length + 1) (strs n.ks ++ [.string x])) (hg : w.grownBy w' v1.ownBlock) (hb : v1.ownBlock = some b ∨ b = w.heap.size) :
    NSt (w'.setCell ⟨gn, 1, none⟩ (.slice (some ⟨b, 0, none⟩) (n.ks.length + 1) cap)) gn ⟨n.lf, n.ks ++ [x], n.vs, n.cs⟩ (.slice (some ⟨b, 0, none⟩) (n.ks.length + 1) cap) v2 v3 := by
  have hl := nst_lt h
  obtain ⟨h0, h1, h2, h3, h4⟩ := h
  have hgn : w'.heap[gn]? = _ := (hg.block gn hl (away (fun k e => by have := (h1.lt k e).1; omega))).trans h0
  have hs := grown_setCell w' gn 1 (.slice (some ⟨b, 0, none⟩) (n.ks.length + 1) cap)
  have k2 := h2.kept hg (apart h4)
  have k3 := h3.kept hg (apart (fun k e => one_type h1 h3 Tryz.str_int k e))
  refine ⟨heap_setCell_same w' gn 1 _ _ _ hgn, ?_, k2.kept hs (Or.inr (fun e => by have := (h2.lt _ e).1; omega)), k3.kept hs (Or.inr (fun e => by have := (h3.lt _ e).1; omega)), ?_⟩
  · rw [List.length_append, ← str_snoc]
    exact hown.kept hs (Or.inr (fun e => by have := (hown.lt _ e).1; omega))
  · intro k e1 e2
    have e1 : b = k := Option.some.inj e1
    subst e1
    rcases hb with hb | hb
    · exact h4 b hb e2
    · have := (h2.lt b e2).2; omega
theorem nst_val {w w' : World} {gn b cap : Nat} {n : Nd} {v1 v2 v3 : Value} {x : ByteArray} (h : NSt w gn n v1 v2 v3) (hown : w'.ownsRow (gn + 1) 9 1 (.slice (some ⟨b, 0, none⟩) (n.vs.length + 1) cap) (n.vs.length + 1) (strs n.vs ++ [.string x])) (hg : w.grownBy w' v2.ownBlock) (hb : v2.ownBlock = some b ∨ b = w.heap.size) :
    NSt (w'.setCell ⟨gn, 2, none⟩ (.slice (some ⟨b, 0, none⟩) (n.vs.length + 1) cap)) gn ⟨n.lf, n.ks, n.vs ++ [x], n.cs⟩ v1 (.slice (some ⟨b, 0, none⟩) (n.vs.length + 1) cap) v3 := by
  have hl := nst_lt h
  obtain ⟨h0, h1, h2, h3, h4⟩ := h
  have hgn : w'.heap[gn]? = _ := (hg.block gn hl (away (fun k e => by have := (h2.lt k e).1; omega))).trans h0
  have hs := grown_setCell w' gn 2 (.slice (some ⟨b, 0, none⟩) (n.vs.length + 1) cap)
  have k1 := h1.kept hg (apart (fun k e e' => h4 k e' e))
  have k3 := h3.kept hg (apart (fun k e => one_type h2 h3 Tryz.str_int k e))
  refine ⟨heap_setCell_same w' gn 2 _ _ _ hgn, k1.kept hs (Or.inr (fun e => by have := (h1.lt _ e).1; omega)), ?_, k3.kept hs (Or.inr (fun e => by have := (h3.lt _ e).1; omega)), ?_⟩
  · rw [List.length_append, ← str_snoc]
    exact hown.kept hs (Or.inr (fun e => by have := (hown.lt _ e).1; omega))
  · intro k e1 e2
    have e2 : b = k := Option.some.inj e2
    subst e2
    rcases hb with hb | hb
    · exact h4 b e1 hb
    · have := (h1.lt b e1).2; omega
theorem nst_kid {w w' : World} {gn b cap : Nat} {n : Nd} {v1 v2 v3 : Value} {x : Int} (h : NSt w gn n v1 v2 v3) (hown : w'.ownsRow (gn + 1) 3 1 (.slice (some ⟨b, 0, none⟩) (n.cs.length + 1) cap) (n.cs.length + 1) (ints n.cs ++ [.int .i64 x])) (hg : w.grownBy w' v3.ownBlock) :
    NSt (w'.setCell ⟨gn, 3, none⟩ (.slice (some ⟨b, 0, none⟩) (n.cs.length + 1) cap)) gn ⟨n.lf, n.ks, n.vs, n.cs ++ [x]⟩ v1 v2 (.slice (some ⟨b, 0, none⟩) (n.cs.length + 1) cap) := by
  have hl := nst_lt h
  obtain ⟨h0, h1, h2, h3, h4⟩ := h
  have hgn : w'.heap[gn]? = _ := (hg.block gn hl (away (fun k e => by have := (h3.lt k e).1; omega))).trans h0
  have hs := grown_setCell w' gn 3 (.slice (some ⟨b, 0, none⟩) (n.cs.length + 1) cap)
  have k1 := h1.kept hg (apart (fun k e => one_type h3 h1 Tryz.str_int.symm k e))
  have k2 := h2.kept hg (apart (fun k e => one_type h3 h2 Tryz.str_int.symm k e))
  refine ⟨heap_setCell_same w' gn 3 _ _ _ hgn, k1.kept hs (Or.inr (fun e => by have := (h1.lt _ e).1; omega)), k2.kept hs (Or.inr (fun e => by have := (h2.lt _ e).1; omega)), ?_, h4⟩
  rw [List.length_append, ← int_snoc]
  exact hown.kept hs (Or.inr (fun e => by have := (hown.lt _ e).1; omega))
theorem key_step {w w' : World} {gn b cap : Nat} {n : Nd} {v1 v2 v3 : Value} {x : ByteArray} {o : Obj} (h : NSt w gn n v1 v2 v3) (hown : w'.ownsRow (gn + 1) 9 1 (.slice (some ⟨b, 0, none⟩) (n.ks.length + 1) cap) (n.ks.length + 1) (strs n.ks ++ [.string x])) (hg : (w.alloc o).grownBy w' v1.ownBlock) (hb : v1.ownBlock = some b ∨ b = (w.alloc o).heap.size) :
    NSt (w'.setCell ⟨gn, 1, none⟩ (.slice (some ⟨b, 0, none⟩) (n.ks.length + 1) cap)) gn ⟨n.lf, n.ks ++ [x], n.vs, n.cs⟩ (.slice (some ⟨b, 0, none⟩) (n.ks.length + 1) cap) v2 v3 ∧ Below gn w (w'.setCell ⟨gn, 1, none⟩ (.slice (some ⟨b, 0, none⟩) (n.ks.length + 1) cap)) ∧ w'.cell? ⟨gn, 1, none⟩ = some v1 ∧ w'.frozen? ⟨gn, 1, none⟩ = false := by
  have hl := nst_lt h
  have hba : Below w.heap.size w (w.alloc o) := (Below.refl _ _).alloc (Nat.le_refl _) _
  have hA := nst_below h hba
  have hlt := fun k e => (h.2.1.lt k e).1
  have cg : w'.heap[gn]? = _ := (hg.block gn (nst_lt hA) (away (fun k e => by have := hlt k e; omega))).trans hA.1
  refine ⟨nst_key hA hown hg hb, ?_, (cell_at cg 1).1, (cell_at cg 1).2⟩
  have h1 : Below gn w w' := ((Below.refl gn w).alloc (by omega) o).grown hg (by have := nst_lt hA; omega) (fun k e => by have := hlt k e; omega)
  exact h1.grown (grown_setCell w' gn 1 _) (by have := h1.size; omega) (fun k e => by injection e with e; omega)
theorem val_step {w w' : World} {gn b cap : Nat} {n : Nd} {v1 v2 v3 : Value} {x : ByteArray} {o : Obj} (h : NSt w gn n v1 v2 v3) (hown : w'.ownsRow (gn + 1) 9 1 (.slice (some ⟨b, 0, none⟩) (n.vs.length + 1) cap) (n.vs.length + 1) (strs n.vs ++ [.string x])) (hg : (w.alloc o).grownBy w' v2.ownBlock) (hb : v2.ownBlock = some b ∨ b = (w.alloc o).heap.size) :
    NSt (w'.setCell ⟨gn, 2, none⟩ (.slice (some ⟨b, 0, none⟩) (n.vs.length + 1) cap)) gn ⟨n.lf, n.ks, n.vs ++ [x], n.cs⟩ v1 (.slice (some ⟨b, 0, none⟩) (n.vs.length + 1) cap) v3 ∧ Below gn w (w'.setCell ⟨gn, 2, none⟩ (.slice (some ⟨b, 0, none⟩) (n.vs.length + 1) cap)) ∧ w'.cell? ⟨gn, 2, none⟩ = some v2 ∧ w'.frozen? ⟨gn, 2, none⟩ = false := by
  have hl := nst_lt h
  have hba : Below w.heap.size w (w.alloc o) := (Below.refl _ _).alloc (Nat.le_refl _) _
  have hA := nst_below h hba
  have hlt := fun k e => (h.2.2.1.lt k e).1
  have cg : w'.heap[gn]? = _ := (hg.block gn (nst_lt hA) (away (fun k e => by have := hlt k e; omega))).trans hA.1
  refine ⟨nst_val hA hown hg hb, ?_, (cell_at cg 2).1, (cell_at cg 2).2⟩
  have h1 : Below gn w w' := ((Below.refl gn w).alloc (by omega) o).grown hg (by have := nst_lt hA; omega) (fun k e => by have := hlt k e; omega)
  exact h1.grown (grown_setCell w' gn 2 _) (by have := h1.size; omega) (fun k e => by injection e with e; omega)
theorem kid_step {w w' : World} {gn b cap : Nat} {n : Nd} {v1 v2 v3 : Value} {x : Int} {o : Obj} (h : NSt w gn n v1 v2 v3) (hown : w'.ownsRow (gn + 1) 3 1 (.slice (some ⟨b, 0, none⟩) (n.cs.length + 1) cap) (n.cs.length + 1) (ints n.cs ++ [.int .i64 x])) (hg : (w.alloc o).grownBy w' v3.ownBlock) (_hb : v3.ownBlock = some b ∨ b = (w.alloc o).heap.size) :
    NSt (w'.setCell ⟨gn, 3, none⟩ (.slice (some ⟨b, 0, none⟩) (n.cs.length + 1) cap)) gn ⟨n.lf, n.ks, n.vs, n.cs ++ [x]⟩ v1 v2 (.slice (some ⟨b, 0, none⟩) (n.cs.length + 1) cap) ∧ Below gn w (w'.setCell ⟨gn, 3, none⟩ (.slice (some ⟨b, 0, none⟩) (n.cs.length + 1) cap)) ∧ w'.cell? ⟨gn, 3, none⟩ = some v3 ∧ w'.frozen? ⟨gn, 3, none⟩ = false := by
  have hl := nst_lt h
  have hba : Below w.heap.size w (w.alloc o) := (Below.refl _ _).alloc (Nat.le_refl _) _
  have hA := nst_below h hba
  have hlt := fun k e => (h.2.2.2.1.lt k e).1
  have cg : w'.heap[gn]? = _ := (hg.block gn (nst_lt hA) (away (fun k e => by have := hlt k e; omega))).trans hA.1
  refine ⟨nst_kid hA hown hg, ?_, (cell_at cg 3).1, (cell_at cg 3).2⟩
  have h1 : Below gn w w' := ((Below.refl gn w).alloc (by omega) o).grown hg (by have := nst_lt hA; omega) (fun k e => by have := hlt k e; omega)
  exact h1.grown (grown_setCell w' gn 3 _) (by have := h1.size; omega) (fun k e => by injection e with e; omega)
theorem grown_low {a b c : World} {g gn : Nat} (h : a.grownBy b (some g)) (k : Below gn b c) (hle : a.heap.size ≤ gn) : a.grownBy c (some g) :=
  ⟨k.os.trans h.os, k.tape.trans h.tape, k.output.trans h.output, Nat.le_trans h.size k.size, fun j hj hne => by
    rw [k.block j (by omega)]
    exact h.block j hj hne⟩
theorem ret_node {w : World} {a B : Nat} {lf : Bool} {v1 v2 v3 c0 c1 c2 c3 : Value} {ks vs : List ByteArray} {cs : List Int} (hq : w.heap[a]? = some (.cells #[c0, c1, c2, c3] 129 (0, 0))) (hn : NodeOwn w B (.agg #[.bool lf, v1, v2, v3]) lf ks vs cs) (hlt : a < B) :
    ((((w.setCell ⟨a, 0, none⟩ (.bool lf)).setCell ⟨a, 1, none⟩ v1).setCell ⟨a, 2, none⟩ v2).setCell ⟨a, 3, none⟩ v3).heap[a]? = some (.cells #[.bool lf, v1, v2, v3] 129 (0, 0)) ∧
    NodeOwn ((((w.setCell ⟨a, 0, none⟩ (.bool lf)).setCell ⟨a, 1, none⟩ v1).setCell ⟨a, 2, none⟩ v2).setCell ⟨a, 3, none⟩ v3) B (.agg #[.bool lf, v1, v2, v3]) lf ks vs cs ∧
    Below a w ((((w.setCell ⟨a, 0, none⟩ (.bool lf)).setCell ⟨a, 1, none⟩ v1).setCell ⟨a, 2, none⟩ v2).setCell ⟨a, 3, none⟩ v3) := by
  have hal : a < w.heap.size := (Array.getElem?_eq_some_iff.1 hq).1
  have g1 := grown_trans (grown_trans (grown_trans (grown_setCell w a 0 (.bool lf)) (grown_setCell _ a 1 v1)) (grown_setCell _ a 2 v2)) (grown_setCell _ a 3 v3)
  refine ⟨heap_setCell_same _ a 3 _ _ _ (heap_setCell_same _ a 2 _ _ _ (heap_setCell_same _ a 1 _ _ _ (heap_setCell_same w a 0 _ _ _ hq))), ?_, (Below.refl a w).grown g1 (by omega) (fun k e => by injection e with e; omega)⟩
  obtain ⟨u1, u2, u3, e, h1, h2, h3, h4⟩ := hn
  obtain ⟨-, rfl, rfl, rfl⟩ := agg4 e
  exact ⟨_, _, _, rfl, h1.kept g1 (Or.inr (fun e => by have := (h1.lt _ e).1; omega)), h2.kept g1 (Or.inr (fun e => by have := (h2.lt _ e).1; omega)), h3.kept g1 (Or.inr (fun e => by have := (h3.lt _ e).1; omega)), h4⟩
theorem nodeOwn_down {w : World} {B B' : Nat} {v : Value} {lf : Bool} {ks vs : List ByteArray} {cs : List Int} (h : NodeOwn w B v lf ks vs cs) (hb : B' ≤ B) : NodeOwn w B' v lf ks vs cs := by
  obtain ⟨u1, u2, u3, e, h1, h2, h3, h4⟩ := h
  exact ⟨u1, u2, u3, e, own_down h1 hb, own_down h2 hb, own_down h3 hb, h4⟩
open Go.RowKit
def workA (B : Nat) (v : Value) (k : Wk) : Ast := ⟨workBlocks v, fun W => WorkOwn W B v k, fun W W' h hk => by
  obtain ⟨vp, vl, vu, vg, vf, rfl, h1, h2, h3, h4, h5⟩ := h
  have hi : ∀ {u : Value} {l : List Int}, IntOwn W B u l → (∀ j, u.ownBlock = some j → W'.heap[j]? = W.heap[j]?) → IntOwn W' B u l := fun {u l} h hk => by
    obtain ⟨a, cap, e, hc, h⟩ := h
    refine ⟨a, cap, e, hc, ?_⟩
    rcases h with h | ⟨g, off, cs, e2, hB, hh, hr⟩
    · exact Or.inl h
    · subst e e2
      exact Or.inr ⟨g, off, cs, rfl, hB, (hk g rfl).trans hh, hr⟩
  exact ⟨vp, vl, vu, vg, vf, rfl, (diskA B (.agg #[vp, vl]) k.ps k.ls).loc W W' h1 (fun j e => hk j ⟨_, _, _, _, _, _, rfl, Or.inl e⟩), hi h2 (fun j e => hk j ⟨_, _, _, _, _, _, rfl, Or.inr (Or.inl e)⟩), hi h3 (fun j e => hk j ⟨_, _, _, _, _, _, rfl, Or.inr (Or.inr (Or.inl e))⟩), hi h4 (fun j e => hk j ⟨_, _, _, _, _, _, rfl, Or.inr (Or.inr (Or.inr e))⟩), h5⟩⟩
abbrev set4 (wr : World) (a : Nat) (u0 u1 u2 u3 : Value) : World := (((wr.setCell ⟨a, 0, none⟩ u0).setCell ⟨a, 1, none⟩ u1).setCell ⟨a, 2, none⟩ u2).setCell ⟨a, 3, none⟩ u3
open Go.RowKit
theorem s8 {W : World} {g a0 : Nat} {c0 c1 c2 c3 c4 c5 d0 d1 d2 d3 d4 d5 : Value} {t t' : TypeId} (h : W.heap[g]? = some (Obj.cells #[c0, c1, c2, c3, c4, c5] t)) (hb : W.heap[a0]? = some (Obj.cells #[d0, d1, d2, d3, d4, d5] t')) :
    W.cell? ⟨g, 0, none⟩ = some c0 ∧ W.cell? ⟨g, 1, none⟩ = some c1 ∧ W.cell? ⟨g, 2, none⟩ = some c2 ∧ W.cell? ⟨g, 3, none⟩ = some c3 ∧ W.cell? ⟨g, 4, none⟩ = some c4 ∧ W.cell? ⟨g, 5, none⟩ = some c5 ∧ W.cell? ⟨a0, 2, none⟩ = some d2 ∧ W.cell? ⟨a0, 3, none⟩ = some d3 :=
  ⟨(cell_at h 0).1, (cell_at h 1).1, (cell_at h 2).1, (cell_at h 3).1, (cell_at h 4).1, (cell_at h 5).1, (cell_at hb 2).1, (cell_at hb 3).1⟩
theorem s3 {W : World} {a0 b off : Nat} {d0 d1 d2 d3 d4 d5 x : Value} {t' : TypeId} (hb : W.heap[a0]? = some (Obj.cells #[d0, d1, d2, d3, d4, d5] t')) (hr : W.cell? ⟨b, off, none⟩ = some x) : W.cell? ⟨a0, 3, none⟩ = some d3 ∧ W.cell? ⟨b, off, none⟩ = some x := ⟨(cell_at hb 3).1, hr⟩
open Go.RowKit
theorem branch2 {G A B : Prop} (hA : G → A) (hB : G → B) (h : G) : A ∧ B := ⟨hA h, hB h⟩
theorem ready2 {P : Program} {md : Region.Mode} {ops : Array Oper} {Q : Exit → Act → World → Prop} {S : World → Prop} {fuel : Nat} {listed : Array Bool} {a : Act} {w : World} {i j : Nat} {oi oj : Oper} (hi : ops[i]? = some oi) (hj : ops[j]? = some oj)
    (h : (∀ K' : Act → World → Prop, Shut (∀ a w, S w → (S w → wpAnyH P md ops Q S fuel (listed.setIfInBounds i true) a w) → K' a w) → if Region.wanted oi (yielded ops a.tmps) = true then Oper.wp P oi a w K' Q else K' (a.put oi.dst undef) w) ∧
      (∀ K' : Act → World → Prop, Shut (∀ a w, S w → (S w → wpAnyH P md ops Q S fuel (listed.setIfInBounds j true) a w) → K' a w) → if Region.wanted oj (yielded ops a.tmps) = true then Oper.wp P oj a w K' Q else K' (a.put oj.dst undef) w)) :
    AllReadyH P md ops Q S fuel listed a w [i, j] := AllReadyH.cons hi h.1 (AllReadyH.cons hj h.2 AllReadyH.nil)
theorem step_call3 {P : Program} (w : World) {ops : Array Oper} {o : Oper} {a : Act} {K : Act → World → Prop} {Q : Exit → Act → World → Prop} {E : Prop} (hgd : o.guard = none) (f : FuncId) (fn : Func) (hfn : P.funcs[f]? = some fn) (hname : ¬ fn.name = "runtime.NumGoroutine") (hbody : ¬ fn.body = none) (s x y : Operand) (ts : Array TypeId)
    (ho : o.op = .call { callee := .value (.func f), args := #[s, x, y], argTypes := ts }) (u v z : Value) (hs : a.eval s = u) (hx : a.eval x = v) (hy : a.eval y = z)
    (R : Ending → World → Prop) (hc : Calls P f #[u, v, z] w R) (hR : ∀ e w', R e w' → ∃ r, e = .returned r ∧ K (a.put o.dst r) w') :
    if Region.wanted o (yielded ops a.tmps) = true then Oper.wp P o a w K Q else E := by
  have hw : Region.wanted o (yielded ops a.tmps) = true := by simp [Region.wanted, hgd]
  rw [if_pos hw]
  unfold Oper.wp execOp
  have hf : a.eval (.func f) = .func (.func f) #[] #[] := rfl
  simp only [ho, resolve, invoke, hf, Deferred.ofValue, callFunc, Sem.run_bind, Sem.run_pure, Result.andThen_ok, List.map_toArray, List.map_cons, List.map_nil, hs, hx, hy]
  simp [go_sem, hfn, hname, hbody]
  refine hc.mono ?_
  intro e w' h
  obtain ⟨r, rfl, hk⟩ := hR e w' h
  exact hk
theorem takeW {P : Program} {md : Region.Mode} {ops : Array Oper} {Q : Exit → Act → World → Prop} {S : World → Prop} (i d : Nat) {oi : Oper} (v : Value) {fuel : Nat} {listed : Array Bool} {a : Act} {w : World} (hi : ops[i]? = some oi) (hd : oi.dst = some d)
    (hs : Region.noSelect ops = true) (hf : Region.free md ops listed i = true) (hr : (Region.ready md ops listed).contains i = true)
    (hQ : ∀ c a w, Q (.panic c) (a.put oi.dst v) w → Q (.panic c) a w) (hy : YieldsIf P ops S oi v a) (hS : S w)
    (h : wpAnyH P md ops Q S fuel (listed.setIfInBounds i true) ⟨a.tmps.setIfInBounds d v, a.defers⟩ w) : wpAnyH P md ops Q S (fuel + 1) listed a w :=
  wpAnyH_take hi hs hf hr hQ hy hS (by rw [hd]; exact h)
theorem step_call7 {P : Program} (w : World) {ops : Array Oper} {o : Oper} {a : Act} {K : Act → World → Prop} {Q : Exit → Act → World → Prop} {E : Prop} (hgd : o.guard = none) (f : FuncId) (fn : Func) (hfn : P.funcs[f]? = some fn) (hname : ¬ fn.name = "runtime.NumGoroutine") (hbody : ¬ fn.body = none) (s x y p q r t : Operand) (ts : Array TypeId)
    (ho : o.op = .call { callee := .value (.func f), args := #[s, x, y, p, q, r, t], argTypes := ts }) (u v z z1 z2 z3 z4 : Value) (hs : a.eval s = u) (hx : a.eval x = v) (hy : a.eval y = z) (hp : a.eval p = z1) (hq : a.eval q = z2) (hr : a.eval r = z3) (ht : a.eval t = z4)
    (R : Ending → World → Prop) (hc : Calls P f #[u, v, z, z1, z2, z3, z4] w R) (hR : ∀ e w', R e w' → ∃ r', e = .returned r' ∧ K (a.put o.dst r') w') :
    if Region.wanted o (yielded ops a.tmps) = true then Oper.wp P o a w K Q else E := by
  have hw : Region.wanted o (yielded ops a.tmps) = true := by simp [Region.wanted, hgd]
  rw [if_pos hw]
  unfold Oper.wp execOp
  have hf : a.eval (.func f) = .func (.func f) #[] #[] := rfl
  simp only [ho, resolve, invoke, hf, Deferred.ofValue, callFunc, Sem.run_bind, Sem.run_pure, Result.andThen_ok, List.map_toArray, List.map_cons, List.map_nil, hs, hx, hy, hp, hq, hr, ht]
  simp [go_sem, hfn, hname, hbody]
  refine hc.mono ?_
  intro e w' h
  obtain ⟨r, rfl, hk⟩ := hR e w' h
  exact hk
def pgsB (next : Int) : List Int → Int → List Int → Option (List Int)
  | seen, _, [] => some seen
  | seen, last, p :: ps => if 2 ≤ p ∧ p < next ∧ last < p ∧ p ∉ seen then pgsB next (seen ++ [p]) p ps else none
def freesB (tx next : Int) : List Int → Int → List (Int × List Int) → Bool
  | _, _, [] => true
  | seen, last, f :: fs => if last < f.1 ∧ f.1 ≤ tx ∧ 1 ≤ f.2.length ∧ f.2.length ≤ 40 then (match pgsB next seen 1 f.2 with | none => false | some s => freesB tx next s f.1 fs) else false
def headOkB (tx root next : Int) (n : Nat) : Bool := decide (0 ≤ tx ∧ tx ≤ 100000 ∧ 2 ≤ next ∧ next ≤ 40 ∧ (root = 0 ∨ 2 ≤ root ∧ root < next) ∧ n ≤ 20)
structure Mt where
  tx : Int
  root : Int
  next : Int
  fs : List (Int × List Int)
def Mt.none : Mt := ⟨0, 0, 0, []⟩
def Mt.ok (m : Mt) : Bool := headOkB m.tx m.root m.next m.fs.length && freesB m.tx m.next [m.root] 0 m.fs
open Go.RowKit
set_option maxHeartbeats 1000000 in
theorem l06In_any (l : List Int) (hl : l.length ≤ 1048576) (x : Int) (v : Value) (w : World) (hr : RowAt w 1 v l.length (ints l)) :
    Calls Tryz.prog 75 #[v, .int .i64 x] w fun e w' => e = .returned (.bool (decide (x ∈ l))) ∧ w = w' := by
  obtain ⟨-, a, cap, rfl, h2⟩ := hr
  have HR := hide h2
  clear h2
  go_enter Tryz.func75, Tryz.ntmps75
  go_wp2
  go_loopg [5] l.length (fun q iv wr => ∃ k : Nat, k ≤ l.length ∧ iv = .int .i64 (k : Int) ∧ q + k = l.length ∧ Hid (x ∉ l.take k) ∧ w = wr)
  case atStart => exact ⟨0, Nat.zero_le _, rfl, rfl, hide (by simp), rfl⟩
  case round =>
    obtain ⟨k, hk, rfl, hg, HT, rfl⟩ := hrel
    have HG := hide hg
    clear hg
    by_cases hlt : k < l.length
    · rcases HR.out with hn0 | ⟨b, off, rfl, hbl, hc⟩
      · omega
      · obtain ⟨y, hy⟩ : ∃ y, y = l[k] := ⟨_, rfl⟩
        have hcx : w.cell? ⟨b, off + k, none⟩ = some (.int .i64 y) := by rw [hc k (by omega), ints_at l k hlt, hy]
        have HY := hide hy
        have hk0 : (0 : Int) ≤ (k : Int) := by omega
        have hk1 : (k : Int) < (l.length : Int) := by omega
        clear hc hy
        by_cases hxy : y = x
        · have HD : Hid (decide (x ∈ l) = true) := hide (decide_eq_true (by rw [← hxy, HY.out]; exact List.getElem_mem hlt))
          subst hxy
          go_wp2
          go_ret
          rw [HD.out]
          exact ⟨rfl, rfl⟩
        · have HT2 : Hid (x ∉ l.take (k + 1)) := hide (fun h => by
            rw [List.take_succ_eq_append_getElem hlt] at h
            rcases List.mem_append.1 h with h | h
            · exact HT.out h
            · rw [List.mem_singleton, ← HY.out] at h; exact hxy h.symm)
          have hbq : (y == x) = false := by simp [hxy]
          have hbd : decide (y = x) = false := decide_eq_false hxy
          clear hxy
          go_wp2
          go_roundg (gk - 1)
          case measure => have := HG.out; omega
          case rel => exact ⟨k + 1, by omega, by go_num, by have := HG.out; omega, HT2, rfl⟩
    · have HD : Hid (decide (x ∈ l) = false) := hide (decide_eq_false (by
        have h1 := HT.out
        rw [List.take_of_length_le (by omega)] at h1
        exact h1))
      go_wp2
      go_ret
      rw [HD.out]
      exact ⟨rfl, rfl⟩
open Go.RowKit
def MetaAt (w : World) (v : Value) (m : Mt) : Prop := ∃ vf, v = .agg #[.int .i64 m.tx, .int .i64 m.root, .int .i64 m.next, vf] ∧ FreesAt w vf m.fs
def MetaOwn (w : World) (B : Nat) (v : Value) (m : Mt) : Prop := ∃ vf l, v = .agg #[.int .i64 m.tx, .int .i64 m.root, .int .i64 m.next, vf] ∧ OwnF w B vf l m.fs
theorem meta_below {w w' : World} {v : Value} {m : Mt} (h : MetaAt w v m) (hb : Below w.heap.size w w') : MetaAt w' v m := by
  obtain ⟨vf, e, h⟩ := h
  exact ⟨vf, e, frees_below h hb⟩
set_option maxHeartbeats 1000000 in
theorem szMeta_any (v : Value) (m : Mt) (hl : m.fs.length ≤ maxLen) (hs : ∀ f ∈ m.fs, f.2.length ≤ maxLen) (left : Nat) (hleft : left ≤ 1048576) (w : World) (hd : MetaAt w v m) :
    Calls Tryz.prog 36 #[v, .int .i64 (left : Int)] w fun e w' => e = .returned (.int .i64 (szOut left (bulkF m.fs))) ∧ Below w.heap.size w w' := by
  obtain ⟨vf, rfl, h1⟩ := hd
  obtain ⟨tx, root, next, fs⟩ := m
  dsimp only at h1 hl hs ⊢
  obtain ⟨w0, hw0⟩ : ∃ w0, w0 = w.alloc (Obj.cells #[.int .i64 tx, .int .i64 root, .int .i64 next, vf] 28) := ⟨_, rfl⟩
  have hb0 : Below w.heap.size w w0 := by rw [hw0]; exact (Below.refl w.heap.size w).alloc (Nat.le_refl _) _
  have HC1 := hide (szFreeS_any fs hl hs vf left hleft w0 (frees_below h1 hb0))
  have HB := hide hb0
  clear h1 hb0 hl hs
  by_cases n1 : bulkF fs ≤ left
  · rw [szOut_yes n1] at HC1 ⊢
    obtain ⟨z, hz⟩ : ∃ z, z = left - bulkF fs := ⟨_, rfl⟩
    rw [← hz] at HC1 ⊢
    clear hz n1
    go_enter Tryz.func36, Tryz.ntmps36
    go_wp2_with fail
    rw [← hw0]
    clear hw0
    refine HC1.out.mono ?_
    rintro e w1 ⟨rfl, hb1⟩
    have HB1 := hide (HB.out.trans (hb1.mono HB.out.size))
    clear hb1
    go_wp2_with fail
    go_ret
    exact ⟨rfl, HB1.out⟩
  · rw [szOut_no (by omega)] at HC1 ⊢
    clear n1
    go_enter Tryz.func36, Tryz.ntmps36
    go_wp2_with fail
    rw [← hw0]
    clear hw0
    refine HC1.out.mono ?_
    rintro e w1 ⟨rfl, hb1⟩
    have HB1 := hide (HB.out.trans (hb1.mono HB.out.size))
    clear hb1
    go_wp2_with fail
    go_ret
    exact ⟨rfl, HB1.out⟩
set_option maxHeartbeats 2000000 in
set_option maxRecDepth 100000 in
theorem toMeta_any (v : Value) (m : Mt) (hl : m.fs.length ≤ 1048576) (hs : ∀ f ∈ m.fs, f.2.length ≤ 1048576) (w : World) (hd : MetaAt w v m) :
    Calls Tryz.prog 43 #[v] w fun e w' => ∃ v', e = .returned v' ∧ MetaOwn w' w.heap.size v' m ∧ Below w.heap.size w w' := by
  obtain ⟨vf, rfl, hr⟩ := hd
  obtain ⟨tx, root, next, fs⟩ := m
  dsimp only at hr hl hs ⊢
  obtain ⟨pa, pc, rfl⟩ := frees_slice hr
  have HC3 := hide (fun wx h => toFreeS_any fs hl hs (.slice pa fs.length pc) wx h)
  have H3 := hide hr
  clear hr hl hs
  obtain ⟨w0, hw0⟩ : ∃ w0, w0 = ((w.alloc (Obj.cells #[.int .i64 tx, .int .i64 root, .int .i64 next, .slice pa fs.length pc] 28)).alloc (Obj.cells #[.int .i64 0, .int .i64 0, .int .i64 0, .slice none 0 0] 48)).alloc (Obj.cells #[.int .i64 tx, .int .i64 root, .int .i64 next, .slice none 0 0] 48) := ⟨_, rfl⟩
  have hb0 : Below w.heap.size w w0 := by rw [hw0]; exact (((Below.refl w.heap.size w).alloc (Nat.le_refl _) _).alloc (by simp) _).alloc (by simp; omega) _
  obtain ⟨-, q1, q2, hs0⟩ := three_allocs w (Obj.cells #[.int .i64 tx, .int .i64 root, .int .i64 next, .slice pa fs.length pc] 28) (Obj.cells #[.int .i64 0, .int .i64 0, .int .i64 0, .slice none 0 0] 48) (Obj.cells #[.int .i64 tx, .int .i64 root, .int .i64 next, .slice none 0 0] 48)
  rw [← hw0] at q1 q2 hs0
  have HB0 := hide hb0
  clear hb0
  go_enter Tryz.func43, Tryz.ntmps43
  go_wp2_with fail
  rw [← hw0]
  clear hw0
  refine (HC3.out _ (frees_below H3.out HB0.out)).mono ?_
  rintro e w3 ⟨u3, l, rfl, hown3, hb3⟩
  obtain ⟨x3, c3, rfl⟩ := own_slice hown3.1
  obtain ⟨a1, ha1⟩ : ∃ a, a = w.heap.size + 1 := ⟨_, rfl⟩
  obtain ⟨a2, ha2⟩ : ∃ a, a = w.heap.size + 1 + 1 := ⟨_, rfl⟩
  rw [← ha2, ← ha1]
  rw [← ha1] at q1
  rw [← ha2] at q2
  have HA := hide (⟨ha1, ha2, hs0⟩ : a1 = w.heap.size + 1 ∧ a2 = w.heap.size + 1 + 1 ∧ w0.heap.size = w.heap.size + 3)
  have hne : a1 ≠ a2 := by omega
  have r3 := (hb3.block a1 (by omega)).trans q1
  have o3 := (hb3.block a2 (by omega)).trans q2
  have c23 : w3.cell? ⟨a2, 3, none⟩ = some (.slice none 0 0) := (cell_at o3 3).1
  have f23 := (cell_at o3 3).2
  obtain ⟨y3, hy3⟩ : ∃ y, y = w3.setCell ⟨a2, 3, none⟩ (.slice x3 fs.length c3) := ⟨_, rfl⟩
  have r3' : y3.heap[a1]? = some (Obj.cells #[.int .i64 0, .int .i64 0, .int .i64 0, .slice none 0 0] 48) := by rw [hy3]; exact blk_other r3 hne
  have o3' : y3.heap[a2]? = some (Obj.cells #[.int .i64 tx, .int .i64 root, .int .i64 next, .slice x3 fs.length c3] 48) := by rw [hy3]; exact heap_setCell_same w3 a2 3 _ _ _ o3
  have k3 : Kept w3 y3 (fun k => k = a1 ∨ k = a2) := by rw [hy3]; exact kept_mono (kept_setCell _ _ _ _) (fun j _ h => Or.inr h)
  have d0 : (w3.setCell ⟨a2, 3, none⟩ (.slice x3 fs.length c3)).cell? ⟨a2, 0, none⟩ = some (.int .i64 tx) := by rw [← hy3]; exact (cell_at o3' 0).1
  have d1 : (w3.setCell ⟨a2, 3, none⟩ (.slice x3 fs.length c3)).cell? ⟨a2, 1, none⟩ = some (.int .i64 root) := by rw [← hy3]; exact (cell_at o3' 1).1
  have d2 : (w3.setCell ⟨a2, 3, none⟩ (.slice x3 fs.length c3)).cell? ⟨a2, 2, none⟩ = some (.int .i64 next) := by rw [← hy3]; exact (cell_at o3' 2).1
  have d3 : (w3.setCell ⟨a2, 3, none⟩ (.slice x3 fs.length c3)).cell? ⟨a2, 3, none⟩ = some (.slice x3 fs.length c3) := by rw [← hy3]; exact (cell_at o3' 3).1
  have e0 : (w3.setCell ⟨a2, 3, none⟩ (.slice x3 fs.length c3)).cell? ⟨a1, 0, none⟩ = some (.int .i64 0) := by rw [← hy3]; exact (cell_at r3' 0).1
  have e1 : (w3.setCell ⟨a2, 3, none⟩ (.slice x3 fs.length c3)).cell? ⟨a1, 1, none⟩ = some (.int .i64 0) := by rw [← hy3]; exact (cell_at r3' 1).1
  have e2 : (w3.setCell ⟨a2, 3, none⟩ (.slice x3 fs.length c3)).cell? ⟨a1, 2, none⟩ = some (.int .i64 0) := by rw [← hy3]; exact (cell_at r3' 2).1
  have e3 : (w3.setCell ⟨a2, 3, none⟩ (.slice x3 fs.length c3)).cell? ⟨a1, 3, none⟩ = some (.slice none 0 0) := by rw [← hy3]; exact (cell_at r3' 3).1
  have g0 : (w3.setCell ⟨a2, 3, none⟩ (.slice x3 fs.length c3)).frozen? ⟨a1, 0, none⟩ = false := by rw [← hy3]; exact (cell_at r3' 0).2
  have g1 : (w3.setCell ⟨a2, 3, none⟩ (.slice x3 fs.length c3)).frozen? ⟨a1, 1, none⟩ = false := by rw [← hy3]; exact (cell_at r3' 1).2
  have g2 : (w3.setCell ⟨a2, 3, none⟩ (.slice x3 fs.length c3)).frozen? ⟨a1, 2, none⟩ = false := by rw [← hy3]; exact (cell_at r3' 2).2
  have g3 : (w3.setCell ⟨a2, 3, none⟩ (.slice x3 fs.length c3)).frozen? ⟨a1, 3, none⟩ = false := by rw [← hy3]; exact (cell_at r3' 3).2
  have HR3 := hide r3'
  have HK3 := hide k3
  have HY3 := hide hy3
  have HO3 := hide hown3
  have HB3 := hide hb3
  clear hb3 hown3 r3 o3 r3' o3' k3 hy3 ha1 ha2 hs0 q1 q2 hne
  go_wp2_with fail
  rw [← HY3.out]
  have k4 : Kept w3 ((((y3.setCell ⟨a1, 0, none⟩ (.int .i64 tx)).setCell ⟨a1, 1, none⟩ (.int .i64 root)).setCell ⟨a1, 2, none⟩ (.int .i64 next)).setCell ⟨a1, 3, none⟩ (.slice x3 fs.length c3)) (fun k => k = a1 ∨ k = a2) := kept_trans (kept_trans (kept_trans (kept_trans HK3.out (kept_setCell _ _ _ _) (fun j _ h => Or.inl h)) (kept_setCell _ _ _ _) (fun j _ h => Or.inl h)) (kept_setCell _ _ _ _) (fun j _ h => Or.inl h)) (kept_setCell _ _ _ _) (fun j _ h => Or.inl h)
  have z : ((((y3.setCell ⟨a1, 0, none⟩ (.int .i64 tx)).setCell ⟨a1, 1, none⟩ (.int .i64 root)).setCell ⟨a1, 2, none⟩ (.int .i64 next)).setCell ⟨a1, 3, none⟩ (.slice x3 fs.length c3)).heap[a1]? = some (Obj.cells #[.int .i64 tx, .int .i64 root, .int .i64 next, .slice x3 fs.length c3] 48) := heap_setCell_same _ a1 3 _ _ _ (heap_setCell_same _ a1 2 _ _ _ (heap_setCell_same _ a1 1 _ _ _ (heap_setCell_same _ a1 0 _ _ _ HR3.out)))
  have z0 := (cell_at z 0).1
  have z1 := (cell_at z 1).1
  have z2 := (cell_at z 2).1
  have z3 := (cell_at z 3).1
  have hA := HA.out
  have hsz3 := HB3.out.size
  refine bodyPost_ret (v := .agg #[.int .i64 tx, .int .i64 root, .int .i64 next, .slice x3 fs.length c3]) (by simp [results, Tryz.results43, go_sem, z0, z1, z2, z3]) rfl ⟨_, rfl, ⟨_, l, rfl, ?_⟩, ?_⟩
  · exact ownF_down (ownF_kept HO3.out k4 (fun b hb => by have := (ownF_lt HO3.out b hb).1; omega)) (by omega)
  · exact (HB0.out.trans (HB3.out.mono HB0.out.size)).trans (below_of_kept k4 (by have := HB0.out.size; omega) (fun k hk => by omega))
set_option maxHeartbeats 1000000 in
set_option maxRecDepth 100000 in
theorem eqMeta_same (v u : Value) (m : Mt) (hl : m.fs.length ≤ 1048576) (hs : ∀ f ∈ m.fs, f.2.length ≤ 1048576) (w : World) (hd : MetaAt w v m) (hu : MetaAt w u m) :
    Calls Tryz.prog 51 #[v, u] w fun e w' => e = .returned (.bool true) ∧ Below w.heap.size w w' := by
  obtain ⟨vf, rfl, hr⟩ := hd
  obtain ⟨uf, rfl, hq⟩ := hu
  obtain ⟨tx, root, next, fs⟩ := m
  dsimp only at hr hq hl hs ⊢
  have HC3 := hide (fun wx h h' => eqFreeS_same fs hl hs vf uf wx h h')
  have HR := hide (⟨hr, hq⟩ : _ ∧ _)
  clear hr hq hl hs
  obtain ⟨w0, hw0⟩ : ∃ w0, w0 = (w.alloc (Obj.cells #[.int .i64 tx, .int .i64 root, .int .i64 next, vf] 48)).alloc (Obj.cells #[.int .i64 tx, .int .i64 root, .int .i64 next, uf] 48) := ⟨_, rfl⟩
  have hb0 : Below w.heap.size w w0 := by rw [hw0]; exact ((Below.refl w.heap.size w).alloc (Nat.le_refl _) _).alloc (by simp) _
  have HB0 := hide hb0
  have dl : (tx != tx) = false := by simp
  have dr : (root != root) = false := by simp
  have dn : (next != next) = false := by simp
  clear hb0
  go_enter Tryz.func51, Tryz.ntmps51
  go_wp2_with fail
  rw [← hw0]
  clear hw0
  refine (HC3.out _ (frees_below HR.out.1 HB0.out) (frees_below HR.out.2 HB0.out)).mono ?_
  rintro e w3 ⟨rfl, hb3⟩
  have HB3 : Hid (Below w.heap.size w w3) := hide (HB0.out.trans (hb3.mono HB0.out.size))
  clear hb3
  go_wp2_with fail
  go_ret
  exact ⟨rfl, HB3.out⟩
end Go.Proofs.YtdbpbhemnnffeaaGreatDoor
