/-
  Several texts in one. A work that is being copied, in whatever order: empty rows that were made, rows that were filled, the disk. No function of the program. · What a law over works holds over its calls: variables of six cells, works and nodes of our own. No function of the program. · What GivePage makes of a work, as plain data. No program. · What PutNode makes of a work and a node, as plain data, and a work in a variable that gets another disk. No program. · A region that draws its order, where two operations may come up either way round and leave the same behind them: both ways are walked to one goal. No program. · The region in which a work is copied: whatever order is drawn, from state to state. No function of the program. · spec.l08Copy by a contract: the same work, in memory of its own. · A work in a variable while GivePage of the specification turns it: its cells, its rows, what lies beside it. No function of the program. · spec.GivePage by a contract: the first usable page, else the next one, else none. · impl.copyWork by a contract: the same work, in memory of its own. · impl.GivePage by a contract: the first usable page, else the next one, else none. · PutNode of the program and of the specification by contracts. · A region that draws its order: a work and a node are made anew, a function of both is called, and the variable of its answer is laid at whatever moment. From state to state; no function of the program. · The same walk over whatever slots lie around. No function of the program.
-/
import Derived.Test.YtejfmjejdopglaaDoorWork
import Derived.Test.YtejfmjejdopglaaDoorDiskCopyN
import Derived.Test.YtejfmjejdopglaaDoorAppRow
import Derived.Test.YtejfmjejdopglaaDoorStepCall
import Derived.Test.YtejfmjejdopglaaDoorEnvN
import Derived.Test.YtejfmjejdopglaaDoorPlain26
import Derived.Test.YtejfmjejdopglaaDoorPlain10
import Derived.Test.YtejfmjejdopglaaDoorNodeLawText
import Derived.Deep.RegionHeld3
import Derived.Deep.RegionHeld
import Derived.Test.YtejfmjejdopglaaDoorDiskRetN
import Derived.Test.YtejfmjejdopglaaDoorImplCopyN
import Derived.Test.YtejfmjejdopglaaDoorImplWriteN
import Derived.Test.YtejfmjejdopglaaDoorImplNodeText
import Derived.Test.YtejfmjejdopglaaDoorNodeSpec2
namespace Go.Proofs.YtejfmjejdopglaaDoor
open Go.RowKit

/-- between two steps of a copy: 'Em' are the blocks of empty rows that wait, 'R' the rows that are filled, 'D' the disk where it is there -/
structure CS (w : World) (n0 : Nat) (bx rs : Obj) (ps : List ByteArray) (ls : List (Int × ByteArray)) (W : World) (Em : Nat → Prop) (R : List (Value × List Int)) (D : List Value) : Prop where
  n0e : n0 = w.heap.size
  low : Below w.heap.size w W
  box : W.heap[n0]? = some bx
  res : W.heap[n0 + 1]? = some rs
  emp : ∀ g, Em g → n0 + 2 ≤ g ∧ W.heap[g]? = some (.cells #[] 3 (0, 0))
  own : ∀ r ∈ R, W.ownsRow (n0 + 2) 3 1 r.1 r.2.length (ints r.2) ∧ ∀ g, Em g → r.1.ownBlock ≠ some g
  apart : R.Pairwise (fun r s => ∀ j, r.1.ownBlock = some j → s.1.ownBlock ≠ some j)
  disk : ∀ v ∈ D, DiskOwn W (n0 + 2) v ps ls

theorem CS.size {w : World} {n0 : Nat} {bx rs : Obj} {ps : List ByteArray} {ls : List (Int × ByteArray)} {W : World} {Em : Nat → Prop} {R : List (Value × List Int)} {D : List Value} (h : CS w n0 bx rs ps ls W Em R D) : n0 + 2 ≤ W.heap.size := (Array.getElem?_eq_some_iff.1 h.res).1

theorem cs_stays {w : World} {n0 : Nat} {bx rs : Obj} {ps : List ByteArray} {ls : List (Int × ByteArray)} {W W' : World} {Em : Nat → Prop} {R : List (Value × List Int)} {D : List Value} (h : CS w n0 bx rs ps ls W Em R D) (hb : Below W.heap.size W W') : CS w n0 bx rs ps ls W' Em R D where
  n0e := h.n0e
  low := h.low.trans (hb.mono h.low.size)
  box := (hb.block _ (Array.getElem?_eq_some_iff.1 h.box).1).trans h.box
  res := (hb.block _ (Array.getElem?_eq_some_iff.1 h.res).1).trans h.res
  emp := fun g hg => ⟨(h.emp g hg).1, (hb.block _ (Array.getElem?_eq_some_iff.1 (h.emp g hg).2).1).trans (h.emp g hg).2⟩
  own := fun r hr => ⟨own_stays (h.own r hr).1 hb, (h.own r hr).2⟩
  apart := h.apart
  disk := fun v hv => diskOwn_below (h.disk v hv) hb

theorem cs_drew {w : World} {n0 : Nat} {bx rs : Obj} {ps : List ByteArray} {ls : List (Int × ByteArray)} {W : World} {Em : Nat → Prop} {R : List (Value × List Int)} {D : List Value} (h : CS w n0 bx rs ps ls W Em R D) : CS w n0 bx rs ps ls W.drew Em R D :=
  cs_stays h (Below.refl _ _).drew

theorem cs_alloc {w : World} {n0 : Nat} {bx rs : Obj} {ps : List ByteArray} {ls : List (Int × ByteArray)} {W : World} {Em : Nat → Prop} {R : List (Value × List Int)} {D : List Value} (h : CS w n0 bx rs ps ls W Em R D) : CS w n0 bx rs ps ls (W.alloc (.cells #[] 3 (0, 0))) (fun y => y = W.heap.size ∨ Em y) R D := by
  have h1 := cs_stays h ((Below.refl _ _).alloc (Nat.le_refl _) (.cells #[] 3 (0, 0)))
  refine ⟨h1.n0e, h1.low, h1.box, h1.res, fun g hg => ?_, fun r hr => ⟨(h1.own r hr).1, fun g hg => ?_⟩, h1.apart, h1.disk⟩
  · rcases hg with rfl | hg
    · exact ⟨h.size, heap_alloc_new W _⟩
    · exact h1.emp g hg
  · rcases hg with rfl | hg
    · intro e; have := ((h.own r hr).1.lt _ e).2; omega
    · exact (h.own r hr).2 g hg

theorem cs_call {w : World} {n0 : Nat} {bx rs : Obj} {ps : List ByteArray} {ls : List (Int × ByteArray)} {W W' : World} {Em : Nat → Prop} {R : List (Value × List Int)} {D : List Value} {v : Value} (h : CS w n0 bx rs ps ls W Em R D) (hb : Below W.heap.size W W') (hd : DiskOwn W' W.heap.size v ps ls) : CS w n0 bx rs ps ls W' Em R [v] := by
  have h1 := cs_stays h hb
  refine ⟨h1.n0e, h1.low, h1.box, h1.res, h1.emp, h1.own, h1.apart, fun u hu => ?_⟩
  obtain rfl := List.mem_singleton.1 hu
  obtain ⟨vp, vl, e, d1, d2⟩ := hd
  exact ⟨vp, vl, e, own_down d1 h.size, own_down d2 h.size⟩

theorem cs_app {w : World} {n0 : Nat} {bx rs : Obj} {ps : List ByteArray} {ls : List (Int × ByteArray)} {W W' : World} {Em : Nat → Prop} {R : List (Value × List Int)} {D : List Value} {g b c : Nat} {l : List Int} (h : CS w n0 bx rs ps ls W Em R D) (hE : Em g) (hown : W'.ownsRow g 3 1 (.slice (some ⟨b, 0, none⟩) l.length c) l.length (ints l)) (hg : W.grownBy W' (some g)) (hb : b = g ∨ b = W.heap.size) : CS w n0 bx rs ps ls W' (fun y => Em y ∧ y ≠ g) ((.slice (some ⟨b, 0, none⟩) l.length c, l) :: R) D := by
  obtain ⟨hg0, hge⟩ := h.emp g hE
  have hn := h.n0e
  have hlt : ∀ y, Em y → y < W.heap.size := fun y hy => (Array.getElem?_eq_some_iff.1 (h.emp y hy).2).1
  refine ⟨h.n0e, low_grown h.low h.low.size hg (by omega), k4 hg h.box (by omega), k4 hg h.res (by omega), fun y hy => ⟨(h.emp y hy.1).1, k4 hg (h.emp y hy.1).2 hy.2⟩, fun r hr => ?_, ?_, fun v hv => ?_⟩
  · rcases List.mem_cons.1 hr with rfl | hr
    · refine ⟨own_down hown hg0, fun y hy e => ?_⟩
      injection e with e
      have e : b = y := e
      rcases hb with hb | hb
      · exact hy.2 (by omega)
      · have := hlt y hy.1; omega
    · exact ⟨(h.own r hr).1.kept hg (Or.inr ((h.own r hr).2 g hE)), fun y hy => (h.own r hr).2 y hy.1⟩
  · refine List.pairwise_cons.2 ⟨fun s hs j e1 e2 => ?_, h.apart⟩
    injection e1 with e1
    have e1 : b = j := e1
    rcases hb with hb | hb
    · exact (h.own s hs).2 g hE (by rw [e2, ← hb, e1])
    · have := ((h.own s hs).1.lt j e2).2; omega
  · obtain ⟨vp, vl, e, d1, d2⟩ := h.disk v hv
    exact ⟨vp, vl, e, own_after d1 hge Tryd.str_int hg, own_after d2 hge Tryd.put_int hg⟩

theorem own_empty0 {w : World} {g e : Nat} (h : w.heap[g]? = some (.cells #[] e (0, 0))) : w.ownsRow g e 1 (.slice (some ⟨g, 0, none⟩) 0 0) 0 [] := own_empty h

/-- 'append([]int{}, row...)' at an empty row that waits -/
theorem run_copy {P : Program} (w : World) (t ty e : TypeId) (i : TypeInfo) (z : Value) (ht : P.underlying t = some (.slice e)) (hi : P.info? e = some i) (hz : i.zero = some z) (hsize : i.size = 1) (hby : i.bytes = 8) (hzs : z.cells.size = 1)
    (g : Nat) (hge : w.heap[g]? = some (.cells #[] e (0, 0))) (u : Value) (m : Nat) (ys : List Value) (hrow : RowAt w 1 u m ys) (h1 : ∀ y ∈ ys, y.oneCell' = true) (hm : m ≤ 2000000) :
    ∃ b c w', (Builtin.append_ #[t, t] ty #[.slice (some ⟨g, 0, none⟩) 0 0, u]).run P w = .ok (.slice (some ⟨b, 0, none⟩) m c) w' ∧ w'.ownsRow g e 1 (.slice (some ⟨b, 0, none⟩) m c) m ys ∧ w.grownBy w' (some g) ∧ (b = g ∨ b = w.heap.size) := by
  have hlt : g < w.heap.size := (Array.getElem?_eq_some_iff.1 hge).1
  have hown := own_empty0 hge
  obtain ⟨hl, a, cap, rfl, h2⟩ := hrow
  rcases a with _ | ad
  · rcases h2 with h0 | ⟨b, off, e, _⟩
    · subst h0
      have hy : ys = [] := List.length_eq_zero_iff.1 (by omega)
      subst hy
      refine ⟨g, 0, w, ?_, hown, ⟨rfl, rfl, rfl, Nat.le_refl _, fun _ _ _ => rfl⟩, Or.inl rfl⟩
      simp [Builtin.append_, run_underlying ht, sizeOf, typeInfo, hi, Builtin.lenOf, Builtin.firstCells, storeCells]
    · cases e
  · have hnews : ∀ j y, ys[j]? = some y → w.cell? (ad.add j) = some y := fun j y hj => by
      have hjl : j < m * 1 := by rw [← hl]; exact (List.getElem?_eq_some_iff.1 hj).1
      rcases h2 with h0 | ⟨b, off, e, hlt, hc⟩
      · subst h0; simp at hjl
      · injection e with e
        subst e
        rw [Addr.add_lit, hc j hjl, hj]
    obtain ⟨v', w', hr, q2, q3, q4, q5⟩ := run_append_own_at (P := P) w g t ty e i z 1 8 ht hi hz hsize hby hzs (by decide) (.slice (some ⟨g, 0, none⟩) 0 0) 0 [] hown ad m cap ys hl hnews h1 (by unfold maxLen; omega) (by omega) (by omega)
    rw [Nat.zero_add] at q2
    rw [List.nil_append] at q2
    rcases q2.2 with ⟨rfl, hm0⟩ | ⟨b, c, cur, rfl, rest⟩
    · exact absurd (q4.1 rfl).1 (by intro h; cases h)
    · refine ⟨b, c, w', hr, q2, q3, ?_⟩
      rcases q5 with q5 | q5
      · injection q5 with q5
        exact Or.inl q5
      · injection q5 with q5
        exact Or.inr q5

theorem Tryd.infoIntC : (Tryd.prog.info? 3).map (fun i => (i.zero, i.size, i.bytes)) = some (some (.int .i64 0), 1, 8) := by kernel_rfl

theorem step_copy {ops : Array Oper} {o : Oper} {a : Act} {K : Act → World → Prop} {Q : Exit → Act → World → Prop} {E : Prop} {w : World} {n0 : Nat} {bx rs : Obj} {ps : List ByteArray} {ls : List (Int × ByteArray)} {W : World} {Em : Nat → Prop} {R : List (Value × List Int)} {D : List Value}
    (hcs : CS w n0 bx rs ps ls W Em R D) (hgd : o.guard = none) (s x : Operand) (ho : o.op = .call { callee := .builtin .append, args := #[s, x], argTypes := #[41, 41] })
    {g : Nat} (hs : a.eval s = .slice (some ⟨g, 0, none⟩) 0 0) {u : Value} (hx : a.eval x = u) (l : List Int) (hl : l.length ≤ 2000000) (hrow : RowAt w 1 u l.length (ints l)) (hE : Em g)
    (h : ∀ b c W', W.heap.size ≤ W'.heap.size → CS w n0 bx rs ps ls W' (fun y => Em y ∧ y ≠ g) ((.slice (some ⟨b, 0, none⟩) l.length c, l) :: R) D → K (a.put o.dst (.slice (some ⟨b, 0, none⟩) l.length c)) W') :
    if Region.wanted o (yielded ops a.tmps) = true then Oper.wp Tryd.prog o a W K Q else E := by
  have hw : Region.wanted o (yielded ops a.tmps) = true := by simp [Region.wanted, hgd]
  rw [if_pos hw]
  obtain ⟨i0, hi, hz0, hz1, hz2⟩ := info_parts Tryd.infoIntC
  obtain ⟨b, c, W', hr, q2, q3, q4⟩ := run_copy (P := Tryd.prog) W 41 o.type 3 i0 (.int .i64 0) Tryd.underlying41 hi hz0 hz1 hz2 rfl g (hcs.emp g hE).2 u l.length (ints l) (row_below hrow hcs.low) (ints_one l) hl
  unfold Oper.wp execOp
  simp only [ho, resolve, invoke, builtin, Sem.run_bind, Sem.run_pure, Result.andThen_ok, List.map_toArray, List.map_cons, List.map_nil, hs, hx, hr]
  exact h b c W' q3.size (cs_app hcs hE q2 q3 q4)

theorem step_callcs {ops : Array Oper} {o : Oper} {a : Act} {K : Act → World → Prop} {Q : Exit → Act → World → Prop} {E : Prop} {w : World} {n0 : Nat} {bx rs : Obj} {ps : List ByteArray} {ls : List (Int × ByteArray)} {W : World} {Em : Nat → Prop} {R : List (Value × List Int)} {D : List Value}
    (hcs : CS w n0 bx rs ps ls W Em R D) (hgd : o.guard = none) (f : FuncId) (fn : Func) (hfn : Tryd.prog.funcs[f]? = some fn) (hname : ¬ fn.name = "runtime.NumGoroutine") (hbody : ¬ fn.body = none) (s : Operand) (ts : Array TypeId)
    (ho : o.op = .call { callee := .value (.func f), args := #[s], argTypes := ts }) (u : Value) (hs : a.eval s = u)
    (hc : ∀ wx, DiskAt wx u ps ls → Calls Tryd.prog f #[u] wx fun e w' => ∃ v', e = .returned v' ∧ DiskOwn w' wx.heap.size v' ps ls ∧ Below wx.heap.size wx w') (hd : DiskAt w u ps ls)
    (h : ∀ x1 c1 y1 d1 W', W.heap.size ≤ W'.heap.size → CS w n0 bx rs ps ls W' Em R [.agg #[.slice x1 ps.length c1, .slice y1 ls.length d1]] → K (a.put o.dst (.agg #[.slice x1 ps.length c1, .slice y1 ls.length d1])) W') :
    if Region.wanted o (yielded ops a.tmps) = true then Oper.wp Tryd.prog o a W K Q else E :=
  step_call1 W hgd f fn hfn hname hbody s ts ho u hs _ (hc W (disk_below hd hcs.low)) (fun e w' hr => by
    obtain ⟨v', rfl, hown, hb⟩ := hr
    obtain ⟨x1, c1, y1, d1, rfl⟩ := disk_form hown
    exact ⟨_, rfl, h x1 c1 y1 d1 w' hb.size (cs_call hcs hb hown)⟩)

abbrev set6 (wr : World) (a : Nat) (u0 u1 u2 u3 u4 u5 : Value) : World := (((((wr.setCell ⟨a, 0, none⟩ u0).setCell ⟨a, 1, none⟩ u1).setCell ⟨a, 2, none⟩ u2).setCell ⟨a, 3, none⟩ u3).setCell ⟨a, 4, none⟩ u4).setCell ⟨a, 5, none⟩ u5

theorem set6_blk {wr : World} {a : Nat} {r0 r1 r2 r3 r4 r5 u0 u1 u2 u3 u4 u5 : Value} {t : TypeId} (h : wr.heap[a]? = some (Obj.cells #[r0, r1, r2, r3, r4, r5] t)) : (set6 wr a u0 u1 u2 u3 u4 u5).heap[a]? = some (Obj.cells #[u0, u1, u2, u3, u4, u5] t) :=
  heap_setCell_same _ a 5 _ _ _ (heap_setCell_same _ a 4 _ _ _ (heap_setCell_same _ a 3 _ _ _ (heap_setCell_same _ a 2 _ _ _ (heap_setCell_same _ a 1 _ _ _ (heap_setCell_same wr a 0 _ _ _ h)))))

theorem set6_kept (wr : World) (a : Nat) (u0 u1 u2 u3 u4 u5 : Value) : Kept wr (set6 wr a u0 u1 u2 u3 u4 u5) (fun k => k = a) :=
  kept_trans (kept_trans (kept_trans (kept_trans (kept_trans (kept_setCell _ _ _ _) (kept_setCell _ _ _ _) (fun _ _ h => h)) (kept_setCell _ _ _ _) (fun _ _ h => h)) (kept_setCell _ _ _ _) (fun _ _ h => h)) (kept_setCell _ _ _ _) (fun _ _ h => h)) (kept_setCell _ _ _ _) (fun _ _ h => h)

/-- a work whose rows are all new ones -/
def WorkNw (w : World) (B : Nat) (v : Value) (k : Wk) : Prop :=
  ∃ vp vl vu vg vf, v = .agg #[vp, vl, .int .i64 k.next, vu, vg, vf] ∧ DiskOwn w B (.agg #[vp, vl]) k.ps k.ls ∧ w.ownsRow B 3 1 vu k.us.length (ints k.us) ∧ w.ownsRow B 3 1 vg k.gs.length (ints k.gs) ∧ w.ownsRow B 3 1 vf k.fs.length (ints k.fs) ∧
    (∀ j, vu.ownBlock = some j → vg.ownBlock ≠ some j) ∧ (∀ j, vu.ownBlock = some j → vf.ownBlock ≠ some j) ∧ (∀ j, vg.ownBlock = some j → vf.ownBlock ≠ some j)

theorem nw_own {w : World} {B : Nat} {v : Value} {k : Wk} (h : WorkNw w B v k) : WorkOwn w B v k := by
  obtain ⟨vp, vl, vu, vg, vf, e, h1, h2, h3, h4, h5⟩ := h
  exact ⟨vp, vl, vu, vg, vf, e, h1, intOwn_of_own h2, intOwn_of_own h3, intOwn_of_own h4, h5⟩

theorem nw_kept {w w' : World} {B : Nat} {v : Value} {k : Wk} {S : Nat → Prop} (h : WorkNw w B v k) (hk : Kept w w' S) (hS : ∀ j, workBlocks v j → ¬ S j) : WorkNw w' B v k := by
  obtain ⟨vp, vl, vu, vg, vf, rfl, h1, h2, h3, h4, h5⟩ := h
  exact ⟨vp, vl, vu, vg, vf, rfl, diskOwn_kept h1 hk (fun j e => hS j ⟨_, _, _, _, _, _, rfl, Or.inl e⟩), own_kept h2 hk (fun j e => hS j ⟨_, _, _, _, _, _, rfl, Or.inr (Or.inl e)⟩), own_kept h3 hk (fun j e => hS j ⟨_, _, _, _, _, _, rfl, Or.inr (Or.inr (Or.inl e))⟩), own_kept h4 hk (fun j e => hS j ⟨_, _, _, _, _, _, rfl, Or.inr (Or.inr (Or.inr e))⟩), h5⟩

theorem nw_below {w w' : World} {B : Nat} {v : Value} {k : Wk} (h : WorkNw w B v k) (hb : Below w.heap.size w w') : WorkNw w' B v k :=
  nw_kept h (kept_of_all hb (fun _ => False)) (fun _ _ h => h)

theorem nw_down {w : World} {B B' : Nat} {v : Value} {k : Wk} (h : WorkNw w B v k) (hB : B' ≤ B) : WorkNw w B' v k := by
  obtain ⟨vp, vl, vu, vg, vf, e, ⟨vp', vl', e1, d1, d2⟩, h2, h3, h4, h5⟩ := h
  exact ⟨vp, vl, vu, vg, vf, e, ⟨vp', vl', e1, own_down d1 hB, own_down d2 hB⟩, own_down h2 hB, own_down h3 hB, own_down h4 hB, h5⟩

theorem ret_nw {w wr : World} {a1 B : Nat} {r0 r1 r2 r3 r4 r5 u0 u1 u2 u3 u4 u5 : Value} {t : TypeId} {k : Wk} (hres : wr.heap[a1]? = some (Obj.cells #[r0, r1, r2, r3, r4, r5] t)) (hd : WorkNw wr B (.agg #[u0, u1, u2, u3, u4, u5]) k) (hB : a1 < B) (hw : w.heap.size ≤ a1) (hb : Below w.heap.size w wr) :
    (set6 wr a1 u0 u1 u2 u3 u4 u5).heap[a1]? = some (Obj.cells #[u0, u1, u2, u3, u4, u5] t) ∧ WorkNw (set6 wr a1 u0 u1 u2 u3 u4 u5) w.heap.size (.agg #[u0, u1, u2, u3, u4, u5]) k ∧ Below w.heap.size w (set6 wr a1 u0 u1 u2 u3 u4 u5) := by
  have hk := set6_kept wr a1 u0 u1 u2 u3 u4 u5
  exact ⟨set6_blk hres, nw_down (nw_kept hd hk (fun j hj => by have := (workOwn_lt (nw_own hd) j hj).1; omega)) (by omega), hb.trans (below_of_kept hk hb.size (fun k hk => by omega))⟩

/-- a work is laid into the variable of the answer -/
theorem ret_work {w wr : World} {a1 B : Nat} {r0 r1 r2 r3 r4 r5 u0 u1 u2 u3 u4 u5 : Value} {t : TypeId} {k : Wk} (hres : wr.heap[a1]? = some (Obj.cells #[r0, r1, r2, r3, r4, r5] t)) (hd : WorkOwn wr B (.agg #[u0, u1, u2, u3, u4, u5]) k) (hB : a1 < B) (hw : w.heap.size ≤ a1) (hb : Below w.heap.size w wr) :
    (set6 wr a1 u0 u1 u2 u3 u4 u5).heap[a1]? = some (Obj.cells #[u0, u1, u2, u3, u4, u5] t) ∧ WorkOwn (set6 wr a1 u0 u1 u2 u3 u4 u5) w.heap.size (.agg #[u0, u1, u2, u3, u4, u5]) k ∧ Below w.heap.size w (set6 wr a1 u0 u1 u2 u3 u4 u5) := by
  have hk := set6_kept wr a1 u0 u1 u2 u3 u4 u5
  exact ⟨set6_blk hres, workOwn_down (workOwn_kept hd hk (fun j hj => by have := (workOwn_lt hd j hj).1; omega)) (by omega), hb.trans (below_of_kept hk hb.size (fun k hk => by omega))⟩

theorem size_drewW (w : World) : w.drew.heap.size = w.heap.size := rfl

theorem cs_cells {w : World} {n0 : Nat} {c0 c1 c2 c3 c4 c5 : Value} {t : TypeId} {rs : Obj} {ps : List ByteArray} {ls : List (Int × ByteArray)} {W : World} {Em : Nat → Prop} {R : List (Value × List Int)} {D : List Value} (h : CS w n0 (Obj.cells #[c0, c1, c2, c3, c4, c5] t) rs ps ls W Em R D) :
    W.cell? ⟨n0, 0, none⟩ = some c0 ∧ W.cell? ⟨n0, 1, none⟩ = some c1 ∧ W.cell? ⟨n0, 2, none⟩ = some c2 ∧ W.cell? ⟨n0, 3, none⟩ = some c3 ∧ W.cell? ⟨n0, 4, none⟩ = some c4 ∧ W.cell? ⟨n0, 5, none⟩ = some c5 :=
  ⟨(cell_at h.box 0).1, (cell_at h.box 1).1, (cell_at h.box 2).1, (cell_at h.box 3).1, (cell_at h.box 4).1, (cell_at h.box 5).1⟩

theorem cs_cells6 {w : World} {n0 : Nat} {c0 c1 c2 c3 c4 c5 u0 u1 u2 u3 u4 u5 : Value} {t : TypeId} {rs : Obj} {ps : List ByteArray} {ls : List (Int × ByteArray)} {W : World} {Em : Nat → Prop} {R : List (Value × List Int)} {D : List Value} (h : CS w n0 (Obj.cells #[c0, c1, c2, c3, c4, c5] t) rs ps ls W Em R D) :
    (set6 W (n0 + 1) u0 u1 u2 u3 u4 u5).cell? ⟨n0, 0, none⟩ = some c0 ∧ (set6 W (n0 + 1) u0 u1 u2 u3 u4 u5).cell? ⟨n0, 1, none⟩ = some c1 ∧ (set6 W (n0 + 1) u0 u1 u2 u3 u4 u5).cell? ⟨n0, 2, none⟩ = some c2 ∧ (set6 W (n0 + 1) u0 u1 u2 u3 u4 u5).cell? ⟨n0, 3, none⟩ = some c3 ∧ (set6 W (n0 + 1) u0 u1 u2 u3 u4 u5).cell? ⟨n0, 4, none⟩ = some c4 ∧ (set6 W (n0 + 1) u0 u1 u2 u3 u4 u5).cell? ⟨n0, 5, none⟩ = some c5 := by
  have hb := ((set6_kept W (n0 + 1) u0 u1 u2 u3 u4 u5).2.2.2.2 n0 (Array.getElem?_eq_some_iff.1 h.box).1 (by omega)).trans h.box
  exact ⟨(cell_at hb 0).1, (cell_at hb 1).1, (cell_at hb 2).1, (cell_at hb 3).1, (cell_at hb 4).1, (cell_at hb 5).1⟩

theorem cs_res {w : World} {n0 : Nat} {c0 c1 c2 c3 c4 c5 : Value} {t : TypeId} {bx : Obj} {ps : List ByteArray} {ls : List (Int × ByteArray)} {W : World} {Em : Nat → Prop} {R : List (Value × List Int)} {D : List Value} (h : CS w n0 bx (Obj.cells #[c0, c1, c2, c3, c4, c5] t) ps ls W Em R D) :
    (W.cell? ⟨n0 + 1, 0, none⟩ = some c0 ∧ W.cell? ⟨n0 + 1, 1, none⟩ = some c1 ∧ W.cell? ⟨n0 + 1, 2, none⟩ = some c2 ∧ W.cell? ⟨n0 + 1, 3, none⟩ = some c3 ∧ W.cell? ⟨n0 + 1, 4, none⟩ = some c4 ∧ W.cell? ⟨n0 + 1, 5, none⟩ = some c5) ∧
    W.frozen? ⟨n0 + 1, 0, none⟩ = false ∧ W.frozen? ⟨n0 + 1, 1, none⟩ = false ∧ W.frozen? ⟨n0 + 1, 2, none⟩ = false ∧ W.frozen? ⟨n0 + 1, 3, none⟩ = false ∧ W.frozen? ⟨n0 + 1, 4, none⟩ = false ∧ W.frozen? ⟨n0 + 1, 5, none⟩ = false :=
  ⟨⟨(cell_at h.res 0).1, (cell_at h.res 1).1, (cell_at h.res 2).1, (cell_at h.res 3).1, (cell_at h.res 4).1, (cell_at h.res 5).1⟩, (cell_at h.res 0).2, (cell_at h.res 1).2, (cell_at h.res 2).2, (cell_at h.res 3).2, (cell_at h.res 4).2, (cell_at h.res 5).2⟩

theorem blk6c {W : World} {g : Nat} {c0 c1 c2 c3 c4 c5 : Value} {t : TypeId} (h : W.heap[g]? = some (Obj.cells #[c0, c1, c2, c3, c4, c5] t)) :
    W.cell? ⟨g, 0, none⟩ = some c0 ∧ W.cell? ⟨g, 1, none⟩ = some c1 ∧ W.cell? ⟨g, 2, none⟩ = some c2 ∧ W.cell? ⟨g, 3, none⟩ = some c3 ∧ W.cell? ⟨g, 4, none⟩ = some c4 ∧ W.cell? ⟨g, 5, none⟩ = some c5 :=
  ⟨(cell_at h 0).1, (cell_at h 1).1, (cell_at h 2).1, (cell_at h 3).1, (cell_at h 4).1, (cell_at h 5).1⟩

/-- the copy that is done -/
theorem cs_work {w : World} {n0 : Nat} {bx rs : Obj} {W : World} {Em : Nat → Prop} {k : Wk} {v1 v2 v3 vp vl : Value} (h : CS w n0 bx rs k.ps k.ls W Em [(v3, k.fs), (v2, k.gs), (v1, k.us)] [.agg #[vp, vl]]) : WorkNw W (n0 + 2) (.agg #[vp, vl, .int .i64 k.next, v1, v2, v3]) k := by
  have hp := h.apart
  simp only [List.pairwise_cons, List.mem_cons, List.not_mem_nil, or_false, forall_eq_or_imp, forall_eq] at hp
  obtain ⟨⟨p1, p2⟩, p3, -⟩ := hp
  have o3 := (h.own (v3, k.fs) (by simp)).1
  have o2 := (h.own (v2, k.gs) (by simp)).1
  have o1 := (h.own (v1, k.us) (by simp)).1
  exact ⟨vp, vl, v1, v2, v3, rfl, h.disk _ (by simp), o1, o2, o3, fun j e1 e2 => p3 j e2 e1, fun j e1 e2 => p2 j e2 e1, fun j e1 e2 => p1 j e2 e1⟩
end Go.Proofs.YtejfmjejdopglaaDoor

namespace Go.Proofs.YtejfmjejdopglaaDoor
open Go.RowKit

/-- a variable, cell by cell -/
def IsBlk (g : Nat) (cs : Array Value) (t : TypeId) (w : World) : Prop := w.heap[g]? = some (Obj.cells cs t)

theorem held_blk {w : World} {g : Nat} {cs : Array Value} {t : TypeId} (h : w.heap[g]? = some (Obj.cells cs t)) : Held w g (g + 1) (IsBlk g cs t) :=
  ⟨fun a b _ _ hk hp => (hk g (Nat.le_refl _) (by omega)).trans hp, (Array.getElem?_eq_some_iff.1 h).1, h⟩

theorem new_blk (w : World) (cs : Array Value) (t : TypeId) : Below w.heap.size w (w.alloc (Obj.cells cs t)) ∧ Held (w.alloc (Obj.cells cs t)) w.heap.size (w.heap.size + 1) (IsBlk w.heap.size cs t) :=
  ⟨(Below.refl _ _).alloc (Nat.le_refl _) _, held_blk (heap_alloc_new w _)⟩

theorem blk6h {w : World} {B U g : Nat} {c0 c1 c2 c3 c4 c5 : Value} {t : TypeId} (h : Held w B U (IsBlk g #[c0, c1, c2, c3, c4, c5] t)) : w.cell? ⟨g, 0, none⟩ = some c0 ∧ w.cell? ⟨g, 1, none⟩ = some c1 ∧ w.cell? ⟨g, 2, none⟩ = some c2 ∧ w.cell? ⟨g, 3, none⟩ = some c3 ∧ w.cell? ⟨g, 4, none⟩ = some c4 ∧ w.cell? ⟨g, 5, none⟩ = some c5 := blk6c h.is

theorem blk4h {w : World} {B U g : Nat} {c0 c1 c2 c3 : Value} {t : TypeId} (h : Held w B U (IsBlk g #[c0, c1, c2, c3] t)) : w.cell? ⟨g, 0, none⟩ = some c0 ∧ w.cell? ⟨g, 1, none⟩ = some c1 ∧ w.cell? ⟨g, 2, none⟩ = some c2 ∧ w.cell? ⟨g, 3, none⟩ = some c3 :=
  ⟨(cell_at h.is 0).1, (cell_at h.is 1).1, (cell_at h.is 2).1, (cell_at h.is 3).1⟩

/-- a work of our own whose rows lie in B .. U - 1 -/
def IsWork (B U : Nat) (v : Value) (k : Wk) (w : World) : Prop := WorkOwn w B v k ∧ ∀ j, workBlocks v j → j < U

theorem intOwn_loc {w w' : World} {B U : Nat} {v : Value} {l : List Int} (h : IntOwn w B v l) (hU : ∀ j, v.ownBlock = some j → j < U) (hk : ∀ k, B ≤ k → k < U → w'.heap[k]? = w.heap[k]?) : IntOwn w' B v l := by
  obtain ⟨a, cap, rfl, hc, h⟩ := h
  refine ⟨a, cap, rfl, hc, ?_⟩
  rcases h with h | ⟨g, off, cs, rfl, hB, hh, hx⟩
  · exact Or.inl h
  · exact Or.inr ⟨g, off, cs, rfl, hB, (hk g hB (hU g rfl)).trans hh, hx⟩

theorem workOwn_loc {w w' : World} {B U : Nat} {v : Value} {k : Wk} (h : IsWork B U v k w) (hs : w.heap.size ≤ w'.heap.size) (hk : ∀ j, B ≤ j → j < U → w'.heap[j]? = w.heap[j]?) : IsWork B U v k w' := by
  refine ⟨?_, h.2⟩
  have hu := h.2
  obtain ⟨⟨vp, vl, vu, vg, vf, rfl, h1, h2, h3, h4, h5⟩, -⟩ := h
  exact ⟨vp, vl, vu, vg, vf, rfl, (diskOwn_loc (U := U) ⟨h1, fun j hj => hu j ⟨_, _, _, _, _, _, rfl, Or.inl hj⟩⟩ hs hk).1, intOwn_loc h2 (fun j e => hu j ⟨_, _, _, _, _, _, rfl, Or.inr (Or.inl e)⟩) hk, intOwn_loc h3 (fun j e => hu j ⟨_, _, _, _, _, _, rfl, Or.inr (Or.inr (Or.inl e))⟩) hk, intOwn_loc h4 (fun j e => hu j ⟨_, _, _, _, _, _, rfl, Or.inr (Or.inr (Or.inr e))⟩) hk, h5⟩

theorem held_work {w : World} {B : Nat} {v : Value} {k : Wk} (h : WorkOwn w B v k) : Held w B w.heap.size (IsWork B w.heap.size v k) :=
  ⟨fun _ _ hs _ hk hp => workOwn_loc hp hs hk, Nat.le_refl _, h, fun j hj => (workOwn_lt h j hj).2⟩

theorem held_workA {w : World} {B U : Nat} {v : Value} {k k' : Wk} {w' : World} (h : Held w B U (IsWork B U v k)) (hd : WorkOwn w' B v k') (hs : w.heap.size ≤ w'.heap.size) : Held w' B U (IsWork B U v k') :=
  ⟨fun _ _ hs _ hk hp => workOwn_loc hp hs hk, Nat.le_trans h.le hs, hd, h.is.2⟩

theorem own_loc {w w' : World} {B U e sz n : Nat} {v : Value} {xs : List Value} (h : w.ownsRow B e sz v n xs) (hU : ∀ j, v.ownBlock = some j → j < U) (hk : ∀ k, B ≤ k → k < U → w'.heap[k]? = w.heap[k]?) : w'.ownsRow B e sz v n xs := by
  refine ⟨h.1, ?_⟩
  rcases h.2 with ⟨rfl, hn⟩ | ⟨g, cap, cur, rfl, hg, hh, rest⟩
  · exact Or.inl ⟨rfl, hn⟩
  · exact Or.inr ⟨g, cap, cur, rfl, hg, (hk g hg (hU g rfl)).trans hh, rest⟩

/-- a node of our own whose rows lie in B .. U - 1 -/
def IsNode (B U : Nat) (v : Value) (lf : Bool) (ks vs : List ByteArray) (cs : List Int) (w : World) : Prop := NodeOwn w B v lf ks vs cs ∧ ∀ j, nodeBlocks v j → j < U

theorem held_node {w : World} {B : Nat} {v : Value} {lf : Bool} {ks vs : List ByteArray} {cs : List Int} (h : NodeOwn w B v lf ks vs cs) : Held w B w.heap.size (IsNode B w.heap.size v lf ks vs cs) := by
  refine ⟨fun a b _ _ hk hp => ⟨?_, hp.2⟩, Nat.le_refl _, h, fun j hj => (nodeOwn_lt h j hj).2⟩
  have hu := hp.2
  obtain ⟨⟨vk, vv, vc, rfl, h1, h2, h3, h4⟩, -⟩ := hp
  exact ⟨vk, vv, vc, rfl, own_loc h1 (fun j e => hu j ⟨_, _, _, _, rfl, Or.inl e⟩) hk, own_loc h2 (fun j e => hu j ⟨_, _, _, _, rfl, Or.inr (Or.inl e)⟩) hk, own_loc h3 (fun j e => hu j ⟨_, _, _, _, rfl, Or.inr (Or.inr e)⟩) hk, h4⟩

theorem node_form {w : World} {B : Nat} {v : Value} {lf : Bool} {ks vs : List ByteArray} {cs : List Int} (h : NodeOwn w B v lf ks vs cs) : ∃ a1 c1 a2 c2 a3 c3, v = .agg #[.bool lf, .slice a1 ks.length c1, .slice a2 vs.length c2, .slice a3 cs.length c3] := by
  obtain ⟨vk, vv, vc, rfl, h1, h2, h3, -⟩ := h
  obtain ⟨a1, c1, rfl⟩ := own_slice h1
  obtain ⟨a2, c2, rfl⟩ := own_slice h2
  obtain ⟨a3, c3, rfl⟩ := own_slice h3
  exact ⟨_, _, _, _, _, _, rfl⟩
end Go.Proofs.YtejfmjejdopglaaDoor

namespace Go.Proofs.YtejfmjejdopglaaDoor
open Go.RowKit

def giveK (k : Wk) : Wk := match k.us with
  | x :: t => { k with us := t, fs := k.fs ++ [x] }
  | [] => if k.next < (k.ps.length : Int) then { k with next := wrap64 (k.next + 1), fs := k.fs ++ [k.next] } else k

def giveP (k : Wk) : Int := match k.us with
  | x :: _ => x
  | [] => if k.next < (k.ps.length : Int) then k.next else 0

theorem give_cons {k : Wk} {x : Int} {t : List Int} (h : k.us = x :: t) : giveK k = { k with us := t, fs := k.fs ++ [x] } ∧ giveP k = x := by
  unfold giveK giveP
  rw [h]
  exact ⟨rfl, rfl⟩

theorem give_next {k : Wk} (h : k.us = []) (hn : k.next < (k.ps.length : Int)) : giveK k = { k with next := wrap64 (k.next + 1), fs := k.fs ++ [k.next] } ∧ giveP k = k.next := by
  unfold giveK giveP
  rw [h]
  simp [hn]

theorem give_none {k : Wk} (h : k.us = []) (hn : ¬ k.next < (k.ps.length : Int)) : giveK k = k ∧ giveP k = 0 := by
  unfold giveK giveP
  rw [h]
  simp [hn]

theorem give_small {k : Wk} (h : k.bulk ≤ 1048576) : (giveK k).small := by
  obtain ⟨h1, h2, h3, h4, h5, h6, h7⟩ := bulkW_in h
  unfold Wk.bulk at h
  cases hu : k.us with
  | cons x t =>
    rw [(give_cons hu).1]
    rw [hu] at h h5
    simp at h h5
    exact ⟨h1, h2, h3, h4, by simp; omega, h6, by simp; omega⟩
  | nil =>
    by_cases hn : k.next < (k.ps.length : Int)
    · rw [(give_next hu hn).1]
      exact ⟨h1, h2, h3, h4, by simp [hu], h6, by simp; omega⟩
    · rw [(give_none hu hn).1]
      exact ⟨h1, h2, h3, h4, h5, h6, h7⟩

theorem small_of_bulk {k : Wk} (h : k.bulk ≤ 1048576) : k.small := bulkW_in h

/-- the work with its rows as they lie in a variable -/
theorem nw_rows {w : World} {B : Nat} {u0 u1 u2 u3 u4 u5 : Value} {k : Wk} (h : WorkNw w B (.agg #[u0, u1, u2, u3, u4, u5]) k) : DiskOwn w B (.agg #[u0, u1]) k.ps k.ls ∧ u2 = .int .i64 k.next ∧ w.ownsRow B 3 1 u3 k.us.length (ints k.us) ∧ w.ownsRow B 3 1 u4 k.gs.length (ints k.gs) ∧ w.ownsRow B 3 1 u5 k.fs.length (ints k.fs) ∧
    (∀ j, u3.ownBlock = some j → u4.ownBlock ≠ some j) ∧ (∀ j, u3.ownBlock = some j → u5.ownBlock ≠ some j) ∧ (∀ j, u4.ownBlock = some j → u5.ownBlock ≠ some j) := by
  obtain ⟨vp, vl, vu, vg, vf, e, h1, h2, h3, h4, h5⟩ := h
  obtain ⟨rfl, rfl, rfl, rfl, rfl, rfl⟩ := agg6 e
  exact ⟨h1, rfl, h2, h3, h4, h5⟩

theorem nw_form {w : World} {B : Nat} {v : Value} {k : Wk} (h : WorkNw w B v k) : ∃ a1 c1 a2 c2 a3 c3 a4 c4 a5 c5, v = .agg #[.slice a1 k.ps.length c1, .slice a2 k.ls.length c2, .int .i64 k.next, .slice a3 k.us.length c3, .slice a4 k.gs.length c4, .slice a5 k.fs.length c5] := work_form (nw_own h)

theorem staysW {w w' : World} {a : Nat} {o : Obj} (h : w.heap[a]? = some o) (hb : Below w.heap.size w w') : w'.heap[a]? = some o := (hb.block _ (Array.getElem?_eq_some_iff.1 h).1).trans h

theorem one_newC (w : World) (n : Nat) (hn : n = w.heap.size) (x : Value) (T : TypeId) : ∀ (j : Nat) (u : Value), [x][j]? = some u → (w.alloc (Obj.cells #[x] T)).cell? ((⟨n, 0, none⟩ : Addr).add j) = some u := by
  subst hn
  intro j u hj
  obtain rfl : j = 0 := by have := (List.getElem?_eq_some_iff.1 hj).1; simp at this; omega
  simp at hj
  subst hj
  simp [Addr.add]

theorem stays_grown {w w' : World} {a : Nat} {o : Obj} {r : Option Nat} (h : w.heap[a]? = some o) (hg : w.grownBy w' r) (hr : r ≠ some a) : w'.heap[a]? = some o := (hg.block _ (Array.getElem?_eq_some_iff.1 h).1 (fun e => hr e.symm)).trans h

/-- a page that goes behind the fresh ones of a work in a variable -/
theorem give_app {w w1 w5 : World} {k : Wk} {a0 g B b d nf c5 : Nat} {a5 : Option Addr} {u0 u1 u3 u3' u4 : Value} {us' : List Int} {n' : Int} {p : Int} {rs : Obj} {t : TypeId} (hnf : nf = k.fs.length)
    (hnw : WorkNw w1 B (.agg #[u0, u1, .int .i64 k.next, u3, u4, .slice a5 nf c5]) k) (hu : IntOwn w1 B u3' us') (hub : ∀ j, u3'.ownBlock = some j → u3.ownBlock = some j) (hg : g = w1.heap.size) (hres : w1.heap[a0 + 1]? = some rs) (hB : a0 + 2 ≤ B) (ha : a0 = w.heap.size) (_hBg : B ≤ g) (hlow : Below w.heap.size w w1)
    (hown : w5.ownsRow B 3 1 (.slice (some ⟨b, 0, none⟩) (nf + 1) d) (nf + 1) (ints k.fs ++ [.int .i64 p]))
    (hgr : ((w1.alloc (Obj.cells #[u0, u1, .int .i64 n', u3', u4, .slice a5 nf c5] t)).alloc (Obj.cells #[.int .i64 p] 3)).grownBy w5 (Value.slice a5 nf c5).ownBlock)
    (hb : (Value.slice a5 nf c5).ownBlock = some b ∨ b = g + 2) :
    w5.heap[g]? = some (Obj.cells #[u0, u1, .int .i64 n', u3', u4, .slice a5 nf c5] t) ∧
    (w5.setCell ⟨g, 5, none⟩ (.slice (some ⟨b, 0, none⟩) (nf + 1) d)).heap[g]? = some (Obj.cells #[u0, u1, .int .i64 n', u3', u4, .slice (some ⟨b, 0, none⟩) (nf + 1) d] t) ∧
    (w5.setCell ⟨g, 5, none⟩ (.slice (some ⟨b, 0, none⟩) (nf + 1) d)).heap[a0 + 1]? = some rs ∧
    WorkOwn (w5.setCell ⟨g, 5, none⟩ (.slice (some ⟨b, 0, none⟩) (nf + 1) d)) B (.agg #[u0, u1, .int .i64 n', u3', u4, .slice (some ⟨b, 0, none⟩) (nf + 1) d]) { k with next := n', us := us', fs := k.fs ++ [p] } ∧
    Below w.heap.size w (w5.setCell ⟨g, 5, none⟩ (.slice (some ⟨b, 0, none⟩) (nf + 1) d)) ∧
    ∀ j o, w1.heap[j]? = some o → j < B → (w5.setCell ⟨g, 5, none⟩ (.slice (some ⟨b, 0, none⟩) (nf + 1) d)).heap[j]? = some o := by
  subst hnf
  obtain ⟨hd, -, h3, h4, h5, n1, n2, n3⟩ := nw_rows hnw
  have l5 : ∀ j, (Value.slice a5 k.fs.length c5).ownBlock = some j → B ≤ j ∧ j < g := fun j e => by rw [hg]; exact h5.lt j e
  have l4 : ∀ j, u4.ownBlock = some j → B ≤ j ∧ j < g := fun j e => by rw [hg]; exact h4.lt j e
  have l3 : ∀ j, u3'.ownBlock = some j → B ≤ j ∧ j < g := fun j e => by rw [hg]; exact h3.lt j (hub j e)
  have ld := diskOwn_lt hd
  have hlt1 : a0 + 1 < w1.heap.size := (Array.getElem?_eq_some_iff.1 hres).1
  have hb1 : Below w1.heap.size w1 ((w1.alloc (Obj.cells #[u0, u1, .int .i64 n', u3', u4, .slice a5 k.fs.length c5] t)).alloc (Obj.cells #[.int .i64 p] 3)) := ((Below.refl _ _).alloc (Nat.le_refl _) _).alloc (by simp) _
  obtain ⟨q0, q1, hs⟩ := two_allocs w1 (Obj.cells #[u0, u1, .int .i64 n', u3', u4, .slice a5 k.fs.length c5] t) (Obj.cells #[.int .i64 p] 3)
  rw [← hg] at q0 hs
  have hk : Kept w1 w5 (fun j => (Value.slice a5 k.fs.length c5).ownBlock = some j) := ⟨hgr.os.trans hb1.os, hgr.tape.trans hb1.tape, hgr.output.trans hb1.output, Nat.le_trans hb1.size hgr.size, fun j hj hn => (hgr.block j (Nat.lt_of_lt_of_le hj hb1.size) (fun e => hn e.symm)).trans (hb1.block j hj)⟩
  have e5 : w5.heap[g]? = some (Obj.cells #[u0, u1, .int .i64 n', u3', u4, .slice a5 k.fs.length c5] t) := stays_grown q0 hgr (fun e => by have := l5 g e; omega)
  have hk6 : Kept w5 (w5.setCell ⟨g, 5, none⟩ (.slice (some ⟨b, 0, none⟩) (k.fs.length + 1) d)) (fun j => j = g) := kept_setCell _ _ _ _
  have hkk : Kept w1 (w5.setCell ⟨g, 5, none⟩ (.slice (some ⟨b, 0, none⟩) (k.fs.length + 1) d)) (fun j => (Value.slice a5 k.fs.length c5).ownBlock = some j) := kept_trans hk hk6 (fun j hj e => by omega)
  refine ⟨e5, heap_setCell_same w5 g 5 _ _ _ e5, (hkk.2.2.2.2 _ hlt1 (fun e => by have := l5 _ e; omega)).trans hres, ⟨u0, u1, u3', u4, _, rfl, ?_, ?_, ?_, ?_, ?_, ?_, ?_⟩, hlow.trans (below_of_kept hkk hlow.size (fun j e => by have := l5 j e; omega)), fun j o hj hlt => (hkk.2.2.2.2 j (Array.getElem?_eq_some_iff.1 hj).1 (fun e => by have := l5 j e; omega)).trans hj⟩
  · exact diskOwn_kept hd hkk (fun j e h => disk_int_apart hd (intOwn_of_own h5) j e h)
  · exact intOwn_kept hu hkk (fun j e h => n2 j (hub j e) h)
  · exact intOwn_kept (intOwn_of_own h4) hkk (fun j e h => n3 j e h)
  · refine intOwn_kept (intOwn_of_own (l := k.fs ++ [p]) ?_) hk6 (fun j e h => ?_)
    · have e1 : (k.fs ++ [p]).length = k.fs.length + 1 := by simp
      have e2 : ints (k.fs ++ [p]) = ints k.fs ++ [.int .i64 p] := by simp [ints]
      rw [e1, e2]
      exact hown
    · injection e with e
      have e : b = j := e
      rcases hb with hb | hb
      · have := l5 b hb; omega
      · omega
  · exact fun j e1 e2 => n1 j (hub j e1) e2
  · intro j e1 e2
    injection e2 with e2
    have e2 : b = j := e2
    rcases hb with hb | hb
    · exact n2 j (hub j e1) (by rw [← e2]; exact hb)
    · have := l3 j e1; omega
  · intro j e1 e2
    injection e2 with e2
    have e2 : b = j := e2
    rcases hb with hb | hb
    · exact n3 j e1 (by rw [← e2]; exact hb)
    · have := l4 j e1; omega
end Go.Proofs.YtejfmjejdopglaaDoor

namespace Go.Proofs.YtejfmjejdopglaaDoor
open Go.RowKit

/-- it is put -/
def putB (k : Wk) (lf : Bool) (ks vs : List ByteArray) (cs : List Int) : Bool := nodeOkB lf ks vs cs && decide (giveP k ≠ 0) && writeOk k.ps k.ls (giveP k) (nodeO lf ks vs cs)

def putK (k : Wk) (lf : Bool) (ks vs : List ByteArray) (cs : List Int) : Wk := if putB k lf ks vs cs = true then { giveK k with ls := writeL k.ps k.ls (giveP k) (nodeO lf ks vs cs) } else k

def putP (k : Wk) (lf : Bool) (ks vs : List ByteArray) (cs : List Int) : Int := if putB k lf ks vs cs = true then giveP k else 0

theorem put_no {k : Wk} {lf : Bool} {ks vs : List ByteArray} {cs : List Int} (h : putB k lf ks vs cs = false) : putK k lf ks vs cs = k ∧ putP k lf ks vs cs = 0 := by
  unfold putK putP
  rw [h]
  exact ⟨rfl, rfl⟩

theorem put_yes {k : Wk} {lf : Bool} {ks vs : List ByteArray} {cs : List Int} (h : putB k lf ks vs cs = true) : putK k lf ks vs cs = { giveK k with ls := writeL k.ps k.ls (giveP k) (nodeO lf ks vs cs) } ∧ putP k lf ks vs cs = giveP k := by
  unfold putK putP
  rw [h]
  exact ⟨rfl, rfl⟩

theorem give_disk (k : Wk) : (giveK k).ps = k.ps ∧ (giveK k).ls = k.ls := by
  unfold giveK
  split
  · exact ⟨rfl, rfl⟩
  · split <;> exact ⟨rfl, rfl⟩

theorem nodeO_small (lf : Bool) (ks vs : List ByteArray) (cs : List Int) : (nodeO lf ks vs cs).size ≤ 206 := by
  unfold nodeO
  split
  · next h => exact nodeT_size h
  · exact Nat.zero_le _

theorem putK_small {k : Wk} {lf : Bool} {ks vs : List ByteArray} {cs : List Int} (h : k.bulk ≤ 1048576) : (putK k lf ks vs cs).small := by
  unfold putK
  split
  · obtain ⟨g1, g2, g3, g4, g5, g6, g7⟩ := give_small h
    obtain ⟨h1, h2, h3, h4, -⟩ := bulkW_in h
    refine ⟨g1, g2, writeL_le h3, fun p hp => ?_, g5, g6, g7⟩
    have hp : p ∈ writeL k.ps k.ls (giveP k) (nodeO lf ks vs cs) := hp
    unfold writeL at hp
    split at hp
    · rcases List.mem_append.1 hp with hp | hp
      · exact h4 p hp
      · obtain rfl := List.mem_singleton.1 hp
        exact Nat.le_trans (nodeO_small lf ks vs cs) (by omega)
    · exact h4 p hp
  · exact bulkW_in h

/-- the disk of a work in a variable is another -/
theorem put_fin {w w5 : World} {kg : Wk} {ls' : List (Int × ByteArray)} {a1 g B U : Nat} {rs : Obj} {u0 u1 u3 u4 u5 d0 d1 : Value} {t : TypeId} (hv : w5.heap[g]? = some (Obj.cells #[u0, u1, .int .i64 kg.next, u3, u4, u5] t)) (hres : w5.heap[a1]? = some rs) (hw : WorkOwn w5 B (.agg #[u0, u1, .int .i64 kg.next, u3, u4, u5]) kg) (hu : ∀ j, workBlocks (.agg #[u0, u1, .int .i64 kg.next, u3, u4, u5]) j → j < U) (hg : U ≤ g) (hd : DiskOwn w5 (g + 1) (.agg #[d0, d1]) kg.ps ls') (ha : a1 < B) (hB : B ≤ g) (hwa : w.heap.size ≤ a1) (hlow : Below w.heap.size w w5) :
    ((w5.setCell ⟨g, 0, none⟩ d0).setCell ⟨g, 1, none⟩ d1).heap[g]? = some (Obj.cells #[d0, d1, .int .i64 kg.next, u3, u4, u5] t) ∧ ((w5.setCell ⟨g, 0, none⟩ d0).setCell ⟨g, 1, none⟩ d1).heap[a1]? = some rs ∧
    WorkOwn ((w5.setCell ⟨g, 0, none⟩ d0).setCell ⟨g, 1, none⟩ d1) B (.agg #[d0, d1, .int .i64 kg.next, u3, u4, u5]) { kg with ls := ls' } ∧ Below w.heap.size w ((w5.setCell ⟨g, 0, none⟩ d0).setCell ⟨g, 1, none⟩ d1) := by
  have hk : Kept w5 ((w5.setCell ⟨g, 0, none⟩ d0).setCell ⟨g, 1, none⟩ d1) (fun j => j = g) := kept_trans (kept_setCell _ _ _ _) (kept_setCell _ _ _ _) (fun _ _ h => h)
  obtain ⟨vp, vl, vu, vg, vf, e, h1, h2, h3, h4, h5⟩ := hw
  obtain ⟨rfl, rfl, -, rfl, rfl, rfl⟩ := agg6 e
  refine ⟨heap_setCell_same _ g 1 _ _ _ (heap_setCell_same w5 g 0 _ _ _ hv), (hk.2.2.2.2 a1 (Array.getElem?_eq_some_iff.1 hres).1 (by omega)).trans hres, ⟨d0, d1, _, _, _, rfl, ?_, ?_, ?_, ?_, h5⟩, hlow.trans (below_of_kept hk hlow.size (fun j e => by omega))⟩
  · obtain ⟨vp', vl', e, k1, k2⟩ := diskOwn_kept hd hk (fun j e h => by have := (diskOwn_lt hd j e).1; omega)
    exact ⟨vp', vl', e, own_down k1 (by omega), own_down k2 (by omega)⟩
  · exact intOwn_kept h2 hk (fun j e h => by have := hu j ⟨_, _, _, _, _, _, rfl, Or.inr (Or.inl e)⟩; omega)
  · exact intOwn_kept h3 hk (fun j e h => by have := hu j ⟨_, _, _, _, _, _, rfl, Or.inr (Or.inr (Or.inl e))⟩; omega)
  · exact intOwn_kept h4 hk (fun j e h => by have := hu j ⟨_, _, _, _, _, _, rfl, Or.inr (Or.inr (Or.inr e))⟩; omega)
end Go.Proofs.YtejfmjejdopglaaDoor

namespace Go.Proofs.YtejfmjejdopglaaDoor
open Go.RowKit

theorem branch2 {G A B : Prop} (hA : G → A) (hB : G → B) (h : G) : A ∧ B := ⟨hA h, hB h⟩

theorem ready2 {P : Program} {md : Region.Mode} {ops : Array Oper} {Q : Exit → Act → World → Prop} {S : World → Prop} {fuel : Nat} {listed : Array Bool} {a : Act} {w : World} {i j : Nat} {oi oj : Oper} (hi : ops[i]? = some oi) (hj : ops[j]? = some oj)
    (h : (∀ K' : Act → World → Prop, Shut (∀ a w, S w → (S w → wpAnyH P md ops Q S fuel (listed.setIfInBounds i true) a w) → K' a w) → if Region.wanted oi (yielded ops a.tmps) = true then Oper.wp P oi a w K' Q else K' (a.put oi.dst undef) w) ∧
      (∀ K' : Act → World → Prop, Shut (∀ a w, S w → (S w → wpAnyH P md ops Q S fuel (listed.setIfInBounds j true) a w) → K' a w) → if Region.wanted oj (yielded ops a.tmps) = true then Oper.wp P oj a w K' Q else K' (a.put oj.dst undef) w)) :
    AllReadyH P md ops Q S fuel listed a w [i, j] := AllReadyH.cons hi h.1 (AllReadyH.cons hj h.2 AllReadyH.nil)

theorem step_call3 {P : Program} (w : World) {ops : Array Oper} {o : Oper} {a : Act} {K : Act → World → Prop} {Q : Exit → Act → World → Prop} {E : Prop} (hgd : o.guard = none) (f : FuncId) (fn : Func) (hfn : P.funcs[f]? = some fn) (hname : ¬ fn.name = "runtime.NumGoroutine") (hbody : ¬ fn.body = none) (s x y : Operand) (ts : Array TypeId)
    (ho : o.op = .call { callee := .value (.func f), args := #[s, x, y], argTypes := ts }) (u v z : Value) (hs : a.eval s = u) (hx : a.eval x = v) (hy : a.eval y = z)
    (R : Ending → World → Prop) (hc : Calls P f #[u, v, z] w R) (hR : ∀ e w', R e w' → ∃ r, e = .returned r ∧ K (a.put o.dst r) w') :
    if Region.wanted o (yielded ops a.tmps) = true then Oper.wp P o a w K Q else E := by
  have hw : Region.wanted o (yielded ops a.tmps) = true := by simp [Region.wanted, hgd]
  rw [if_pos hw]
  unfold Oper.wp execOp
  have hf : a.eval (.func f) = .func (.func f) #[] #[] := rfl
  simp only [ho, resolve, invoke, hf, Deferred.ofValue, callFunc, Sem.run_bind, Sem.run_pure, Result.andThen_ok, List.map_toArray, List.map_cons, List.map_nil, hs, hx, hy]
  simp [go_sem, hfn, hname, hbody]
  refine hc.mono ?_
  intro e w' h
  obtain ⟨r, rfl, hk⟩ := hR e w' h
  exact hk

/-- 'wpAnyH_take' with the slot named -/
theorem takeW {P : Program} {md : Region.Mode} {ops : Array Oper} {Q : Exit → Act → World → Prop} {S : World → Prop} (i d : Nat) {oi : Oper} (v : Value) {fuel : Nat} {listed : Array Bool} {a : Act} {w : World} (hi : ops[i]? = some oi) (hd : oi.dst = some d)
    (hs : Region.noSelect ops = true) (hf : Region.free md ops listed i = true) (hr : (Region.ready md ops listed).contains i = true)
    (hQ : ∀ c a w, Q (.panic c) (a.put oi.dst v) w → Q (.panic c) a w) (hy : YieldsIf P ops S oi v a) (hS : S w)
    (h : wpAnyH P md ops Q S fuel (listed.setIfInBounds i true) ⟨a.tmps.setIfInBounds d v, a.defers⟩ w) : wpAnyH P md ops Q S (fuel + 1) listed a w :=
  wpAnyH_take hi hs hf hr hQ hy hS (by rw [hd]; exact h)

theorem step_call7 {P : Program} (w : World) {ops : Array Oper} {o : Oper} {a : Act} {K : Act → World → Prop} {Q : Exit → Act → World → Prop} {E : Prop} (hgd : o.guard = none) (f : FuncId) (fn : Func) (hfn : P.funcs[f]? = some fn) (hname : ¬ fn.name = "runtime.NumGoroutine") (hbody : ¬ fn.body = none) (s x y p q r t : Operand) (ts : Array TypeId)
    (ho : o.op = .call { callee := .value (.func f), args := #[s, x, y, p, q, r, t], argTypes := ts }) (u v z z1 z2 z3 z4 : Value) (hs : a.eval s = u) (hx : a.eval x = v) (hy : a.eval y = z) (hp : a.eval p = z1) (hq : a.eval q = z2) (hr : a.eval r = z3) (ht : a.eval t = z4)
    (R : Ending → World → Prop) (hc : Calls P f #[u, v, z, z1, z2, z3, z4] w R) (hR : ∀ e w', R e w' → ∃ r', e = .returned r' ∧ K (a.put o.dst r') w') :
    if Region.wanted o (yielded ops a.tmps) = true then Oper.wp P o a w K Q else E := by
  have hw : Region.wanted o (yielded ops a.tmps) = true := by simp [Region.wanted, hgd]
  rw [if_pos hw]
  unfold Oper.wp execOp
  have hf : a.eval (.func f) = .func (.func f) #[] #[] := rfl
  simp only [ho, resolve, invoke, hf, Deferred.ofValue, callFunc, Sem.run_bind, Sem.run_pure, Result.andThen_ok, List.map_toArray, List.map_cons, List.map_nil, hs, hx, hy, hp, hq, hr, ht]
  simp [go_sem, hfn, hname, hbody]
  refine hc.mono ?_
  intro e w' h
  obtain ⟨r, rfl, hk⟩ := hR e w' h
  exact hk
end Go.Proofs.YtejfmjejdopglaaDoor

namespace Go.Proofs.YtejfmjejdopglaaDoor
open Go.RowKit

/-- what lies in the slots that are read alone -/
structure CpC where
  (c0 c1 c2 c3 c4 c6 c7 c9 c10 c13 c14 c17 c18 c20 : Value)

abbrev cpTm (c : CpC) (t5 e1 a1 e2 a2 e3 a3 : Value) : Array Value := #[c.c0, c.c1, c.c2, c.c3, c.c4, t5, c.c6, c.c7, e1, c.c9, c.c10, a1, e2, c.c13, c.c14, a2, e3, c.c17, c.c18, a3, c.c20]

theorem step_build0 {ops : Array Oper} {o : Oper} {a : Act} {K : Act → World → Prop} {Q : Exit → Act → World → Prop} {E : Prop} {W : World} (hgd : o.guard = none) (ho : o.op = .buildSlice 41 0 #[]) (h : K (a.put o.dst (.slice (some ⟨W.heap.size, 0, none⟩) 0 0)) (W.alloc (.cells #[] 3 (0, 0)))) :
    if Region.wanted o (yielded ops a.tmps) = true then Oper.wp Tryd.prog o a W K Q else E := by
  have hw : Region.wanted o (yielded ops a.tmps) = true := by simp [Region.wanted, hgd]
  rw [if_pos hw]
  unfold Oper.wp execOp
  simp only [ho]
  simp [go_sem]
  exact h

set_option maxHeartbeats 8000000 in
theorem copy_walk {ops : Array Oper} {Q : Exit → Act → World → Prop} {S : World → Prop} {w : World} {n0 : Nat} {bx rs : Obj} {ps : List ByteArray} {ls : List (Int × ByteArray)} {us gs fs : List Int} (c : CpC)
    (lu : us.length ≤ 2000000) (lg : gs.length ≤ 2000000) (lf : fs.length ≤ 2000000) (hS : ∀ W Em R D, CS w n0 bx rs ps ls W Em R D → S W)
    (f : FuncId) (fn : Func) (hfn : Tryd.prog.funcs[f]? = some fn) (hname : ¬ fn.name = "runtime.NumGoroutine") (hbody : ¬ fn.body = none) (ts : Array TypeId)
    (hc : ∀ wx, DiskAt wx c.c4 ps ls → Calls Tryd.prog f #[c.c4] wx fun e w' => ∃ v', e = .returned v' ∧ DiskOwn w' wx.heap.size v' ps ls ∧ Below wx.heap.size wx w') (hd : DiskAt w c.c4 ps ls)
    (ru : RowAt w 1 c.c10 us.length (ints us)) (rg : RowAt w 1 c.c14 gs.length (ints gs)) (rf : RowAt w 1 c.c18 fs.length (ints fs))
    {oC : Oper} (iC : ops[2]? = some oC) (jC : oC.guard = none) (dC : oC.dst = some 5) (pC : oC.op = .call { callee := .value (.func f), args := #[.tmp 4], argTypes := ts })
    {oE1 : Oper} (iE1 : ops[5]? = some oE1) (jE1 : oE1.guard = none) (dE1 : oE1.dst = some 8) (pE1 : oE1.op = .buildSlice 41 0 #[])
    {oA1 : Oper} (iA1 : ops[8]? = some oA1) (jA1 : oA1.guard = none) (dA1 : oA1.dst = some 11) (pA1 : oA1.op = .call { callee := .builtin .append, args := #[.tmp 8, .tmp 10], argTypes := #[41, 41] })
    {oE2 : Oper} (iE2 : ops[9]? = some oE2) (jE2 : oE2.guard = none) (dE2 : oE2.dst = some 12) (pE2 : oE2.op = .buildSlice 41 0 #[])
    {oA2 : Oper} (iA2 : ops[12]? = some oA2) (jA2 : oA2.guard = none) (dA2 : oA2.dst = some 15) (pA2 : oA2.op = .call { callee := .builtin .append, args := #[.tmp 12, .tmp 14], argTypes := #[41, 41] })
    {oE3 : Oper} (iE3 : ops[13]? = some oE3) (jE3 : oE3.guard = none) (dE3 : oE3.dst = some 16) (pE3 : oE3.op = .buildSlice 41 0 #[])
    {oA3 : Oper} (iA3 : ops[16]? = some oA3) (jA3 : oA3.guard = none) (dA3 : oA3.dst = some 19) (pA3 : oA3.op = .call { callee := .builtin .append, args := #[.tmp 16, .tmp 18], argTypes := #[41, 41] })
    (r0_000 : Region.ready .any ops #[true, true, false, true, true, false, true, true, false, false, true, true, false, false, true, true, false, false, false] = [2, 5, 9, 13])
    (r1_000 : Region.ready .any ops #[true, true, true, true, true, false, true, true, false, false, true, true, false, false, true, true, false, false, false] = [5, 9, 13])
    (r0_100 : Region.ready .any ops #[true, true, false, true, true, true, true, true, false, false, true, true, false, false, true, true, false, false, false] = [2, 9, 13])
    (r0_010 : Region.ready .any ops #[true, true, false, true, true, false, true, true, false, true, true, true, false, false, true, true, false, false, false] = [2, 5, 13])
    (r0_001 : Region.ready .any ops #[true, true, false, true, true, false, true, true, false, false, true, true, false, true, true, true, false, false, false] = [2, 5, 9])
    (r1_100 : Region.ready .any ops #[true, true, true, true, true, true, true, true, false, false, true, true, false, false, true, true, false, false, false] = [8, 9, 13])
    (r1_010 : Region.ready .any ops #[true, true, true, true, true, false, true, true, false, true, true, true, false, false, true, true, false, false, false] = [5, 13])
    (r1_001 : Region.ready .any ops #[true, true, true, true, true, false, true, true, false, false, true, true, false, true, true, true, false, false, false] = [5, 9])
    (r0_110 : Region.ready .any ops #[true, true, false, true, true, true, true, true, false, true, true, true, false, false, true, true, false, false, false] = [2, 13])
    (r0_101 : Region.ready .any ops #[true, true, false, true, true, true, true, true, false, false, true, true, false, true, true, true, false, false, false] = [2, 9])
    (r0_011 : Region.ready .any ops #[true, true, false, true, true, false, true, true, false, true, true, true, false, true, true, true, false, false, false] = [2, 5])
    (r1_200 : Region.ready .any ops #[true, true, true, true, true, true, true, true, true, false, true, true, false, false, true, true, false, false, false] = [9, 13])
    (r1_110 : Region.ready .any ops #[true, true, true, true, true, true, true, true, false, true, true, true, false, false, true, true, false, false, false] = [8, 13])
    (r1_101 : Region.ready .any ops #[true, true, true, true, true, true, true, true, false, false, true, true, false, true, true, true, false, false, false] = [8, 9])
    (r1_011 : Region.ready .any ops #[true, true, true, true, true, false, true, true, false, true, true, true, false, true, true, true, false, false, false] = [5])
    (r0_111 : Region.ready .any ops #[true, true, false, true, true, true, true, true, false, true, true, true, false, true, true, true, false, false, false] = [2])
    (r1_210 : Region.ready .any ops #[true, true, true, true, true, true, true, true, true, true, true, true, false, false, true, true, false, false, false] = [12, 13])
    (r1_201 : Region.ready .any ops #[true, true, true, true, true, true, true, true, true, false, true, true, false, true, true, true, false, false, false] = [9])
    (r1_111 : Region.ready .any ops #[true, true, true, true, true, true, true, true, false, true, true, true, false, true, true, true, false, false, false] = [8])
    (r1_220 : Region.ready .any ops #[true, true, true, true, true, true, true, true, true, true, true, true, true, false, true, true, false, false, false] = [13])
    (r1_211 : Region.ready .any ops #[true, true, true, true, true, true, true, true, true, true, true, true, false, true, true, true, false, false, false] = [12])
    (r1_221 : Region.ready .any ops #[true, true, true, true, true, true, true, true, true, true, true, true, true, true, true, true, false, false, false] = [16])
    (hfin : ∀ (W : World) (Em : Nat → Prop) (x1 : Option Addr) (p1 : Nat) (y1 : Option Addr) (p2 : Nat) (te1 : Value) (b1 q1 : Nat) (te2 : Value) (b2 q2 : Nat) (te3 : Value) (b3 q3 : Nat) (_ : CS w n0 bx rs ps ls W Em [(.slice (some ⟨b3, 0, none⟩) fs.length q3, fs), (.slice (some ⟨b2, 0, none⟩) gs.length q2, gs), (.slice (some ⟨b1, 0, none⟩) us.length q1, us)] [.agg #[.slice x1 ps.length p1, .slice y1 ls.length p2]]), wpAnyH Tryd.prog .any ops Q S 2 #[true, true, true, true, true, true, true, true, true, true, true, true, true, true, true, true, true, false, false] ⟨(cpTm c (.agg #[.slice x1 ps.length p1, .slice y1 ls.length p2]) te1 (.slice (some ⟨b1, 0, none⟩) us.length q1) te2 (.slice (some ⟨b2, 0, none⟩) gs.length q2) te3 (.slice (some ⟨b3, 0, none⟩) fs.length q3)), []⟩ W) :
    ∀ W, CS w n0 bx rs ps ls W (fun y => y < 0) [] [] → wpAnyH Tryd.prog .any ops Q S 9 #[true, true, false, true, true, false, true, true, false, false, true, true, false, false, true, true, false, false, false] ⟨cpTm c undef undef undef undef undef undef undef, []⟩ W := by
  have hlt : ∀ {W Em R D}, CS w n0 bx rs ps ls W Em R D → ∀ y, Em y → y ≠ W.heap.size := fun h y hy => Nat.ne_of_lt (Array.getElem?_eq_some_iff.1 (h.emp y hy).2).1
  have G1_221 : ∀ (W : World) (Em : Nat → Prop) (x1 : Option Addr) (p1 : Nat) (y1 : Option Addr) (p2 : Nat) (te1 : Value) (b1 q1 : Nat) (te2 : Value) (b2 q2 : Nat) (g3 : Nat) (ta3 : Value) (_ : CS w n0 bx rs ps ls W Em [(.slice (some ⟨b2, 0, none⟩) gs.length q2, gs), (.slice (some ⟨b1, 0, none⟩) us.length q1, us)] [.agg #[.slice x1 ps.length p1, .slice y1 ls.length p2]]) (h3 : Em g3), wpAnyH Tryd.prog .any ops Q S 3 #[true, true, true, true, true, true, true, true, true, true, true, true, true, true, true, true, false, false, false] ⟨(cpTm c (.agg #[.slice x1 ps.length p1, .slice y1 ls.length p2]) te1 (.slice (some ⟨b1, 0, none⟩) us.length q1) te2 (.slice (some ⟨b2, 0, none⟩) gs.length q2) (.slice (some ⟨g3, 0, none⟩) 0 0) ta3), []⟩ W := by
    intro W Em x1 p1 y1 p2 te1 b1 q1 te2 b2 q2 g3 ta3 hcs h3
    refine wpAnyH_ready r1_221 (by simp) ?_
    refine AllReadyH.cons iA3 (fun K hK => ?_) ?_
    · refine step_copy hcs jA3 (.tmp 16) (.tmp 18) pA3 rfl rfl fs lf rf h3 (fun b3 q3 W' _ hcs' => ?_)
      rw [dA3]
      exact hK.out _ _ (hS _ _ _ _ hcs') (fun _ => hfin W' _ x1 p1 y1 p2 te1 b1 q1 te2 b2 q2 _ b3 q3 hcs' )
    exact AllReadyH.nil
  have G1_220 : ∀ (W : World) (Em : Nat → Prop) (x1 : Option Addr) (p1 : Nat) (y1 : Option Addr) (p2 : Nat) (te1 : Value) (b1 q1 : Nat) (te2 : Value) (b2 q2 : Nat) (te3 : Value) (ta3 : Value) (_ : CS w n0 bx rs ps ls W Em [(.slice (some ⟨b2, 0, none⟩) gs.length q2, gs), (.slice (some ⟨b1, 0, none⟩) us.length q1, us)] [.agg #[.slice x1 ps.length p1, .slice y1 ls.length p2]]), wpAnyH Tryd.prog .any ops Q S 4 #[true, true, true, true, true, true, true, true, true, true, true, true, true, false, true, true, false, false, false] ⟨(cpTm c (.agg #[.slice x1 ps.length p1, .slice y1 ls.length p2]) te1 (.slice (some ⟨b1, 0, none⟩) us.length q1) te2 (.slice (some ⟨b2, 0, none⟩) gs.length q2) te3 ta3), []⟩ W := by
    intro W Em x1 p1 y1 p2 te1 b1 q1 te2 b2 q2 te3 ta3 hcs
    refine wpAnyH_ready r1_220 (by simp) ?_
    refine AllReadyH.cons iE3 (fun K hK => ?_) ?_
    · refine step_build0 jE3 pE3 ?_
      rw [dE3]
      exact hK.out _ _ (hS _ _ _ _ (cs_alloc hcs)) (fun _ => G1_221 _ _ x1 p1 y1 p2 te1 b1 q1 te2 b2 q2 W.heap.size ta3 (cs_alloc hcs) (Or.inl rfl))
    exact AllReadyH.nil
  have G1_211 : ∀ (W : World) (Em : Nat → Prop) (x1 : Option Addr) (p1 : Nat) (y1 : Option Addr) (p2 : Nat) (te1 : Value) (b1 q1 : Nat) (g2 : Nat) (ta2 : Value) (g3 : Nat) (ta3 : Value) (_ : CS w n0 bx rs ps ls W Em [(.slice (some ⟨b1, 0, none⟩) us.length q1, us)] [.agg #[.slice x1 ps.length p1, .slice y1 ls.length p2]]) (h2 : Em g2) (h3 : Em g3) (n23 : g2 ≠ g3), wpAnyH Tryd.prog .any ops Q S 4 #[true, true, true, true, true, true, true, true, true, true, true, true, false, true, true, true, false, false, false] ⟨(cpTm c (.agg #[.slice x1 ps.length p1, .slice y1 ls.length p2]) te1 (.slice (some ⟨b1, 0, none⟩) us.length q1) (.slice (some ⟨g2, 0, none⟩) 0 0) ta2 (.slice (some ⟨g3, 0, none⟩) 0 0) ta3), []⟩ W := by
    intro W Em x1 p1 y1 p2 te1 b1 q1 g2 ta2 g3 ta3 hcs h2 h3 n23
    refine wpAnyH_ready r1_211 (by simp) ?_
    refine AllReadyH.cons iA2 (fun K hK => ?_) ?_
    · refine step_copy hcs jA2 (.tmp 12) (.tmp 14) pA2 rfl rfl gs lg rg h2 (fun b2 q2 W' _ hcs' => ?_)
      rw [dA2]
      exact hK.out _ _ (hS _ _ _ _ hcs') (fun _ => G1_221 W' _ x1 p1 y1 p2 te1 b1 q1 _ b2 q2 g3 ta3 hcs' (⟨h3, n23.symm⟩))
    exact AllReadyH.nil
  have G1_210 : ∀ (W : World) (Em : Nat → Prop) (x1 : Option Addr) (p1 : Nat) (y1 : Option Addr) (p2 : Nat) (te1 : Value) (b1 q1 : Nat) (g2 : Nat) (ta2 : Value) (te3 : Value) (ta3 : Value) (_ : CS w n0 bx rs ps ls W Em [(.slice (some ⟨b1, 0, none⟩) us.length q1, us)] [.agg #[.slice x1 ps.length p1, .slice y1 ls.length p2]]) (h2 : Em g2), wpAnyH Tryd.prog .any ops Q S 5 #[true, true, true, true, true, true, true, true, true, true, true, true, false, false, true, true, false, false, false] ⟨(cpTm c (.agg #[.slice x1 ps.length p1, .slice y1 ls.length p2]) te1 (.slice (some ⟨b1, 0, none⟩) us.length q1) (.slice (some ⟨g2, 0, none⟩) 0 0) ta2 te3 ta3), []⟩ W := by
    intro W Em x1 p1 y1 p2 te1 b1 q1 g2 ta2 te3 ta3 hcs h2
    refine wpAnyH_ready r1_210 (by simp) ?_
    refine AllReadyH.cons iA2 (fun K hK => ?_) ?_
    · refine step_copy hcs jA2 (.tmp 12) (.tmp 14) pA2 rfl rfl gs lg rg h2 (fun b2 q2 W' _ hcs' => ?_)
      rw [dA2]
      exact hK.out _ _ (hS _ _ _ _ hcs') (fun _ => G1_220 W' _ x1 p1 y1 p2 te1 b1 q1 _ b2 q2 te3 ta3 hcs' )
    refine AllReadyH.cons iE3 (fun K hK => ?_) ?_
    · refine step_build0 jE3 pE3 ?_
      rw [dE3]
      exact hK.out _ _ (hS _ _ _ _ (cs_alloc hcs)) (fun _ => G1_211 _ _ x1 p1 y1 p2 te1 b1 q1 g2 ta2 W.heap.size ta3 (cs_alloc hcs) (Or.inr h2) (Or.inl rfl) (hlt hcs g2 h2))
    exact AllReadyH.nil
  have G1_201 : ∀ (W : World) (Em : Nat → Prop) (x1 : Option Addr) (p1 : Nat) (y1 : Option Addr) (p2 : Nat) (te1 : Value) (b1 q1 : Nat) (te2 : Value) (ta2 : Value) (g3 : Nat) (ta3 : Value) (_ : CS w n0 bx rs ps ls W Em [(.slice (some ⟨b1, 0, none⟩) us.length q1, us)] [.agg #[.slice x1 ps.length p1, .slice y1 ls.length p2]]) (h3 : Em g3), wpAnyH Tryd.prog .any ops Q S 5 #[true, true, true, true, true, true, true, true, true, false, true, true, false, true, true, true, false, false, false] ⟨(cpTm c (.agg #[.slice x1 ps.length p1, .slice y1 ls.length p2]) te1 (.slice (some ⟨b1, 0, none⟩) us.length q1) te2 ta2 (.slice (some ⟨g3, 0, none⟩) 0 0) ta3), []⟩ W := by
    intro W Em x1 p1 y1 p2 te1 b1 q1 te2 ta2 g3 ta3 hcs h3
    refine wpAnyH_ready r1_201 (by simp) ?_
    refine AllReadyH.cons iE2 (fun K hK => ?_) ?_
    · refine step_build0 jE2 pE2 ?_
      rw [dE2]
      exact hK.out _ _ (hS _ _ _ _ (cs_alloc hcs)) (fun _ => G1_211 _ _ x1 p1 y1 p2 te1 b1 q1 W.heap.size ta2 g3 ta3 (cs_alloc hcs) (Or.inl rfl) (Or.inr h3) ((hlt hcs g3 h3).symm))
    exact AllReadyH.nil
  have G1_111 : ∀ (W : World) (Em : Nat → Prop) (x1 : Option Addr) (p1 : Nat) (y1 : Option Addr) (p2 : Nat) (g1 : Nat) (ta1 : Value) (g2 : Nat) (ta2 : Value) (g3 : Nat) (ta3 : Value) (_ : CS w n0 bx rs ps ls W Em [] [.agg #[.slice x1 ps.length p1, .slice y1 ls.length p2]]) (h1 : Em g1) (h2 : Em g2) (h3 : Em g3) (n12 : g1 ≠ g2) (n13 : g1 ≠ g3) (n23 : g2 ≠ g3), wpAnyH Tryd.prog .any ops Q S 5 #[true, true, true, true, true, true, true, true, false, true, true, true, false, true, true, true, false, false, false] ⟨(cpTm c (.agg #[.slice x1 ps.length p1, .slice y1 ls.length p2]) (.slice (some ⟨g1, 0, none⟩) 0 0) ta1 (.slice (some ⟨g2, 0, none⟩) 0 0) ta2 (.slice (some ⟨g3, 0, none⟩) 0 0) ta3), []⟩ W := by
    intro W Em x1 p1 y1 p2 g1 ta1 g2 ta2 g3 ta3 hcs h1 h2 h3 n12 n13 n23
    refine wpAnyH_ready r1_111 (by simp) ?_
    refine AllReadyH.cons iA1 (fun K hK => ?_) ?_
    · refine step_copy hcs jA1 (.tmp 8) (.tmp 10) pA1 rfl rfl us lu ru h1 (fun b1 q1 W' _ hcs' => ?_)
      rw [dA1]
      exact hK.out _ _ (hS _ _ _ _ hcs') (fun _ => G1_211 W' _ x1 p1 y1 p2 _ b1 q1 g2 ta2 g3 ta3 hcs' (⟨h2, n12.symm⟩) (⟨h3, n13.symm⟩) (n23))
    exact AllReadyH.nil
  have G1_200 : ∀ (W : World) (Em : Nat → Prop) (x1 : Option Addr) (p1 : Nat) (y1 : Option Addr) (p2 : Nat) (te1 : Value) (b1 q1 : Nat) (te2 : Value) (ta2 : Value) (te3 : Value) (ta3 : Value) (_ : CS w n0 bx rs ps ls W Em [(.slice (some ⟨b1, 0, none⟩) us.length q1, us)] [.agg #[.slice x1 ps.length p1, .slice y1 ls.length p2]]), wpAnyH Tryd.prog .any ops Q S 6 #[true, true, true, true, true, true, true, true, true, false, true, true, false, false, true, true, false, false, false] ⟨(cpTm c (.agg #[.slice x1 ps.length p1, .slice y1 ls.length p2]) te1 (.slice (some ⟨b1, 0, none⟩) us.length q1) te2 ta2 te3 ta3), []⟩ W := by
    intro W Em x1 p1 y1 p2 te1 b1 q1 te2 ta2 te3 ta3 hcs
    refine wpAnyH_ready r1_200 (by simp) ?_
    refine AllReadyH.cons iE2 (fun K hK => ?_) ?_
    · refine step_build0 jE2 pE2 ?_
      rw [dE2]
      exact hK.out _ _ (hS _ _ _ _ (cs_alloc hcs)) (fun _ => G1_210 _ _ x1 p1 y1 p2 te1 b1 q1 W.heap.size ta2 te3 ta3 (cs_alloc hcs) (Or.inl rfl))
    refine AllReadyH.cons iE3 (fun K hK => ?_) ?_
    · refine step_build0 jE3 pE3 ?_
      rw [dE3]
      exact hK.out _ _ (hS _ _ _ _ (cs_alloc hcs)) (fun _ => G1_201 _ _ x1 p1 y1 p2 te1 b1 q1 te2 ta2 W.heap.size ta3 (cs_alloc hcs) (Or.inl rfl))
    exact AllReadyH.nil
  have G1_110 : ∀ (W : World) (Em : Nat → Prop) (x1 : Option Addr) (p1 : Nat) (y1 : Option Addr) (p2 : Nat) (g1 : Nat) (ta1 : Value) (g2 : Nat) (ta2 : Value) (te3 : Value) (ta3 : Value) (_ : CS w n0 bx rs ps ls W Em [] [.agg #[.slice x1 ps.length p1, .slice y1 ls.length p2]]) (h1 : Em g1) (h2 : Em g2) (n12 : g1 ≠ g2), wpAnyH Tryd.prog .any ops Q S 6 #[true, true, true, true, true, true, true, true, false, true, true, true, false, false, true, true, false, false, false] ⟨(cpTm c (.agg #[.slice x1 ps.length p1, .slice y1 ls.length p2]) (.slice (some ⟨g1, 0, none⟩) 0 0) ta1 (.slice (some ⟨g2, 0, none⟩) 0 0) ta2 te3 ta3), []⟩ W := by
    intro W Em x1 p1 y1 p2 g1 ta1 g2 ta2 te3 ta3 hcs h1 h2 n12
    refine wpAnyH_ready r1_110 (by simp) ?_
    refine AllReadyH.cons iA1 (fun K hK => ?_) ?_
    · refine step_copy hcs jA1 (.tmp 8) (.tmp 10) pA1 rfl rfl us lu ru h1 (fun b1 q1 W' _ hcs' => ?_)
      rw [dA1]
      exact hK.out _ _ (hS _ _ _ _ hcs') (fun _ => G1_210 W' _ x1 p1 y1 p2 _ b1 q1 g2 ta2 te3 ta3 hcs' (⟨h2, n12.symm⟩))
    refine AllReadyH.cons iE3 (fun K hK => ?_) ?_
    · refine step_build0 jE3 pE3 ?_
      rw [dE3]
      exact hK.out _ _ (hS _ _ _ _ (cs_alloc hcs)) (fun _ => G1_111 _ _ x1 p1 y1 p2 g1 ta1 g2 ta2 W.heap.size ta3 (cs_alloc hcs) (Or.inr h1) (Or.inr h2) (Or.inl rfl) (n12) (hlt hcs g1 h1) (hlt hcs g2 h2))
    exact AllReadyH.nil
  have G1_101 : ∀ (W : World) (Em : Nat → Prop) (x1 : Option Addr) (p1 : Nat) (y1 : Option Addr) (p2 : Nat) (g1 : Nat) (ta1 : Value) (te2 : Value) (ta2 : Value) (g3 : Nat) (ta3 : Value) (_ : CS w n0 bx rs ps ls W Em [] [.agg #[.slice x1 ps.length p1, .slice y1 ls.length p2]]) (h1 : Em g1) (h3 : Em g3) (n13 : g1 ≠ g3), wpAnyH Tryd.prog .any ops Q S 6 #[true, true, true, true, true, true, true, true, false, false, true, true, false, true, true, true, false, false, false] ⟨(cpTm c (.agg #[.slice x1 ps.length p1, .slice y1 ls.length p2]) (.slice (some ⟨g1, 0, none⟩) 0 0) ta1 te2 ta2 (.slice (some ⟨g3, 0, none⟩) 0 0) ta3), []⟩ W := by
    intro W Em x1 p1 y1 p2 g1 ta1 te2 ta2 g3 ta3 hcs h1 h3 n13
    refine wpAnyH_ready r1_101 (by simp) ?_
    refine AllReadyH.cons iA1 (fun K hK => ?_) ?_
    · refine step_copy hcs jA1 (.tmp 8) (.tmp 10) pA1 rfl rfl us lu ru h1 (fun b1 q1 W' _ hcs' => ?_)
      rw [dA1]
      exact hK.out _ _ (hS _ _ _ _ hcs') (fun _ => G1_201 W' _ x1 p1 y1 p2 _ b1 q1 te2 ta2 g3 ta3 hcs' (⟨h3, n13.symm⟩))
    refine AllReadyH.cons iE2 (fun K hK => ?_) ?_
    · refine step_build0 jE2 pE2 ?_
      rw [dE2]
      exact hK.out _ _ (hS _ _ _ _ (cs_alloc hcs)) (fun _ => G1_111 _ _ x1 p1 y1 p2 g1 ta1 W.heap.size ta2 g3 ta3 (cs_alloc hcs) (Or.inr h1) (Or.inl rfl) (Or.inr h3) (hlt hcs g1 h1) (n13) ((hlt hcs g3 h3).symm))
    exact AllReadyH.nil
  have G1_011 : ∀ (W : World) (Em : Nat → Prop) (x1 : Option Addr) (p1 : Nat) (y1 : Option Addr) (p2 : Nat) (te1 : Value) (ta1 : Value) (g2 : Nat) (ta2 : Value) (g3 : Nat) (ta3 : Value) (_ : CS w n0 bx rs ps ls W Em [] [.agg #[.slice x1 ps.length p1, .slice y1 ls.length p2]]) (h2 : Em g2) (h3 : Em g3) (n23 : g2 ≠ g3), wpAnyH Tryd.prog .any ops Q S 6 #[true, true, true, true, true, false, true, true, false, true, true, true, false, true, true, true, false, false, false] ⟨(cpTm c (.agg #[.slice x1 ps.length p1, .slice y1 ls.length p2]) te1 ta1 (.slice (some ⟨g2, 0, none⟩) 0 0) ta2 (.slice (some ⟨g3, 0, none⟩) 0 0) ta3), []⟩ W := by
    intro W Em x1 p1 y1 p2 te1 ta1 g2 ta2 g3 ta3 hcs h2 h3 n23
    refine wpAnyH_ready r1_011 (by simp) ?_
    refine AllReadyH.cons iE1 (fun K hK => ?_) ?_
    · refine step_build0 jE1 pE1 ?_
      rw [dE1]
      exact hK.out _ _ (hS _ _ _ _ (cs_alloc hcs)) (fun _ => G1_111 _ _ x1 p1 y1 p2 W.heap.size ta1 g2 ta2 g3 ta3 (cs_alloc hcs) (Or.inl rfl) (Or.inr h2) (Or.inr h3) ((hlt hcs g2 h2).symm) ((hlt hcs g3 h3).symm) (n23))
    exact AllReadyH.nil
  have G0_111 : ∀ (W : World) (Em : Nat → Prop) (t5 : Value) (g1 : Nat) (ta1 : Value) (g2 : Nat) (ta2 : Value) (g3 : Nat) (ta3 : Value) (_ : CS w n0 bx rs ps ls W Em [] []) (h1 : Em g1) (h2 : Em g2) (h3 : Em g3) (n12 : g1 ≠ g2) (n13 : g1 ≠ g3) (n23 : g2 ≠ g3), wpAnyH Tryd.prog .any ops Q S 6 #[true, true, false, true, true, true, true, true, false, true, true, true, false, true, true, true, false, false, false] ⟨(cpTm c t5 (.slice (some ⟨g1, 0, none⟩) 0 0) ta1 (.slice (some ⟨g2, 0, none⟩) 0 0) ta2 (.slice (some ⟨g3, 0, none⟩) 0 0) ta3), []⟩ W := by
    intro W Em t5 g1 ta1 g2 ta2 g3 ta3 hcs h1 h2 h3 n12 n13 n23
    refine wpAnyH_ready r0_111 (by simp) ?_
    refine AllReadyH.cons iC (fun K hK => ?_) ?_
    · refine step_callcs hcs jC f fn hfn hname hbody (.tmp 4) ts pC c.c4 rfl hc hd (fun x1 p1 y1 p2 W' _ hcs' => ?_)
      rw [dC]
      exact hK.out _ _ (hS _ _ _ _ hcs') (fun _ => G1_111 W' _ x1 p1 y1 p2 g1 ta1 g2 ta2 g3 ta3 hcs' (h1) (h2) (h3) (n12) (n13) (n23))
    exact AllReadyH.nil
  have G1_100 : ∀ (W : World) (Em : Nat → Prop) (x1 : Option Addr) (p1 : Nat) (y1 : Option Addr) (p2 : Nat) (g1 : Nat) (ta1 : Value) (te2 : Value) (ta2 : Value) (te3 : Value) (ta3 : Value) (_ : CS w n0 bx rs ps ls W Em [] [.agg #[.slice x1 ps.length p1, .slice y1 ls.length p2]]) (h1 : Em g1), wpAnyH Tryd.prog .any ops Q S 7 #[true, true, true, true, true, true, true, true, false, false, true, true, false, false, true, true, false, false, false] ⟨(cpTm c (.agg #[.slice x1 ps.length p1, .slice y1 ls.length p2]) (.slice (some ⟨g1, 0, none⟩) 0 0) ta1 te2 ta2 te3 ta3), []⟩ W := by
    intro W Em x1 p1 y1 p2 g1 ta1 te2 ta2 te3 ta3 hcs h1
    refine wpAnyH_ready r1_100 (by simp) ?_
    refine AllReadyH.cons iA1 (fun K hK => ?_) ?_
    · refine step_copy hcs jA1 (.tmp 8) (.tmp 10) pA1 rfl rfl us lu ru h1 (fun b1 q1 W' _ hcs' => ?_)
      rw [dA1]
      exact hK.out _ _ (hS _ _ _ _ hcs') (fun _ => G1_200 W' _ x1 p1 y1 p2 _ b1 q1 te2 ta2 te3 ta3 hcs' )
    refine AllReadyH.cons iE2 (fun K hK => ?_) ?_
    · refine step_build0 jE2 pE2 ?_
      rw [dE2]
      exact hK.out _ _ (hS _ _ _ _ (cs_alloc hcs)) (fun _ => G1_110 _ _ x1 p1 y1 p2 g1 ta1 W.heap.size ta2 te3 ta3 (cs_alloc hcs) (Or.inr h1) (Or.inl rfl) (hlt hcs g1 h1))
    refine AllReadyH.cons iE3 (fun K hK => ?_) ?_
    · refine step_build0 jE3 pE3 ?_
      rw [dE3]
      exact hK.out _ _ (hS _ _ _ _ (cs_alloc hcs)) (fun _ => G1_101 _ _ x1 p1 y1 p2 g1 ta1 te2 ta2 W.heap.size ta3 (cs_alloc hcs) (Or.inr h1) (Or.inl rfl) (hlt hcs g1 h1))
    exact AllReadyH.nil
  have G1_010 : ∀ (W : World) (Em : Nat → Prop) (x1 : Option Addr) (p1 : Nat) (y1 : Option Addr) (p2 : Nat) (te1 : Value) (ta1 : Value) (g2 : Nat) (ta2 : Value) (te3 : Value) (ta3 : Value) (_ : CS w n0 bx rs ps ls W Em [] [.agg #[.slice x1 ps.length p1, .slice y1 ls.length p2]]) (h2 : Em g2), wpAnyH Tryd.prog .any ops Q S 7 #[true, true, true, true, true, false, true, true, false, true, true, true, false, false, true, true, false, false, false] ⟨(cpTm c (.agg #[.slice x1 ps.length p1, .slice y1 ls.length p2]) te1 ta1 (.slice (some ⟨g2, 0, none⟩) 0 0) ta2 te3 ta3), []⟩ W := by
    intro W Em x1 p1 y1 p2 te1 ta1 g2 ta2 te3 ta3 hcs h2
    refine wpAnyH_ready r1_010 (by simp) ?_
    refine AllReadyH.cons iE1 (fun K hK => ?_) ?_
    · refine step_build0 jE1 pE1 ?_
      rw [dE1]
      exact hK.out _ _ (hS _ _ _ _ (cs_alloc hcs)) (fun _ => G1_110 _ _ x1 p1 y1 p2 W.heap.size ta1 g2 ta2 te3 ta3 (cs_alloc hcs) (Or.inl rfl) (Or.inr h2) ((hlt hcs g2 h2).symm))
    refine AllReadyH.cons iE3 (fun K hK => ?_) ?_
    · refine step_build0 jE3 pE3 ?_
      rw [dE3]
      exact hK.out _ _ (hS _ _ _ _ (cs_alloc hcs)) (fun _ => G1_011 _ _ x1 p1 y1 p2 te1 ta1 g2 ta2 W.heap.size ta3 (cs_alloc hcs) (Or.inr h2) (Or.inl rfl) (hlt hcs g2 h2))
    exact AllReadyH.nil
  have G1_001 : ∀ (W : World) (Em : Nat → Prop) (x1 : Option Addr) (p1 : Nat) (y1 : Option Addr) (p2 : Nat) (te1 : Value) (ta1 : Value) (te2 : Value) (ta2 : Value) (g3 : Nat) (ta3 : Value) (_ : CS w n0 bx rs ps ls W Em [] [.agg #[.slice x1 ps.length p1, .slice y1 ls.length p2]]) (h3 : Em g3), wpAnyH Tryd.prog .any ops Q S 7 #[true, true, true, true, true, false, true, true, false, false, true, true, false, true, true, true, false, false, false] ⟨(cpTm c (.agg #[.slice x1 ps.length p1, .slice y1 ls.length p2]) te1 ta1 te2 ta2 (.slice (some ⟨g3, 0, none⟩) 0 0) ta3), []⟩ W := by
    intro W Em x1 p1 y1 p2 te1 ta1 te2 ta2 g3 ta3 hcs h3
    refine wpAnyH_ready r1_001 (by simp) ?_
    refine AllReadyH.cons iE1 (fun K hK => ?_) ?_
    · refine step_build0 jE1 pE1 ?_
      rw [dE1]
      exact hK.out _ _ (hS _ _ _ _ (cs_alloc hcs)) (fun _ => G1_101 _ _ x1 p1 y1 p2 W.heap.size ta1 te2 ta2 g3 ta3 (cs_alloc hcs) (Or.inl rfl) (Or.inr h3) ((hlt hcs g3 h3).symm))
    refine AllReadyH.cons iE2 (fun K hK => ?_) ?_
    · refine step_build0 jE2 pE2 ?_
      rw [dE2]
      exact hK.out _ _ (hS _ _ _ _ (cs_alloc hcs)) (fun _ => G1_011 _ _ x1 p1 y1 p2 te1 ta1 W.heap.size ta2 g3 ta3 (cs_alloc hcs) (Or.inl rfl) (Or.inr h3) ((hlt hcs g3 h3).symm))
    exact AllReadyH.nil
  have G0_110 : ∀ (W : World) (Em : Nat → Prop) (t5 : Value) (g1 : Nat) (ta1 : Value) (g2 : Nat) (ta2 : Value) (te3 : Value) (ta3 : Value) (_ : CS w n0 bx rs ps ls W Em [] []) (h1 : Em g1) (h2 : Em g2) (n12 : g1 ≠ g2), wpAnyH Tryd.prog .any ops Q S 7 #[true, true, false, true, true, true, true, true, false, true, true, true, false, false, true, true, false, false, false] ⟨(cpTm c t5 (.slice (some ⟨g1, 0, none⟩) 0 0) ta1 (.slice (some ⟨g2, 0, none⟩) 0 0) ta2 te3 ta3), []⟩ W := by
    intro W Em t5 g1 ta1 g2 ta2 te3 ta3 hcs h1 h2 n12
    refine wpAnyH_ready r0_110 (by simp) ?_
    refine AllReadyH.cons iC (fun K hK => ?_) ?_
    · refine step_callcs hcs jC f fn hfn hname hbody (.tmp 4) ts pC c.c4 rfl hc hd (fun x1 p1 y1 p2 W' _ hcs' => ?_)
      rw [dC]
      exact hK.out _ _ (hS _ _ _ _ hcs') (fun _ => G1_110 W' _ x1 p1 y1 p2 g1 ta1 g2 ta2 te3 ta3 hcs' (h1) (h2) (n12))
    refine AllReadyH.cons iE3 (fun K hK => ?_) ?_
    · refine step_build0 jE3 pE3 ?_
      rw [dE3]
      exact hK.out _ _ (hS _ _ _ _ (cs_alloc hcs)) (fun _ => G0_111 _ _ t5 g1 ta1 g2 ta2 W.heap.size ta3 (cs_alloc hcs) (Or.inr h1) (Or.inr h2) (Or.inl rfl) (n12) (hlt hcs g1 h1) (hlt hcs g2 h2))
    exact AllReadyH.nil
  have G0_101 : ∀ (W : World) (Em : Nat → Prop) (t5 : Value) (g1 : Nat) (ta1 : Value) (te2 : Value) (ta2 : Value) (g3 : Nat) (ta3 : Value) (_ : CS w n0 bx rs ps ls W Em [] []) (h1 : Em g1) (h3 : Em g3) (n13 : g1 ≠ g3), wpAnyH Tryd.prog .any ops Q S 7 #[true, true, false, true, true, true, true, true, false, false, true, true, false, true, true, true, false, false, false] ⟨(cpTm c t5 (.slice (some ⟨g1, 0, none⟩) 0 0) ta1 te2 ta2 (.slice (some ⟨g3, 0, none⟩) 0 0) ta3), []⟩ W := by
    intro W Em t5 g1 ta1 te2 ta2 g3 ta3 hcs h1 h3 n13
    refine wpAnyH_ready r0_101 (by simp) ?_
    refine AllReadyH.cons iC (fun K hK => ?_) ?_
    · refine step_callcs hcs jC f fn hfn hname hbody (.tmp 4) ts pC c.c4 rfl hc hd (fun x1 p1 y1 p2 W' _ hcs' => ?_)
      rw [dC]
      exact hK.out _ _ (hS _ _ _ _ hcs') (fun _ => G1_101 W' _ x1 p1 y1 p2 g1 ta1 te2 ta2 g3 ta3 hcs' (h1) (h3) (n13))
    refine AllReadyH.cons iE2 (fun K hK => ?_) ?_
    · refine step_build0 jE2 pE2 ?_
      rw [dE2]
      exact hK.out _ _ (hS _ _ _ _ (cs_alloc hcs)) (fun _ => G0_111 _ _ t5 g1 ta1 W.heap.size ta2 g3 ta3 (cs_alloc hcs) (Or.inr h1) (Or.inl rfl) (Or.inr h3) (hlt hcs g1 h1) (n13) ((hlt hcs g3 h3).symm))
    exact AllReadyH.nil
  have G0_011 : ∀ (W : World) (Em : Nat → Prop) (t5 : Value) (te1 : Value) (ta1 : Value) (g2 : Nat) (ta2 : Value) (g3 : Nat) (ta3 : Value) (_ : CS w n0 bx rs ps ls W Em [] []) (h2 : Em g2) (h3 : Em g3) (n23 : g2 ≠ g3), wpAnyH Tryd.prog .any ops Q S 7 #[true, true, false, true, true, false, true, true, false, true, true, true, false, true, true, true, false, false, false] ⟨(cpTm c t5 te1 ta1 (.slice (some ⟨g2, 0, none⟩) 0 0) ta2 (.slice (some ⟨g3, 0, none⟩) 0 0) ta3), []⟩ W := by
    intro W Em t5 te1 ta1 g2 ta2 g3 ta3 hcs h2 h3 n23
    refine wpAnyH_ready r0_011 (by simp) ?_
    refine AllReadyH.cons iC (fun K hK => ?_) ?_
    · refine step_callcs hcs jC f fn hfn hname hbody (.tmp 4) ts pC c.c4 rfl hc hd (fun x1 p1 y1 p2 W' _ hcs' => ?_)
      rw [dC]
      exact hK.out _ _ (hS _ _ _ _ hcs') (fun _ => G1_011 W' _ x1 p1 y1 p2 te1 ta1 g2 ta2 g3 ta3 hcs' (h2) (h3) (n23))
    refine AllReadyH.cons iE1 (fun K hK => ?_) ?_
    · refine step_build0 jE1 pE1 ?_
      rw [dE1]
      exact hK.out _ _ (hS _ _ _ _ (cs_alloc hcs)) (fun _ => G0_111 _ _ t5 W.heap.size ta1 g2 ta2 g3 ta3 (cs_alloc hcs) (Or.inl rfl) (Or.inr h2) (Or.inr h3) ((hlt hcs g2 h2).symm) ((hlt hcs g3 h3).symm) (n23))
    exact AllReadyH.nil
  have G1_000 : ∀ (W : World) (Em : Nat → Prop) (x1 : Option Addr) (p1 : Nat) (y1 : Option Addr) (p2 : Nat) (te1 : Value) (ta1 : Value) (te2 : Value) (ta2 : Value) (te3 : Value) (ta3 : Value) (_ : CS w n0 bx rs ps ls W Em [] [.agg #[.slice x1 ps.length p1, .slice y1 ls.length p2]]), wpAnyH Tryd.prog .any ops Q S 8 #[true, true, true, true, true, false, true, true, false, false, true, true, false, false, true, true, false, false, false] ⟨(cpTm c (.agg #[.slice x1 ps.length p1, .slice y1 ls.length p2]) te1 ta1 te2 ta2 te3 ta3), []⟩ W := by
    intro W Em x1 p1 y1 p2 te1 ta1 te2 ta2 te3 ta3 hcs
    refine wpAnyH_ready r1_000 (by simp) ?_
    refine AllReadyH.cons iE1 (fun K hK => ?_) ?_
    · refine step_build0 jE1 pE1 ?_
      rw [dE1]
      exact hK.out _ _ (hS _ _ _ _ (cs_alloc hcs)) (fun _ => G1_100 _ _ x1 p1 y1 p2 W.heap.size ta1 te2 ta2 te3 ta3 (cs_alloc hcs) (Or.inl rfl))
    refine AllReadyH.cons iE2 (fun K hK => ?_) ?_
    · refine step_build0 jE2 pE2 ?_
      rw [dE2]
      exact hK.out _ _ (hS _ _ _ _ (cs_alloc hcs)) (fun _ => G1_010 _ _ x1 p1 y1 p2 te1 ta1 W.heap.size ta2 te3 ta3 (cs_alloc hcs) (Or.inl rfl))
    refine AllReadyH.cons iE3 (fun K hK => ?_) ?_
    · refine step_build0 jE3 pE3 ?_
      rw [dE3]
      exact hK.out _ _ (hS _ _ _ _ (cs_alloc hcs)) (fun _ => G1_001 _ _ x1 p1 y1 p2 te1 ta1 te2 ta2 W.heap.size ta3 (cs_alloc hcs) (Or.inl rfl))
    exact AllReadyH.nil
  have G0_100 : ∀ (W : World) (Em : Nat → Prop) (t5 : Value) (g1 : Nat) (ta1 : Value) (te2 : Value) (ta2 : Value) (te3 : Value) (ta3 : Value) (_ : CS w n0 bx rs ps ls W Em [] []) (h1 : Em g1), wpAnyH Tryd.prog .any ops Q S 8 #[true, true, false, true, true, true, true, true, false, false, true, true, false, false, true, true, false, false, false] ⟨(cpTm c t5 (.slice (some ⟨g1, 0, none⟩) 0 0) ta1 te2 ta2 te3 ta3), []⟩ W := by
    intro W Em t5 g1 ta1 te2 ta2 te3 ta3 hcs h1
    refine wpAnyH_ready r0_100 (by simp) ?_
    refine AllReadyH.cons iC (fun K hK => ?_) ?_
    · refine step_callcs hcs jC f fn hfn hname hbody (.tmp 4) ts pC c.c4 rfl hc hd (fun x1 p1 y1 p2 W' _ hcs' => ?_)
      rw [dC]
      exact hK.out _ _ (hS _ _ _ _ hcs') (fun _ => G1_100 W' _ x1 p1 y1 p2 g1 ta1 te2 ta2 te3 ta3 hcs' (h1))
    refine AllReadyH.cons iE2 (fun K hK => ?_) ?_
    · refine step_build0 jE2 pE2 ?_
      rw [dE2]
      exact hK.out _ _ (hS _ _ _ _ (cs_alloc hcs)) (fun _ => G0_110 _ _ t5 g1 ta1 W.heap.size ta2 te3 ta3 (cs_alloc hcs) (Or.inr h1) (Or.inl rfl) (hlt hcs g1 h1))
    refine AllReadyH.cons iE3 (fun K hK => ?_) ?_
    · refine step_build0 jE3 pE3 ?_
      rw [dE3]
      exact hK.out _ _ (hS _ _ _ _ (cs_alloc hcs)) (fun _ => G0_101 _ _ t5 g1 ta1 te2 ta2 W.heap.size ta3 (cs_alloc hcs) (Or.inr h1) (Or.inl rfl) (hlt hcs g1 h1))
    exact AllReadyH.nil
  have G0_010 : ∀ (W : World) (Em : Nat → Prop) (t5 : Value) (te1 : Value) (ta1 : Value) (g2 : Nat) (ta2 : Value) (te3 : Value) (ta3 : Value) (_ : CS w n0 bx rs ps ls W Em [] []) (h2 : Em g2), wpAnyH Tryd.prog .any ops Q S 8 #[true, true, false, true, true, false, true, true, false, true, true, true, false, false, true, true, false, false, false] ⟨(cpTm c t5 te1 ta1 (.slice (some ⟨g2, 0, none⟩) 0 0) ta2 te3 ta3), []⟩ W := by
    intro W Em t5 te1 ta1 g2 ta2 te3 ta3 hcs h2
    refine wpAnyH_ready r0_010 (by simp) ?_
    refine AllReadyH.cons iC (fun K hK => ?_) ?_
    · refine step_callcs hcs jC f fn hfn hname hbody (.tmp 4) ts pC c.c4 rfl hc hd (fun x1 p1 y1 p2 W' _ hcs' => ?_)
      rw [dC]
      exact hK.out _ _ (hS _ _ _ _ hcs') (fun _ => G1_010 W' _ x1 p1 y1 p2 te1 ta1 g2 ta2 te3 ta3 hcs' (h2))
    refine AllReadyH.cons iE1 (fun K hK => ?_) ?_
    · refine step_build0 jE1 pE1 ?_
      rw [dE1]
      exact hK.out _ _ (hS _ _ _ _ (cs_alloc hcs)) (fun _ => G0_110 _ _ t5 W.heap.size ta1 g2 ta2 te3 ta3 (cs_alloc hcs) (Or.inl rfl) (Or.inr h2) ((hlt hcs g2 h2).symm))
    refine AllReadyH.cons iE3 (fun K hK => ?_) ?_
    · refine step_build0 jE3 pE3 ?_
      rw [dE3]
      exact hK.out _ _ (hS _ _ _ _ (cs_alloc hcs)) (fun _ => G0_011 _ _ t5 te1 ta1 g2 ta2 W.heap.size ta3 (cs_alloc hcs) (Or.inr h2) (Or.inl rfl) (hlt hcs g2 h2))
    exact AllReadyH.nil
  have G0_001 : ∀ (W : World) (Em : Nat → Prop) (t5 : Value) (te1 : Value) (ta1 : Value) (te2 : Value) (ta2 : Value) (g3 : Nat) (ta3 : Value) (_ : CS w n0 bx rs ps ls W Em [] []) (h3 : Em g3), wpAnyH Tryd.prog .any ops Q S 8 #[true, true, false, true, true, false, true, true, false, false, true, true, false, true, true, true, false, false, false] ⟨(cpTm c t5 te1 ta1 te2 ta2 (.slice (some ⟨g3, 0, none⟩) 0 0) ta3), []⟩ W := by
    intro W Em t5 te1 ta1 te2 ta2 g3 ta3 hcs h3
    refine wpAnyH_ready r0_001 (by simp) ?_
    refine AllReadyH.cons iC (fun K hK => ?_) ?_
    · refine step_callcs hcs jC f fn hfn hname hbody (.tmp 4) ts pC c.c4 rfl hc hd (fun x1 p1 y1 p2 W' _ hcs' => ?_)
      rw [dC]
      exact hK.out _ _ (hS _ _ _ _ hcs') (fun _ => G1_001 W' _ x1 p1 y1 p2 te1 ta1 te2 ta2 g3 ta3 hcs' (h3))
    refine AllReadyH.cons iE1 (fun K hK => ?_) ?_
    · refine step_build0 jE1 pE1 ?_
      rw [dE1]
      exact hK.out _ _ (hS _ _ _ _ (cs_alloc hcs)) (fun _ => G0_101 _ _ t5 W.heap.size ta1 te2 ta2 g3 ta3 (cs_alloc hcs) (Or.inl rfl) (Or.inr h3) ((hlt hcs g3 h3).symm))
    refine AllReadyH.cons iE2 (fun K hK => ?_) ?_
    · refine step_build0 jE2 pE2 ?_
      rw [dE2]
      exact hK.out _ _ (hS _ _ _ _ (cs_alloc hcs)) (fun _ => G0_011 _ _ t5 te1 ta1 W.heap.size ta2 g3 ta3 (cs_alloc hcs) (Or.inl rfl) (Or.inr h3) ((hlt hcs g3 h3).symm))
    exact AllReadyH.nil
  have G0_000 : ∀ (W : World) (Em : Nat → Prop) (t5 : Value) (te1 : Value) (ta1 : Value) (te2 : Value) (ta2 : Value) (te3 : Value) (ta3 : Value) (_ : CS w n0 bx rs ps ls W Em [] []), wpAnyH Tryd.prog .any ops Q S 9 #[true, true, false, true, true, false, true, true, false, false, true, true, false, false, true, true, false, false, false] ⟨(cpTm c t5 te1 ta1 te2 ta2 te3 ta3), []⟩ W := by
    intro W Em t5 te1 ta1 te2 ta2 te3 ta3 hcs
    refine wpAnyH_ready r0_000 (by simp) ?_
    refine AllReadyH.cons iC (fun K hK => ?_) ?_
    · refine step_callcs hcs jC f fn hfn hname hbody (.tmp 4) ts pC c.c4 rfl hc hd (fun x1 p1 y1 p2 W' _ hcs' => ?_)
      rw [dC]
      exact hK.out _ _ (hS _ _ _ _ hcs') (fun _ => G1_000 W' _ x1 p1 y1 p2 te1 ta1 te2 ta2 te3 ta3 hcs' )
    refine AllReadyH.cons iE1 (fun K hK => ?_) ?_
    · refine step_build0 jE1 pE1 ?_
      rw [dE1]
      exact hK.out _ _ (hS _ _ _ _ (cs_alloc hcs)) (fun _ => G0_100 _ _ t5 W.heap.size ta1 te2 ta2 te3 ta3 (cs_alloc hcs) (Or.inl rfl))
    refine AllReadyH.cons iE2 (fun K hK => ?_) ?_
    · refine step_build0 jE2 pE2 ?_
      rw [dE2]
      exact hK.out _ _ (hS _ _ _ _ (cs_alloc hcs)) (fun _ => G0_010 _ _ t5 te1 ta1 W.heap.size ta2 te3 ta3 (cs_alloc hcs) (Or.inl rfl))
    refine AllReadyH.cons iE3 (fun K hK => ?_) ?_
    · refine step_build0 jE3 pE3 ?_
      rw [dE3]
      exact hK.out _ _ (hS _ _ _ _ (cs_alloc hcs)) (fun _ => G0_001 _ _ t5 te1 ta1 te2 ta2 W.heap.size ta3 (cs_alloc hcs) (Or.inl rfl))
    exact AllReadyH.nil
  exact fun W h => G0_000 W _ undef undef undef undef undef undef undef h
end Go.Proofs.YtejfmjejdopglaaDoor

namespace Go.Proofs.YtejfmjejdopglaaDoor
open Go.RowKit

set_option maxHeartbeats 16000000 in
set_option maxRecDepth 100000 in
theorem specWCopy_any (v : Value) (k : Wk) (hk : k.small) (w : World) (hd : WorkAt w v k) :
    Calls Tryd.prog 54 #[v] w fun e w' => ∃ v', e = .returned v' ∧ WorkNw w' w.heap.size v' k ∧ Below w.heap.size w w' := by
  obtain ⟨s1, s2, s3, s4, s5, s6, s7⟩ := hk
  have HC := hide (fun vp vl wx h => specCopy_any (.agg #[vp, vl]) k.ps k.ls s1 s3 wx h)
  have HS := hide (⟨s1, s3, s5, s6, s7⟩ : k.ps.length ≤ 1048576 ∧ k.ls.length ≤ 1048576 ∧ k.us.length ≤ 2000000 ∧ k.gs.length ≤ 2000000 ∧ k.fs.length ≤ 2000000)
  clear s1 s2 s3 s4 s5 s6 s7
  obtain ⟨vp, vl, vu, vg, vf, rfl, h1, h2, h3, h4, -⟩ := hd
  have HD := hide h1
  have HU := hide h2
  have HG := hide h3
  have HF := hide h4
  clear h1 h2 h3 h4
  obtain ⟨nx, hnx⟩ : ∃ n, n = k.next := ⟨_, rfl⟩
  rw [← hnx]
  have HNx := hide hnx
  clear hnx
  obtain ⟨w0, hw0⟩ : ∃ w0, w0 = (w.alloc (Obj.cells #[vp, vl, .int .i64 nx, vu, vg, vf] 54)).alloc (Obj.cells #[.slice none 0 0, .slice none 0 0, .int .i64 0, .slice none 0 0, .slice none 0 0, .slice none 0 0] 54) := ⟨_, rfl⟩
  have hb0 : Below w.heap.size w w0 := by rw [hw0]; exact ((Below.refl w.heap.size w).alloc (Nat.le_refl _) _).alloc (by simp) _
  obtain ⟨q0, q1, hs0⟩ := two_allocs w (Obj.cells #[vp, vl, .int .i64 nx, vu, vg, vf] 54) (Obj.cells #[.slice none 0 0, .slice none 0 0, .int .i64 0, .slice none 0 0, .slice none 0 0, .slice none 0 0] 54)
  rw [← hw0] at q0 q1 hs0
  obtain ⟨a0, ha0⟩ : ∃ a, a = w.heap.size := ⟨_, rfl⟩
  rw [← ha0] at q0 q1 hs0
  have hcs0 : CS w a0 (Obj.cells #[vp, vl, .int .i64 nx, vu, vg, vf] 54) (Obj.cells #[.slice none 0 0, .slice none 0 0, .int .i64 0, .slice none 0 0, .slice none 0 0, .slice none 0 0] 54) k.ps k.ls w0 (fun y => y < 0) [] [] :=
    ⟨ha0, hb0, q0, q1, fun g hg => absurd hg (by omega), fun r hr => (by cases hr), List.Pairwise.nil, fun v hv => (by cases hv)⟩
  go_enter Tryd.func54, Tryd.ntmps54
  go_wp2_with fail
  rw [← hw0, ← ha0]
  clear ha0 hw0 hs0 hb0 q0 q1
  refine wp_region_held_drew (S := fun wx => wx.cell? ⟨a0, 0, none⟩ = some vp ∧ wx.cell? ⟨a0, 1, none⟩ = some vl ∧ wx.cell? ⟨a0, 2, none⟩ = some (.int .i64 nx) ∧ wx.cell? ⟨a0, 3, none⟩ = some vu ∧ wx.cell? ⟨a0, 4, none⟩ = some vg ∧ wx.cell? ⟨a0, 5, none⟩ = some vf) (by kernel_rfl) (cs_cells (cs_drew hcs0)) (fun hHeld => ?_)
  refine takeW 0 3 ?_ rfl rfl (by kernel_rfl) (by kernel_rfl) (by kernel_rfl) (fun _ _ _ h => h) (Or.inl ⟨by rfl, ?_⟩) hHeld ?_
  rotate_left
  · (intro wx hSw; (try dsimp only at hSw); go_simp; try with_reducible rfl)
  simp only [List.setIfInBounds_toArray, List.set_cons_zero, List.set_cons_succ]
  refine takeW 1 4 ?_ rfl rfl (by kernel_rfl) (by kernel_rfl) (by kernel_rfl) (fun _ _ _ h => h) (Or.inl ⟨by rfl, ?_⟩) hHeld ?_
  rotate_left
  · (intro wx hSw; (try dsimp only at hSw); go_simp; try with_reducible rfl)
  simp only [List.setIfInBounds_toArray, List.set_cons_zero, List.set_cons_succ]
  refine takeW 3 6 ?_ rfl rfl (by kernel_rfl) (by kernel_rfl) (by kernel_rfl) (fun _ _ _ h => h) (Or.inl ⟨by rfl, ?_⟩) hHeld ?_
  rotate_left
  · (intro wx hSw; (try dsimp only at hSw); go_simp; try with_reducible rfl)
  simp only [List.setIfInBounds_toArray, List.set_cons_zero, List.set_cons_succ]
  refine takeW 4 7 ?_ rfl rfl (by kernel_rfl) (by kernel_rfl) (by kernel_rfl) (fun _ _ _ h => h) (Or.inl ⟨by rfl, ?_⟩) hHeld ?_
  rotate_left
  · (intro wx hSw; (try dsimp only at hSw); go_simp; try with_reducible rfl)
  simp only [List.setIfInBounds_toArray, List.set_cons_zero, List.set_cons_succ]
  refine takeW 6 9 ?_ rfl rfl (by kernel_rfl) (by kernel_rfl) (by kernel_rfl) (fun _ _ _ h => h) (Or.inl ⟨by rfl, ?_⟩) hHeld ?_
  rotate_left
  · (intro wx hSw; (try dsimp only at hSw); go_simp; try with_reducible rfl)
  simp only [List.setIfInBounds_toArray, List.set_cons_zero, List.set_cons_succ]
  refine takeW 7 10 ?_ rfl rfl (by kernel_rfl) (by kernel_rfl) (by kernel_rfl) (fun _ _ _ h => h) (Or.inl ⟨by rfl, ?_⟩) hHeld ?_
  rotate_left
  · (intro wx hSw; (try dsimp only at hSw); go_simp; try with_reducible rfl)
  simp only [List.setIfInBounds_toArray, List.set_cons_zero, List.set_cons_succ]
  refine takeW 10 13 ?_ rfl rfl (by kernel_rfl) (by kernel_rfl) (by kernel_rfl) (fun _ _ _ h => h) (Or.inl ⟨by rfl, ?_⟩) hHeld ?_
  rotate_left
  · (intro wx hSw; (try dsimp only at hSw); go_simp; try with_reducible rfl)
  simp only [List.setIfInBounds_toArray, List.set_cons_zero, List.set_cons_succ]
  refine takeW 11 14 ?_ rfl rfl (by kernel_rfl) (by kernel_rfl) (by kernel_rfl) (fun _ _ _ h => h) (Or.inl ⟨by rfl, ?_⟩) hHeld ?_
  rotate_left
  · (intro wx hSw; (try dsimp only at hSw); go_simp; try with_reducible rfl)
  simp only [List.setIfInBounds_toArray, List.set_cons_zero, List.set_cons_succ]
  refine takeW 14 17 ?_ rfl rfl (by kernel_rfl) (by kernel_rfl) (by kernel_rfl) (fun _ _ _ h => h) (Or.inl ⟨by rfl, ?_⟩) hHeld ?_
  rotate_left
  · (intro wx hSw; (try dsimp only at hSw); go_simp; try with_reducible rfl)
  simp only [List.setIfInBounds_toArray, List.set_cons_zero, List.set_cons_succ]
  refine takeW 15 18 ?_ rfl rfl (by kernel_rfl) (by kernel_rfl) (by kernel_rfl) (fun _ _ _ h => h) (Or.inl ⟨by rfl, ?_⟩) hHeld ?_
  rotate_left
  · (intro wx hSw; (try dsimp only at hSw); go_simp; try with_reducible rfl)
  simp only [List.setIfInBounds_toArray, List.set_cons_zero, List.set_cons_succ]
  refine copy_walk (us := k.us) (gs := k.gs) (fs := k.fs) ⟨_, _, _, _, _, _, _, _, _, _, _, _, _, _⟩ HS.out.2.2.1 HS.out.2.2.2.1 HS.out.2.2.2.2 (fun _ _ _ _ h => cs_cells h) 74 Tryd.f74 Tryd.func74 (by decide) (Option.some_ne_none _) #[32] (HC.out vp vl) HD.out HU.out HG.out HF.out rfl rfl rfl rfl rfl rfl rfl rfl rfl rfl rfl rfl rfl rfl rfl rfl rfl rfl rfl rfl rfl rfl rfl rfl rfl rfl rfl rfl (by kernel_rfl) (by kernel_rfl) (by kernel_rfl) (by kernel_rfl) (by kernel_rfl) (by kernel_rfl) (by kernel_rfl) (by kernel_rfl) (by kernel_rfl) (by kernel_rfl) (by kernel_rfl) (by kernel_rfl) (by kernel_rfl) (by kernel_rfl) (by kernel_rfl) (by kernel_rfl) (by kernel_rfl) (by kernel_rfl) (by kernel_rfl) (by kernel_rfl) (by kernel_rfl) (by kernel_rfl) ?_ _ (cs_drew hcs0)
  intro W Em x1 p1 y1 p2 te1 b1 q1 te2 b2 q2 te3 b3 q3 hcs
  have hHeld2 := cs_cells hcs
  refine takeW 17 20 ?_ rfl rfl (by kernel_rfl) (by kernel_rfl) (by kernel_rfl) (fun _ _ _ h => h) (Or.inl ⟨by rfl, ?_⟩) hHeld2 ?_
  rotate_left
  · (intro wx hSw; (try dsimp only at hSw); go_simp; try with_reducible rfl)
  simp only [List.setIfInBounds_toArray, List.set_cons_zero, List.set_cons_succ]
  have hwk := cs_work (k := k) hcs
  rw [← HNx.out] at hwk
  have hret := ret_nw hcs.res hwk (by omega) (by have := hcs.n0e; omega) hcs.low
  obtain ⟨⟨r0, r1, r2, r3, r4, r5⟩, z0, z1, z2, z3, z4, z5⟩ := cs_res hcs
  obtain ⟨f0, f1, f2, f3, f4, f5⟩ := blk6c hret.1
  have HR := hide hret
  have HCs := hide hcs
  clear hret hwk hcs hHeld hcs0
  refine wpAnyH_ready (rs := [18]) (by kernel_rfl) (by simp) ?_
  refine AllReadyH.cons rfl (fun K hK => ?_) AllReadyH.nil
  go_simp
  refine hK.out _ _ (cs_cells6 HCs.out) (fun _ => ?_)
  refine wpAnyH_done (by kernel_rfl) ?_ _
  go_wp2_with fail
  refine bodyPost_ret (v := .agg #[.slice x1 k.ps.length p1, .slice y1 k.ls.length p2, .int .i64 nx, .slice (some ⟨b1, 0, none⟩) k.us.length q1, .slice (some ⟨b2, 0, none⟩) k.gs.length q2, .slice (some ⟨b3, 0, none⟩) k.fs.length q3]) (by simp [results, Tryd.results54, go_sem, f0, f1, f2, f3, f4, f5]) rfl ⟨_, rfl, HR.out.2.1, HR.out.2.2⟩
end Go.Proofs.YtejfmjejdopglaaDoor

namespace Go.Proofs.YtejfmjejdopglaaDoor
open Go.RowKit

/-- the variable g of a work k, its rows u0 .. u5; the box and the answer's variable beside it -/
structure GV (w W : World) (a0 g B : Nat) (bx rs : Obj) (u0 u1 u3 u4 u5 : Value) (k : Wk) : Prop where
  var : W.heap[g]? = some (Obj.cells #[u0, u1, .int .i64 k.next, u3, u4, u5] 54)
  res : W.heap[a0 + 1]? = some rs
  box : W.heap[a0]? = some bx
  low : Below w.heap.size w W
  ha : a0 = w.heap.size
  hB : a0 + 2 ≤ B
  hg : a0 + 2 ≤ g
  hBW : B ≤ W.heap.size
  nw : WorkNw W B (.agg #[u0, u1, .int .i64 k.next, u3, u4, u5]) k

theorem gv_away {w W : World} {a0 g B : Nat} {bx rs : Obj} {u0 u1 u3 u4 u5 : Value} {k : Wk} (h : GV w W a0 g B bx rs u0 u1 u3 u4 u5 k) : ∀ j, workBlocks (.agg #[u0, u1, .int .i64 k.next, u3, u4, u5]) j → j ≠ g ∧ j ≠ a0 ∧ j ≠ a0 + 1 ∧ B ≤ j ∧ j < W.heap.size := fun j hj => by
  have hl := workOwn_lt (nw_own h.nw) j hj
  have hB := h.hB
  refine ⟨fun e => ?_, by omega, by omega, hl.1, hl.2⟩
  subst e
  obtain ⟨vp, vl, n, vu, vg, vf, e, hj⟩ := hj
  obtain ⟨rfl, rfl, rfl, rfl, rfl, rfl⟩ := agg6 e
  obtain ⟨hd, -, h3, h4, h5, -⟩ := nw_rows h.nw
  obtain ⟨vp', vl', e, d1, d2⟩ := hd
  injection e with e
  injection e with e
  injection e with e1 e
  injection e with e2
  subst e1 e2
  rcases hj with ⟨vp2, vl2, e, hj⟩ | hj | hj | hj
  · injection e with e
    injection e with e
    injection e with e1 e
    injection e with e2
    subst e1 e2
    rcases hj with hj | hj
    · exact own_ne_type d1 h.var (by decide) hj
    · exact own_ne_type d2 h.var (by decide) hj
  · exact own_ne_type h3 h.var (by decide) hj
  · exact own_ne_type h4 h.var (by decide) hj
  · exact own_ne_type h5 h.var (by decide) hj

theorem gv_below {w W W' : World} {a0 g B : Nat} {bx rs : Obj} {u0 u1 u3 u4 u5 : Value} {k : Wk} (h : GV w W a0 g B bx rs u0 u1 u3 u4 u5 k) (hb : Below W.heap.size W W') : GV w W' a0 g B bx rs u0 u1 u3 u4 u5 k :=
  ⟨staysW h.var hb, staysW h.res hb, staysW h.box hb, h.low.trans (hb.mono h.low.size), h.ha, h.hB, h.hg, Nat.le_trans h.hBW hb.size, nw_below h.nw hb⟩

/-- the row of the usable ones is another -/
theorem gv_us {w W W' : World} {a0 g B e b c : Nat} {bx rs : Obj} {u0 u1 u3 u4 u5 : Value} {k : Wk} {l : List Int} (h : GV w W a0 g B bx rs u0 u1 u3 u4 u5 k) (he : W.heap.size ≤ e) (hgr : (W.alloc (Obj.cells #[] 3)).grownBy W' (some e)) (hown : W'.ownsRow e 3 1 (.slice (some ⟨b, 0, none⟩) l.length c) l.length (ints l)) :
    W'.heap[g]? = some (Obj.cells #[u0, u1, .int .i64 k.next, u3, u4, u5] 54) ∧ GV w (W'.setCell ⟨g, 3, none⟩ (.slice (some ⟨b, 0, none⟩) l.length c)) a0 g B bx rs u0 u1 (.slice (some ⟨b, 0, none⟩) l.length c) u4 u5 { k with us := l } := by
  have hb1 : Below W.heap.size W (W.alloc (Obj.cells #[] 3)) := (Below.refl _ _).alloc (Nat.le_refl _) _
  have hb2 : Below W.heap.size W W' := ⟨hgr.os.trans hb1.os, hgr.tape.trans hb1.tape, hgr.output.trans hb1.output, Nat.le_trans hb1.size hgr.size, fun j hj => (hgr.block j (Nat.lt_of_lt_of_le hj hb1.size) (by intro e'; injection e' with e'; omega)).trans (hb1.block j hj)⟩
  have h2 := gv_below h hb2
  have aw := gv_away h
  have hk : Kept W' (W'.setCell ⟨g, 3, none⟩ (.slice (some ⟨b, 0, none⟩) l.length c)) (fun j => j = g) := kept_setCell _ _ _ _
  have hgl : g < W.heap.size := (Array.getElem?_eq_some_iff.1 h.var).1
  have hal : a0 + 1 < W.heap.size := (Array.getElem?_eq_some_iff.1 h.res).1
  have hbl : a0 < W.heap.size := (Array.getElem?_eq_some_iff.1 h.box).1
  have hg2 := h.hg
  obtain ⟨hd, -, h3, h4, h5, n1, n2, n3⟩ := nw_rows h2.nw
  have hbe : ∀ j, (Value.slice (some (⟨b, 0, none⟩ : Addr)) l.length c).ownBlock = some j → W.heap.size ≤ j := fun j e' => Nat.le_trans he (hown.lt j e').1
  refine ⟨h2.var, heap_setCell_same W' g 3 _ _ _ h2.var, (hk.2.2.2.2 _ (Nat.lt_of_lt_of_le hal hb2.size) (by omega)).trans h2.res, (hk.2.2.2.2 _ (Nat.lt_of_lt_of_le hbl hb2.size) (by omega)).trans h2.box, h2.low.trans (below_of_kept hk h2.low.size (fun j e' => by have := h.ha; omega)), h.ha, h.hB, h.hg, Nat.le_trans h2.hBW hk.2.2.2.1, ⟨u0, u1, _, u4, u5, rfl, ?_, ?_, ?_, ?_, ?_, ?_, n3⟩⟩
  · exact diskOwn_kept hd hk (fun j e' => (aw j ⟨_, _, _, _, _, _, rfl, Or.inl e'⟩).1)
  · exact own_kept (own_down hown (Nat.le_trans h.hBW he)) hk (fun j e' h' => by have := hbe j e'; omega)
  · exact own_kept h4 hk (fun j e' => (aw j ⟨_, _, _, _, _, _, rfl, Or.inr (Or.inr (Or.inl e'))⟩).1)
  · exact own_kept h5 hk (fun j e' => (aw j ⟨_, _, _, _, _, _, rfl, Or.inr (Or.inr (Or.inr e'))⟩).1)
  · intro j e1 e2
    have := hbe j e1
    have := (aw j ⟨_, _, _, _, _, _, rfl, Or.inr (Or.inr (Or.inl e2))⟩).2.2.2.2
    omega
  · intro j e1 e2
    have := hbe j e1
    have := (aw j ⟨_, _, _, _, _, _, rfl, Or.inr (Or.inr (Or.inr e2))⟩).2.2.2.2
    omega

/-- a page goes behind the fresh ones -/
theorem gv_fs {w W W' : World} {a0 g B b d : Nat} {bx rs : Obj} {u0 u1 u3 u4 u5 : Value} {k : Wk} {p : Int} (h : GV w W a0 g B bx rs u0 u1 u3 u4 u5 k) (hgr : (W.alloc (Obj.cells #[.int .i64 p] 3)).grownBy W' u5.ownBlock) (hown : W'.ownsRow B 3 1 (.slice (some ⟨b, 0, none⟩) (k.fs.length + 1) d) (k.fs.length + 1) (ints k.fs ++ [.int .i64 p])) (hb : u5.ownBlock = some b ∨ b = W.heap.size + 1) :
    W'.heap[g]? = some (Obj.cells #[u0, u1, .int .i64 k.next, u3, u4, u5] 54) ∧ GV w (W'.setCell ⟨g, 5, none⟩ (.slice (some ⟨b, 0, none⟩) (k.fs.length + 1) d)) a0 g B bx rs u0 u1 u3 u4 (.slice (some ⟨b, 0, none⟩) (k.fs.length + 1) d) { k with fs := k.fs ++ [p] } := by
  have hb1 : Below W.heap.size W (W.alloc (Obj.cells #[.int .i64 p] 3)) := (Below.refl _ _).alloc (Nat.le_refl _) _
  have aw := gv_away h
  obtain ⟨hd, -, h3, h4, h5, n1, n2, n3⟩ := nw_rows h.nw
  have hk0 : Kept W W' (fun j => u5.ownBlock = some j) := ⟨hgr.os.trans hb1.os, hgr.tape.trans hb1.tape, hgr.output.trans hb1.output, Nat.le_trans hb1.size hgr.size, fun j hj hn => (hgr.block j (Nat.lt_of_lt_of_le hj hb1.size) (fun e => hn e.symm)).trans (hb1.block j hj)⟩
  have hk1 : Kept W' (W'.setCell ⟨g, 5, none⟩ (.slice (some ⟨b, 0, none⟩) (k.fs.length + 1) d)) (fun j => j = g) := kept_setCell _ _ _ _
  have hk : Kept W (W'.setCell ⟨g, 5, none⟩ (.slice (some ⟨b, 0, none⟩) (k.fs.length + 1) d)) (fun j => j = g ∨ u5.ownBlock = some j) := kept_trans (kept_mono hk0 (fun j _ e => Or.inr e)) hk1 (fun j _ e => Or.inl e)
  have hgl : g < W.heap.size := (Array.getElem?_eq_some_iff.1 h.var).1
  have hal : a0 + 1 < W.heap.size := (Array.getElem?_eq_some_iff.1 h.res).1
  have hbl : a0 < W.heap.size := (Array.getElem?_eq_some_iff.1 h.box).1
  have w5 : ∀ j, u5.ownBlock = some j → j ≠ g ∧ j ≠ a0 ∧ j ≠ a0 + 1 ∧ B ≤ j ∧ j < W.heap.size := fun j e => aw j ⟨_, _, _, _, _, _, rfl, Or.inr (Or.inr (Or.inr e))⟩
  have hv : W'.heap[g]? = some (Obj.cells #[u0, u1, .int .i64 k.next, u3, u4, u5] 54) := (hk0.2.2.2.2 g hgl (fun e => (w5 g e).1 rfl)).trans h.var
  have hg2 := h.hg
  have hB := h.hB
  refine ⟨hv, heap_setCell_same W' g 5 _ _ _ hv, (hk.2.2.2.2 _ hal (fun e => by rcases e with e | e; omega; exact (w5 _ e).2.2.1 rfl)).trans h.res, (hk.2.2.2.2 _ hbl (fun e => by rcases e with e | e; omega; exact (w5 _ e).2.1 rfl)).trans h.box, h.low.trans (below_of_kept hk h.low.size (fun j e => by have := h.ha; rcases e with e | e; omega; have := (w5 j e).2.2.2.1; omega)), h.ha, h.hB, h.hg, Nat.le_trans h.hBW hk.2.2.2.1, ⟨u0, u1, u3, u4, _, rfl, ?_, ?_, ?_, ?_, n1, ?_, ?_⟩⟩
  · exact diskOwn_kept hd hk (fun j e h' => by rcases h' with h' | h'; exact (aw j ⟨_, _, _, _, _, _, rfl, Or.inl e⟩).1 h'; exact disk_int_apart hd (intOwn_of_own h5) j e h')
  · exact own_kept h3 hk (fun j e h' => by rcases h' with h' | h'; exact (aw j ⟨_, _, _, _, _, _, rfl, Or.inr (Or.inl e)⟩).1 h'; exact n2 j e h')
  · exact own_kept h4 hk (fun j e h' => by rcases h' with h' | h'; exact (aw j ⟨_, _, _, _, _, _, rfl, Or.inr (Or.inr (Or.inl e))⟩).1 h'; exact n3 j e h')
  · have e1 : (k.fs ++ [p]).length = k.fs.length + 1 := by simp
    have e2 : ints (k.fs ++ [p]) = ints k.fs ++ [.int .i64 p] := by simp [ints]
    show World.ownsRow _ B _ 1 _ (k.fs ++ [p]).length (ints (k.fs ++ [p]))
    rw [e1, e2]
    refine own_kept hown hk1 (fun j e h' => ?_)
    injection e with e
    have e : b = j := e
    rcases hb with hb | hb
    · exact (w5 b hb).1 (by omega)
    · omega
  · intro j e1 e2
    injection e2 with e2
    have e2 : b = j := e2
    rcases hb with hb | hb
    · exact n2 j e1 (by rw [← e2]; exact hb)
    · have := (aw j ⟨_, _, _, _, _, _, rfl, Or.inr (Or.inl e1)⟩).2.2.2.2; omega
  · intro j e1 e2
    injection e2 with e2
    have e2 : b = j := e2
    rcases hb with hb | hb
    · exact n3 j e1 (by rw [← e2]; exact hb)
    · have := (aw j ⟨_, _, _, _, _, _, rfl, Or.inr (Or.inr (Or.inl e1))⟩).2.2.2.2; omega

theorem nfrow {W : World} {B nf c5 : Nat} {a5 : Option Addr} {l : List Int} (hn : nf = l.length) (h : W.ownsRow B 3 1 (.slice a5 nf c5) l.length (ints l)) : W.ownsRow B 3 1 (.slice a5 nf c5) nf (ints l) := by
  subst hn; exact h

theorem gv_fs_kept {w W W' : World} {a0 g B : Nat} {bx rs : Obj} {u0 u1 u3 u4 u5 : Value} {k : Wk} {o : Obj} (h : GV w W a0 g B bx rs u0 u1 u3 u4 u5 k) (hgr : (W.alloc o).grownBy W' u5.ownBlock) : Kept W W' (fun j => u5.ownBlock = some j) ∧ ∀ j, u5.ownBlock = some j → j ≠ a0 ∧ B ≤ j := by
  have hb1 : Below W.heap.size W (W.alloc o) := (Below.refl _ _).alloc (Nat.le_refl _) _
  refine ⟨⟨hgr.os.trans hb1.os, hgr.tape.trans hb1.tape, hgr.output.trans hb1.output, Nat.le_trans hb1.size hgr.size, fun j hj hn => (hgr.block j (Nat.lt_of_lt_of_le hj hb1.size) (fun e => hn e.symm)).trans (hb1.block j hj)⟩, fun j e => ?_⟩
  have := gv_away h j ⟨_, _, _, _, _, _, rfl, Or.inr (Or.inr (Or.inr e))⟩
  exact ⟨this.2.1, this.2.2.2.1⟩

theorem gv_fs_box {w W W' : World} {a0 g B : Nat} {bx rs : Obj} {u0 u1 u3 u4 u5 : Value} {k : Wk} {o : Obj} (h : GV w W a0 g B bx rs u0 u1 u3 u4 u5 k) (hgr : (W.alloc o).grownBy W' u5.ownBlock) : W'.heap[a0]? = some bx := by
  obtain ⟨hk, hn⟩ := gv_fs_kept h hgr
  exact (hk.2.2.2.2 a0 (Array.getElem?_eq_some_iff.1 h.box).1 (fun e => (hn a0 e).1 rfl)).trans h.box

theorem gv_fs_low {w W W' : World} {a0 g B : Nat} {bx rs : Obj} {u0 u1 u3 u4 u5 : Value} {k : Wk} {o : Obj} (h : GV w W a0 g B bx rs u0 u1 u3 u4 u5 k) (hgr : (W.alloc o).grownBy W' u5.ownBlock) : Below w.heap.size w W' := by
  obtain ⟨hk, hn⟩ := gv_fs_kept h hgr
  exact h.low.trans (below_of_kept hk h.low.size (fun j e => by have := (hn j e).2; have := h.hB; have := h.ha; omega))

theorem keep6 {W : World} {g a : Nat} {o : Obj} {u0 u1 u2 u3 u4 u5 : Value} (h : W.heap[g]? = some o) (hne : g ≠ a) : (set6 W a u0 u1 u2 u3 u4 u5).heap[g]? = some o :=
  ((set6_kept W a u0 u1 u2 u3 u4 u5).2.2.2.2 g (Array.getElem?_eq_some_iff.1 h).1 hne).trans h

theorem s8 {W : World} {g a0 : Nat} {c0 c1 c2 c3 c4 c5 d0 d1 d2 d3 d4 d5 : Value} {t t' : TypeId} (h : W.heap[g]? = some (Obj.cells #[c0, c1, c2, c3, c4, c5] t)) (hb : W.heap[a0]? = some (Obj.cells #[d0, d1, d2, d3, d4, d5] t')) :
    W.cell? ⟨g, 0, none⟩ = some c0 ∧ W.cell? ⟨g, 1, none⟩ = some c1 ∧ W.cell? ⟨g, 2, none⟩ = some c2 ∧ W.cell? ⟨g, 3, none⟩ = some c3 ∧ W.cell? ⟨g, 4, none⟩ = some c4 ∧ W.cell? ⟨g, 5, none⟩ = some c5 ∧ W.cell? ⟨a0, 2, none⟩ = some d2 ∧ W.cell? ⟨a0, 3, none⟩ = some d3 :=
  ⟨(cell_at h 0).1, (cell_at h 1).1, (cell_at h 2).1, (cell_at h 3).1, (cell_at h 4).1, (cell_at h 5).1, (cell_at hb 2).1, (cell_at hb 3).1⟩

theorem s3 {W : World} {a0 b off : Nat} {d0 d1 d2 d3 d4 d5 x : Value} {t' : TypeId} (hb : W.heap[a0]? = some (Obj.cells #[d0, d1, d2, d3, d4, d5] t')) (hr : W.cell? ⟨b, off, none⟩ = some x) : W.cell? ⟨a0, 3, none⟩ = some d3 ∧ W.cell? ⟨b, off, none⟩ = some x := ⟨(cell_at hb 3).1, hr⟩

theorem wpList_copy {P : Program} (w : World) {ops : Array Oper} {rest : List Oper} {o : Oper} {a : Act} {Q : Exit → Act → World → Prop} (hgd : o.guard = none) (s x : Operand) (t : TypeId) (ho : o.op = .call { callee := .builtin .append, args := #[s, x], argTypes := #[t, t] })
    (e : TypeId) (i : TypeInfo) (z : Value) (ht : P.underlying t = some (.slice e)) (hi : P.info? e = some i) (hz : i.zero = some z) (hsize : i.size = 1) (hby : i.bytes = 8) (hzs : z.cells.size = 1)
    (g : Nat) (hs : a.eval s = .slice (some ⟨g, 0, none⟩) 0 0) (hge : w.heap[g]? = some (.cells #[] e (0, 0))) (u : Value) (m : Nat) (ys : List Value) (hx : a.eval x = u) (hrow : RowAt w 1 u m ys) (h1 : ∀ y ∈ ys, y.oneCell' = true) (hm : m ≤ 2000000)
    (h : ∀ b c w', w'.ownsRow g e 1 (.slice (some ⟨b, 0, none⟩) m c) m ys → w.grownBy w' (some g) → (b = g ∨ b = w.heap.size) → wpList P ops Q rest (a.put o.dst (.slice (some ⟨b, 0, none⟩) m c)) w') : wpList P ops Q (o :: rest) a w :=
  wpList_plain hgd fun _ hK => by
    obtain ⟨b, c, w', hr, q2, q3, q4⟩ := run_copy (P := P) w t o.type e i z ht hi hz hsize hby hzs g hge u m ys hrow h1 hm
    unfold Oper.wp execOp
    simp only [ho, resolve, invoke, builtin, Sem.run_bind, Sem.run_pure, Result.andThen_ok, List.map_toArray, List.map_cons, List.map_nil, hs, hx, hr]
    exact hK _ _ (h b c w' q2 q3 q4)

/-- the row without its first one, as a slice from 1 on tells it -/
theorem row_tail {w : World} {b off n c c' : Nat} {x : Int} {l : List Int} {y : Option Addr} (hn : n = l.length + 1) (h : RowAt w 1 (.slice (some ⟨b, off, none⟩) n c) n (ints (x :: l))) (hy : y = some ⟨b, off + 1, none⟩ ∨ l.length = 0) : RowAt w 1 (.slice y (n - 1) c') (n - 1) (ints l) := by
  obtain ⟨-, a, cap, e, h2⟩ := h
  injection e with e1 e2 e3
  subst e1
  refine ⟨by rw [ints_length]; omega, _, _, rfl, ?_⟩
  rcases hy with rfl | hy
  · rcases h2 with h0 | ⟨b', off', e, hlt, hc⟩
    · omega
    · injection e with e
      injection e with e1 e2
      subst e1 e2
      refine Or.inr ⟨b, off + 1, rfl, hlt, fun j hj => ?_⟩
      have := hc (j + 1) (by omega)
      rw [Nat.add_assoc, Nat.add_comm 1 j, this]
      simp [ints]
  · exact Or.inl (by omega)
end Go.Proofs.YtejfmjejdopglaaDoor

namespace Go.Proofs.YtejfmjejdopglaaDoor
open Go.RowKit

set_option maxHeartbeats 8000000 in
set_option maxRecDepth 100000 in
theorem specGivePage_any (v : Value) (k : Wk) (hk : k.small) (w : World) (hd : WorkAt w v k) :
    Calls Tryd.prog 55 #[v] w fun e w' => ∃ v', e = .returned (.tuple #[v', .int .i64 (giveP k)]) ∧ WorkOwn w' w.heap.size v' (giveK k) ∧ Below w.heap.size w w' := by
  obtain ⟨i0, hi, hz0, hz1, hz2⟩ := info_parts Tryd.infoIntC
  have hfl := hk.2.2.2.2.2.2
  have hpl := hk.1
  have HC := hide (fun u wx h => specWCopy_any u k hk wx h)
  have HSu := hide hk.2.2.2.2.1
  have HD := hide hd
  obtain ⟨vp, vl, vu, vg, vf, rfl, h1, h2, h3, h4, ua, uc, rfl, hucap⟩ := hd
  obtain ⟨xp, cxp, rfl⟩ : ∃ a cap, vp = .slice a k.ps.length cap := by obtain ⟨vp', vl', e, h, -⟩ := h1; obtain ⟨-, a, cap, e2, -⟩ := h; injection e with e; injection e with e; injection e with e1 e; subst e1; exact ⟨a, cap, e2⟩
  have HRw := hide h2
  obtain ⟨nx, hnx⟩ : ∃ n, n = k.next := ⟨_, rfl⟩
  rw [← hnx] at HD ⊢
  have HNx := hide hnx
  obtain ⟨np, hnp⟩ : ∃ n, n = k.ps.length := ⟨_, rfl⟩
  obtain ⟨nu, hnu⟩ : ∃ n, n = k.us.length := ⟨_, rfl⟩
  rw [← hnu] at hucap HRw
  rw [← hnp, ← hnu] at HD ⊢
  have HLn0 := hide (⟨hnp, hnu⟩ : _ ∧ _)
  clear hk hnx h1 h2 h3 h4 hnp hnu
  obtain ⟨w0, hw0⟩ : ∃ w0, w0 = (w.alloc (Obj.cells #[.slice xp np cxp, vl, .int .i64 nx, .slice ua nu uc, vg, vf] 54)).alloc (Obj.cells #[.slice none 0 0, .slice none 0 0, .int .i64 0, .slice none 0 0, .slice none 0 0, .slice none 0 0] 54) := ⟨_, rfl⟩
  have hb0 : Below w.heap.size w w0 := by rw [hw0]; exact ((Below.refl w.heap.size w).alloc (Nat.le_refl _) _).alloc (by simp) _
  obtain ⟨q0, q1, hs0⟩ := two_allocs w (Obj.cells #[.slice xp np cxp, vl, .int .i64 nx, .slice ua nu uc, vg, vf] 54) (Obj.cells #[.slice none 0 0, .slice none 0 0, .int .i64 0, .slice none 0 0, .slice none 0 0, .slice none 0 0] 54)
  rw [← hw0] at q0 q1 hs0
  obtain ⟨a0, ha0⟩ : ∃ a, a = w.heap.size := ⟨_, rfl⟩
  rw [← ha0] at q0 q1 hs0
  have HA : Hid (a0 = w.heap.size ∧ w0.heap.size = a0 + 2) := hide ⟨ha0, hs0⟩
  have HB0 := hide hb0
  have HQ := hide (⟨q0, q1⟩ : _ ∧ _)
  go_enter Tryd.func55, Tryd.ntmps55
  go_wp2_with fail
  rw [← hw0, ← ha0]
  clear hb0 q0 q1 hs0 hw0 ha0
  refine (HC.out _ _ (work_below HD.out HB0.out)).mono ?_
  rintro e w1 ⟨u, rfl, hnw, hb1⟩
  obtain ⟨a1, c1, a2, c2, a3, c3, a4, c4, a5, c5, rfl⟩ := nw_form hnw
  rw [← HNx.out] at hnw ⊢
  obtain ⟨hnp, hnu⟩ := HLn0.out
  obtain ⟨nl, hnl⟩ : ∃ n, n = k.ls.length := ⟨_, rfl⟩
  obtain ⟨ng, hng⟩ : ∃ n, n = k.gs.length := ⟨_, rfl⟩
  obtain ⟨nf, hnf⟩ : ∃ n, n = k.fs.length := ⟨_, rfl⟩
  rw [← hnp, ← hnl, ← hnu, ← hng, ← hnf] at hnw ⊢
  rw [← hnp] at hpl
  rw [← hnf] at hfl
  have HLn := hide (⟨hnp, hnl, hnu, hng, hnf⟩ : _ ∧ _ ∧ _ ∧ _ ∧ _)
  obtain ⟨g, hg⟩ : ∃ g, g = w1.heap.size := ⟨_, rfl⟩
  obtain ⟨w2, hw2⟩ : ∃ wx, wx = w1.alloc (Obj.cells #[.slice a1 np c1, .slice a2 nl c2, .int .i64 nx, .slice a3 nu c3, .slice a4 ng c4, .slice a5 nf c5] 54) := ⟨_, rfl⟩
  have hb2 : Below w1.heap.size w1 w2 := by rw [hw2]; exact (Below.refl _ _).alloc (Nat.le_refl _) _
  have hv2 : w2.heap[g]? = some (Obj.cells #[.slice a1 np c1, .slice a2 nl c2, .int .i64 nx, .slice a3 nu c3, .slice a4 ng c4, .slice a5 nf c5] 54) := by rw [hw2, hg]; exact heap_alloc_new w1 _
  have HB2 : Hid (Below w.heap.size w w2) := hide ((HB0.out.trans (hb1.mono HB0.out.size)).trans (hb2.mono (HB0.out.trans (hb1.mono HB0.out.size)).size))
  have hbx : w2.heap[a0]? = _ := staysW (staysW HQ.out.1 hb1) hb2
  have hrs : w2.heap[a0 + 1]? = _ := staysW (staysW HQ.out.2 hb1) hb2
  have HNw := hide (nw_below hnw hb2)
  have HGt : Hid (w0.heap.size ≤ g ∧ g < w2.heap.size ∧ ∀ j, workBlocks (.agg #[.slice a1 np c1, .slice a2 nl c2, .int .i64 nx, .slice a3 nu c3, .slice a4 ng c4, .slice a5 nf c5]) j → w0.heap.size ≤ j ∧ j < g) := hide ⟨by rw [hg]; exact hb1.size, (Array.getElem?_eq_some_iff.1 hv2).1, fun j hj => by rw [hg]; exact workOwn_lt (nw_own hnw) j hj⟩
  have HV2 := hide hv2
  have HRs := hide hrs
  have HBx := hide hbx
  obtain ⟨v0, v1, v2, v3, v4, v5⟩ := blk6c hv2
  obtain ⟨bx0, bx1, bx2, bx3, bx4, bx5⟩ := blk6c hbx
  obtain ⟨r0, r1, r2, r3, r4, r5⟩ := blk6c hrs
  have zr0 := (cell_at hrs 0).2
  have zr1 := (cell_at hrs 1).2
  have zr2 := (cell_at hrs 2).2
  have zr3 := (cell_at hrs 3).2
  have zr4 := (cell_at hrs 4).2
  have zr5 := (cell_at hrs 5).2
  have hng1 : a0 + 1 ≠ g := by have := HA.out; have := HGt.out.1; omega
  have hng0 : a0 ≠ g := by have := HA.out; have := HGt.out.1; omega
  have hgt : ∀ j, g < j → j ≠ g := fun j h => by omega
  have HN1 := hide hnw
  have HB1 : Hid (Below w.heap.size w w1) := hide (HB0.out.trans (hb1.mono HB0.out.size))
  have HR1 := hide (staysW HQ.out.2 hb1)
  have HF1 : Hid (w1.ownsRow w0.heap.size 3 1 (.slice a5 nf c5) nf (ints k.fs)) := hide (by have := (nw_rows hnw).2.2.2.2.1; rw [← hnf] at this; exact this)
  have HBx1 := hide (staysW HQ.out.1 hb1)
  have HGv : Hid (GV w w2 a0 g w0.heap.size (Obj.cells #[.slice xp np cxp, vl, .int .i64 nx, .slice ua nu uc, vg, vf] 54) (Obj.cells #[.slice none 0 0, .slice none 0 0, .int .i64 0, .slice none 0 0, .slice none 0 0, .slice none 0 0] 54) (.slice a1 np c1) (.slice a2 nl c2) (.slice a3 nu c3) (.slice a4 ng c4) (.slice a5 nf c5) k) := hide ⟨by rw [← HNx.out]; exact hv2, hrs, hbx, HB2.out, HA.out.1, by have := HA.out; omega, by have := HA.out; have := HGt.out.1; omega, by have := HGt.out; omega, by rw [← HNx.out]; exact nw_below hnw hb2⟩
  rw [hw2] at r0 r1 r2 r3 r4 r5 zr0 zr1 zr2 zr3 zr4 zr5
  clear bx0 bx1 bx2 bx3 bx4 bx5
  have bx0 : ∀ o, (w1.alloc o).cell? ⟨a0, 0, none⟩ = some (.slice xp np cxp) := fun o => (cell_at (staysW HBx1.out ((Below.refl _ _).alloc (Nat.le_refl _) o)) 0).1
  have bx1 : ∀ o, (w1.alloc o).cell? ⟨a0, 1, none⟩ = some vl := fun o => (cell_at (staysW HBx1.out ((Below.refl _ _).alloc (Nat.le_refl _) o)) 1).1
  have bx2 : ∀ o, (w1.alloc o).cell? ⟨a0, 2, none⟩ = some (.int .i64 nx) := fun o => (cell_at (staysW HBx1.out ((Below.refl _ _).alloc (Nat.le_refl _) o)) 2).1
  have bx3 : ∀ o, (w1.alloc o).cell? ⟨a0, 3, none⟩ = some (.slice ua nu uc) := fun o => (cell_at (staysW HBx1.out ((Below.refl _ _).alloc (Nat.le_refl _) o)) 3).1
  clear v0 v1 v2 v3 v4 v5
  clear hbx hrs hnp hnl hnu hng hnf hnw hb1 hb2
  by_cases hu : k.us = []
  · have hnu0 : nu = 0 := by rw [HLn.out.2.2.1, hu]; rfl
    subst hnu0
    by_cases hn : nx < (np : Int)
    · have hgv := give_next (k := k) hu (by rw [← HNx.out, ← HLn.out.1]; exact hn)
      rw [← HNx.out] at hgv
      have HGn := hide hgv
      have hn' : ¬ ((np : Int) ≤ nx) := by omega
      have dn : decide ((np : Int) ≤ nx) = false := decide_eq_false hn'
      clear hgv
      clear r0 r1 r2 r3 r4 r5 zr0 zr1 zr2 zr3 zr4 zr5 hv2
      have HU0 : Hid (IntOwn w1 w0.heap.size (.slice a3 0 c3) k.us) := hide (intOwn_of_own (nw_rows HN1.out).2.2.1)
      rw [HNx.out] at HN1
      have HUs := hide hu
      clear hu
      go_wp2_with (at_builtin; (refine wpList_append_lies _ rfl _ _ 41 rfl w0.heap.size 3 i0 (.int .i64 0) 1 8 Tryd.underlying41 hi hz0 hz1 hz2 rfl (by decide) _ nf (ints k.fs) rfl ((HF1.out.alloc _).alloc _) ⟨w1.heap.size + 1, 0, none⟩ 1 1 [.int .i64 (nx)] rfl rfl ?c0 ?c1 (by decide) ?c3 ?c4 ?c5 _ rfl ?_))
      case c0 => exact one_newC _ _ (by simp) _ _
      case c1 => intro u hu; simp at hu; subst hu; rfl
      case c3 => unfold maxLen; omega
      case c4 => omega
      case c5 => have := HGt.out.1; simp; omega
      intro b5 d5 w5 hown5 hg5 hb5 hl5
      obtain ⟨e5, e6, e7, e8, e9, e10⟩ := give_app (us' := k.us) (n' := wrap64 (nx + 1)) HLn.out.2.2.2.2 HN1.out (HU0.out) (fun j e => e) hg HR1.out (by have := HA.out; omega) HA.out.1 HGt.out.1 HB1.out hown5 hg5 (by rcases hb5 with hb5 | hb5; exact Or.inl hb5; right; (try simp at hb5); omega)
      have s5 : w5.cell? ⟨w1.heap.size, 5, none⟩ = some (.slice a5 nf c5) := by rw [← hg]; exact (cell_at e5 5).1
      have z5 : w5.frozen? ⟨w1.heap.size, 5, none⟩ = false := by rw [← hg]; exact (cell_at e5 5).2
      obtain ⟨w6, hw6⟩ : ∃ w6, w6 = w5.setCell ⟨g, 5, none⟩ (.slice (some ⟨b5, 0, none⟩) (nf + 1) d5) := ⟨_, rfl⟩
      rw [← hw6] at e6 e7 e8 e9 e10
      obtain ⟨v0, v1, v2, v3, v4, v5⟩ := blk6c e6
      obtain ⟨r0, r1, r2, r3, r4, r5⟩ := blk6c e7
      have zr0 := (cell_at e7 0).2
      have zr1 := (cell_at e7 1).2
      have zr2 := (cell_at e7 2).2
      have zr3 := (cell_at e7 3).2
      have zr4 := (cell_at e7 4).2
      have zr5 := (cell_at e7 5).2
      have hret := ret_work (w := w) e7 e8 (by have := HA.out; omega) (by have := HA.out; omega) e9
      have HRet := hide hret
      rw [hw6, hg] at v0 v1 v2 v3 v4 v5 r0 r1 r2 r3 r4 r5 zr0 zr1 zr2 zr3 zr4 zr5
      have HW6 := hide hw6
      have HG := hide hg
      have HE6 := hide (⟨e6, e7, e8, e9, e10⟩ : _ ∧ _ ∧ _ ∧ _ ∧ _)
      clear hown5 hg5 hb5 hl5 e5 e6 e7 e8 e9 e10 hret hw6 hg hw2 hng1 hng0 hgt
      go_wp2_with fail
      rw [← HG.out, ← HW6.out]
      have hbx6 := HE6.out.2.2.2.2 a0 _ HBx1.out (by have := HA.out; omega)
      obtain ⟨wd, hwd⟩ : ∃ wd, wd = w6.drew := ⟨_, rfl⟩
      have hbd : Below w6.heap.size w6 wd := by rw [hwd]; exact (Below.refl _ _).drew
      have hvd := staysW HE6.out.1 hbd
      have hrd := staysW HE6.out.2.1 hbd
      have hxd := staysW hbx6 hbd
      have HS0 := hide (s8 hvd hxd)
      have HS1 := hide (fun u0 u1 u2 u3 u4 u5 => s8 (W := set6 wd (a0 + 1) u0 u1 u2 u3 u4 u5) (keep6 hvd (by have := HA.out; have := HGt.out.1; have := HG.out; omega)) (keep6 hxd (by omega)))
      have HRt := hide (ret_work (w := w) hrd (workOwn_below HE6.out.2.2.1 hbd) (by have := HA.out; omega) (by have := HA.out; omega) (HE6.out.2.2.2.1.trans (hbd.mono HE6.out.2.2.2.1.size)))
      have HRd := hide hrd
      refine wp_region_held_drew (S := fun wx => wx.cell? ⟨g, 0, none⟩ = some (.slice a1 np c1) ∧ wx.cell? ⟨g, 1, none⟩ = some (.slice a2 nl c2) ∧ wx.cell? ⟨g, 2, none⟩ = some (.int .i64 (wrap64 (nx + 1))) ∧ wx.cell? ⟨g, 3, none⟩ = some (.slice a3 0 c3) ∧ wx.cell? ⟨g, 4, none⟩ = some (.slice a4 ng c4) ∧ wx.cell? ⟨g, 5, none⟩ = some (.slice (some ⟨b5, 0, none⟩) (nf + 1) d5) ∧ wx.cell? ⟨a0, 2, none⟩ = some (.int .i64 nx) ∧ wx.cell? ⟨a0, 3, none⟩ = some (.slice ua 0 uc)) (by kernel_rfl) (by rw [← hwd]; exact HS0.out) (fun hHeld => ?_)
      rw [← hwd]
      clear hwd hbd hvd hrd hxd hbx6 v0 v1 v2 v3 v4 v5 hHeld r0 r1 r2 r3 r4 r5 zr0 zr1 zr2 zr3 zr4 zr5 bx0 bx1 bx2 bx3
      refine takeW 0 50 ?_ rfl rfl (by kernel_rfl) (by kernel_rfl) (by kernel_rfl) (fun _ _ _ h => h) (Or.inl ⟨by rfl, ?_⟩) HS0.out ?_
      rotate_left
      · (intro wx hSw; (try dsimp only at hSw); go_simp; try with_reducible rfl)
      simp only [List.setIfInBounds_toArray, List.set_cons_zero, List.set_cons_succ]
      refine takeW 1 51 ?_ rfl rfl (by kernel_rfl) (by kernel_rfl) (by kernel_rfl) (fun _ _ _ h => h) (Or.inl ⟨by rfl, ?_⟩) HS0.out ?_
      rotate_left
      · (intro wx hSw; (try dsimp only at hSw); go_simp; try with_reducible rfl)
      simp only [List.setIfInBounds_toArray, List.set_cons_zero, List.set_cons_succ]
      refine takeW 2 52 ?_ rfl rfl (by kernel_rfl) (by kernel_rfl) (by kernel_rfl) (fun _ _ _ h => h) (Or.inl ⟨by rfl, ?_⟩) HS0.out ?_
      rotate_left
      · (intro wx hSw; (try dsimp only at hSw); go_simp; try with_reducible rfl)
      simp only [List.setIfInBounds_toArray, List.set_cons_zero, List.set_cons_succ]
      obtain ⟨r0, r1, r2, r3, r4, r5⟩ := blk6c HRd.out
      have zr0 := (cell_at HRd.out 0).2
      have zr1 := (cell_at HRd.out 1).2
      have zr2 := (cell_at HRd.out 2).2
      have zr3 := (cell_at HRd.out 3).2
      have zr4 := (cell_at HRd.out 4).2
      have zr5 := (cell_at HRd.out 5).2
      refine wpAnyH_ready (rs := [3]) (by kernel_rfl) (by simp) ?_
      refine AllReadyH.cons rfl (fun K hK => ?_) AllReadyH.nil
      go_simp
      refine hK.out _ _ (HS1.out _ _ _ _ _ _) (fun _ => ?_)
      clear hK K
      refine takeW 4 3 ?_ rfl rfl (by kernel_rfl) (by kernel_rfl) (by kernel_rfl) (fun _ _ _ h => h) (Or.inl ⟨by rfl, ?_⟩) (HS1.out _ _ _ _ _ _) ?_
      rotate_left
      · (intro wx hSw; (try dsimp only at hSw); go_simp; try with_reducible rfl)
      simp only [List.setIfInBounds_toArray, List.set_cons_zero, List.set_cons_succ]
      refine wpAnyH_done (by kernel_rfl) ?_ _
      go_wp2_with fail
      obtain ⟨f0, f1, f2, f3, f4, f5⟩ := blk6c HRt.out.1
      refine bodyPost_ret (v := .tuple #[.agg #[.slice a1 np c1, .slice a2 nl c2, .int .i64 (wrap64 (nx + 1)), .slice a3 0 c3, .slice a4 ng c4, .slice (some ⟨b5, 0, none⟩) (nf + 1) d5], .int .i64 (nx)]) (by simp [results, Tryd.results55, go_sem, f0, f1, f2, f3, f4, f5]) rfl ⟨_, by rw [HGn.out.2], by rw [HGn.out.1]; exact HRt.out.2.1, HRt.out.2.2⟩
    · have HGn := hide (give_none (k := k) hu (by rw [← HNx.out, ← HLn.out.1]; exact hn))
      have hn' : (np : Int) ≤ nx := by omega
      have hret := ret_work (w := w) HRs.out (nw_own HNw.out) (by have := HA.out; omega) (by have := HA.out; omega) HB2.out
      have HRet := hide hret
      have HUs := hide hu
      have HW2 := hide hw2
      have HGg := hide hg
      clear hu hret hv2 hw2 hg hgt hng1 hng0
      go_wp2_with fail
      rw [← HW2.out]
      obtain ⟨f0, f1, f2, f3, f4, f5⟩ := blk6c HRet.out.1
      refine bodyPost_ret (v := .tuple #[.agg #[.slice a1 np c1, .slice a2 nl c2, .int .i64 nx, .slice a3 0 c3, .slice a4 ng c4, .slice a5 nf c5], .int .i64 0]) (by simp [results, Tryd.results55, go_sem, f0, f1, f2, f3, f4, f5]) rfl ⟨_, by rw [HGn.out.2], by rw [HGn.out.1]; exact HRet.out.2.1, HRet.out.2.2⟩
  · obtain ⟨x, t, hxt⟩ := List.exists_cons_of_ne_nil hu
    have HGn : Hid (giveK k = { k with us := t, fs := k.fs ++ [x] } ∧ giveP k = x) := hide (give_cons (k := k) hxt)
    have hnt : nu = t.length + 1 := by rw [HLn.out.2.2.1, hxt]; rfl
    obtain ⟨bu, off, hua, hbl, hcx⟩ : ∃ bu off, ua = some ⟨bu, off, none⟩ ∧ bu < w.heap.size ∧ w.cell? ⟨bu, off, none⟩ = some (.int .i64 x) := by
      obtain ⟨-, a, cap, e, h⟩ := HRw.out
      injection e with e1
      subst e1
      rcases h with h0 | ⟨bu, off, rfl, hlt, hc⟩
      · omega
      · refine ⟨bu, off, rfl, hlt, ?_⟩
        have := hc 0 (by omega)
        rw [Nat.add_zero] at this
        rw [this, hxt]
        rfl
    subst hua
    have HCx := hide (⟨hbl, hcx⟩ : _ ∧ _)
    have hcx2 : ∀ o, (w1.alloc o).cell? ⟨bu, off, none⟩ = some (.int .i64 x) := fun o => ((HB1.out.alloc HB1.out.size o).cell (by exact hbl)).trans hcx
    have hRt : ∀ y c', (y = some ⟨bu, off + 1, none⟩ ∨ t.length = 0) → RowAt w 1 (.slice y (nu - 1) c') (nu - 1) (ints t) := fun y c' hy => row_tail (x := x) hnt (by have := HRw.out; rw [hxt] at this; exact this) hy
    have hul : nu ≤ 2000000 := by rw [HLn.out.2.2.1]; exact HSu.out
    have HTl : Hid (t.length = nu - 1) := hide (by omega)
    have HXt := hide hxt
    have hn0 : (0 : Int) < (nu : Int) := by omega
    have hn1 : (1 : Int) ≤ (nu : Int) := by omega
    have hnc2 : (nu : Int) ≤ (uc : Int) := by omega
    have bx4 : ∀ o o', ((w1.alloc o).alloc o').cell? ⟨a0, 3, none⟩ = some (.slice (some ⟨bu, off, none⟩) nu uc) := fun o o' => (cell_at (staysW HBx1.out (((Below.refl _ _).alloc (Nat.le_refl _) o).alloc (by simp) o')) 3).1
    clear hu hbl hcx hxt hv2 r0 r1 r2 r3 r4 r5 zr0 zr1 zr2 zr3 zr4 zr5
    by_cases hc1 : uc = 1
    · subst hc1
      obtain rfl : nu = 1 := by omega
      obtain rfl : t = [] := List.eq_nil_of_length_eq_zero (by omega)
      have HRt : Hid (RowAt w 1 (.slice (some ⟨bu, off, none⟩) 0 0) 0 (ints [])) := hide (hRt _ 0 (Or.inr rfl))
      clear hRt hnt hn0 hn1 hnc2 hucap
      go_wp2_with (at_builtin; (refine wpList_copy _ rfl _ _ 41 rfl 3 i0 (.int .i64 0) Tryd.underlying41 hi hz0 hz1 hz2 rfl (w1.heap.size + 1) rfl ?c0 _ (0) (ints []) rfl ?c1 (ints_one _) ?c2 ?_))
      case c0 => have := heap_alloc_new (w1.alloc (Obj.cells #[.slice a1 np c1, .slice a2 nl c2, .int .i64 nx, .slice a3 1 c3, .slice a4 ng c4, .slice a5 nf c5] 54)) (Obj.cells #[] 3); rw [World.size_alloc] at this; exact this
      case c1 => exact row_below HRt.out (by rw [← hw2]; exact HB2.out.alloc HB2.out.size _)
      case c2 => omega
      intro b3 q3 wA hownA hgA hbA
      rw [← hw2] at hgA
      have hgv3 := gv_us (l := []) HGv.out (e := w1.heap.size + 1) (by rw [hw2, World.size_alloc]; omega) hgA hownA
      rw [List.length_nil] at hgv3
      have s3c : wA.cell? ⟨w1.heap.size, 3, none⟩ = some (.slice a3 1 c3) := by rw [← hg]; exact (cell_at hgv3.1 3).1
      have s3z : wA.frozen? ⟨w1.heap.size, 3, none⟩ = false := by rw [← hg]; exact (cell_at hgv3.1 3).2
      obtain ⟨w3, hw3⟩ : ∃ w3, w3 = wA.setCell ⟨g, 3, none⟩ (.slice (some ⟨b3, 0, none⟩) (0) q3) := ⟨_, rfl⟩
      have HG3 := hide hgv3.2
      rw [← hw3] at HG3
      have HGe := hide hg
      have HW3 := hide hw3
      clear hownA hgA hbA hgv3 hg hw2 hw3 bx0 bx1 bx2 bx3 bx4 hcx2 hgt hng1 hng0
      go_wp2_with fail
      rw [← HGe.out, ← HW3.out]
      clear s3c s3z
      obtain ⟨wd, hwd⟩ : ∃ wd, wd = w3.drew := ⟨_, rfl⟩
      have HGd := hide (gv_below HG3.out (show Below w3.heap.size w3 wd by rw [hwd]; exact (Below.refl _ _).drew))
      have HRow : Hid (∀ wx, Below w.heap.size w wx → wx.cell? ⟨bu, off, none⟩ = some (.int .i64 x)) := hide (fun wx hb => (hb.cell (by exact HCx.out.1)).trans HCx.out.2)
      have HSw : Hid (∀ wx, wx.heap[a0]? = some (Obj.cells #[.slice xp np cxp, vl, .int .i64 nx, .slice (some ⟨bu, off, none⟩) 1 1, vg, vf] 54) → Below w.heap.size w wx → (fun wx => wx.cell? ⟨a0, 3, none⟩ = some (.slice (some ⟨bu, off, none⟩) 1 1) ∧ wx.cell? ⟨bu, off, none⟩ = some (.int .i64 x)) wx) := hide (fun wx hb hl => s3 hb (HRow.out wx hl))
      have hHeld := HSw.out wd HGd.out.box HGd.out.low
      refine wp_region_held_drew (S := fun wx => wx.cell? ⟨a0, 3, none⟩ = some (.slice (some ⟨bu, off, none⟩) 1 1) ∧ wx.cell? ⟨bu, off, none⟩ = some (.int .i64 x)) (by kernel_rfl) (by rw [← hwd]; exact hHeld) (fun _ => ?_)
      rw [← hwd]
      clear hwd
      refine takeW 0 17 ?_ rfl rfl (by kernel_rfl) (by kernel_rfl) (by kernel_rfl) (fun _ _ _ h => h) (Or.inl ⟨by rfl, ?_⟩) hHeld ?_
      rotate_left
      · (intro wx hSw; (try dsimp only at hSw); go_simp; try with_reducible rfl)
      simp only [List.setIfInBounds_toArray, List.set_cons_zero, List.set_cons_succ]
      refine takeW 2 19 ?_ rfl rfl (by kernel_rfl) (by kernel_rfl) (by kernel_rfl) (fun _ _ _ h => h) (Or.inl ⟨by rfl, ?_⟩) hHeld ?_
      rotate_left
      · (intro wx hSw; (try dsimp only at hSw); go_simp; try with_reducible rfl)
      simp only [List.setIfInBounds_toArray, List.set_cons_zero, List.set_cons_succ]
      refine takeW 3 20 ?_ rfl rfl (by kernel_rfl) (by kernel_rfl) (by kernel_rfl) (fun _ _ _ h => h) (Or.inl ⟨by rfl, ?_⟩) hHeld ?_
      rotate_left
      · (intro wx hSw; (try dsimp only at hSw); go_simp; try with_reducible rfl)
      simp only [List.setIfInBounds_toArray, List.set_cons_zero, List.set_cons_succ]
      refine takeW 4 21 ?_ rfl rfl (by kernel_rfl) (by kernel_rfl) (by kernel_rfl) (fun _ _ _ h => h) (Or.inl ⟨by rfl, ?_⟩) hHeld ?_
      rotate_left
      · (intro wx hSw; (try dsimp only at hSw); go_simp; try with_reducible rfl)
      simp only [List.setIfInBounds_toArray, List.set_cons_zero, List.set_cons_succ]
      refine takeW 5 22 ?_ rfl rfl (by kernel_rfl) (by kernel_rfl) (by kernel_rfl) (fun _ _ _ h => h) (Or.inl ⟨by rfl, ?_⟩) hHeld ?_
      rotate_left
      · (intro wx hSw; (try dsimp only at hSw); go_simp; try with_reducible rfl)
      simp only [List.setIfInBounds_toArray, List.set_cons_zero, List.set_cons_succ]
      refine wpAnyH_ready (rs := [1, 6]) (by kernel_rfl) (by simp) ?_
      have HSa : Hid (∀ o, (fun wx => wx.cell? ⟨a0, 3, none⟩ = some (.slice (some ⟨bu, off, none⟩) 1 1) ∧ wx.cell? ⟨bu, off, none⟩ = some (.int .i64 x)) (wd.alloc o)) := hide (fun o => HSw.out _ (staysW HGd.out.box ((Below.refl _ _).alloc (Nat.le_refl _) o)) (HGd.out.low.alloc HGd.out.low.size o))
      have m0 : wd.cell? ⟨g, 5, none⟩ = some (.slice a5 nf c5) := (cell_at HGd.out.var 5).1
      have m0a : ∀ o, (wd.alloc o).cell? ⟨g, 5, none⟩ = some (.slice a5 nf c5) := fun o => (cell_at (staysW HGd.out.var ((Below.refl _ _).alloc (Nat.le_refl _) o)) 5).1
      refine ready2 rfl rfl ?_
      apply branch2
      · intro hG K hK
        go_simp
        refine hK.out _ _ hHeld (fun _ => ?_)
        clear hK K
        refine wpAnyH_ready (rs := [6]) (by kernel_rfl) (by simp) ?_
        refine AllReadyH.cons rfl (fun K hK => ?_) AllReadyH.nil
        go_simp
        refine hK.out _ _ (HSa.out _) (fun _ => ?_)
        clear hK K
        exact hG
      · intro hG K hK
        go_simp
        refine hK.out _ _ (HSa.out _) (fun _ => ?_)
        clear hK K
        refine wpAnyH_ready (rs := [1]) (by kernel_rfl) (by simp) ?_
        refine AllReadyH.cons rfl (fun K hK => ?_) AllReadyH.nil
        go_simp
        refine hK.out _ _ (HSa.out _) (fun _ => ?_)
        clear hK K
        exact hG
      clear m0 m0a
      refine wpAnyH_ready (rs := [7]) (by kernel_rfl) (by simp) ?_
      refine AllReadyH.cons rfl (fun K hK => ?_) AllReadyH.nil
      refine step_append_lies _ ?_ (.tmp 18) (.tmp 23) 41 ?_ w0.heap.size 3 i0 (.int .i64 0) 1 8 Tryd.underlying41 hi hz0 hz1 hz2 ?_ ?_ (.slice a5 nf c5) nf (ints k.fs) ?_ ((nfrow HLn.out.2.2.2.2 (nw_rows HGd.out.nw).2.2.2.2.1).alloc _) ⟨wd.heap.size, 0, none⟩ 1 1 [.int .i64 x] ?_ ?_ (one_newC wd _ rfl _ _) ?_ ?_ ?_ ?_ ?_ _ rfl ?_
      · exact rfl
      · exact rfl
      · exact rfl
      · decide
      · exact rfl
      · exact rfl
      · exact rfl
      · intro u hu; simp at hu; subst hu; rfl
      · decide
      · unfold maxLen; omega
      · omega
      · have := HGd.out.hBW; simp; omega
      intro b5 d5 w5 hown5 hg5 hb5 hl5
      have hgv5 := gv_fs (p := x) (b := b5) (d := d5) HGd.out hg5 (by have h := hown5; rw [HLn.out.2.2.2.2] at h; exact h) (by rcases hb5 with hb5 | hb5; exact Or.inl hb5; right; (try simp at hb5); omega)
      simp only [← HLn.out.2.2.2.2] at hgv5
      have HV5 := hide hgv5
      have hS5 := HSw.out w5 (gv_fs_box HGd.out hg5) (gv_fs_low HGd.out hg5)
      refine hK.out (Act.put _ (some 24) _) _ hS5 (fun _ => ?_)
      clear hK K hown5 hg5 hb5 hl5 hgv5
      simp only [Act.put, List.setIfInBounds_toArray, List.set_cons_zero, List.set_cons_succ]
      refine takeW 8 25 ?_ rfl rfl (by kernel_rfl) (by kernel_rfl) (by kernel_rfl) (fun _ _ _ h => h) (Or.inl ⟨by rfl, ?_⟩) hS5 ?_
      rotate_left
      · (intro wx hSw; (try dsimp only at hSw); go_simp; try with_reducible rfl)
      simp only [List.setIfInBounds_toArray, List.set_cons_zero, List.set_cons_succ]
      obtain ⟨t0, t1, t2, t3, t4, t5⟩ := blk6c HV5.out.1
      have z5 := (cell_at HV5.out.1 5).2
      refine wpAnyH_ready (rs := [9]) (by kernel_rfl) (by simp) ?_
      refine AllReadyH.cons rfl (fun K hK => ?_) AllReadyH.nil
      go_simp
      refine hK.out _ _ (HSw.out _ HV5.out.2.box HV5.out.2.low) (fun _ => ?_)
      clear hK K t0 t1 t2 t3 t4 t5 z5 hS5 hHeld
      refine wpAnyH_done (by kernel_rfl) ?_ _
      obtain ⟨w6, hw6⟩ : ∃ w6, w6 = w5.setCell ⟨g, 5, none⟩ (.slice (some ⟨b5, 0, none⟩) (nf + 1) d5) := ⟨_, rfl⟩
      have HV6 := hide HV5.out.2
      rw [← hw6] at HV6 ⊢
      clear hw6 HV5 HSa
      go_wp2_with fail
      obtain ⟨we, hwe⟩ : ∃ we, we = w6.drew := ⟨_, rfl⟩
      have HGe6 := hide (gv_below HV6.out (show Below w6.heap.size w6 we by rw [hwe]; exact (Below.refl _ _).drew))
      have HT0 := hide (⟨s8 HGe6.out.var HGe6.out.box, HRow.out we HGe6.out.low⟩ : _ ∧ _)
      have HT1 := hide (fun u0 u1 u2 u3 u4 u5 => (⟨s8 (W := set6 we (a0 + 1) u0 u1 u2 u3 u4 u5) (keep6 HGe6.out.var (by have := HGe6.out.hg; omega)) (keep6 HGe6.out.box (by omega)), HRow.out _ (HGe6.out.low.trans (below_of_kept (set6_kept we (a0 + 1) u0 u1 u2 u3 u4 u5) HGe6.out.low.size (fun j e => by have := HGe6.out.ha; omega)))⟩ : _ ∧ _))
      rw [← HNx.out] at HT0 HT1
      have HRt6 := hide (ret_work (w := w) HGe6.out.res (nw_own HGe6.out.nw) (by have := HGe6.out.hB; omega) (by have := HGe6.out.ha; omega) HGe6.out.low)
      refine wp_region_held_drew (S := fun wx => (wx.cell? ⟨g, 0, none⟩ = some (.slice a1 np c1) ∧ wx.cell? ⟨g, 1, none⟩ = some (.slice a2 nl c2) ∧ wx.cell? ⟨g, 2, none⟩ = some (.int .i64 nx) ∧ wx.cell? ⟨g, 3, none⟩ = some (.slice (some ⟨b3, 0, none⟩) (0) q3) ∧ wx.cell? ⟨g, 4, none⟩ = some (.slice a4 ng c4) ∧ wx.cell? ⟨g, 5, none⟩ = some (.slice (some ⟨b5, 0, none⟩) (nf + 1) d5) ∧ wx.cell? ⟨a0, 2, none⟩ = some (.int .i64 nx) ∧ wx.cell? ⟨a0, 3, none⟩ = some (.slice (some ⟨bu, off, none⟩) 1 1)) ∧ wx.cell? ⟨bu, off, none⟩ = some (.int .i64 x)) (by kernel_rfl) (by rw [← hwe]; exact HT0.out) (fun _ => ?_)
      rw [← hwe]
      clear hwe
      refine takeW 0 26 ?_ rfl rfl (by kernel_rfl) (by kernel_rfl) (by kernel_rfl) (fun _ _ _ h => h) (Or.inl ⟨by rfl, ?_⟩) HT0.out ?_
      rotate_left
      · (intro wx hSw; (try dsimp only at hSw); go_simp; try with_reducible rfl)
      simp only [List.setIfInBounds_toArray, List.set_cons_zero, List.set_cons_succ]
      refine takeW 1 27 ?_ rfl rfl (by kernel_rfl) (by kernel_rfl) (by kernel_rfl) (fun _ _ _ h => h) (Or.inl ⟨by rfl, ?_⟩) HT0.out ?_
      rotate_left
      · (intro wx hSw; (try dsimp only at hSw); go_simp; try with_reducible rfl)
      simp only [List.setIfInBounds_toArray, List.set_cons_zero, List.set_cons_succ]
      refine takeW 2 28 ?_ rfl rfl (by kernel_rfl) (by kernel_rfl) (by kernel_rfl) (fun _ _ _ h => h) (Or.inl ⟨by rfl, ?_⟩) HT0.out ?_
      rotate_left
      · (intro wx hSw; (try dsimp only at hSw); go_simp; try with_reducible rfl)
      simp only [List.setIfInBounds_toArray, List.set_cons_zero, List.set_cons_succ]
      refine takeW 3 29 ?_ rfl rfl (by kernel_rfl) (by kernel_rfl) (by kernel_rfl) (fun _ _ _ h => h) (Or.inl ⟨by rfl, ?_⟩) HT0.out ?_
      rotate_left
      · (intro wx hSw; (try dsimp only at hSw); go_simp; try with_reducible rfl)
      simp only [List.setIfInBounds_toArray, List.set_cons_zero, List.set_cons_succ]
      refine takeW 4 30 ?_ rfl rfl (by kernel_rfl) (by kernel_rfl) (by kernel_rfl) (fun _ _ _ h => h) (Or.inl ⟨by rfl, ?_⟩) HT0.out ?_
      rotate_left
      · (intro wx hSw; (try dsimp only at hSw); go_simp; try with_reducible rfl)
      simp only [List.setIfInBounds_toArray, List.set_cons_zero, List.set_cons_succ]
      obtain ⟨r0, r1, r2, r3, r4, r5⟩ := blk6c HGe6.out.res
      have zr0 := (cell_at HGe6.out.res 0).2
      have zr1 := (cell_at HGe6.out.res 1).2
      have zr2 := (cell_at HGe6.out.res 2).2
      have zr3 := (cell_at HGe6.out.res 3).2
      have zr4 := (cell_at HGe6.out.res 4).2
      have zr5 := (cell_at HGe6.out.res 5).2
      refine wpAnyH_ready (rs := [5]) (by kernel_rfl) (by simp) ?_
      refine AllReadyH.cons rfl (fun K hK => ?_) AllReadyH.nil
      go_simp
      refine hK.out _ _ (HT1.out _ _ _ _ _ _) (fun _ => ?_)
      clear hK K
      refine takeW 6 3 ?_ rfl rfl (by kernel_rfl) (by kernel_rfl) (by kernel_rfl) (fun _ _ _ h => h) (Or.inl ⟨by rfl, ?_⟩) (HT1.out _ _ _ _ _ _) ?_
      rotate_left
      · (intro wx hSw; (try dsimp only at hSw); go_simp; try with_reducible rfl)
      simp only [List.setIfInBounds_toArray, List.set_cons_zero, List.set_cons_succ]
      refine wpAnyH_done (by kernel_rfl) ?_ _
      go_wp2_with fail
      obtain ⟨f0, f1, f2, f3, f4, f5⟩ := blk6c HRt6.out.1
      rw [← HNx.out] at f0 f1 f2 f3 f4 f5
      refine bodyPost_ret (v := .tuple #[.agg #[.slice a1 np c1, .slice a2 nl c2, .int .i64 nx, .slice (some ⟨b3, 0, none⟩) (0) q3, .slice a4 ng c4, .slice (some ⟨b5, 0, none⟩) (nf + 1) d5], .int .i64 x]) (by simp [results, Tryd.results55, go_sem, f0, f1, f2, f3, f4, f5]) rfl ⟨_, by rw [HGn.out.2], by rw [HGn.out.1, HNx.out]; exact HRt6.out.2.1, by rw [HNx.out]; exact HRt6.out.2.2⟩
    · have HRt : Hid (RowAt w 1 (.slice (some ⟨bu, off + 1, none⟩) (nu - 1) (uc - 1)) (nu - 1) (ints t)) := hide (hRt _ _ (Or.inl rfl))
      clear hRt hnt
      go_wp2_with (at_builtin; (refine wpList_copy _ rfl _ _ 41 rfl 3 i0 (.int .i64 0) Tryd.underlying41 hi hz0 hz1 hz2 rfl (w1.heap.size + 1) rfl ?c0 _ (nu - 1) (ints t) rfl ?c1 (ints_one _) ?c2 ?_))
      case c0 => have := heap_alloc_new (w1.alloc (Obj.cells #[.slice a1 np c1, .slice a2 nl c2, .int .i64 nx, .slice a3 nu c3, .slice a4 ng c4, .slice a5 nf c5] 54)) (Obj.cells #[] 3); rw [World.size_alloc] at this; exact this
      case c1 => exact row_below HRt.out (by rw [← hw2]; exact HB2.out.alloc HB2.out.size _)
      case c2 => omega
      intro b3 q3 wA hownA hgA hbA
      rw [← hw2] at hgA
      have hgv3 := gv_us (l := t) HGv.out (e := w1.heap.size + 1) (by rw [hw2, World.size_alloc]; omega) hgA (by rw [HTl.out]; exact hownA)
      rw [HTl.out] at hgv3
      have s3c : wA.cell? ⟨w1.heap.size, 3, none⟩ = some (.slice a3 nu c3) := by rw [← hg]; exact (cell_at hgv3.1 3).1
      have s3z : wA.frozen? ⟨w1.heap.size, 3, none⟩ = false := by rw [← hg]; exact (cell_at hgv3.1 3).2
      obtain ⟨w3, hw3⟩ : ∃ w3, w3 = wA.setCell ⟨g, 3, none⟩ (.slice (some ⟨b3, 0, none⟩) (nu - 1) q3) := ⟨_, rfl⟩
      have HG3 := hide hgv3.2
      rw [← hw3] at HG3
      have HGe := hide hg
      have HW3 := hide hw3
      clear hownA hgA hbA hgv3 hg hw2 hw3 bx0 bx1 bx2 bx3 bx4 hcx2 hgt hng1 hng0
      go_wp2_with fail
      rw [← HGe.out, ← HW3.out]
      clear s3c s3z
      obtain ⟨wd, hwd⟩ : ∃ wd, wd = w3.drew := ⟨_, rfl⟩
      have HGd := hide (gv_below HG3.out (show Below w3.heap.size w3 wd by rw [hwd]; exact (Below.refl _ _).drew))
      have HRow : Hid (∀ wx, Below w.heap.size w wx → wx.cell? ⟨bu, off, none⟩ = some (.int .i64 x)) := hide (fun wx hb => (hb.cell (by exact HCx.out.1)).trans HCx.out.2)
      have HSw : Hid (∀ wx, wx.heap[a0]? = some (Obj.cells #[.slice xp np cxp, vl, .int .i64 nx, .slice (some ⟨bu, off, none⟩) nu uc, vg, vf] 54) → Below w.heap.size w wx → (fun wx => wx.cell? ⟨a0, 3, none⟩ = some (.slice (some ⟨bu, off, none⟩) nu uc) ∧ wx.cell? ⟨bu, off, none⟩ = some (.int .i64 x)) wx) := hide (fun wx hb hl => s3 hb (HRow.out wx hl))
      have hHeld := HSw.out wd HGd.out.box HGd.out.low
      refine wp_region_held_drew (S := fun wx => wx.cell? ⟨a0, 3, none⟩ = some (.slice (some ⟨bu, off, none⟩) nu uc) ∧ wx.cell? ⟨bu, off, none⟩ = some (.int .i64 x)) (by kernel_rfl) (by rw [← hwd]; exact hHeld) (fun _ => ?_)
      rw [← hwd]
      clear hwd
      refine takeW 0 17 ?_ rfl rfl (by kernel_rfl) (by kernel_rfl) (by kernel_rfl) (fun _ _ _ h => h) (Or.inl ⟨by rfl, ?_⟩) hHeld ?_
      rotate_left
      · (intro wx hSw; (try dsimp only at hSw); go_simp; try with_reducible rfl)
      simp only [List.setIfInBounds_toArray, List.set_cons_zero, List.set_cons_succ]
      refine takeW 2 19 ?_ rfl rfl (by kernel_rfl) (by kernel_rfl) (by kernel_rfl) (fun _ _ _ h => h) (Or.inl ⟨by rfl, ?_⟩) hHeld ?_
      rotate_left
      · (intro wx hSw; (try dsimp only at hSw); go_simp; try with_reducible rfl)
      simp only [List.setIfInBounds_toArray, List.set_cons_zero, List.set_cons_succ]
      refine takeW 3 20 ?_ rfl rfl (by kernel_rfl) (by kernel_rfl) (by kernel_rfl) (fun _ _ _ h => h) (Or.inl ⟨by rfl, ?_⟩) hHeld ?_
      rotate_left
      · (intro wx hSw; (try dsimp only at hSw); go_simp; try with_reducible rfl)
      simp only [List.setIfInBounds_toArray, List.set_cons_zero, List.set_cons_succ]
      refine takeW 4 21 ?_ rfl rfl (by kernel_rfl) (by kernel_rfl) (by kernel_rfl) (fun _ _ _ h => h) (Or.inl ⟨by rfl, ?_⟩) hHeld ?_
      rotate_left
      · (intro wx hSw; (try dsimp only at hSw); go_simp; try with_reducible rfl)
      simp only [List.setIfInBounds_toArray, List.set_cons_zero, List.set_cons_succ]
      refine takeW 5 22 ?_ rfl rfl (by kernel_rfl) (by kernel_rfl) (by kernel_rfl) (fun _ _ _ h => h) (Or.inl ⟨by rfl, ?_⟩) hHeld ?_
      rotate_left
      · (intro wx hSw; (try dsimp only at hSw); go_simp; try with_reducible rfl)
      simp only [List.setIfInBounds_toArray, List.set_cons_zero, List.set_cons_succ]
      refine wpAnyH_ready (rs := [1, 6]) (by kernel_rfl) (by simp) ?_
      have HSa : Hid (∀ o, (fun wx => wx.cell? ⟨a0, 3, none⟩ = some (.slice (some ⟨bu, off, none⟩) nu uc) ∧ wx.cell? ⟨bu, off, none⟩ = some (.int .i64 x)) (wd.alloc o)) := hide (fun o => HSw.out _ (staysW HGd.out.box ((Below.refl _ _).alloc (Nat.le_refl _) o)) (HGd.out.low.alloc HGd.out.low.size o))
      have m0 : wd.cell? ⟨g, 5, none⟩ = some (.slice a5 nf c5) := (cell_at HGd.out.var 5).1
      have m0a : ∀ o, (wd.alloc o).cell? ⟨g, 5, none⟩ = some (.slice a5 nf c5) := fun o => (cell_at (staysW HGd.out.var ((Below.refl _ _).alloc (Nat.le_refl _) o)) 5).1
      refine ready2 rfl rfl ?_
      apply branch2
      · intro hG K hK
        go_simp
        refine hK.out _ _ hHeld (fun _ => ?_)
        clear hK K
        refine wpAnyH_ready (rs := [6]) (by kernel_rfl) (by simp) ?_
        refine AllReadyH.cons rfl (fun K hK => ?_) AllReadyH.nil
        go_simp
        refine hK.out _ _ (HSa.out _) (fun _ => ?_)
        clear hK K
        exact hG
      · intro hG K hK
        go_simp
        refine hK.out _ _ (HSa.out _) (fun _ => ?_)
        clear hK K
        refine wpAnyH_ready (rs := [1]) (by kernel_rfl) (by simp) ?_
        refine AllReadyH.cons rfl (fun K hK => ?_) AllReadyH.nil
        go_simp
        refine hK.out _ _ (HSa.out _) (fun _ => ?_)
        clear hK K
        exact hG
      clear m0 m0a
      refine wpAnyH_ready (rs := [7]) (by kernel_rfl) (by simp) ?_
      refine AllReadyH.cons rfl (fun K hK => ?_) AllReadyH.nil
      refine step_append_lies _ ?_ (.tmp 18) (.tmp 23) 41 ?_ w0.heap.size 3 i0 (.int .i64 0) 1 8 Tryd.underlying41 hi hz0 hz1 hz2 ?_ ?_ (.slice a5 nf c5) nf (ints k.fs) ?_ ((nfrow HLn.out.2.2.2.2 (nw_rows HGd.out.nw).2.2.2.2.1).alloc _) ⟨wd.heap.size, 0, none⟩ 1 1 [.int .i64 x] ?_ ?_ (one_newC wd _ rfl _ _) ?_ ?_ ?_ ?_ ?_ _ rfl ?_
      · exact rfl
      · exact rfl
      · exact rfl
      · decide
      · exact rfl
      · exact rfl
      · exact rfl
      · intro u hu; simp at hu; subst hu; rfl
      · decide
      · unfold maxLen; omega
      · omega
      · have := HGd.out.hBW; simp; omega
      intro b5 d5 w5 hown5 hg5 hb5 hl5
      have hgv5 := gv_fs (p := x) (b := b5) (d := d5) HGd.out hg5 (by have h := hown5; rw [HLn.out.2.2.2.2] at h; exact h) (by rcases hb5 with hb5 | hb5; exact Or.inl hb5; right; (try simp at hb5); omega)
      simp only [← HLn.out.2.2.2.2] at hgv5
      have HV5 := hide hgv5
      have hS5 := HSw.out w5 (gv_fs_box HGd.out hg5) (gv_fs_low HGd.out hg5)
      refine hK.out (Act.put _ (some 24) _) _ hS5 (fun _ => ?_)
      clear hK K hown5 hg5 hb5 hl5 hgv5
      simp only [Act.put, List.setIfInBounds_toArray, List.set_cons_zero, List.set_cons_succ]
      refine takeW 8 25 ?_ rfl rfl (by kernel_rfl) (by kernel_rfl) (by kernel_rfl) (fun _ _ _ h => h) (Or.inl ⟨by rfl, ?_⟩) hS5 ?_
      rotate_left
      · (intro wx hSw; (try dsimp only at hSw); go_simp; try with_reducible rfl)
      simp only [List.setIfInBounds_toArray, List.set_cons_zero, List.set_cons_succ]
      obtain ⟨t0, t1, t2, t3, t4, t5⟩ := blk6c HV5.out.1
      have z5 := (cell_at HV5.out.1 5).2
      refine wpAnyH_ready (rs := [9]) (by kernel_rfl) (by simp) ?_
      refine AllReadyH.cons rfl (fun K hK => ?_) AllReadyH.nil
      go_simp
      refine hK.out _ _ (HSw.out _ HV5.out.2.box HV5.out.2.low) (fun _ => ?_)
      clear hK K t0 t1 t2 t3 t4 t5 z5 hS5 hHeld
      refine wpAnyH_done (by kernel_rfl) ?_ _
      obtain ⟨w6, hw6⟩ : ∃ w6, w6 = w5.setCell ⟨g, 5, none⟩ (.slice (some ⟨b5, 0, none⟩) (nf + 1) d5) := ⟨_, rfl⟩
      have HV6 := hide HV5.out.2
      rw [← hw6] at HV6 ⊢
      clear hw6 HV5 HSa
      go_wp2_with fail
      obtain ⟨we, hwe⟩ : ∃ we, we = w6.drew := ⟨_, rfl⟩
      have HGe6 := hide (gv_below HV6.out (show Below w6.heap.size w6 we by rw [hwe]; exact (Below.refl _ _).drew))
      have HT0 := hide (⟨s8 HGe6.out.var HGe6.out.box, HRow.out we HGe6.out.low⟩ : _ ∧ _)
      have HT1 := hide (fun u0 u1 u2 u3 u4 u5 => (⟨s8 (W := set6 we (a0 + 1) u0 u1 u2 u3 u4 u5) (keep6 HGe6.out.var (by have := HGe6.out.hg; omega)) (keep6 HGe6.out.box (by omega)), HRow.out _ (HGe6.out.low.trans (below_of_kept (set6_kept we (a0 + 1) u0 u1 u2 u3 u4 u5) HGe6.out.low.size (fun j e => by have := HGe6.out.ha; omega)))⟩ : _ ∧ _))
      rw [← HNx.out] at HT0 HT1
      have HRt6 := hide (ret_work (w := w) HGe6.out.res (nw_own HGe6.out.nw) (by have := HGe6.out.hB; omega) (by have := HGe6.out.ha; omega) HGe6.out.low)
      refine wp_region_held_drew (S := fun wx => (wx.cell? ⟨g, 0, none⟩ = some (.slice a1 np c1) ∧ wx.cell? ⟨g, 1, none⟩ = some (.slice a2 nl c2) ∧ wx.cell? ⟨g, 2, none⟩ = some (.int .i64 nx) ∧ wx.cell? ⟨g, 3, none⟩ = some (.slice (some ⟨b3, 0, none⟩) (nu - 1) q3) ∧ wx.cell? ⟨g, 4, none⟩ = some (.slice a4 ng c4) ∧ wx.cell? ⟨g, 5, none⟩ = some (.slice (some ⟨b5, 0, none⟩) (nf + 1) d5) ∧ wx.cell? ⟨a0, 2, none⟩ = some (.int .i64 nx) ∧ wx.cell? ⟨a0, 3, none⟩ = some (.slice (some ⟨bu, off, none⟩) nu uc)) ∧ wx.cell? ⟨bu, off, none⟩ = some (.int .i64 x)) (by kernel_rfl) (by rw [← hwe]; exact HT0.out) (fun _ => ?_)
      rw [← hwe]
      clear hwe
      refine takeW 0 26 ?_ rfl rfl (by kernel_rfl) (by kernel_rfl) (by kernel_rfl) (fun _ _ _ h => h) (Or.inl ⟨by rfl, ?_⟩) HT0.out ?_
      rotate_left
      · (intro wx hSw; (try dsimp only at hSw); go_simp; try with_reducible rfl)
      simp only [List.setIfInBounds_toArray, List.set_cons_zero, List.set_cons_succ]
      refine takeW 1 27 ?_ rfl rfl (by kernel_rfl) (by kernel_rfl) (by kernel_rfl) (fun _ _ _ h => h) (Or.inl ⟨by rfl, ?_⟩) HT0.out ?_
      rotate_left
      · (intro wx hSw; (try dsimp only at hSw); go_simp; try with_reducible rfl)
      simp only [List.setIfInBounds_toArray, List.set_cons_zero, List.set_cons_succ]
      refine takeW 2 28 ?_ rfl rfl (by kernel_rfl) (by kernel_rfl) (by kernel_rfl) (fun _ _ _ h => h) (Or.inl ⟨by rfl, ?_⟩) HT0.out ?_
      rotate_left
      · (intro wx hSw; (try dsimp only at hSw); go_simp; try with_reducible rfl)
      simp only [List.setIfInBounds_toArray, List.set_cons_zero, List.set_cons_succ]
      refine takeW 3 29 ?_ rfl rfl (by kernel_rfl) (by kernel_rfl) (by kernel_rfl) (fun _ _ _ h => h) (Or.inl ⟨by rfl, ?_⟩) HT0.out ?_
      rotate_left
      · (intro wx hSw; (try dsimp only at hSw); go_simp; try with_reducible rfl)
      simp only [List.setIfInBounds_toArray, List.set_cons_zero, List.set_cons_succ]
      refine takeW 4 30 ?_ rfl rfl (by kernel_rfl) (by kernel_rfl) (by kernel_rfl) (fun _ _ _ h => h) (Or.inl ⟨by rfl, ?_⟩) HT0.out ?_
      rotate_left
      · (intro wx hSw; (try dsimp only at hSw); go_simp; try with_reducible rfl)
      simp only [List.setIfInBounds_toArray, List.set_cons_zero, List.set_cons_succ]
      obtain ⟨r0, r1, r2, r3, r4, r5⟩ := blk6c HGe6.out.res
      have zr0 := (cell_at HGe6.out.res 0).2
      have zr1 := (cell_at HGe6.out.res 1).2
      have zr2 := (cell_at HGe6.out.res 2).2
      have zr3 := (cell_at HGe6.out.res 3).2
      have zr4 := (cell_at HGe6.out.res 4).2
      have zr5 := (cell_at HGe6.out.res 5).2
      refine wpAnyH_ready (rs := [5]) (by kernel_rfl) (by simp) ?_
      refine AllReadyH.cons rfl (fun K hK => ?_) AllReadyH.nil
      go_simp
      refine hK.out _ _ (HT1.out _ _ _ _ _ _) (fun _ => ?_)
      clear hK K
      refine takeW 6 3 ?_ rfl rfl (by kernel_rfl) (by kernel_rfl) (by kernel_rfl) (fun _ _ _ h => h) (Or.inl ⟨by rfl, ?_⟩) (HT1.out _ _ _ _ _ _) ?_
      rotate_left
      · (intro wx hSw; (try dsimp only at hSw); go_simp; try with_reducible rfl)
      simp only [List.setIfInBounds_toArray, List.set_cons_zero, List.set_cons_succ]
      refine wpAnyH_done (by kernel_rfl) ?_ _
      go_wp2_with fail
      obtain ⟨f0, f1, f2, f3, f4, f5⟩ := blk6c HRt6.out.1
      rw [← HNx.out] at f0 f1 f2 f3 f4 f5
      refine bodyPost_ret (v := .tuple #[.agg #[.slice a1 np c1, .slice a2 nl c2, .int .i64 nx, .slice (some ⟨b3, 0, none⟩) (nu - 1) q3, .slice a4 ng c4, .slice (some ⟨b5, 0, none⟩) (nf + 1) d5], .int .i64 x]) (by simp [results, Tryd.results55, go_sem, f0, f1, f2, f3, f4, f5]) rfl ⟨_, by rw [HGn.out.2], by rw [HGn.out.1, HNx.out]; exact HRt6.out.2.1, by rw [HNx.out]; exact HRt6.out.2.2⟩
end Go.Proofs.YtejfmjejdopglaaDoor

namespace Go.Proofs.YtejfmjejdopglaaDoor
open Go.RowKit

set_option maxHeartbeats 16000000 in
set_option maxRecDepth 100000 in
theorem implWCopy_any (v : Value) (k : Wk) (hk : k.small) (w : World) (hd : WorkAt w v k) :
    Calls Tryd.prog 59 #[v] w fun e w' => ∃ v', e = .returned v' ∧ WorkNw w' w.heap.size v' k ∧ Below w.heap.size w w' := by
  obtain ⟨s1, s2, s3, s4, s5, s6, s7⟩ := hk
  have HC := hide (fun vp vl wx h => implCopy_any (.agg #[vp, vl]) k.ps k.ls s1 s3 s2 s4 wx h)
  have HS := hide (⟨s1, s3, s5, s6, s7⟩ : k.ps.length ≤ 1048576 ∧ k.ls.length ≤ 1048576 ∧ k.us.length ≤ 2000000 ∧ k.gs.length ≤ 2000000 ∧ k.fs.length ≤ 2000000)
  clear s1 s2 s3 s4 s5 s6 s7
  obtain ⟨vp, vl, vu, vg, vf, rfl, h1, h2, h3, h4, -⟩ := hd
  have HD := hide h1
  have HU := hide h2
  have HG := hide h3
  have HF := hide h4
  clear h1 h2 h3 h4
  obtain ⟨nx, hnx⟩ : ∃ n, n = k.next := ⟨_, rfl⟩
  rw [← hnx]
  have HNx := hide hnx
  clear hnx
  obtain ⟨w0, hw0⟩ : ∃ w0, w0 = (w.alloc (Obj.cells #[vp, vl, .int .i64 nx, vu, vg, vf] 54)).alloc (Obj.cells #[.slice none 0 0, .slice none 0 0, .int .i64 0, .slice none 0 0, .slice none 0 0, .slice none 0 0] 54) := ⟨_, rfl⟩
  have hb0 : Below w.heap.size w w0 := by rw [hw0]; exact ((Below.refl w.heap.size w).alloc (Nat.le_refl _) _).alloc (by simp) _
  obtain ⟨q0, q1, hs0⟩ := two_allocs w (Obj.cells #[vp, vl, .int .i64 nx, vu, vg, vf] 54) (Obj.cells #[.slice none 0 0, .slice none 0 0, .int .i64 0, .slice none 0 0, .slice none 0 0, .slice none 0 0] 54)
  rw [← hw0] at q0 q1 hs0
  obtain ⟨a0, ha0⟩ : ∃ a, a = w.heap.size := ⟨_, rfl⟩
  rw [← ha0] at q0 q1 hs0
  have hcs0 : CS w a0 (Obj.cells #[vp, vl, .int .i64 nx, vu, vg, vf] 54) (Obj.cells #[.slice none 0 0, .slice none 0 0, .int .i64 0, .slice none 0 0, .slice none 0 0, .slice none 0 0] 54) k.ps k.ls w0 (fun y => y < 0) [] [] :=
    ⟨ha0, hb0, q0, q1, fun g hg => absurd hg (by omega), fun r hr => (by cases hr), List.Pairwise.nil, fun v hv => (by cases hv)⟩
  go_enter Tryd.func59, Tryd.ntmps59
  go_wp2_with fail
  rw [← hw0, ← ha0]
  clear ha0 hw0 hs0 hb0 q0 q1
  refine wp_region_held_drew (S := fun wx => wx.cell? ⟨a0, 0, none⟩ = some vp ∧ wx.cell? ⟨a0, 1, none⟩ = some vl ∧ wx.cell? ⟨a0, 2, none⟩ = some (.int .i64 nx) ∧ wx.cell? ⟨a0, 3, none⟩ = some vu ∧ wx.cell? ⟨a0, 4, none⟩ = some vg ∧ wx.cell? ⟨a0, 5, none⟩ = some vf) (by kernel_rfl) (cs_cells (cs_drew hcs0)) (fun hHeld => ?_)
  refine takeW 0 3 ?_ rfl rfl (by kernel_rfl) (by kernel_rfl) (by kernel_rfl) (fun _ _ _ h => h) (Or.inl ⟨by rfl, ?_⟩) hHeld ?_
  rotate_left
  · (intro wx hSw; (try dsimp only at hSw); go_simp; try with_reducible rfl)
  simp only [List.setIfInBounds_toArray, List.set_cons_zero, List.set_cons_succ]
  refine takeW 1 4 ?_ rfl rfl (by kernel_rfl) (by kernel_rfl) (by kernel_rfl) (fun _ _ _ h => h) (Or.inl ⟨by rfl, ?_⟩) hHeld ?_
  rotate_left
  · (intro wx hSw; (try dsimp only at hSw); go_simp; try with_reducible rfl)
  simp only [List.setIfInBounds_toArray, List.set_cons_zero, List.set_cons_succ]
  refine takeW 3 6 ?_ rfl rfl (by kernel_rfl) (by kernel_rfl) (by kernel_rfl) (fun _ _ _ h => h) (Or.inl ⟨by rfl, ?_⟩) hHeld ?_
  rotate_left
  · (intro wx hSw; (try dsimp only at hSw); go_simp; try with_reducible rfl)
  simp only [List.setIfInBounds_toArray, List.set_cons_zero, List.set_cons_succ]
  refine takeW 4 7 ?_ rfl rfl (by kernel_rfl) (by kernel_rfl) (by kernel_rfl) (fun _ _ _ h => h) (Or.inl ⟨by rfl, ?_⟩) hHeld ?_
  rotate_left
  · (intro wx hSw; (try dsimp only at hSw); go_simp; try with_reducible rfl)
  simp only [List.setIfInBounds_toArray, List.set_cons_zero, List.set_cons_succ]
  refine takeW 6 9 ?_ rfl rfl (by kernel_rfl) (by kernel_rfl) (by kernel_rfl) (fun _ _ _ h => h) (Or.inl ⟨by rfl, ?_⟩) hHeld ?_
  rotate_left
  · (intro wx hSw; (try dsimp only at hSw); go_simp; try with_reducible rfl)
  simp only [List.setIfInBounds_toArray, List.set_cons_zero, List.set_cons_succ]
  refine takeW 7 10 ?_ rfl rfl (by kernel_rfl) (by kernel_rfl) (by kernel_rfl) (fun _ _ _ h => h) (Or.inl ⟨by rfl, ?_⟩) hHeld ?_
  rotate_left
  · (intro wx hSw; (try dsimp only at hSw); go_simp; try with_reducible rfl)
  simp only [List.setIfInBounds_toArray, List.set_cons_zero, List.set_cons_succ]
  refine takeW 10 13 ?_ rfl rfl (by kernel_rfl) (by kernel_rfl) (by kernel_rfl) (fun _ _ _ h => h) (Or.inl ⟨by rfl, ?_⟩) hHeld ?_
  rotate_left
  · (intro wx hSw; (try dsimp only at hSw); go_simp; try with_reducible rfl)
  simp only [List.setIfInBounds_toArray, List.set_cons_zero, List.set_cons_succ]
  refine takeW 11 14 ?_ rfl rfl (by kernel_rfl) (by kernel_rfl) (by kernel_rfl) (fun _ _ _ h => h) (Or.inl ⟨by rfl, ?_⟩) hHeld ?_
  rotate_left
  · (intro wx hSw; (try dsimp only at hSw); go_simp; try with_reducible rfl)
  simp only [List.setIfInBounds_toArray, List.set_cons_zero, List.set_cons_succ]
  refine takeW 14 17 ?_ rfl rfl (by kernel_rfl) (by kernel_rfl) (by kernel_rfl) (fun _ _ _ h => h) (Or.inl ⟨by rfl, ?_⟩) hHeld ?_
  rotate_left
  · (intro wx hSw; (try dsimp only at hSw); go_simp; try with_reducible rfl)
  simp only [List.setIfInBounds_toArray, List.set_cons_zero, List.set_cons_succ]
  refine takeW 15 18 ?_ rfl rfl (by kernel_rfl) (by kernel_rfl) (by kernel_rfl) (fun _ _ _ h => h) (Or.inl ⟨by rfl, ?_⟩) hHeld ?_
  rotate_left
  · (intro wx hSw; (try dsimp only at hSw); go_simp; try with_reducible rfl)
  simp only [List.setIfInBounds_toArray, List.set_cons_zero, List.set_cons_succ]
  refine copy_walk (us := k.us) (gs := k.gs) (fs := k.fs) ⟨_, _, _, _, _, _, _, _, _, _, _, _, _, _⟩ HS.out.2.2.1 HS.out.2.2.2.1 HS.out.2.2.2.2 (fun _ _ _ _ h => cs_cells h) 81 Tryd.f81 Tryd.func81 (by decide) (Option.some_ne_none _) #[32] (HC.out vp vl) HD.out HU.out HG.out HF.out rfl rfl rfl rfl rfl rfl rfl rfl rfl rfl rfl rfl rfl rfl rfl rfl rfl rfl rfl rfl rfl rfl rfl rfl rfl rfl rfl rfl (by kernel_rfl) (by kernel_rfl) (by kernel_rfl) (by kernel_rfl) (by kernel_rfl) (by kernel_rfl) (by kernel_rfl) (by kernel_rfl) (by kernel_rfl) (by kernel_rfl) (by kernel_rfl) (by kernel_rfl) (by kernel_rfl) (by kernel_rfl) (by kernel_rfl) (by kernel_rfl) (by kernel_rfl) (by kernel_rfl) (by kernel_rfl) (by kernel_rfl) (by kernel_rfl) (by kernel_rfl) ?_ _ (cs_drew hcs0)
  intro W Em x1 p1 y1 p2 te1 b1 q1 te2 b2 q2 te3 b3 q3 hcs
  have hHeld2 := cs_cells hcs
  refine takeW 17 20 ?_ rfl rfl (by kernel_rfl) (by kernel_rfl) (by kernel_rfl) (fun _ _ _ h => h) (Or.inl ⟨by rfl, ?_⟩) hHeld2 ?_
  rotate_left
  · (intro wx hSw; (try dsimp only at hSw); go_simp; try with_reducible rfl)
  simp only [List.setIfInBounds_toArray, List.set_cons_zero, List.set_cons_succ]
  have hwk := cs_work (k := k) hcs
  rw [← HNx.out] at hwk
  have hret := ret_nw hcs.res hwk (by omega) (by have := hcs.n0e; omega) hcs.low
  obtain ⟨⟨r0, r1, r2, r3, r4, r5⟩, z0, z1, z2, z3, z4, z5⟩ := cs_res hcs
  obtain ⟨f0, f1, f2, f3, f4, f5⟩ := blk6c hret.1
  have HR := hide hret
  have HCs := hide hcs
  clear hret hwk hcs hHeld hcs0
  refine wpAnyH_ready (rs := [18]) (by kernel_rfl) (by simp) ?_
  refine AllReadyH.cons rfl (fun K hK => ?_) AllReadyH.nil
  go_simp
  refine hK.out _ _ (cs_cells6 HCs.out) (fun _ => ?_)
  refine wpAnyH_done (by kernel_rfl) ?_ _
  go_wp2_with fail
  refine bodyPost_ret (v := .agg #[.slice x1 k.ps.length p1, .slice y1 k.ls.length p2, .int .i64 nx, .slice (some ⟨b1, 0, none⟩) k.us.length q1, .slice (some ⟨b2, 0, none⟩) k.gs.length q2, .slice (some ⟨b3, 0, none⟩) k.fs.length q3]) (by simp [results, Tryd.results59, go_sem, f0, f1, f2, f3, f4, f5]) rfl ⟨_, rfl, HR.out.2.1, HR.out.2.2⟩
end Go.Proofs.YtejfmjejdopglaaDoor

namespace Go.Proofs.YtejfmjejdopglaaDoor
open Go.RowKit

set_option maxHeartbeats 8000000 in
set_option maxRecDepth 100000 in
theorem implGivePage_any (v : Value) (k : Wk) (hk : k.small) (w : World) (hd : WorkAt w v k) :
    Calls Tryd.prog 60 #[v] w fun e w' => ∃ v', e = .returned (.tuple #[v', .int .i64 (giveP k)]) ∧ WorkOwn w' w.heap.size v' (giveK k) ∧ Below w.heap.size w w' := by
  obtain ⟨i0, hi, hz0, hz1, hz2⟩ := info_parts Tryd.infoIntC
  have hfl := hk.2.2.2.2.2.2
  have hpl := hk.1
  have HC := hide (fun u wx h => implWCopy_any u k hk wx h)
  have HD := hide hd
  obtain ⟨vp, vl, vu, vg, vf, rfl, h1, h2, h3, h4, -⟩ := hd
  obtain ⟨nx, hnx⟩ : ∃ n, n = k.next := ⟨_, rfl⟩
  rw [← hnx] at HD ⊢
  have HNx := hide hnx
  clear hk hnx h1 h2 h3 h4
  obtain ⟨w0, hw0⟩ : ∃ w0, w0 = (w.alloc (Obj.cells #[vp, vl, .int .i64 nx, vu, vg, vf] 54)).alloc (Obj.cells #[.slice none 0 0, .slice none 0 0, .int .i64 0, .slice none 0 0, .slice none 0 0, .slice none 0 0] 54) := ⟨_, rfl⟩
  have hb0 : Below w.heap.size w w0 := by rw [hw0]; exact ((Below.refl w.heap.size w).alloc (Nat.le_refl _) _).alloc (by simp) _
  obtain ⟨q0, q1, hs0⟩ := two_allocs w (Obj.cells #[vp, vl, .int .i64 nx, vu, vg, vf] 54) (Obj.cells #[.slice none 0 0, .slice none 0 0, .int .i64 0, .slice none 0 0, .slice none 0 0, .slice none 0 0] 54)
  rw [← hw0] at q0 q1 hs0
  obtain ⟨a0, ha0⟩ : ∃ a, a = w.heap.size := ⟨_, rfl⟩
  rw [← ha0] at q0 q1 hs0
  have HA : Hid (a0 = w.heap.size ∧ w0.heap.size = a0 + 2) := hide ⟨ha0, hs0⟩
  have HB0 := hide hb0
  have HQ := hide (⟨q0, q1⟩ : _ ∧ _)
  go_enter Tryd.func60, Tryd.ntmps60
  go_wp2_with fail
  rw [← hw0, ← ha0]
  clear hb0 q0 q1 hs0 hw0 ha0
  refine (HC.out _ _ (work_below HD.out HB0.out)).mono ?_
  rintro e w1 ⟨u, rfl, hnw, hb1⟩
  obtain ⟨a1, c1, a2, c2, a3, c3, a4, c4, a5, c5, rfl⟩ := nw_form hnw
  rw [← HNx.out] at hnw ⊢
  obtain ⟨np, hnp⟩ : ∃ n, n = k.ps.length := ⟨_, rfl⟩
  obtain ⟨nl, hnl⟩ : ∃ n, n = k.ls.length := ⟨_, rfl⟩
  obtain ⟨nu, hnu⟩ : ∃ n, n = k.us.length := ⟨_, rfl⟩
  obtain ⟨ng, hng⟩ : ∃ n, n = k.gs.length := ⟨_, rfl⟩
  obtain ⟨nf, hnf⟩ : ∃ n, n = k.fs.length := ⟨_, rfl⟩
  rw [← hnp, ← hnl, ← hnu, ← hng, ← hnf] at hnw ⊢
  rw [← hnp] at hpl
  rw [← hnf] at hfl
  have HLn := hide (⟨hnp, hnl, hnu, hng, hnf⟩ : _ ∧ _ ∧ _ ∧ _ ∧ _)
  obtain ⟨g, hg⟩ : ∃ g, g = w1.heap.size := ⟨_, rfl⟩
  obtain ⟨w2, hw2⟩ : ∃ wx, wx = w1.alloc (Obj.cells #[.slice a1 np c1, .slice a2 nl c2, .int .i64 nx, .slice a3 nu c3, .slice a4 ng c4, .slice a5 nf c5] 54) := ⟨_, rfl⟩
  have hb2 : Below w1.heap.size w1 w2 := by rw [hw2]; exact (Below.refl _ _).alloc (Nat.le_refl _) _
  have hv2 : w2.heap[g]? = some (Obj.cells #[.slice a1 np c1, .slice a2 nl c2, .int .i64 nx, .slice a3 nu c3, .slice a4 ng c4, .slice a5 nf c5] 54) := by rw [hw2, hg]; exact heap_alloc_new w1 _
  have HB2 : Hid (Below w.heap.size w w2) := hide ((HB0.out.trans (hb1.mono HB0.out.size)).trans (hb2.mono (HB0.out.trans (hb1.mono HB0.out.size)).size))
  have hbx : w2.heap[a0]? = _ := staysW (staysW HQ.out.1 hb1) hb2
  have hrs : w2.heap[a0 + 1]? = _ := staysW (staysW HQ.out.2 hb1) hb2
  have HNw := hide (nw_below hnw hb2)
  have HGt : Hid (w0.heap.size ≤ g ∧ g < w2.heap.size ∧ ∀ j, workBlocks (.agg #[.slice a1 np c1, .slice a2 nl c2, .int .i64 nx, .slice a3 nu c3, .slice a4 ng c4, .slice a5 nf c5]) j → w0.heap.size ≤ j ∧ j < g) := hide ⟨by rw [hg]; exact hb1.size, (Array.getElem?_eq_some_iff.1 hv2).1, fun j hj => by rw [hg]; exact workOwn_lt (nw_own hnw) j hj⟩
  have HV2 := hide hv2
  have HRs := hide hrs
  have HBx := hide hbx
  obtain ⟨v0, v1, v2, v3, v4, v5⟩ := blk6c hv2
  obtain ⟨bx0, bx1, bx2, bx3, bx4, bx5⟩ := blk6c hbx
  obtain ⟨r0, r1, r2, r3, r4, r5⟩ := blk6c hrs
  have zr0 := (cell_at hrs 0).2
  have zr1 := (cell_at hrs 1).2
  have zr2 := (cell_at hrs 2).2
  have zr3 := (cell_at hrs 3).2
  have zr4 := (cell_at hrs 4).2
  have zr5 := (cell_at hrs 5).2
  have hng1 : a0 + 1 ≠ g := by have := HA.out; have := HGt.out.1; omega
  have hng0 : a0 ≠ g := by have := HA.out; have := HGt.out.1; omega
  have hgt : ∀ j, g < j → j ≠ g := fun j h => by omega
  have HN1 := hide hnw
  have HB1 : Hid (Below w.heap.size w w1) := hide (HB0.out.trans (hb1.mono HB0.out.size))
  have HR1 := hide (staysW HQ.out.2 hb1)
  have HF1 : Hid (w1.ownsRow w0.heap.size 3 1 (.slice a5 nf c5) nf (ints k.fs)) := hide (by have := (nw_rows hnw).2.2.2.2.1; rw [← hnf] at this; exact this)
  rw [hw2] at r0 r1 r2 r3 r4 r5 zr0 zr1 zr2 zr3 zr4 zr5
  clear v0 v1 v2 v3 v4 v5 bx0 bx1 bx2 bx3 bx4 bx5
  clear hbx hrs hnp hnl hnu hng hnf hnw hb1 hb2
  by_cases hu : k.us = []
  · have hnu0 : nu = 0 := by rw [HLn.out.2.2.1, hu]; rfl
    subst hnu0
    by_cases hn : nx < (np : Int)
    · have hgv := give_next (k := k) hu (by rw [← HNx.out, ← HLn.out.1]; exact hn)
      rw [← HNx.out] at hgv
      have HGv := hide hgv
      clear hgv
      clear r0 r1 r2 r3 r4 r5 zr0 zr1 zr2 zr3 zr4 zr5 hv2
      have HU0 : Hid (IntOwn w1 w0.heap.size (.slice a3 0 c3) k.us) := hide (intOwn_of_own (nw_rows HN1.out).2.2.1)
      rw [HNx.out] at HN1
      have HUs := hide hu
      clear hu
      go_wp2_with (at_builtin; (refine wpList_append_lies _ rfl _ _ 41 rfl w0.heap.size 3 i0 (.int .i64 0) 1 8 Tryd.underlying41 hi hz0 hz1 hz2 rfl (by decide) _ nf (ints k.fs) rfl ((HF1.out.alloc _).alloc _) ⟨w1.heap.size + 1, 0, none⟩ 1 1 [.int .i64 (nx)] rfl rfl ?c0 ?c1 (by decide) ?c3 ?c4 ?c5 _ rfl ?_))
      case c0 => exact one_newC _ _ (by simp) _ _
      case c1 => intro u hu; simp at hu; subst hu; rfl
      case c3 => unfold maxLen; omega
      case c4 => omega
      case c5 => have := HGt.out.1; simp; omega
      intro b5 d5 w5 hown5 hg5 hb5 hl5
      obtain ⟨e5, e6, e7, e8, e9, e10⟩ := give_app (us' := k.us) (n' := wrap64 (nx + 1)) HLn.out.2.2.2.2 HN1.out (HU0.out) (fun j e => e) hg HR1.out (by have := HA.out; omega) HA.out.1 HGt.out.1 HB1.out hown5 hg5 (by rcases hb5 with hb5 | hb5; exact Or.inl hb5; right; (try simp at hb5); omega)
      have s5 : w5.cell? ⟨w1.heap.size, 5, none⟩ = some (.slice a5 nf c5) := by rw [← hg]; exact (cell_at e5 5).1
      have z5 : w5.frozen? ⟨w1.heap.size, 5, none⟩ = false := by rw [← hg]; exact (cell_at e5 5).2
      obtain ⟨w6, hw6⟩ : ∃ w6, w6 = w5.setCell ⟨g, 5, none⟩ (.slice (some ⟨b5, 0, none⟩) (nf + 1) d5) := ⟨_, rfl⟩
      rw [← hw6] at e6 e7 e8 e9 e10
      obtain ⟨v0, v1, v2, v3, v4, v5⟩ := blk6c e6
      obtain ⟨r0, r1, r2, r3, r4, r5⟩ := blk6c e7
      have zr0 := (cell_at e7 0).2
      have zr1 := (cell_at e7 1).2
      have zr2 := (cell_at e7 2).2
      have zr3 := (cell_at e7 3).2
      have zr4 := (cell_at e7 4).2
      have zr5 := (cell_at e7 5).2
      have hret := ret_work (w := w) e7 e8 (by have := HA.out; omega) (by have := HA.out; omega) e9
      have HRet := hide hret
      rw [hw6, hg] at v0 v1 v2 v3 v4 v5 r0 r1 r2 r3 r4 r5 zr0 zr1 zr2 zr3 zr4 zr5
      have HW6 := hide hw6
      have HG := hide hg
      have HE6 := hide (⟨e6, e7, e8, e9, e10⟩ : _ ∧ _ ∧ _ ∧ _ ∧ _)
      clear hown5 hg5 hb5 hl5 e5 e6 e7 e8 e9 e10 hret hw6 hg hw2 hng1 hng0 hgt
      go_wp2_with fail
      rw [← HG.out, ← HW6.out]
      obtain ⟨f0, f1, f2, f3, f4, f5⟩ := blk6c HRet.out.1
      refine bodyPost_ret (v := .tuple #[.agg #[.slice a1 np c1, .slice a2 nl c2, .int .i64 (wrap64 (nx + 1)), .slice a3 0 c3, .slice a4 ng c4, .slice (some ⟨b5, 0, none⟩) (nf + 1) d5], .int .i64 (nx)]) (by simp [results, Tryd.results60, go_sem, f0, f1, f2, f3, f4, f5]) rfl ⟨_, by rw [HGv.out.2], by rw [HGv.out.1]; exact HRet.out.2.1, HRet.out.2.2⟩
    · have HGv := hide (give_none (k := k) hu (by rw [← HNx.out, ← HLn.out.1]; exact hn))
      have hret := ret_work (w := w) HRs.out (nw_own HNw.out) (by have := HA.out; omega) (by have := HA.out; omega) HB2.out
      have HRet := hide hret
      have HUs := hide hu
      have HW2 := hide hw2
      have HGg := hide hg
      clear hu hret hv2 hw2 hg hgt hng1 hng0
      go_wp2_with fail
      rw [← HW2.out]
      obtain ⟨f0, f1, f2, f3, f4, f5⟩ := blk6c HRet.out.1
      refine bodyPost_ret (v := .tuple #[.agg #[.slice a1 np c1, .slice a2 nl c2, .int .i64 nx, .slice a3 0 c3, .slice a4 ng c4, .slice a5 nf c5], .int .i64 0]) (by simp [results, Tryd.results60, go_sem, f0, f1, f2, f3, f4, f5]) rfl ⟨_, by rw [HGv.out.2], by rw [HGv.out.1]; exact HRet.out.2.1, HRet.out.2.2⟩
  · obtain ⟨x, t, hxt⟩ := List.exists_cons_of_ne_nil hu
    have HGv : Hid (giveK k = { k with next := nx, us := t, fs := k.fs ++ [x] } ∧ giveP k = x) := hide (by rw [HNx.out]; exact give_cons (k := k) hxt)
    have hu3 := (nw_rows HN1.out).2.2.1
    rw [← HLn.out.2.2.1] at hu3
    have hnt : nu = t.length + 1 := by rw [HLn.out.2.2.1, hxt]; rfl
    obtain ⟨gu, hgu, hgl, hcx, hnc⟩ : ∃ gu, a3 = some ⟨gu, 0, none⟩ ∧ gu < w1.heap.size ∧ w1.cell? ⟨gu, 0, none⟩ = some (.int .i64 x) ∧ nu ≤ c3 := by
      rcases hu3.2 with ⟨e, h0⟩ | ⟨gu, cap, cur, e, -, -, hnc, -⟩
      · omega
      · injection e with e1 e2 e3
        subst e1 e3
        refine ⟨gu, rfl, (hu3.lt gu rfl).2, ?_, hnc⟩
        have := hu3.cellAt 0 (by omega)
        rw [this, hxt]
        rfl
    subst hgu
    have hcx2 : (w1.alloc (Obj.cells #[.slice a1 np c1, .slice a2 nl c2, .int .i64 nx, .slice (some ⟨gu, 0, none⟩) nu c3, .slice a4 ng c4, .slice a5 nf c5] 54)).cell? ⟨gu, 0, none⟩ = some (.int .i64 x) := (((Below.refl _ _).alloc (Nat.le_refl _) _).cell (by exact hgl)).trans hcx
    have hUt : ∀ y, (c3 = 1 ∧ y = some (⟨gu, 0, none⟩ : Addr) ∨ ¬ c3 = 1 ∧ y = some (⟨gu, 1, none⟩ : Addr)) → IntOwn w1 w0.heap.size (.slice y (nu - 1) (c3 - 1)) t ∧ ∀ j, (Value.slice y (nu - 1) (c3 - 1)).ownBlock = some j → (Value.slice (some ⟨gu, 0, none⟩) nu c3).ownBlock = some j := fun y hy => by
      have h := intOwn_of_own (nw_rows HN1.out).2.2.1
      rw [hxt] at h
      rcases hy with ⟨hc1, rfl⟩ | ⟨hc1, rfl⟩
      · obtain rfl : t = [] := List.eq_nil_of_length_eq_zero (by omega)
        obtain ⟨cs, hcs⟩ := intOwn_typ h rfl
        refine ⟨⟨some ⟨gu, 0, none⟩, c3 - 1, by rw [hnt]; rfl, Nat.zero_le _, Or.inr ⟨gu, 0, cs, rfl, (intOwn_lt h gu rfl).1, hcs, fun i hi => absurd hi (by simp)⟩⟩, fun j e => e⟩
      · have h2 := intOwn_tail (c' := c3 - 1) (n' := nu - 1) hnt (by omega) (by omega) h
        rw [Nat.zero_add] at h2
        exact ⟨h2, fun j e => e⟩
    rw [HNx.out] at HN1
    have hn0 : (0 : Int) < (nu : Int) := by omega
    have hn1 : (1 : Int) ≤ (nu : Int) := by omega
    have hnc2 : (nu : Int) ≤ (c3 : Int) := by omega
    have HNt := hide hnt
    have HXt := hide hxt
    clear hu hu3 hcx hgl hxt hv2 r0 r1 r2 r3 r4 r5 zr0 zr1 zr2 zr3 zr4 zr5
    by_cases hc1 : c3 = 1
    · have HUt := hide (hUt _ (Or.inl ⟨hc1, rfl⟩))
      clear hUt
      subst hc1
      obtain rfl : nu = 1 := by omega
      clear hnt hn0 hn1 hnc2 hnc
      go_wp2_with (at_builtin; (refine wpList_append_lies _ rfl _ _ 41 rfl w0.heap.size 3 i0 (.int .i64 0) 1 8 Tryd.underlying41 hi hz0 hz1 hz2 rfl (by decide) _ nf (ints k.fs) rfl ((HF1.out.alloc _).alloc _) ⟨w1.heap.size + 1, 0, none⟩ 1 1 [.int .i64 (x)] rfl rfl ?c0 ?c1 (by decide) ?c3 ?c4 ?c5 _ rfl ?_))
      case c0 => exact one_newC _ _ (by simp) _ _
      case c1 => intro u hu; simp at hu; subst hu; rfl
      case c3 => unfold maxLen; omega
      case c4 => omega
      case c5 => have := HGt.out.1; simp; omega
      intro b5 d5 w5 hown5 hg5 hb5 hl5
      obtain ⟨e5, e6, e7, e8, e9, e10⟩ := give_app (us' := t) (n' := nx) HLn.out.2.2.2.2 HN1.out (HUt.out.1) (HUt.out.2) hg HR1.out (by have := HA.out; omega) HA.out.1 HGt.out.1 HB1.out hown5 hg5 (by rcases hb5 with hb5 | hb5; exact Or.inl hb5; right; (try simp at hb5); omega)
      have s5 : w5.cell? ⟨w1.heap.size, 5, none⟩ = some (.slice a5 nf c5) := by rw [← hg]; exact (cell_at e5 5).1
      have z5 : w5.frozen? ⟨w1.heap.size, 5, none⟩ = false := by rw [← hg]; exact (cell_at e5 5).2
      obtain ⟨w6, hw6⟩ : ∃ w6, w6 = w5.setCell ⟨g, 5, none⟩ (.slice (some ⟨b5, 0, none⟩) (nf + 1) d5) := ⟨_, rfl⟩
      rw [← hw6] at e6 e7 e8 e9 e10
      obtain ⟨v0, v1, v2, v3, v4, v5⟩ := blk6c e6
      obtain ⟨r0, r1, r2, r3, r4, r5⟩ := blk6c e7
      have zr0 := (cell_at e7 0).2
      have zr1 := (cell_at e7 1).2
      have zr2 := (cell_at e7 2).2
      have zr3 := (cell_at e7 3).2
      have zr4 := (cell_at e7 4).2
      have zr5 := (cell_at e7 5).2
      have hret := ret_work (w := w) e7 e8 (by have := HA.out; omega) (by have := HA.out; omega) e9
      have HRet := hide hret
      rw [hw6, hg] at v0 v1 v2 v3 v4 v5 r0 r1 r2 r3 r4 r5 zr0 zr1 zr2 zr3 zr4 zr5
      have HW6 := hide hw6
      have HG := hide hg
      have HE6 := hide (⟨e6, e7, e8, e9, e10⟩ : _ ∧ _ ∧ _ ∧ _ ∧ _)
      clear hown5 hg5 hb5 hl5 e5 e6 e7 e8 e9 e10 hret hw6 hg hw2 hng1 hng0 hgt
      go_wp2_with fail
      rw [← HG.out, ← HW6.out]
      obtain ⟨f0, f1, f2, f3, f4, f5⟩ := blk6c HRet.out.1
      refine bodyPost_ret (v := .tuple #[.agg #[.slice a1 np c1, .slice a2 nl c2, .int .i64 nx, .slice (some ⟨gu, 0, none⟩) 0 0, .slice a4 ng c4, .slice (some ⟨b5, 0, none⟩) (nf + 1) d5], .int .i64 (x)]) (by simp [results, Tryd.results60, go_sem, f0, f1, f2, f3, f4, f5]) rfl ⟨_, by rw [HGv.out.2], by rw [HGv.out.1]; exact HRet.out.2.1, HRet.out.2.2⟩
    · have HUt := hide (hUt _ (Or.inr ⟨hc1, rfl⟩))
      clear hUt hnt
      go_wp2_with (at_builtin; (refine wpList_append_lies _ rfl _ _ 41 rfl w0.heap.size 3 i0 (.int .i64 0) 1 8 Tryd.underlying41 hi hz0 hz1 hz2 rfl (by decide) _ nf (ints k.fs) rfl ((HF1.out.alloc _).alloc _) ⟨w1.heap.size + 1, 0, none⟩ 1 1 [.int .i64 (x)] rfl rfl ?c0 ?c1 (by decide) ?c3 ?c4 ?c5 _ rfl ?_))
      case c0 => exact one_newC _ _ (by simp) _ _
      case c1 => intro u hu; simp at hu; subst hu; rfl
      case c3 => unfold maxLen; omega
      case c4 => omega
      case c5 => have := HGt.out.1; simp; omega
      intro b5 d5 w5 hown5 hg5 hb5 hl5
      obtain ⟨e5, e6, e7, e8, e9, e10⟩ := give_app (us' := t) (n' := nx) HLn.out.2.2.2.2 HN1.out (HUt.out.1) (HUt.out.2) hg HR1.out (by have := HA.out; omega) HA.out.1 HGt.out.1 HB1.out hown5 hg5 (by rcases hb5 with hb5 | hb5; exact Or.inl hb5; right; (try simp at hb5); omega)
      have s5 : w5.cell? ⟨w1.heap.size, 5, none⟩ = some (.slice a5 nf c5) := by rw [← hg]; exact (cell_at e5 5).1
      have z5 : w5.frozen? ⟨w1.heap.size, 5, none⟩ = false := by rw [← hg]; exact (cell_at e5 5).2
      obtain ⟨w6, hw6⟩ : ∃ w6, w6 = w5.setCell ⟨g, 5, none⟩ (.slice (some ⟨b5, 0, none⟩) (nf + 1) d5) := ⟨_, rfl⟩
      rw [← hw6] at e6 e7 e8 e9 e10
      obtain ⟨v0, v1, v2, v3, v4, v5⟩ := blk6c e6
      obtain ⟨r0, r1, r2, r3, r4, r5⟩ := blk6c e7
      have zr0 := (cell_at e7 0).2
      have zr1 := (cell_at e7 1).2
      have zr2 := (cell_at e7 2).2
      have zr3 := (cell_at e7 3).2
      have zr4 := (cell_at e7 4).2
      have zr5 := (cell_at e7 5).2
      have hret := ret_work (w := w) e7 e8 (by have := HA.out; omega) (by have := HA.out; omega) e9
      have HRet := hide hret
      rw [hw6, hg] at v0 v1 v2 v3 v4 v5 r0 r1 r2 r3 r4 r5 zr0 zr1 zr2 zr3 zr4 zr5
      have HW6 := hide hw6
      have HG := hide hg
      have HE6 := hide (⟨e6, e7, e8, e9, e10⟩ : _ ∧ _ ∧ _ ∧ _ ∧ _)
      clear hown5 hg5 hb5 hl5 e5 e6 e7 e8 e9 e10 hret hw6 hg hw2 hng1 hng0 hgt
      go_wp2_with fail
      rw [← HG.out, ← HW6.out]
      obtain ⟨f0, f1, f2, f3, f4, f5⟩ := blk6c HRet.out.1
      refine bodyPost_ret (v := .tuple #[.agg #[.slice a1 np c1, .slice a2 nl c2, .int .i64 nx, .slice (some ⟨gu, 1, none⟩) (nu - 1) (c3 - 1), .slice a4 ng c4, .slice (some ⟨b5, 0, none⟩) (nf + 1) d5], .int .i64 (x)]) (by simp [results, Tryd.results60, go_sem, f0, f1, f2, f3, f4, f5]) rfl ⟨_, by rw [HGv.out.2], by rw [HGv.out.1]; exact HRet.out.2.1, HRet.out.2.2⟩
end Go.Proofs.YtejfmjejdopglaaDoor

namespace Go.Proofs.YtejfmjejdopglaaDoor
open Go.RowKit

theorem diskD {w : World} {B B' : Nat} {v : Value} {ps ps' : List ByteArray} {ls : List (Int × ByteArray)} (hp : ps' = ps) (h : DiskOwn w B v ps ls) (hB : B' ≤ B) : DiskOwn w B' v ps' ls := by
  subst hp
  obtain ⟨vp, vl, e, h1, h2⟩ := h
  exact ⟨vp, vl, e, own_down h1 hB, own_down h2 hB⟩

set_option maxHeartbeats 8000000 in
set_option maxRecDepth 100000 in
theorem implPutNode_any (v : Value) (k : Wk) (hk : k.small) (nv0 : Value) (lf : Bool) (ks vs : List ByteArray) (cs : List Int) (n1 : ks.length ≤ 1048576) (n2 : vs.length ≤ 1048576) (n3 : cs.length ≤ 1048576) (n4 : ∀ s ∈ ks, s.size ≤ 1048576) (n5 : ∀ s ∈ vs, s.size ≤ 1048576) (w : World) (hT : SumTab w) (hd : WorkAt w v k) (hn : NodeAt w nv0 lf ks vs cs) :
    Calls Tryd.prog 31 #[v, nv0] w fun e w' => ∃ v', e = .returned (.tuple #[v', .int .i64 (putP k lf ks vs cs)]) ∧ WorkOwn w' w.heap.size v' (putK k lf ks vs cs) ∧ Below w.heap.size w w' := by
  have HNt := hide (fun wx ht h => implNodeText_any nv0 lf ks vs cs n1 n2 n3 n4 n5 wx ht h)
  have HCp := hide (fun u wx h => implWCopy_any u k hk wx h)
  have HGp := hide (fun u wx h => implGivePage_any u k hk wx h)
  have HWp := hide (fun u page wx h => implWritePage_any u k.ps k.ls page (nodeO lf ks vs cs) (Nat.le_trans (nodeO_small lf ks vs cs) (by omega)) hk.1 hk.2.2.1 hk.2.1 hk.2.2.2.1 wx h)
  have HGd := hide (give_disk k)
  have HD := hide hd
  have HN := hide hn
  have HT := hide hT
  clear hT
  obtain ⟨vp, vl, vu, vg, vf, rfl, -⟩ := hd
  obtain ⟨nk, nv, nc, rfl, -⟩ := hn
  clear hk n1 n2 n3 n4 n5
  obtain ⟨t, ht⟩ : ∃ t, t = nodeO lf ks vs cs := ⟨_, rfl⟩
  rw [← ht] at HNt HWp
  have HTx := hide ht
  clear ht
  obtain ⟨w0, hw0⟩ : ∃ w0, w0 = ((w.alloc (Obj.cells #[vp, vl, .int .i64 k.next, vu, vg, vf] 54)).alloc (Obj.cells #[.bool lf, nk, nv, nc] 58)).alloc (Obj.cells #[.slice none 0 0, .slice none 0 0, .int .i64 0, .slice none 0 0, .slice none 0 0, .slice none 0 0] 54) := ⟨_, rfl⟩
  have hb0 : Below w.heap.size w w0 := by rw [hw0]; exact (((Below.refl w.heap.size w).alloc (Nat.le_refl _) _).alloc (by simp) _).alloc (by simp; omega) _
  obtain ⟨q0, q1, q2, hs0⟩ := three_allocs w (Obj.cells #[vp, vl, .int .i64 k.next, vu, vg, vf] 54) (Obj.cells #[.bool lf, nk, nv, nc] 58) (Obj.cells #[.slice none 0 0, .slice none 0 0, .int .i64 0, .slice none 0 0, .slice none 0 0, .slice none 0 0] 54)
  rw [← hw0] at q0 q1 q2 hs0
  obtain ⟨a0, ha0⟩ : ∃ a, a = w.heap.size := ⟨_, rfl⟩
  rw [← ha0] at q0 q1 q2 hs0
  have HA : Hid (a0 = w.heap.size ∧ w0.heap.size = a0 + 3) := hide ⟨ha0, hs0⟩
  have HB_w0 := hide hb0
  have Hbox_w0 := hide (held_blk q0)
  have Hnbx_w0 := hide (held_blk q1)
  have Hres_w0 := hide (held_blk q2)
  clear hb0 q0 q1 q2 hs0
  cases hok : nodeOkB lf ks vs cs with
  | false =>
    have HNo := hide (put_no (k := k) (lf := lf) (ks := ks) (vs := vs) (cs := cs) (by unfold putB; rw [hok]; rfl))
    rw [hok] at HNt
    go_enter Tryd.func31, Tryd.ntmps31
    go_wp2_with fail
    rw [← hw0, ← ha0]
    clear hw0 ha0
    refine (HNt.out _ (sumTab_below HT.out HB_w0.out) (node_below HN.out HB_w0.out)).mono ?_
    rintro e w1 ⟨rfl, hb⟩
    have Hbox_w1 := hide (held_below Hbox_w0.out hb)
    have Hnbx_w1 := hide (held_below Hnbx_w0.out hb)
    have Hres_w1 := hide (held_below Hres_w0.out hb)
    have HB_w1 : Hid (Below w.heap.size w w1) := hide (HB_w0.out.trans (hb.mono HB_w0.out.size))
    clear hb
    obtain ⟨ffb0, ffb1, ffb2, ffb3, ffb4, ffb5⟩ := blk6h Hbox_w1.out
    go_wp2_with fail
    clear ffb0 ffb1 ffb2 ffb3 ffb4 ffb5
    refine (HCp.out _ _ (work_below HD.out HB_w1.out)).mono ?_
    rintro e w1q ⟨u, rfl, hnw, hb⟩
    have Hbox_w1q := hide (held_below Hbox_w1.out hb)
    have Hnbx_w1q := hide (held_below Hnbx_w1.out hb)
    have Hres_w1q := hide (held_below Hres_w1.out hb)
    have HB_w1q : Hid (Below w.heap.size w w1q) := hide (HB_w1.out.trans (hb.mono HB_w1.out.size))
    have HZq : Hid (w1.heap.size ≤ w1q.heap.size) := hide hb.size
    clear hb
    obtain ⟨xa9, ca9, xb9, cb9, xc9, cc9, xd9, cd9, xe9, ce9, rfl⟩ := nw_form hnw
    have HRt := hide (ret_work (w := w) Hres_w1q.out.is (nw_own hnw) (by have := Hres_w1.out.le; have := HA.out; omega) (by have := HA.out; omega) HB_w1q.out)
    clear hnw
    obtain ⟨ffr0, ffr1, ffr2, ffr3, ffr4, ffr5⟩ := blk6h Hres_w1q.out
    have zz0 := (cell_at Hres_w1q.out.is 0).2
    have zz1 := (cell_at Hres_w1q.out.is 1).2
    have zz2 := (cell_at Hres_w1q.out.is 2).2
    have zz3 := (cell_at Hres_w1q.out.is 3).2
    have zz4 := (cell_at Hres_w1q.out.is 4).2
    have zz5 := (cell_at Hres_w1q.out.is 5).2
    go_wp2_with fail
    obtain ⟨f0, f1, f2, f3, f4, f5⟩ := blk6c HRt.out.1
    refine bodyPost_ret (v := .tuple #[.agg #[.slice xa9 k.ps.length ca9, .slice xb9 k.ls.length cb9, .int .i64 k.next, .slice xc9 k.us.length cc9, .slice xd9 k.gs.length cd9, .slice xe9 k.fs.length ce9], .int .i64 0]) (by simp [results, Tryd.results31, go_sem, f0, f1, f2, f3, f4, f5]) rfl ⟨_, by rw [HNo.out.2], by rw [HNo.out.1]; exact HRt.out.2.1, HRt.out.2.2⟩
  | true =>
    obtain ⟨pg, hpg⟩ : ∃ pg, pg = giveP k := ⟨_, rfl⟩
    obtain ⟨kg, hkg⟩ : ∃ kg, kg = giveK k := ⟨_, rfl⟩
    rw [← hpg, ← hkg] at HGp
    rw [← hkg] at HGd
    have HP := hide (⟨hpg, hkg⟩ : _ ∧ _)
    clear hpg hkg
    by_cases hp : pg = 0
    · have HNo := hide (put_no (k := k) (lf := lf) (ks := ks) (vs := vs) (cs := cs) (by unfold putB; rw [← HP.out.1, hp, hok]; simp))
      subst hp
      rw [hok] at HNt
      go_enter Tryd.func31, Tryd.ntmps31
      go_wp2_with fail
      rw [← hw0, ← ha0]
      clear hw0 ha0
      refine (HNt.out _ (sumTab_below HT.out HB_w0.out) (node_below HN.out HB_w0.out)).mono ?_
      rintro e w1 ⟨rfl, hb⟩
      have Hbox_w1 := hide (held_below Hbox_w0.out hb)
      have Hnbx_w1 := hide (held_below Hnbx_w0.out hb)
      have Hres_w1 := hide (held_below Hres_w0.out hb)
      have HB_w1 : Hid (Below w.heap.size w w1) := hide (HB_w0.out.trans (hb.mono HB_w0.out.size))
      clear hb
      obtain ⟨ffb0, ffb1, ffb2, ffb3, ffb4, ffb5⟩ := blk6h Hbox_w1.out
      go_wp2_with fail
      clear ffb0 ffb1 ffb2 ffb3 ffb4 ffb5
      refine (HGp.out _ _ (work_below HD.out HB_w1.out)).mono ?_
      rintro e w2 ⟨u, rfl, hown, hb⟩
      have Hbox_w2 := hide (held_below Hbox_w1.out hb)
      have Hnbx_w2 := hide (held_below Hnbx_w1.out hb)
      have Hres_w2 := hide (held_below Hres_w1.out hb)
      have HB_w2 : Hid (Below w.heap.size w w2) := hide (HB_w1.out.trans (hb.mono HB_w1.out.size))
      have HZ2 : Hid (w1.heap.size ≤ w2.heap.size) := hide hb.size
      clear hb
      have Hd3_w2 := hide (held_work hown)
      obtain ⟨xa3, ca3, xb3, cb3, xc3, cc3, xd3, cd3, xe3, ce3, rfl⟩ := work_form hown
      clear hown
      obtain ⟨g, hg⟩ : ∃ g, g = w2.heap.size := ⟨_, rfl⟩
      obtain ⟨w3, hnw⟩ : ∃ wx, wx = w2.alloc (Obj.cells #[.slice xa3 kg.ps.length ca3, .slice xb3 kg.ls.length cb3, .int .i64 kg.next, .slice xc3 kg.us.length cc3, .slice xd3 kg.gs.length cd3, .slice xe3 kg.fs.length ce3] 54) := ⟨_, rfl⟩
      have hnv := new_blk w2 #[.slice xa3 kg.ps.length ca3, .slice xb3 kg.ls.length cb3, .int .i64 kg.next, .slice xc3 kg.us.length cc3, .slice xd3 kg.gs.length cd3, .slice xe3 kg.fs.length ce3] 54
      rw [← hnw, ← hg] at hnv
      have hbv : Below w2.heap.size w2 w3 := by rw [← hg]; exact hnv.1
      have Hg_w3 := hide hnv.2
      have Hgt : Hid (w2.heap.size = g) := hide hg.symm
      have Hbox_w3 := hide (held_below Hbox_w2.out hbv)
      have Hnbx_w3 := hide (held_below Hnbx_w2.out hbv)
      have Hres_w3 := hide (held_below Hres_w2.out hbv)
      have Hd3_w3 := hide (held_below Hd3_w2.out hbv)
      have HB_w3 : Hid (Below w.heap.size w w3) := hide (HB_w2.out.trans (hbv.mono HB_w2.out.size))
      clear hnv hbv
      obtain ⟨ffb0, ffb1, ffb2, ffb3, ffb4, ffb5⟩ := blk6h Hbox_w3.out
      rw [hnw] at ffb0 ffb1 ffb2 ffb3 ffb4 ffb5
      go_wp2_with fail
      rw [← hnw]
      clear hnw hg ffb0 ffb1 ffb2 ffb3 ffb4 ffb5
      refine (HCp.out _ _ (work_below HD.out HB_w3.out)).mono ?_
      rintro e w3q ⟨u, rfl, hnw, hb⟩
      have Hbox_w3q := hide (held_below Hbox_w3.out hb)
      have Hnbx_w3q := hide (held_below Hnbx_w3.out hb)
      have Hres_w3q := hide (held_below Hres_w3.out hb)
      have Hd3_w3q := hide (held_below Hd3_w3.out hb)
      have Hg_w3q := hide (held_below Hg_w3.out hb)
      have HB_w3q : Hid (Below w.heap.size w w3q) := hide (HB_w3.out.trans (hb.mono HB_w3.out.size))
      have HZq : Hid (w3.heap.size ≤ w3q.heap.size) := hide hb.size
      clear hb
      obtain ⟨xa9, ca9, xb9, cb9, xc9, cc9, xd9, cd9, xe9, ce9, rfl⟩ := nw_form hnw
      have HRt := hide (ret_work (w := w) Hres_w3q.out.is (nw_own hnw) (by have := Hres_w3.out.le; have := HA.out; omega) (by have := HA.out; omega) HB_w3q.out)
      clear hnw
      obtain ⟨ffr0, ffr1, ffr2, ffr3, ffr4, ffr5⟩ := blk6h Hres_w3q.out
      have zz0 := (cell_at Hres_w3q.out.is 0).2
      have zz1 := (cell_at Hres_w3q.out.is 1).2
      have zz2 := (cell_at Hres_w3q.out.is 2).2
      have zz3 := (cell_at Hres_w3q.out.is 3).2
      have zz4 := (cell_at Hres_w3q.out.is 4).2
      have zz5 := (cell_at Hres_w3q.out.is 5).2
      go_wp2_with fail
      obtain ⟨f0, f1, f2, f3, f4, f5⟩ := blk6c HRt.out.1
      refine bodyPost_ret (v := .tuple #[.agg #[.slice xa9 k.ps.length ca9, .slice xb9 k.ls.length cb9, .int .i64 k.next, .slice xc9 k.us.length cc9, .slice xd9 k.gs.length cd9, .slice xe9 k.fs.length ce9], .int .i64 0]) (by simp [results, Tryd.results31, go_sem, f0, f1, f2, f3, f4, f5]) rfl ⟨_, by rw [HNo.out.2], by rw [HNo.out.1]; exact HRt.out.2.1, HRt.out.2.2⟩
    · cases hwo : writeOk k.ps k.ls pg t with
      | false =>
        have HNo := hide (put_no (k := k) (lf := lf) (ks := ks) (vs := vs) (cs := cs) (by unfold putB; rw [← HP.out.1, ← HTx.out, hwo]; simp))
        have HWp2 := hide (fun u wx h => HWp.out u pg wx h)
        rw [hwo] at HWp2
        rw [hok] at HNt
        go_enter Tryd.func31, Tryd.ntmps31
        go_wp2_with fail
        rw [← hw0, ← ha0]
        clear hw0 ha0
        refine (HNt.out _ (sumTab_below HT.out HB_w0.out) (node_below HN.out HB_w0.out)).mono ?_
        rintro e w1 ⟨rfl, hb⟩
        have Hbox_w1 := hide (held_below Hbox_w0.out hb)
        have Hnbx_w1 := hide (held_below Hnbx_w0.out hb)
        have Hres_w1 := hide (held_below Hres_w0.out hb)
        have HB_w1 : Hid (Below w.heap.size w w1) := hide (HB_w0.out.trans (hb.mono HB_w0.out.size))
        clear hb
        obtain ⟨ffb0, ffb1, ffb2, ffb3, ffb4, ffb5⟩ := blk6h Hbox_w1.out
        go_wp2_with fail
        clear ffb0 ffb1 ffb2 ffb3 ffb4 ffb5
        refine (HGp.out _ _ (work_below HD.out HB_w1.out)).mono ?_
        rintro e w2 ⟨u, rfl, hown, hb⟩
        have Hbox_w2 := hide (held_below Hbox_w1.out hb)
        have Hnbx_w2 := hide (held_below Hnbx_w1.out hb)
        have Hres_w2 := hide (held_below Hres_w1.out hb)
        have HB_w2 : Hid (Below w.heap.size w w2) := hide (HB_w1.out.trans (hb.mono HB_w1.out.size))
        have HZ2 : Hid (w1.heap.size ≤ w2.heap.size) := hide hb.size
        clear hb
        have Hd3_w2 := hide (held_work hown)
        obtain ⟨xa3, ca3, xb3, cb3, xc3, cc3, xd3, cd3, xe3, ce3, rfl⟩ := work_form hown
        clear hown
        obtain ⟨g, hg⟩ : ∃ g, g = w2.heap.size := ⟨_, rfl⟩
        obtain ⟨w3, hnw⟩ : ∃ wx, wx = w2.alloc (Obj.cells #[.slice xa3 kg.ps.length ca3, .slice xb3 kg.ls.length cb3, .int .i64 kg.next, .slice xc3 kg.us.length cc3, .slice xd3 kg.gs.length cd3, .slice xe3 kg.fs.length ce3] 54) := ⟨_, rfl⟩
        have hnv := new_blk w2 #[.slice xa3 kg.ps.length ca3, .slice xb3 kg.ls.length cb3, .int .i64 kg.next, .slice xc3 kg.us.length cc3, .slice xd3 kg.gs.length cd3, .slice xe3 kg.fs.length ce3] 54
        rw [← hnw, ← hg] at hnv
        have hbv : Below w2.heap.size w2 w3 := by rw [← hg]; exact hnv.1
        have Hg_w3 := hide hnv.2
        have Hgt : Hid (w2.heap.size = g) := hide hg.symm
        have Hbox_w3 := hide (held_below Hbox_w2.out hbv)
        have Hnbx_w3 := hide (held_below Hnbx_w2.out hbv)
        have Hres_w3 := hide (held_below Hres_w2.out hbv)
        have Hd3_w3 := hide (held_below Hd3_w2.out hbv)
        have HB_w3 : Hid (Below w.heap.size w w3) := hide (HB_w2.out.trans (hbv.mono HB_w2.out.size))
        clear hnv hbv
        go_wp2_with fail
        rw [← hnw, ← hg]
        clear hnw hg
        refine (HWp2.out _ _ ?hda).mono ?_
        case hda => have h := (work_of_own Hd3_w3.out.is.1); obtain ⟨vp', vl', vu', vg', vf', e, hd, -⟩ := h; obtain ⟨rfl, rfl, -⟩ := agg6 e; rw [HGd.out.1, HGd.out.2] at hd ⊢; exact hd
        rintro e w4 ⟨ud, rfl, hownd, hb⟩
        have HZ4 : Hid (w3.heap.size ≤ w4.heap.size) := hide hb.size
        have Hbox_w4 := hide (held_below Hbox_w3.out hb)
        have Hnbx_w4 := hide (held_below Hnbx_w3.out hb)
        have Hres_w4 := hide (held_below Hres_w3.out hb)
        have Hd3_w4 := hide (held_below Hd3_w3.out hb)
        have Hg_w4 := hide (held_below Hg_w3.out hb)
        have HB_w4 : Hid (Below w.heap.size w w4) := hide (HB_w3.out.trans (hb.mono HB_w3.out.size))
        clear hb
        obtain ⟨xd, zd, yd, kd, rfl⟩ := disk_form hownd
        have HDd := hide hownd
        clear hownd
        obtain ⟨ffv0, ffv1, ffv2, ffv3, ffv4, ffv5⟩ := blk6h Hg_w4.out
        have zv0 := (cell_at Hg_w4.out.is 0).2
        have zv1 := (cell_at Hg_w4.out.is 1).2
        obtain ⟨ffb0, ffb1, ffb2, ffb3, ffb4, ffb5⟩ := blk6h Hbox_w4.out
        obtain ⟨w5, hw5⟩ : ∃ w5, w5 = (w4.setCell ⟨g, 0, none⟩ (.slice xd k.ps.length zd)).setCell ⟨g, 1, none⟩ (.slice yd (writeL k.ps k.ls pg t).length kd) := ⟨_, rfl⟩
        have hk5 : Kept w4 w5 (fun j => j = g) := by rw [hw5]; exact kept_trans (kept_setCell _ _ _ _) (kept_setCell _ _ _ _) (fun _ _ h => h)
        have Hbox_w5 := hide (held_kept Hbox_w4.out hk5 (fun j h1 h2 h => by have := HA.out; have := Hgt.out; have := Hres_w2.out.le; omega))
        have Hres_w5 := hide (held_kept Hres_w4.out hk5 (fun j h1 h2 h => by have := HA.out; have := Hgt.out; have := Hres_w2.out.le; omega))
        have HB_w5 : Hid (Below w.heap.size w w5) := hide (HB_w4.out.trans (below_of_kept hk5 HB_w4.out.size (fun j h => by have := HA.out; have := Hgt.out; have := Hres_w2.out.le; omega)))
        clear ffb0 ffb1 ffb2 ffb3 ffb4 ffb5
        obtain ⟨ffb0, ffb1, ffb2, ffb3, ffb4, ffb5⟩ := blk6h Hbox_w5.out
        rw [hw5] at ffb0 ffb1 ffb2 ffb3 ffb4 ffb5
        clear hk5
        go_wp2_with fail
        rw [← hw5]
        clear hw5 zv0 zv1 ffv0 ffv1 ffv2 ffv3 ffv4 ffv5 ffb0 ffb1 ffb2 ffb3 ffb4 ffb5
        refine (HCp.out _ _ (work_below HD.out HB_w5.out)).mono ?_
        rintro e w5q ⟨u, rfl, hnw, hb⟩
        have Hbox_w5q := hide (held_below Hbox_w5.out hb)
        have Hres_w5q := hide (held_below Hres_w5.out hb)
        have HB_w5q : Hid (Below w.heap.size w w5q) := hide (HB_w5.out.trans (hb.mono HB_w5.out.size))
        have HZq : Hid (w5.heap.size ≤ w5q.heap.size) := hide hb.size
        clear hb
        obtain ⟨xa9, ca9, xb9, cb9, xc9, cc9, xd9, cd9, xe9, ce9, rfl⟩ := nw_form hnw
        have HRt := hide (ret_work (w := w) Hres_w5q.out.is (nw_own hnw) (by have := Hres_w5.out.le; have := HA.out; omega) (by have := HA.out; omega) HB_w5q.out)
        clear hnw
        obtain ⟨ffr0, ffr1, ffr2, ffr3, ffr4, ffr5⟩ := blk6h Hres_w5q.out
        have zz0 := (cell_at Hres_w5q.out.is 0).2
        have zz1 := (cell_at Hres_w5q.out.is 1).2
        have zz2 := (cell_at Hres_w5q.out.is 2).2
        have zz3 := (cell_at Hres_w5q.out.is 3).2
        have zz4 := (cell_at Hres_w5q.out.is 4).2
        have zz5 := (cell_at Hres_w5q.out.is 5).2
        go_wp2_with fail
        obtain ⟨f0, f1, f2, f3, f4, f5⟩ := blk6c HRt.out.1
        refine bodyPost_ret (v := .tuple #[.agg #[.slice xa9 k.ps.length ca9, .slice xb9 k.ls.length cb9, .int .i64 k.next, .slice xc9 k.us.length cc9, .slice xd9 k.gs.length cd9, .slice xe9 k.fs.length ce9], .int .i64 0]) (by simp [results, Tryd.results31, go_sem, f0, f1, f2, f3, f4, f5]) rfl ⟨_, by rw [HNo.out.2], by rw [HNo.out.1]; exact HRt.out.2.1, HRt.out.2.2⟩
      | true =>
        have HYes := hide (put_yes (k := k) (lf := lf) (ks := ks) (vs := vs) (cs := cs) (by unfold putB; rw [← HP.out.1, ← HTx.out, hwo, hok]; simp [hp]))
        have HWp2 := hide (fun u wx h => HWp.out u pg wx h)
        rw [hwo] at HWp2
        rw [hok] at HNt
        go_enter Tryd.func31, Tryd.ntmps31
        go_wp2_with fail
        rw [← hw0, ← ha0]
        clear hw0 ha0
        refine (HNt.out _ (sumTab_below HT.out HB_w0.out) (node_below HN.out HB_w0.out)).mono ?_
        rintro e w1 ⟨rfl, hb⟩
        have Hbox_w1 := hide (held_below Hbox_w0.out hb)
        have Hnbx_w1 := hide (held_below Hnbx_w0.out hb)
        have Hres_w1 := hide (held_below Hres_w0.out hb)
        have HB_w1 : Hid (Below w.heap.size w w1) := hide (HB_w0.out.trans (hb.mono HB_w0.out.size))
        clear hb
        obtain ⟨ffb0, ffb1, ffb2, ffb3, ffb4, ffb5⟩ := blk6h Hbox_w1.out
        go_wp2_with fail
        clear ffb0 ffb1 ffb2 ffb3 ffb4 ffb5
        refine (HGp.out _ _ (work_below HD.out HB_w1.out)).mono ?_
        rintro e w2 ⟨u, rfl, hown, hb⟩
        have Hbox_w2 := hide (held_below Hbox_w1.out hb)
        have Hnbx_w2 := hide (held_below Hnbx_w1.out hb)
        have Hres_w2 := hide (held_below Hres_w1.out hb)
        have HB_w2 : Hid (Below w.heap.size w w2) := hide (HB_w1.out.trans (hb.mono HB_w1.out.size))
        have HZ2 : Hid (w1.heap.size ≤ w2.heap.size) := hide hb.size
        clear hb
        have Hd3_w2 := hide (held_work hown)
        obtain ⟨xa3, ca3, xb3, cb3, xc3, cc3, xd3, cd3, xe3, ce3, rfl⟩ := work_form hown
        clear hown
        obtain ⟨g, hg⟩ : ∃ g, g = w2.heap.size := ⟨_, rfl⟩
        obtain ⟨w3, hnw⟩ : ∃ wx, wx = w2.alloc (Obj.cells #[.slice xa3 kg.ps.length ca3, .slice xb3 kg.ls.length cb3, .int .i64 kg.next, .slice xc3 kg.us.length cc3, .slice xd3 kg.gs.length cd3, .slice xe3 kg.fs.length ce3] 54) := ⟨_, rfl⟩
        have hnv := new_blk w2 #[.slice xa3 kg.ps.length ca3, .slice xb3 kg.ls.length cb3, .int .i64 kg.next, .slice xc3 kg.us.length cc3, .slice xd3 kg.gs.length cd3, .slice xe3 kg.fs.length ce3] 54
        rw [← hnw, ← hg] at hnv
        have hbv : Below w2.heap.size w2 w3 := by rw [← hg]; exact hnv.1
        have Hg_w3 := hide hnv.2
        have Hgt : Hid (w2.heap.size = g) := hide hg.symm
        have Hbox_w3 := hide (held_below Hbox_w2.out hbv)
        have Hnbx_w3 := hide (held_below Hnbx_w2.out hbv)
        have Hres_w3 := hide (held_below Hres_w2.out hbv)
        have Hd3_w3 := hide (held_below Hd3_w2.out hbv)
        have HB_w3 : Hid (Below w.heap.size w w3) := hide (HB_w2.out.trans (hbv.mono HB_w2.out.size))
        clear hnv hbv
        go_wp2_with fail
        rw [← hnw, ← hg]
        clear hnw hg
        refine (HWp2.out _ _ ?hda).mono ?_
        case hda => have h := (work_of_own Hd3_w3.out.is.1); obtain ⟨vp', vl', vu', vg', vf', e, hd, -⟩ := h; obtain ⟨rfl, rfl, -⟩ := agg6 e; rw [HGd.out.1, HGd.out.2] at hd ⊢; exact hd
        rintro e w4 ⟨ud, rfl, hownd, hb⟩
        have HZ4 : Hid (w3.heap.size ≤ w4.heap.size) := hide hb.size
        have Hbox_w4 := hide (held_below Hbox_w3.out hb)
        have Hnbx_w4 := hide (held_below Hnbx_w3.out hb)
        have Hres_w4 := hide (held_below Hres_w3.out hb)
        have Hd3_w4 := hide (held_below Hd3_w3.out hb)
        have Hg_w4 := hide (held_below Hg_w3.out hb)
        have HB_w4 : Hid (Below w.heap.size w w4) := hide (HB_w3.out.trans (hb.mono HB_w3.out.size))
        clear hb
        obtain ⟨xd, zd, yd, kd, rfl⟩ := disk_form hownd
        have HDd := hide hownd
        clear hownd
        obtain ⟨ffv0, ffv1, ffv2, ffv3, ffv4, ffv5⟩ := blk6h Hg_w4.out
        have zv0 := (cell_at Hg_w4.out.is 0).2
        have zv1 := (cell_at Hg_w4.out.is 1).2
        have hfin := put_fin (w := w) (kg := kg) (ls' := writeL k.ps k.ls pg t) (U := g) Hg_w4.out.is Hres_w4.out.is Hd3_w4.out.is.1 (fun j hj => by have := Hd3_w4.out.is.2 j hj; have := Hgt.out; omega) (Nat.le_refl _) (diskD HGd.out.1 HDd.out (by have := Hg_w3.out.le; omega)) (by have := Hres_w1.out.le; omega) (by have := HZ2.out; have := Hgt.out; omega) (by have := HA.out; omega) HB_w4.out
        obtain ⟨w6, hw6⟩ : ∃ w6, w6 = (w4.setCell ⟨g, 0, none⟩ (.slice xd k.ps.length zd)).setCell ⟨g, 1, none⟩ (.slice yd (writeL k.ps k.ls pg t).length kd) := ⟨_, rfl⟩
        rw [← hw6] at hfin
        have HRt := hide (ret_work (w := w) hfin.2.1 hfin.2.2.1 (by have := Hres_w1.out.le; omega) (by have := HA.out; omega) hfin.2.2.2)
        obtain ⟨vv0, vv1, vv2, vv3, vv4, vv5⟩ := blk6c hfin.1
        obtain ⟨rr0, rr1, rr2, rr3, rr4, rr5⟩ := blk6c hfin.2.1
        have zz0 := (cell_at hfin.2.1 0).2
        have zz1 := (cell_at hfin.2.1 1).2
        have zz2 := (cell_at hfin.2.1 2).2
        have zz3 := (cell_at hfin.2.1 3).2
        have zz4 := (cell_at hfin.2.1 4).2
        have zz5 := (cell_at hfin.2.1 5).2
        rw [hw6] at vv0 vv1 vv2 vv3 vv4 vv5 rr0 rr1 rr2 rr3 rr4 rr5 zz0 zz1 zz2 zz3 zz4 zz5
        have HW6 := hide hw6
        clear hfin hw6
        go_wp2_with fail
        rw [← HW6.out]
        obtain ⟨f0, f1, f2, f3, f4, f5⟩ := blk6c HRt.out.1
        refine bodyPost_ret (v := .tuple #[.agg #[.slice xd k.ps.length zd, .slice yd (writeL k.ps k.ls pg t).length kd, .int .i64 kg.next, .slice xc3 kg.us.length cc3, .slice xd3 kg.gs.length cd3, .slice xe3 kg.fs.length ce3], .int .i64 pg]) (by simp [results, Tryd.results31, go_sem, f0, f1, f2, f3, f4, f5]) rfl ⟨_, by rw [HYes.out.2, ← HP.out.1], by rw [HYes.out.1, ← HP.out.1, ← HP.out.2, ← HTx.out]; exact HRt.out.2.1, HRt.out.2.2⟩

set_option maxHeartbeats 8000000 in
set_option maxRecDepth 100000 in
theorem specPutNode_any (v : Value) (k : Wk) (hk : k.small) (nv0 : Value) (lf : Bool) (ks vs : List ByteArray) (cs : List Int) (n1 : ks.length ≤ 1048576) (n2 : vs.length ≤ 1048576) (n3 : cs.length ≤ 1048576) (n4 : ∀ s ∈ ks, s.size ≤ 1048576) (n5 : ∀ s ∈ vs, s.size ≤ 1048576) (w : World) (hd : WorkAt w v k) (hn : NodeAt w nv0 lf ks vs cs) :
    Calls Tryd.prog 28 #[v, nv0] w fun e w' => ∃ v', e = .returned (.tuple #[v', .int .i64 (putP k lf ks vs cs)]) ∧ WorkOwn w' w.heap.size v' (putK k lf ks vs cs) ∧ Below w.heap.size w w' := by
  have HNt := hide (fun wx h => specNodeText_any nv0 lf ks vs cs n1 n2 n3 n4 n5 wx h)
  have HCp := hide (fun u wx h => specWCopy_any u k hk wx h)
  have HGp := hide (fun u wx h => specGivePage_any u k hk wx h)
  have HWp := hide (fun u page wx h => specWritePage_any u k.ps k.ls page (nodeO lf ks vs cs) (Nat.le_trans (nodeO_small lf ks vs cs) (by omega)) hk.1 hk.2.2.1 hk.2.1 hk.2.2.2.1 wx h)
  have HGd := hide (give_disk k)
  have HD := hide hd
  have HN := hide hn
  obtain ⟨vp, vl, vu, vg, vf, rfl, -⟩ := hd
  obtain ⟨nk, nv, nc, rfl, -⟩ := hn
  clear hk n1 n2 n3 n4 n5
  obtain ⟨t, ht⟩ : ∃ t, t = nodeO lf ks vs cs := ⟨_, rfl⟩
  rw [← ht] at HNt HWp
  have HTx := hide ht
  clear ht
  obtain ⟨w0, hw0⟩ : ∃ w0, w0 = ((w.alloc (Obj.cells #[vp, vl, .int .i64 k.next, vu, vg, vf] 54)).alloc (Obj.cells #[.bool lf, nk, nv, nc] 58)).alloc (Obj.cells #[.slice none 0 0, .slice none 0 0, .int .i64 0, .slice none 0 0, .slice none 0 0, .slice none 0 0] 54) := ⟨_, rfl⟩
  have hb0 : Below w.heap.size w w0 := by rw [hw0]; exact (((Below.refl w.heap.size w).alloc (Nat.le_refl _) _).alloc (by simp) _).alloc (by simp; omega) _
  obtain ⟨q0, q1, q2, hs0⟩ := three_allocs w (Obj.cells #[vp, vl, .int .i64 k.next, vu, vg, vf] 54) (Obj.cells #[.bool lf, nk, nv, nc] 58) (Obj.cells #[.slice none 0 0, .slice none 0 0, .int .i64 0, .slice none 0 0, .slice none 0 0, .slice none 0 0] 54)
  rw [← hw0] at q0 q1 q2 hs0
  obtain ⟨a0, ha0⟩ : ∃ a, a = w.heap.size := ⟨_, rfl⟩
  rw [← ha0] at q0 q1 q2 hs0
  have HA : Hid (a0 = w.heap.size ∧ w0.heap.size = a0 + 3) := hide ⟨ha0, hs0⟩
  have HB_w0 := hide hb0
  have Hbox_w0 := hide (held_blk q0)
  have Hnbx_w0 := hide (held_blk q1)
  have Hres_w0 := hide (held_blk q2)
  clear hb0 q0 q1 q2 hs0
  cases hok : nodeOkB lf ks vs cs with
  | false =>
    have HNo := hide (put_no (k := k) (lf := lf) (ks := ks) (vs := vs) (cs := cs) (by unfold putB; rw [hok]; rfl))
    rw [hok] at HNt
    go_enter Tryd.func28, Tryd.ntmps28
    go_wp2_with fail
    rw [← hw0, ← ha0]
    clear hw0 ha0
    refine (HNt.out _ (node_below HN.out HB_w0.out)).mono ?_
    rintro e w1 ⟨rfl, hb⟩
    have Hbox_w1 := hide (held_below Hbox_w0.out hb)
    have Hnbx_w1 := hide (held_below Hnbx_w0.out hb)
    have Hres_w1 := hide (held_below Hres_w0.out hb)
    have HB_w1 : Hid (Below w.heap.size w w1) := hide (HB_w0.out.trans (hb.mono HB_w0.out.size))
    clear hb
    obtain ⟨ffb0, ffb1, ffb2, ffb3, ffb4, ffb5⟩ := blk6h Hbox_w1.out
    go_wp2_with fail
    clear ffb0 ffb1 ffb2 ffb3 ffb4 ffb5
    refine (HCp.out _ _ (work_below HD.out HB_w1.out)).mono ?_
    rintro e w1q ⟨u, rfl, hnw, hb⟩
    have Hbox_w1q := hide (held_below Hbox_w1.out hb)
    have Hnbx_w1q := hide (held_below Hnbx_w1.out hb)
    have Hres_w1q := hide (held_below Hres_w1.out hb)
    have HB_w1q : Hid (Below w.heap.size w w1q) := hide (HB_w1.out.trans (hb.mono HB_w1.out.size))
    have HZq : Hid (w1.heap.size ≤ w1q.heap.size) := hide hb.size
    clear hb
    obtain ⟨xa9, ca9, xb9, cb9, xc9, cc9, xd9, cd9, xe9, ce9, rfl⟩ := nw_form hnw
    have HRt := hide (ret_work (w := w) Hres_w1q.out.is (nw_own hnw) (by have := Hres_w1.out.le; have := HA.out; omega) (by have := HA.out; omega) HB_w1q.out)
    clear hnw
    obtain ⟨ffr0, ffr1, ffr2, ffr3, ffr4, ffr5⟩ := blk6h Hres_w1q.out
    have zz0 := (cell_at Hres_w1q.out.is 0).2
    have zz1 := (cell_at Hres_w1q.out.is 1).2
    have zz2 := (cell_at Hres_w1q.out.is 2).2
    have zz3 := (cell_at Hres_w1q.out.is 3).2
    have zz4 := (cell_at Hres_w1q.out.is 4).2
    have zz5 := (cell_at Hres_w1q.out.is 5).2
    go_wp2_with fail
    obtain ⟨f0, f1, f2, f3, f4, f5⟩ := blk6c HRt.out.1
    refine bodyPost_ret (v := .tuple #[.agg #[.slice xa9 k.ps.length ca9, .slice xb9 k.ls.length cb9, .int .i64 k.next, .slice xc9 k.us.length cc9, .slice xd9 k.gs.length cd9, .slice xe9 k.fs.length ce9], .int .i64 0]) (by simp [results, Tryd.results28, go_sem, f0, f1, f2, f3, f4, f5]) rfl ⟨_, by rw [HNo.out.2], by rw [HNo.out.1]; exact HRt.out.2.1, HRt.out.2.2⟩
  | true =>
    obtain ⟨pg, hpg⟩ : ∃ pg, pg = giveP k := ⟨_, rfl⟩
    obtain ⟨kg, hkg⟩ : ∃ kg, kg = giveK k := ⟨_, rfl⟩
    rw [← hpg, ← hkg] at HGp
    rw [← hkg] at HGd
    have HP := hide (⟨hpg, hkg⟩ : _ ∧ _)
    clear hpg hkg
    by_cases hp : pg = 0
    · have HNo := hide (put_no (k := k) (lf := lf) (ks := ks) (vs := vs) (cs := cs) (by unfold putB; rw [← HP.out.1, hp, hok]; simp))
      subst hp
      rw [hok] at HNt
      go_enter Tryd.func28, Tryd.ntmps28
      go_wp2_with fail
      rw [← hw0, ← ha0]
      clear hw0 ha0
      refine (HNt.out _ (node_below HN.out HB_w0.out)).mono ?_
      rintro e w1 ⟨rfl, hb⟩
      have Hbox_w1 := hide (held_below Hbox_w0.out hb)
      have Hnbx_w1 := hide (held_below Hnbx_w0.out hb)
      have Hres_w1 := hide (held_below Hres_w0.out hb)
      have HB_w1 : Hid (Below w.heap.size w w1) := hide (HB_w0.out.trans (hb.mono HB_w0.out.size))
      clear hb
      obtain ⟨ffb0, ffb1, ffb2, ffb3, ffb4, ffb5⟩ := blk6h Hbox_w1.out
      go_wp2_with fail
      clear ffb0 ffb1 ffb2 ffb3 ffb4 ffb5
      refine (HGp.out _ _ (work_below HD.out HB_w1.out)).mono ?_
      rintro e w2 ⟨u, rfl, hown, hb⟩
      have Hbox_w2 := hide (held_below Hbox_w1.out hb)
      have Hnbx_w2 := hide (held_below Hnbx_w1.out hb)
      have Hres_w2 := hide (held_below Hres_w1.out hb)
      have HB_w2 : Hid (Below w.heap.size w w2) := hide (HB_w1.out.trans (hb.mono HB_w1.out.size))
      have HZ2 : Hid (w1.heap.size ≤ w2.heap.size) := hide hb.size
      clear hb
      have Hd3_w2 := hide (held_work hown)
      obtain ⟨xa3, ca3, xb3, cb3, xc3, cc3, xd3, cd3, xe3, ce3, rfl⟩ := work_form hown
      clear hown
      obtain ⟨g, hg⟩ : ∃ g, g = w2.heap.size := ⟨_, rfl⟩
      obtain ⟨w3, hnw⟩ : ∃ wx, wx = w2.alloc (Obj.cells #[.slice xa3 kg.ps.length ca3, .slice xb3 kg.ls.length cb3, .int .i64 kg.next, .slice xc3 kg.us.length cc3, .slice xd3 kg.gs.length cd3, .slice xe3 kg.fs.length ce3] 54) := ⟨_, rfl⟩
      have hnv := new_blk w2 #[.slice xa3 kg.ps.length ca3, .slice xb3 kg.ls.length cb3, .int .i64 kg.next, .slice xc3 kg.us.length cc3, .slice xd3 kg.gs.length cd3, .slice xe3 kg.fs.length ce3] 54
      rw [← hnw, ← hg] at hnv
      have hbv : Below w2.heap.size w2 w3 := by rw [← hg]; exact hnv.1
      have Hg_w3 := hide hnv.2
      have Hgt : Hid (w2.heap.size = g) := hide hg.symm
      have Hbox_w3 := hide (held_below Hbox_w2.out hbv)
      have Hnbx_w3 := hide (held_below Hnbx_w2.out hbv)
      have Hres_w3 := hide (held_below Hres_w2.out hbv)
      have Hd3_w3 := hide (held_below Hd3_w2.out hbv)
      have HB_w3 : Hid (Below w.heap.size w w3) := hide (HB_w2.out.trans (hbv.mono HB_w2.out.size))
      clear hnv hbv
      obtain ⟨ffb0, ffb1, ffb2, ffb3, ffb4, ffb5⟩ := blk6h Hbox_w3.out
      rw [hnw] at ffb0 ffb1 ffb2 ffb3 ffb4 ffb5
      go_wp2_with fail
      rw [← hnw]
      clear hnw hg ffb0 ffb1 ffb2 ffb3 ffb4 ffb5
      refine (HCp.out _ _ (work_below HD.out HB_w3.out)).mono ?_
      rintro e w3q ⟨u, rfl, hnw, hb⟩
      have Hbox_w3q := hide (held_below Hbox_w3.out hb)
      have Hnbx_w3q := hide (held_below Hnbx_w3.out hb)
      have Hres_w3q := hide (held_below Hres_w3.out hb)
      have Hd3_w3q := hide (held_below Hd3_w3.out hb)
      have Hg_w3q := hide (held_below Hg_w3.out hb)
      have HB_w3q : Hid (Below w.heap.size w w3q) := hide (HB_w3.out.trans (hb.mono HB_w3.out.size))
      have HZq : Hid (w3.heap.size ≤ w3q.heap.size) := hide hb.size
      clear hb
      obtain ⟨xa9, ca9, xb9, cb9, xc9, cc9, xd9, cd9, xe9, ce9, rfl⟩ := nw_form hnw
      have HRt := hide (ret_work (w := w) Hres_w3q.out.is (nw_own hnw) (by have := Hres_w3.out.le; have := HA.out; omega) (by have := HA.out; omega) HB_w3q.out)
      clear hnw
      obtain ⟨ffr0, ffr1, ffr2, ffr3, ffr4, ffr5⟩ := blk6h Hres_w3q.out
      have zz0 := (cell_at Hres_w3q.out.is 0).2
      have zz1 := (cell_at Hres_w3q.out.is 1).2
      have zz2 := (cell_at Hres_w3q.out.is 2).2
      have zz3 := (cell_at Hres_w3q.out.is 3).2
      have zz4 := (cell_at Hres_w3q.out.is 4).2
      have zz5 := (cell_at Hres_w3q.out.is 5).2
      go_wp2_with fail
      obtain ⟨f0, f1, f2, f3, f4, f5⟩ := blk6c HRt.out.1
      refine bodyPost_ret (v := .tuple #[.agg #[.slice xa9 k.ps.length ca9, .slice xb9 k.ls.length cb9, .int .i64 k.next, .slice xc9 k.us.length cc9, .slice xd9 k.gs.length cd9, .slice xe9 k.fs.length ce9], .int .i64 0]) (by simp [results, Tryd.results28, go_sem, f0, f1, f2, f3, f4, f5]) rfl ⟨_, by rw [HNo.out.2], by rw [HNo.out.1]; exact HRt.out.2.1, HRt.out.2.2⟩
    · cases hwo : writeOk k.ps k.ls pg t with
      | false =>
        have HNo := hide (put_no (k := k) (lf := lf) (ks := ks) (vs := vs) (cs := cs) (by unfold putB; rw [← HP.out.1, ← HTx.out, hwo]; simp))
        have HWp2 := hide (fun u wx h => HWp.out u pg wx h)
        rw [hwo] at HWp2
        rw [hok] at HNt
        go_enter Tryd.func28, Tryd.ntmps28
        go_wp2_with fail
        rw [← hw0, ← ha0]
        clear hw0 ha0
        refine (HNt.out _ (node_below HN.out HB_w0.out)).mono ?_
        rintro e w1 ⟨rfl, hb⟩
        have Hbox_w1 := hide (held_below Hbox_w0.out hb)
        have Hnbx_w1 := hide (held_below Hnbx_w0.out hb)
        have Hres_w1 := hide (held_below Hres_w0.out hb)
        have HB_w1 : Hid (Below w.heap.size w w1) := hide (HB_w0.out.trans (hb.mono HB_w0.out.size))
        clear hb
        obtain ⟨ffb0, ffb1, ffb2, ffb3, ffb4, ffb5⟩ := blk6h Hbox_w1.out
        go_wp2_with fail
        clear ffb0 ffb1 ffb2 ffb3 ffb4 ffb5
        refine (HGp.out _ _ (work_below HD.out HB_w1.out)).mono ?_
        rintro e w2 ⟨u, rfl, hown, hb⟩
        have Hbox_w2 := hide (held_below Hbox_w1.out hb)
        have Hnbx_w2 := hide (held_below Hnbx_w1.out hb)
        have Hres_w2 := hide (held_below Hres_w1.out hb)
        have HB_w2 : Hid (Below w.heap.size w w2) := hide (HB_w1.out.trans (hb.mono HB_w1.out.size))
        have HZ2 : Hid (w1.heap.size ≤ w2.heap.size) := hide hb.size
        clear hb
        have Hd3_w2 := hide (held_work hown)
        obtain ⟨xa3, ca3, xb3, cb3, xc3, cc3, xd3, cd3, xe3, ce3, rfl⟩ := work_form hown
        clear hown
        obtain ⟨g, hg⟩ : ∃ g, g = w2.heap.size := ⟨_, rfl⟩
        obtain ⟨w3, hnw⟩ : ∃ wx, wx = w2.alloc (Obj.cells #[.slice xa3 kg.ps.length ca3, .slice xb3 kg.ls.length cb3, .int .i64 kg.next, .slice xc3 kg.us.length cc3, .slice xd3 kg.gs.length cd3, .slice xe3 kg.fs.length ce3] 54) := ⟨_, rfl⟩
        have hnv := new_blk w2 #[.slice xa3 kg.ps.length ca3, .slice xb3 kg.ls.length cb3, .int .i64 kg.next, .slice xc3 kg.us.length cc3, .slice xd3 kg.gs.length cd3, .slice xe3 kg.fs.length ce3] 54
        rw [← hnw, ← hg] at hnv
        have hbv : Below w2.heap.size w2 w3 := by rw [← hg]; exact hnv.1
        have Hg_w3 := hide hnv.2
        have Hgt : Hid (w2.heap.size = g) := hide hg.symm
        have Hbox_w3 := hide (held_below Hbox_w2.out hbv)
        have Hnbx_w3 := hide (held_below Hnbx_w2.out hbv)
        have Hres_w3 := hide (held_below Hres_w2.out hbv)
        have Hd3_w3 := hide (held_below Hd3_w2.out hbv)
        have HB_w3 : Hid (Below w.heap.size w w3) := hide (HB_w2.out.trans (hbv.mono HB_w2.out.size))
        clear hnv hbv
        go_wp2_with fail
        rw [← hnw, ← hg]
        clear hnw hg
        refine (HWp2.out _ _ ?hda).mono ?_
        case hda => have h := (work_of_own Hd3_w3.out.is.1); obtain ⟨vp', vl', vu', vg', vf', e, hd, -⟩ := h; obtain ⟨rfl, rfl, -⟩ := agg6 e; rw [HGd.out.1, HGd.out.2] at hd ⊢; exact hd
        rintro e w4 ⟨ud, rfl, hownd, hb⟩
        have HZ4 : Hid (w3.heap.size ≤ w4.heap.size) := hide hb.size
        have Hbox_w4 := hide (held_below Hbox_w3.out hb)
        have Hnbx_w4 := hide (held_below Hnbx_w3.out hb)
        have Hres_w4 := hide (held_below Hres_w3.out hb)
        have Hd3_w4 := hide (held_below Hd3_w3.out hb)
        have Hg_w4 := hide (held_below Hg_w3.out hb)
        have HB_w4 : Hid (Below w.heap.size w w4) := hide (HB_w3.out.trans (hb.mono HB_w3.out.size))
        clear hb
        obtain ⟨xd, zd, yd, kd, rfl⟩ := disk_form hownd
        have HDd := hide hownd
        clear hownd
        obtain ⟨w5, hw5⟩ : ∃ w5, w5 = w4.alloc (Obj.cells #[.slice xd k.ps.length zd, .slice yd (writeL k.ps k.ls pg t).length kd] 32) := ⟨_, rfl⟩
        have hb5 : Below w4.heap.size w4 w5 := by rw [hw5]; exact (Below.refl _ _).alloc (Nat.le_refl _) _
        have Hbox_w5 := hide (held_below Hbox_w4.out hb5)
        have Hnbx_w5 := hide (held_below Hnbx_w4.out hb5)
        have Hres_w5 := hide (held_below Hres_w4.out hb5)
        have Hd3_w5 := hide (held_below Hd3_w4.out hb5)
        have Hg_w5 := hide (held_below Hg_w4.out hb5)
        have HB_w5 : Hid (Below w.heap.size w w5) := hide (HB_w4.out.trans (hb5.mono HB_w4.out.size))
        clear hb5
        obtain ⟨ffb0, ffb1, ffb2, ffb3, ffb4, ffb5⟩ := blk6h Hbox_w5.out
        rw [hw5] at ffb0 ffb1 ffb2 ffb3 ffb4 ffb5
        go_wp2_with fail
        rw [← hw5]
        clear hw5 ffb0 ffb1 ffb2 ffb3 ffb4 ffb5
        refine (HCp.out _ _ (work_below HD.out HB_w5.out)).mono ?_
        rintro e w5q ⟨u, rfl, hnw, hb⟩
        have Hbox_w5q := hide (held_below Hbox_w5.out hb)
        have Hnbx_w5q := hide (held_below Hnbx_w5.out hb)
        have Hres_w5q := hide (held_below Hres_w5.out hb)
        have Hd3_w5q := hide (held_below Hd3_w5.out hb)
        have Hg_w5q := hide (held_below Hg_w5.out hb)
        have HB_w5q : Hid (Below w.heap.size w w5q) := hide (HB_w5.out.trans (hb.mono HB_w5.out.size))
        have HZq : Hid (w5.heap.size ≤ w5q.heap.size) := hide hb.size
        clear hb
        obtain ⟨xa9, ca9, xb9, cb9, xc9, cc9, xd9, cd9, xe9, ce9, rfl⟩ := nw_form hnw
        have HRt := hide (ret_work (w := w) Hres_w5q.out.is (nw_own hnw) (by have := Hres_w5.out.le; have := HA.out; omega) (by have := HA.out; omega) HB_w5q.out)
        clear hnw
        obtain ⟨ffr0, ffr1, ffr2, ffr3, ffr4, ffr5⟩ := blk6h Hres_w5q.out
        have zz0 := (cell_at Hres_w5q.out.is 0).2
        have zz1 := (cell_at Hres_w5q.out.is 1).2
        have zz2 := (cell_at Hres_w5q.out.is 2).2
        have zz3 := (cell_at Hres_w5q.out.is 3).2
        have zz4 := (cell_at Hres_w5q.out.is 4).2
        have zz5 := (cell_at Hres_w5q.out.is 5).2
        go_wp2_with fail
        obtain ⟨f0, f1, f2, f3, f4, f5⟩ := blk6c HRt.out.1
        refine bodyPost_ret (v := .tuple #[.agg #[.slice xa9 k.ps.length ca9, .slice xb9 k.ls.length cb9, .int .i64 k.next, .slice xc9 k.us.length cc9, .slice xd9 k.gs.length cd9, .slice xe9 k.fs.length ce9], .int .i64 0]) (by simp [results, Tryd.results28, go_sem, f0, f1, f2, f3, f4, f5]) rfl ⟨_, by rw [HNo.out.2], by rw [HNo.out.1]; exact HRt.out.2.1, HRt.out.2.2⟩
      | true =>
        have HYes := hide (put_yes (k := k) (lf := lf) (ks := ks) (vs := vs) (cs := cs) (by unfold putB; rw [← HP.out.1, ← HTx.out, hwo, hok]; simp [hp]))
        have HWp2 := hide (fun u wx h => HWp.out u pg wx h)
        rw [hwo] at HWp2
        rw [hok] at HNt
        go_enter Tryd.func28, Tryd.ntmps28
        go_wp2_with fail
        rw [← hw0, ← ha0]
        clear hw0 ha0
        refine (HNt.out _ (node_below HN.out HB_w0.out)).mono ?_
        rintro e w1 ⟨rfl, hb⟩
        have Hbox_w1 := hide (held_below Hbox_w0.out hb)
        have Hnbx_w1 := hide (held_below Hnbx_w0.out hb)
        have Hres_w1 := hide (held_below Hres_w0.out hb)
        have HB_w1 : Hid (Below w.heap.size w w1) := hide (HB_w0.out.trans (hb.mono HB_w0.out.size))
        clear hb
        obtain ⟨ffb0, ffb1, ffb2, ffb3, ffb4, ffb5⟩ := blk6h Hbox_w1.out
        go_wp2_with fail
        clear ffb0 ffb1 ffb2 ffb3 ffb4 ffb5
        refine (HGp.out _ _ (work_below HD.out HB_w1.out)).mono ?_
        rintro e w2 ⟨u, rfl, hown, hb⟩
        have Hbox_w2 := hide (held_below Hbox_w1.out hb)
        have Hnbx_w2 := hide (held_below Hnbx_w1.out hb)
        have Hres_w2 := hide (held_below Hres_w1.out hb)
        have HB_w2 : Hid (Below w.heap.size w w2) := hide (HB_w1.out.trans (hb.mono HB_w1.out.size))
        have HZ2 : Hid (w1.heap.size ≤ w2.heap.size) := hide hb.size
        clear hb
        have Hd3_w2 := hide (held_work hown)
        obtain ⟨xa3, ca3, xb3, cb3, xc3, cc3, xd3, cd3, xe3, ce3, rfl⟩ := work_form hown
        clear hown
        obtain ⟨g, hg⟩ : ∃ g, g = w2.heap.size := ⟨_, rfl⟩
        obtain ⟨w3, hnw⟩ : ∃ wx, wx = w2.alloc (Obj.cells #[.slice xa3 kg.ps.length ca3, .slice xb3 kg.ls.length cb3, .int .i64 kg.next, .slice xc3 kg.us.length cc3, .slice xd3 kg.gs.length cd3, .slice xe3 kg.fs.length ce3] 54) := ⟨_, rfl⟩
        have hnv := new_blk w2 #[.slice xa3 kg.ps.length ca3, .slice xb3 kg.ls.length cb3, .int .i64 kg.next, .slice xc3 kg.us.length cc3, .slice xd3 kg.gs.length cd3, .slice xe3 kg.fs.length ce3] 54
        rw [← hnw, ← hg] at hnv
        have hbv : Below w2.heap.size w2 w3 := by rw [← hg]; exact hnv.1
        have Hg_w3 := hide hnv.2
        have Hgt : Hid (w2.heap.size = g) := hide hg.symm
        have Hbox_w3 := hide (held_below Hbox_w2.out hbv)
        have Hnbx_w3 := hide (held_below Hnbx_w2.out hbv)
        have Hres_w3 := hide (held_below Hres_w2.out hbv)
        have Hd3_w3 := hide (held_below Hd3_w2.out hbv)
        have HB_w3 : Hid (Below w.heap.size w w3) := hide (HB_w2.out.trans (hbv.mono HB_w2.out.size))
        clear hnv hbv
        go_wp2_with fail
        rw [← hnw, ← hg]
        clear hnw hg
        refine (HWp2.out _ _ ?hda).mono ?_
        case hda => have h := (work_of_own Hd3_w3.out.is.1); obtain ⟨vp', vl', vu', vg', vf', e, hd, -⟩ := h; obtain ⟨rfl, rfl, -⟩ := agg6 e; rw [HGd.out.1, HGd.out.2] at hd ⊢; exact hd
        rintro e w4 ⟨ud, rfl, hownd, hb⟩
        have HZ4 : Hid (w3.heap.size ≤ w4.heap.size) := hide hb.size
        have Hbox_w4 := hide (held_below Hbox_w3.out hb)
        have Hnbx_w4 := hide (held_below Hnbx_w3.out hb)
        have Hres_w4 := hide (held_below Hres_w3.out hb)
        have Hd3_w4 := hide (held_below Hd3_w3.out hb)
        have Hg_w4 := hide (held_below Hg_w3.out hb)
        have HB_w4 : Hid (Below w.heap.size w w4) := hide (HB_w3.out.trans (hb.mono HB_w3.out.size))
        clear hb
        obtain ⟨xd, zd, yd, kd, rfl⟩ := disk_form hownd
        have HDd := hide hownd
        clear hownd
        obtain ⟨ffv0, ffv1, ffv2, ffv3, ffv4, ffv5⟩ := blk6h Hg_w4.out
        have zv0 := (cell_at Hg_w4.out.is 0).2
        have zv1 := (cell_at Hg_w4.out.is 1).2
        obtain ⟨w5, hw5⟩ : ∃ w5, w5 = w4.alloc (Obj.cells #[.slice xd k.ps.length zd, .slice yd (writeL k.ps k.ls pg t).length kd] 32) := ⟨_, rfl⟩
        have hb5 : Below w4.heap.size w4 w5 := by rw [hw5]; exact (Below.refl _ _).alloc (Nat.le_refl _) _
        have HDd5 := hide (diskOwn_below HDd.out hb5)
        clear zv0 zv1 ffv0 ffv1 ffv2 ffv3 ffv4 ffv5
        have Hbox_w5 := hide (held_below Hbox_w4.out hb5)
        have Hnbx_w5 := hide (held_below Hnbx_w4.out hb5)
        have Hres_w5 := hide (held_below Hres_w4.out hb5)
        have Hd3_w5 := hide (held_below Hd3_w4.out hb5)
        have Hg_w5 := hide (held_below Hg_w4.out hb5)
        have HB_w5 : Hid (Below w.heap.size w w5) := hide (HB_w4.out.trans (hb5.mono HB_w4.out.size))
        clear hb5
        obtain ⟨ffv0, ffv1, ffv2, ffv3, ffv4, ffv5⟩ := blk6h Hg_w5.out
        have zv0 := (cell_at Hg_w5.out.is 0).2
        have zv1 := (cell_at Hg_w5.out.is 1).2
        rw [hw5] at zv0 zv1 ffv0 ffv1 ffv2 ffv3 ffv4 ffv5
        have hfin := put_fin (w := w) (kg := kg) (ls' := writeL k.ps k.ls pg t) (U := g) Hg_w5.out.is Hres_w5.out.is Hd3_w5.out.is.1 (fun j hj => by have := Hd3_w5.out.is.2 j hj; have := Hgt.out; omega) (Nat.le_refl _) (diskD HGd.out.1 HDd5.out (by have := Hg_w3.out.le; omega)) (by have := Hres_w1.out.le; omega) (by have := HZ2.out; have := Hgt.out; omega) (by have := HA.out; omega) HB_w5.out
        obtain ⟨w6, hw6⟩ : ∃ w6, w6 = (w5.setCell ⟨g, 0, none⟩ (.slice xd k.ps.length zd)).setCell ⟨g, 1, none⟩ (.slice yd (writeL k.ps k.ls pg t).length kd) := ⟨_, rfl⟩
        rw [← hw6] at hfin
        have HRt := hide (ret_work (w := w) hfin.2.1 hfin.2.2.1 (by have := Hres_w1.out.le; omega) (by have := HA.out; omega) hfin.2.2.2)
        obtain ⟨vv0, vv1, vv2, vv3, vv4, vv5⟩ := blk6c hfin.1
        obtain ⟨rr0, rr1, rr2, rr3, rr4, rr5⟩ := blk6c hfin.2.1
        have zz0 := (cell_at hfin.2.1 0).2
        have zz1 := (cell_at hfin.2.1 1).2
        have zz2 := (cell_at hfin.2.1 2).2
        have zz3 := (cell_at hfin.2.1 3).2
        have zz4 := (cell_at hfin.2.1 4).2
        have zz5 := (cell_at hfin.2.1 5).2
        rw [hw6, hw5] at vv0 vv1 vv2 vv3 vv4 vv5 rr0 rr1 rr2 rr3 rr4 rr5 zz0 zz1 zz2 zz3 zz4 zz5
        have HW6 := hide hw6
        have HW5 := hide hw5
        clear hfin hw6 hw5
        go_wp2_with fail
        rw [← HW5.out]
        rw [← HW6.out]
        obtain ⟨f0, f1, f2, f3, f4, f5⟩ := blk6c HRt.out.1
        refine bodyPost_ret (v := .tuple #[.agg #[.slice xd k.ps.length zd, .slice yd (writeL k.ps k.ls pg t).length kd, .int .i64 kg.next, .slice xc3 kg.us.length cc3, .slice xd3 kg.gs.length cd3, .slice xe3 kg.fs.length ce3], .int .i64 pg]) (by simp [results, Tryd.results28, go_sem, f0, f1, f2, f3, f4, f5]) rfl ⟨_, by rw [HYes.out.2, ← HP.out.1], by rw [HYes.out.1, ← HP.out.1, ← HP.out.2, ← HTx.out]; exact HRt.out.2.1, HRt.out.2.2⟩

end Go.Proofs.YtejfmjejdopglaaDoor

namespace Go.Proofs.YtejfmjejdopglaaDoor
open Go.RowKit

theorem step_alloc6 {ops : Array Oper} {o : Oper} {a : Act} {K : Act → World → Prop} {Q : Exit → Act → World → Prop} {E : Prop} {W : World} (hgd : o.guard = none) (ho : o.op = .alloc 54) (h : K (a.put o.dst (.pointer (some ⟨W.heap.size, 0, none⟩))) (W.alloc (.cells #[.slice none 0 0, .slice none 0 0, .int .i64 0, .slice none 0 0, .slice none 0 0, .slice none 0 0] 54 (0, 0)))) :
    if Region.wanted o (yielded ops a.tmps) = true then Oper.wp Tryd.prog o a W K Q else E := by
  have hw : Region.wanted o (yielded ops a.tmps) = true := by simp [Region.wanted, hgd]
  rw [if_pos hw]
  unfold Oper.wp execOp
  simp only [ho]
  simp [go_sem]
  exact h

theorem step_call2W {P : Program} (w : World) {ops : Array Oper} {o : Oper} {a : Act} {K : Act → World → Prop} {Q : Exit → Act → World → Prop} {E : Prop} (hgd : o.guard = none) (f : FuncId) (fn : Func) (hfn : P.funcs[f]? = some fn) (hname : ¬ fn.name = "runtime.NumGoroutine") (hbody : ¬ fn.body = none) (s x : Operand) (ts : Array TypeId)
    (ho : o.op = .call { callee := .value (.func f), args := #[s, x], argTypes := ts }) (u v : Value) (hs : a.eval s = u) (hx : a.eval x = v)
    (R : Ending → World → Prop) (hc : Calls P f #[u, v] w R) (hR : ∀ e w', R e w' → ∃ r, e = .returned r ∧ K (a.put o.dst r) w') :
    if Region.wanted o (yielded ops a.tmps) = true then Oper.wp P o a w K Q else E := by
  have hw : Region.wanted o (yielded ops a.tmps) = true := by simp [Region.wanted, hgd]
  rw [if_pos hw]
  unfold Oper.wp execOp
  have hf : a.eval (.func f) = .func (.func f) #[] #[] := rfl
  simp only [ho, resolve, invoke, hf, Deferred.ofValue, callFunc, Sem.run_bind, Sem.run_pure, Result.andThen_ok, List.map_toArray, List.map_cons, List.map_nil, hs, hx]
  simp [go_sem, hfn, hname, hbody]
  refine hc.mono ?_
  intro e w' h
  obtain ⟨r, rfl, hk⟩ := hR e w' h
  exact hk

theorem nodeOwn_downP {w : World} {B B' : Nat} {v : Value} {lf : Bool} {ks vs : List ByteArray} {cs : List Int} (h : NodeOwn w B v lf ks vs cs) (hB : B' ≤ B) : NodeOwn w B' v lf ks vs cs := by
  obtain ⟨vk, vv, vc, e, h1, h2, h3, h4⟩ := h
  exact ⟨vk, vv, vc, e, own_down h1 hB, own_down h2 hB, own_down h3 hB, h4⟩

set_option maxHeartbeats 8000000 in
theorem put_walk {ops : Array Oper} {Q : Exit → Act → World → Prop} {S : World → Prop} {W0 : World} {k kr : Wk} {lf : Bool} {ks vs : List ByteArray} {cs : List Int} {pg : Int} {vW vN : Value}
    (d6 d27 d28 d29 d30 d31 d32 d33 d34 : Nat) (tm : Value → Value → Value → Value → Value → Value → Value → Array Value)
    (s6 : ∀ t6 t27 t29 t31 t32 t33 t34 x, (tm t6 t27 t29 t31 t32 t33 t34).setIfInBounds d6 x = tm x t27 t29 t31 t32 t33 t34)
    (s27 : ∀ t6 t27 t29 t31 t32 t33 t34 x, (tm t6 t27 t29 t31 t32 t33 t34).setIfInBounds d27 x = tm t6 x t29 t31 t32 t33 t34)
    (s29 : ∀ t6 t27 t29 t31 t32 t33 t34 x, (tm t6 t27 t29 t31 t32 t33 t34).setIfInBounds d29 x = tm t6 t27 x t31 t32 t33 t34)
    (s31 : ∀ t6 t27 t29 t31 t32 t33 t34 x, (tm t6 t27 t29 t31 t32 t33 t34).setIfInBounds d31 x = tm t6 t27 t29 x t32 t33 t34)
    (s32 : ∀ t6 t27 t29 t31 t32 t33 t34 x, (tm t6 t27 t29 t31 t32 t33 t34).setIfInBounds d32 x = tm t6 t27 t29 t31 x t33 t34)
    (s33 : ∀ t6 t27 t29 t31 t32 t33 t34 x, (tm t6 t27 t29 t31 t32 t33 t34).setIfInBounds d33 x = tm t6 t27 t29 t31 t32 x t34)
    (s34 : ∀ t6 t27 t29 t31 t32 t33 t34 x, (tm t6 t27 t29 t31 t32 t33 t34).setIfInBounds d34 x = tm t6 t27 t29 t31 t32 t33 x)
    (e28 : ∀ t6 t27 t29 t31 t32 t33 t34, (⟨tm t6 t27 t29 t31 t32 t33 t34, []⟩ : Act).eval (.tmp d28) = vW)
    (e30 : ∀ t6 t27 t29 t31 t32 t33 t34, (⟨tm t6 t27 t29 t31 t32 t33 t34, []⟩ : Act).eval (.tmp d30) = vN)
    (e27 : ∀ t6 t27 t29 t31 t32 t33 t34, (⟨tm t6 t27 t29 t31 t32 t33 t34, []⟩ : Act).eval (.tmp d27) = t27)
    (e29 : ∀ t6 t27 t29 t31 t32 t33 t34, (⟨tm t6 t27 t29 t31 t32 t33 t34, []⟩ : Act).eval (.tmp d29) = t29)
    (e31 : ∀ t6 t27 t29 t31 t32 t33 t34, (⟨tm t6 t27 t29 t31 t32 t33 t34, []⟩ : Act).eval (.tmp d31) = t31)
    (e32 : ∀ t6 t27 t29 t31 t32 t33 t34, (⟨tm t6 t27 t29 t31 t32 t33 t34, []⟩ : Act).eval (.tmp d32) = t32)
    (hS : ∀ W, Below W0.heap.size W0 W → S W)
    (hQp : ∀ c a w x, Q (.panic c) (a.put (some d27) x) w → Q (.panic c) a w) (hQp2 : ∀ c a w x, Q (.panic c) (a.put (some d33) x) w → Q (.panic c) a w) (hQp3 : ∀ c a w x, Q (.panic c) (a.put (some d34) x) w → Q (.panic c) a w)
    (f1 f3 f4 : FuncId) {n1 n3 n4 : Func} (hf1 : Tryd.prog.funcs[f1]? = some n1) (hf3 : Tryd.prog.funcs[f3]? = some n3) (hf4 : Tryd.prog.funcs[f4]? = some n4)
    (m1 : ¬ n1.name = "runtime.NumGoroutine") (m3 : ¬ n3.name = "runtime.NumGoroutine") (m4 : ¬ n4.name = "runtime.NumGoroutine") (b1 : ¬ n1.body = none) (b3 : ¬ n3.body = none) (b4 : ¬ n4.body = none) (ts1 ts3 ts4 : Array TypeId)
    (h1 : ∀ W, Below W0.heap.size W0 W → Calls Tryd.prog f1 #[vW] W fun e w' => ∃ v', e = .returned v' ∧ WorkOwn w' W.heap.size v' k ∧ Below W.heap.size W w')
    (h3 : ∀ W, Below W0.heap.size W0 W → Calls Tryd.prog f3 #[vN] W fun e w' => ∃ v', e = .returned v' ∧ NodeOwn w' W.heap.size v' lf ks vs cs ∧ Below W.heap.size W w')
    (h4 : ∀ W u un, Below W0.heap.size W0 W → WorkAt W u k → NodeAt W un lf ks vs cs → Calls Tryd.prog f4 #[u, un] W fun e w' => ∃ v', e = .returned (.tuple #[v', .int .i64 pg]) ∧ WorkOwn w' W.heap.size v' kr ∧ Below W.heap.size W w')
    {o1 : Oper} (i1 : ops[1]? = some o1) (j1 : o1.guard = none) (x1 : o1.dst = some d29) (p1 : o1.op = .call { callee := .value (.func f1), args := #[.tmp d28], argTypes := ts1 })
    {o3 : Oper} (i3 : ops[3]? = some o3) (j3 : o3.guard = none) (x3 : o3.dst = some d31) (p3 : o3.op = .call { callee := .value (.func f3), args := #[.tmp d30], argTypes := ts3 })
    {o4 : Oper} (i4 : ops[4]? = some o4) (j4 : o4.guard = none) (x4 : o4.dst = some d32) (p4 : o4.op = .call { callee := .value (.func f4), args := #[.tmp d29, .tmp d31], argTypes := ts4 })
    {o5 : Oper} (i5 : ops[5]? = some o5) (j5 : o5.guard = none) (x5 : o5.dst = some d27) (p5 : o5.op = .move (.tmp d32))
    {o6 : Oper} (i6 : ops[6]? = some o6) (j6 : o6.guard = none) (x6 : o6.dst = some d33) (p6 : o6.op = .extract (.tmp d27) 0)
    {o7 : Oper} (i7 : ops[7]? = some o7) (j7 : o7.guard = none) (x7 : o7.dst = some d34) (p7 : o7.op = .extract (.tmp d27) 1)
    {o8 : Oper} (i8 : ops[8]? = some o8) (j8 : o8.guard = none) (x8 : o8.dst = some d6) (p8 : o8.op = .alloc 54)
    (hns : Region.noSelect ops = true)
    (r00 : Region.ready .any ops #[true, false, true, false, false, false, false, false, false, false, false] = [1, 8])
    (r01 : Region.ready .any ops #[true, false, true, false, false, false, false, false, true, false, false] = [1])
    (r10 : Region.ready .any ops #[true, true, true, false, false, false, false, false, false, false, false] = [3, 8])
    (r11 : Region.ready .any ops #[true, true, true, false, false, false, false, false, true, false, false] = [3])
    (r20 : Region.ready .any ops #[true, true, true, true, false, false, false, false, false, false, false] = [4, 8])
    (r21 : Region.ready .any ops #[true, true, true, true, false, false, false, false, true, false, false] = [4])
    (y00 : Region.free .any ops #[true, true, true, true, true, false, false, false, false, false, false] 5 = true) (z00 : (Region.ready .any ops #[true, true, true, true, true, false, false, false, false, false, false]).contains 5 = true)
    (y10 : Region.free .any ops #[true, true, true, true, true, true, false, false, false, false, false] 6 = true) (z10 : (Region.ready .any ops #[true, true, true, true, true, true, false, false, false, false, false]).contains 6 = true)
    (y20 : Region.free .any ops #[true, true, true, true, true, true, true, false, false, false, false] 7 = true) (z20 : (Region.ready .any ops #[true, true, true, true, true, true, true, false, false, false, false]).contains 7 = true)
    (y01 : Region.free .any ops #[true, true, true, true, true, false, false, false, true, false, false] 5 = true) (z01 : (Region.ready .any ops #[true, true, true, true, true, false, false, false, true, false, false]).contains 5 = true)
    (y11 : Region.free .any ops #[true, true, true, true, true, true, false, false, true, false, false] 6 = true) (z11 : (Region.ready .any ops #[true, true, true, true, true, true, false, false, true, false, false]).contains 6 = true)
    (y21 : Region.free .any ops #[true, true, true, true, true, true, true, false, true, false, false] 7 = true) (z21 : (Region.ready .any ops #[true, true, true, true, true, true, true, false, true, false, false]).contains 7 = true)
    (r3 : Region.ready .any ops #[true, true, true, true, true, true, true, true, false, false, false] = [8])
    (hfin : ∀ W g u t29 t31, Below W0.heap.size W0 W → WorkOwn W W0.heap.size u kr → W.heap[g]? = some (.cells #[.slice none 0 0, .slice none 0 0, .int .i64 0, .slice none 0 0, .slice none 0 0, .slice none 0 0] 54 (0, 0)) → W0.heap.size ≤ g → (∀ j, workBlocks u j → j ≠ g) → wpAnyH Tryd.prog .any ops Q S 2 #[true, true, true, true, true, true, true, true, true, false, false] ⟨tm (.pointer (some ⟨g, 0, none⟩)) (.tuple #[u, .int .i64 pg]) t29 t31 (.tuple #[u, .int .i64 pg]) u (.int .i64 pg), []⟩ W) :
    wpAnyH Tryd.prog .any ops Q S 9 #[true, false, true, false, false, false, false, false, false, false, false] ⟨tm undef undef undef undef undef undef undef, []⟩ W0 := by
  have e32p : ∀ t6 t27 t29 t31 t32 t33 t34, (tm t6 t27 t29 t31 t32 t33 t34)[d32]?.getD undef = t32 := fun t6 t27 t29 t31 t32 t33 t34 => by have h := e32 t6 t27 t29 t31 t32 t33 t34; simpa [Act.eval, go_sem] using h
  have e27p : ∀ t6 t27 t29 t31 t32 t33 t34, (tm t6 t27 t29 t31 t32 t33 t34)[d27]?.getD undef = t27 := fun t6 t27 t29 t31 t32 t33 t34 => by have h := e27 t6 t27 t29 t31 t32 t33 t34; simpa [Act.eval, go_sem] using h
  have yv : ∀ {o : Oper} {a : Act} {v : Value} (hg : o.guard = none) (h : ∀ w, (execOp a.eval o).run Tryd.prog w = .ok (.value v) w), YieldsIf Tryd.prog ops S o v a := fun hg h => Or.inl ⟨by simp [Region.wanted, hg], fun w _ => h w⟩
  have F0 : ∀ (W : World) (u t6 t29 t31 : Value), Below W0.heap.size W0 W → WorkOwn W W0.heap.size u kr → wpAnyH Tryd.prog .any ops Q S 3 #[true, true, true, true, true, true, true, true, false, false, false] ⟨tm t6 (.tuple #[u, .int .i64 pg]) t29 t31 (.tuple #[u, .int .i64 pg]) u (.int .i64 pg), []⟩ W := by
    intro W u t6 t29 t31 hl hu
    refine wpAnyH_ready r3 (by simp) ?_
    refine AllReadyH.cons i8 (fun K hK => ?_) AllReadyH.nil
    refine step_alloc6 j8 p8 ?_
    rw [x8]
    have hb : Below W.heap.size W (W.alloc (.cells #[.slice none 0 0, .slice none 0 0, .int .i64 0, .slice none 0 0, .slice none 0 0, .slice none 0 0] 54 (0, 0))) := (Below.refl _ _).alloc (Nat.le_refl _) _
    have hl2 := hl.trans (hb.mono hl.size)
    refine hK.out _ _ (hS _ hl2) (fun _ => ?_)
    rw [Act.put, s6]
    exact hfin _ W.heap.size u t29 t31 hl2 (workOwn_below hu hb) (heap_alloc_new W _) hl.size (fun j hj => Nat.ne_of_lt (workOwn_lt hu j hj).2)
  have E0 : ∀ (W : World) (u t6 t27 t29 t31 t33 t34 : Value)  (hl : Below W0.heap.size W0 W) (hu : WorkOwn W W0.heap.size u kr), wpAnyH Tryd.prog .any ops Q S 6 #[true, true, true, true, true, false, false, false, false, false, false] ⟨tm t6 t27 t29 t31 (.tuple #[u, .int .i64 pg]) t33 t34, []⟩ W := by
    intro W u t6 t27 t29 t31 t33 t34  hl hu
    refine takeW 5 d27 (.tuple #[u, .int .i64 pg]) i5 x5 hns y00 z00 (fun c a w h => hQp c a w _ (by rw [x5] at h; exact h)) (yv j5 (fun w => by simp [execOp, p5, e32p, go_sem])) (hS W hl) ?_
    rw [s27]
    refine takeW 6 d33 u i6 x6 hns y10 z10 (fun c a w h => hQp2 c a w _ (by rw [x6] at h; exact h)) (yv j6 (fun w => by simp [execOp, p6, e27p, go_sem])) (hS W hl) ?_
    rw [s33]
    refine takeW 7 d34 (.int .i64 pg) i7 x7 hns y20 z20 (fun c a w h => hQp3 c a w _ (by rw [x7] at h; exact h)) (yv j7 (fun w => by simp [execOp, p7, e27p, go_sem])) (hS W hl) ?_
    rw [s34]
    exact F0 W u t6 t29 t31 hl hu
  have E1 : ∀ (W : World) (u t27 t29 t31 t33 t34 : Value) (g : Nat) (hl : Below W0.heap.size W0 W) (hu : WorkOwn W W0.heap.size u kr) (hgb : W.heap[g]? = some (.cells #[.slice none 0 0, .slice none 0 0, .int .i64 0, .slice none 0 0, .slice none 0 0, .slice none 0 0] 54 (0, 0))) (hg0 : W0.heap.size ≤ g) (hne : (∀ j, workBlocks u j → j ≠ g)), wpAnyH Tryd.prog .any ops Q S 5 #[true, true, true, true, true, false, false, false, true, false, false] ⟨tm (.pointer (some ⟨g, 0, none⟩)) t27 t29 t31 (.tuple #[u, .int .i64 pg]) t33 t34, []⟩ W := by
    intro W u t27 t29 t31 t33 t34 g hl hu hgb hg0 hne
    refine takeW 5 d27 (.tuple #[u, .int .i64 pg]) i5 x5 hns y01 z01 (fun c a w h => hQp c a w _ (by rw [x5] at h; exact h)) (yv j5 (fun w => by simp [execOp, p5, e32p, go_sem])) (hS W hl) ?_
    rw [s27]
    refine takeW 6 d33 u i6 x6 hns y11 z11 (fun c a w h => hQp2 c a w _ (by rw [x6] at h; exact h)) (yv j6 (fun w => by simp [execOp, p6, e27p, go_sem])) (hS W hl) ?_
    rw [s33]
    refine takeW 7 d34 (.int .i64 pg) i7 x7 hns y21 z21 (fun c a w h => hQp3 c a w _ (by rw [x7] at h; exact h)) (yv j7 (fun w => by simp [execOp, p7, e27p, go_sem])) (hS W hl) ?_
    rw [s34]
    exact hfin W g u t29 t31 hl hu hgb hg0 hne
  have G21 : ∀ (W : World) (g : Nat) (t27 : Value) (t29 t31 t32 t33 t34 : Value), Below W0.heap.size W0 W → W.heap[g]? = some (.cells #[.slice none 0 0, .slice none 0 0, .int .i64 0, .slice none 0 0, .slice none 0 0, .slice none 0 0] 54 (0, 0)) → W0.heap.size ≤ g → WorkOwn W W0.heap.size t29 k → NodeOwn W W0.heap.size t31 lf ks vs cs → wpAnyH Tryd.prog .any ops Q S 6 #[true, true, true, true, false, false, false, false, true, false, false] ⟨tm (.pointer (some ⟨g, 0, none⟩)) t27 t29 t31 t32 t33 t34, []⟩ W := by
    intro W g t27 t29 t31 t32 t33 t34 hl hgb hg0 hw hnd
    refine wpAnyH_ready r21 (by simp) ?_
    refine AllReadyH.cons i4 (fun K hK => ?_) ?_
    · refine step_call2W W j4 f4 _ hf4 m4 b4 (.tmp d29) (.tmp d31) ts4 p4 t29 t31 (e29 _ _ _ _ _ _ _) (e31 _ _ _ _ _ _ _) _ (h4 W t29 t31 hl (work_of_own hw) (node_of_own hnd)) (fun e w' hr => ?_)
      obtain ⟨v', rfl, hown, hb⟩ := hr
      refine ⟨_, rfl, ?_⟩
      rw [x4]
      have hl2 := hl.trans (hb.mono hl.size)
      refine hK.out _ _ (hS _ hl2) (fun _ => ?_)
      rw [Act.put, s32]
      exact E1 w' v'  _ _ _ _ _ g hl2 (workOwn_down hown hl.size) (staysW hgb hb) hg0 (fun j hj => by have := (workOwn_lt hown j hj).1; have := (Array.getElem?_eq_some_iff.1 hgb).1; omega)
    exact AllReadyH.nil
  have G20 : ∀ (W : World) (t6 : Value) (t27 : Value) (t29 t31 t32 t33 t34 : Value), Below W0.heap.size W0 W → WorkOwn W W0.heap.size t29 k → NodeOwn W W0.heap.size t31 lf ks vs cs → wpAnyH Tryd.prog .any ops Q S 7 #[true, true, true, true, false, false, false, false, false, false, false] ⟨tm t6 t27 t29 t31 t32 t33 t34, []⟩ W := by
    intro W t6 t27 t29 t31 t32 t33 t34 hl hw hnd
    refine wpAnyH_ready r20 (by simp) ?_
    refine AllReadyH.cons i4 (fun K hK => ?_) ?_
    · refine step_call2W W j4 f4 _ hf4 m4 b4 (.tmp d29) (.tmp d31) ts4 p4 t29 t31 (e29 _ _ _ _ _ _ _) (e31 _ _ _ _ _ _ _) _ (h4 W t29 t31 hl (work_of_own hw) (node_of_own hnd)) (fun e w' hr => ?_)
      obtain ⟨v', rfl, hown, hb⟩ := hr
      refine ⟨_, rfl, ?_⟩
      rw [x4]
      have hl2 := hl.trans (hb.mono hl.size)
      refine hK.out _ _ (hS _ hl2) (fun _ => ?_)
      rw [Act.put, s32]
      exact E0 w' v' t6 _ _ _ _ _ hl2 (workOwn_down hown hl.size)
    refine AllReadyH.cons i8 (fun K hK => ?_) AllReadyH.nil
    refine step_alloc6 j8 p8 ?_
    rw [x8]
    have hb : Below W.heap.size W (W.alloc (.cells #[.slice none 0 0, .slice none 0 0, .int .i64 0, .slice none 0 0, .slice none 0 0, .slice none 0 0] 54 (0, 0))) := (Below.refl _ _).alloc (Nat.le_refl _) _
    have hl2 := hl.trans (hb.mono hl.size)
    refine hK.out _ _ (hS _ hl2) (fun _ => ?_)
    rw [Act.put, s6]
    exact G21 _ W.heap.size _ _ _ _ _ _ hl2 (heap_alloc_new W _) hl.size (workOwn_below hw hb) (nodeOwn_below hnd hb)
  have G11 : ∀ (W : World) (g : Nat) (t27 : Value) (t29 t31 t32 t33 t34 : Value), Below W0.heap.size W0 W → W.heap[g]? = some (.cells #[.slice none 0 0, .slice none 0 0, .int .i64 0, .slice none 0 0, .slice none 0 0, .slice none 0 0] 54 (0, 0)) → W0.heap.size ≤ g → WorkOwn W W0.heap.size t29 k → wpAnyH Tryd.prog .any ops Q S 7 #[true, true, true, false, false, false, false, false, true, false, false] ⟨tm (.pointer (some ⟨g, 0, none⟩)) t27 t29 t31 t32 t33 t34, []⟩ W := by
    intro W g t27 t29 t31 t32 t33 t34 hl hgb hg0 hw
    refine wpAnyH_ready r11 (by simp) ?_
    refine AllReadyH.cons i3 (fun K hK => ?_) ?_
    · refine step_call1 W j3 f3 _ hf3 m3 b3 (.tmp d30) ts3 p3 vN (e30 _ _ _ _ _ _ _) _ (h3 W hl) (fun e w' hr => ?_)
      obtain ⟨v', rfl, hown, hb⟩ := hr
      refine ⟨_, rfl, ?_⟩
      rw [x3]
      have hl2 := hl.trans (hb.mono hl.size)
      refine hK.out _ _ (hS _ hl2) (fun _ => ?_)
      rw [Act.put, s31]
      exact G21 w' g _ _ _ _ _ _ hl2 (staysW hgb hb) hg0 (workOwn_below hw hb) (nodeOwn_downP hown hl.size)
    exact AllReadyH.nil
  have G10 : ∀ (W : World) (t6 : Value) (t27 : Value) (t29 t31 t32 t33 t34 : Value), Below W0.heap.size W0 W → WorkOwn W W0.heap.size t29 k → wpAnyH Tryd.prog .any ops Q S 8 #[true, true, true, false, false, false, false, false, false, false, false] ⟨tm t6 t27 t29 t31 t32 t33 t34, []⟩ W := by
    intro W t6 t27 t29 t31 t32 t33 t34 hl hw
    refine wpAnyH_ready r10 (by simp) ?_
    refine AllReadyH.cons i3 (fun K hK => ?_) ?_
    · refine step_call1 W j3 f3 _ hf3 m3 b3 (.tmp d30) ts3 p3 vN (e30 _ _ _ _ _ _ _) _ (h3 W hl) (fun e w' hr => ?_)
      obtain ⟨v', rfl, hown, hb⟩ := hr
      refine ⟨_, rfl, ?_⟩
      rw [x3]
      have hl2 := hl.trans (hb.mono hl.size)
      refine hK.out _ _ (hS _ hl2) (fun _ => ?_)
      rw [Act.put, s31]
      exact G20 w' t6 _ _ _ _ _ _ hl2 (workOwn_below hw hb) (nodeOwn_downP hown hl.size)
    refine AllReadyH.cons i8 (fun K hK => ?_) AllReadyH.nil
    refine step_alloc6 j8 p8 ?_
    rw [x8]
    have hb : Below W.heap.size W (W.alloc (.cells #[.slice none 0 0, .slice none 0 0, .int .i64 0, .slice none 0 0, .slice none 0 0, .slice none 0 0] 54 (0, 0))) := (Below.refl _ _).alloc (Nat.le_refl _) _
    have hl2 := hl.trans (hb.mono hl.size)
    refine hK.out _ _ (hS _ hl2) (fun _ => ?_)
    rw [Act.put, s6]
    exact G11 _ W.heap.size _ _ _ _ _ _ hl2 (heap_alloc_new W _) hl.size (workOwn_below hw hb)
  have G01 : ∀ (W : World) (g : Nat) (t27 : Value) (t29 t31 t32 t33 t34 : Value), Below W0.heap.size W0 W → W.heap[g]? = some (.cells #[.slice none 0 0, .slice none 0 0, .int .i64 0, .slice none 0 0, .slice none 0 0, .slice none 0 0] 54 (0, 0)) → W0.heap.size ≤ g → wpAnyH Tryd.prog .any ops Q S 8 #[true, false, true, false, false, false, false, false, true, false, false] ⟨tm (.pointer (some ⟨g, 0, none⟩)) t27 t29 t31 t32 t33 t34, []⟩ W := by
    intro W g t27 t29 t31 t32 t33 t34 hl hgb hg0
    refine wpAnyH_ready r01 (by simp) ?_
    refine AllReadyH.cons i1 (fun K hK => ?_) ?_
    · refine step_call1 W j1 f1 _ hf1 m1 b1 (.tmp d28) ts1 p1 vW (e28 _ _ _ _ _ _ _) _ (h1 W hl) (fun e w' hr => ?_)
      obtain ⟨v', rfl, hown, hb⟩ := hr
      refine ⟨_, rfl, ?_⟩
      rw [x1]
      have hl2 := hl.trans (hb.mono hl.size)
      refine hK.out _ _ (hS _ hl2) (fun _ => ?_)
      rw [Act.put, s29]
      exact G11 w' g _ _ _ _ _ _ hl2 (staysW hgb hb) hg0 (workOwn_down hown hl.size)
    exact AllReadyH.nil
  have G00 : ∀ (W : World) (t6 : Value) (t27 : Value) (t29 t31 t32 t33 t34 : Value), Below W0.heap.size W0 W → wpAnyH Tryd.prog .any ops Q S 9 #[true, false, true, false, false, false, false, false, false, false, false] ⟨tm t6 t27 t29 t31 t32 t33 t34, []⟩ W := by
    intro W t6 t27 t29 t31 t32 t33 t34 hl
    refine wpAnyH_ready r00 (by simp) ?_
    refine AllReadyH.cons i1 (fun K hK => ?_) ?_
    · refine step_call1 W j1 f1 _ hf1 m1 b1 (.tmp d28) ts1 p1 vW (e28 _ _ _ _ _ _ _) _ (h1 W hl) (fun e w' hr => ?_)
      obtain ⟨v', rfl, hown, hb⟩ := hr
      refine ⟨_, rfl, ?_⟩
      rw [x1]
      have hl2 := hl.trans (hb.mono hl.size)
      refine hK.out _ _ (hS _ hl2) (fun _ => ?_)
      rw [Act.put, s29]
      exact G10 w' t6 _ _ _ _ _ _ hl2 (workOwn_down hown hl.size)
    refine AllReadyH.cons i8 (fun K hK => ?_) AllReadyH.nil
    refine step_alloc6 j8 p8 ?_
    rw [x8]
    have hb : Below W.heap.size W (W.alloc (.cells #[.slice none 0 0, .slice none 0 0, .int .i64 0, .slice none 0 0, .slice none 0 0, .slice none 0 0] 54 (0, 0))) := (Below.refl _ _).alloc (Nat.le_refl _) _
    have hl2 := hl.trans (hb.mono hl.size)
    refine hK.out _ _ (hS _ hl2) (fun _ => ?_)
    rw [Act.put, s6]
    exact G01 _ W.heap.size _ _ _ _ _ _ hl2 (heap_alloc_new W _) hl.size
  exact G00 W0 undef undef undef undef undef undef undef (Below.refl _ _)
end Go.Proofs.YtejfmjejdopglaaDoor

namespace Go.Proofs.YtejfmjejdopglaaDoor
open Go.RowKit

theorem set_same {T : Array Value} {d : Nat} {x : Value} (h : T[d]? = some x) : T.setIfInBounds d x = T := by
  apply Array.ext_getElem?
  intro i
  by_cases e : d = i
  · subst e
    rw [Array.getElem?_setIfInBounds_self_of_lt (Array.getElem?_eq_some_iff.1 h).1, h]
  · rw [Array.getElem?_setIfInBounds_ne e]

def ch (T : Array Value) (d6 d27 d29 d31 d32 d33 d34 : Nat) (t6 t27 t29 t31 t32 t33 t34 : Value) : Array Value := ((((((T.setIfInBounds d6 t6).setIfInBounds d27 t27).setIfInBounds d29 t29).setIfInBounds d31 t31).setIfInBounds d32 t32).setIfInBounds d33 t33).setIfInBounds d34 t34


/-- no two slots are one -/
structure Apart7 (d6 d27 d29 d31 d32 d33 d34 : Nat) : Prop where
  n6_27 : d6 ≠ d27
  n6_29 : d6 ≠ d29
  n6_31 : d6 ≠ d31
  n6_32 : d6 ≠ d32
  n6_33 : d6 ≠ d33
  n6_34 : d6 ≠ d34
  n27_29 : d27 ≠ d29
  n27_31 : d27 ≠ d31
  n27_32 : d27 ≠ d32
  n27_33 : d27 ≠ d33
  n27_34 : d27 ≠ d34
  n29_31 : d29 ≠ d31
  n29_32 : d29 ≠ d32
  n29_33 : d29 ≠ d33
  n29_34 : d29 ≠ d34
  n31_32 : d31 ≠ d32
  n31_33 : d31 ≠ d33
  n31_34 : d31 ≠ d34
  n32_33 : d32 ≠ d33
  n32_34 : d32 ≠ d34
  n33_34 : d33 ≠ d34

theorem ch_set6 {T : Array Value} {d6 d27 d29 d31 d32 d33 d34 : Nat} (h : Apart7 d6 d27 d29 d31 d32 d33 d34) (t6 t27 t29 t31 t32 t33 t34 x : Value) : (ch T d6 d27 d29 d31 d32 d33 d34 t6 t27 t29 t31 t32 t33 t34).setIfInBounds d6 x = ch T d6 d27 d29 d31 d32 d33 d34 x t27 t29 t31 t32 t33 t34 := by
  unfold ch
  rw [Array.setIfInBounds_comm _ _ h.n6_34.symm, Array.setIfInBounds_comm _ _ h.n6_33.symm, Array.setIfInBounds_comm _ _ h.n6_32.symm, Array.setIfInBounds_comm _ _ h.n6_31.symm, Array.setIfInBounds_comm _ _ h.n6_29.symm, Array.setIfInBounds_comm _ _ h.n6_27.symm, Array.setIfInBounds_setIfInBounds]

theorem ch_set27 {T : Array Value} {d6 d27 d29 d31 d32 d33 d34 : Nat} (h : Apart7 d6 d27 d29 d31 d32 d33 d34) (t6 t27 t29 t31 t32 t33 t34 x : Value) : (ch T d6 d27 d29 d31 d32 d33 d34 t6 t27 t29 t31 t32 t33 t34).setIfInBounds d27 x = ch T d6 d27 d29 d31 d32 d33 d34 t6 x t29 t31 t32 t33 t34 := by
  unfold ch
  rw [Array.setIfInBounds_comm _ _ h.n27_34.symm, Array.setIfInBounds_comm _ _ h.n27_33.symm, Array.setIfInBounds_comm _ _ h.n27_32.symm, Array.setIfInBounds_comm _ _ h.n27_31.symm, Array.setIfInBounds_comm _ _ h.n27_29.symm, Array.setIfInBounds_setIfInBounds]

theorem ch_set29 {T : Array Value} {d6 d27 d29 d31 d32 d33 d34 : Nat} (h : Apart7 d6 d27 d29 d31 d32 d33 d34) (t6 t27 t29 t31 t32 t33 t34 x : Value) : (ch T d6 d27 d29 d31 d32 d33 d34 t6 t27 t29 t31 t32 t33 t34).setIfInBounds d29 x = ch T d6 d27 d29 d31 d32 d33 d34 t6 t27 x t31 t32 t33 t34 := by
  unfold ch
  rw [Array.setIfInBounds_comm _ _ h.n29_34.symm, Array.setIfInBounds_comm _ _ h.n29_33.symm, Array.setIfInBounds_comm _ _ h.n29_32.symm, Array.setIfInBounds_comm _ _ h.n29_31.symm, Array.setIfInBounds_setIfInBounds]

theorem ch_set31 {T : Array Value} {d6 d27 d29 d31 d32 d33 d34 : Nat} (h : Apart7 d6 d27 d29 d31 d32 d33 d34) (t6 t27 t29 t31 t32 t33 t34 x : Value) : (ch T d6 d27 d29 d31 d32 d33 d34 t6 t27 t29 t31 t32 t33 t34).setIfInBounds d31 x = ch T d6 d27 d29 d31 d32 d33 d34 t6 t27 t29 x t32 t33 t34 := by
  unfold ch
  rw [Array.setIfInBounds_comm _ _ h.n31_34.symm, Array.setIfInBounds_comm _ _ h.n31_33.symm, Array.setIfInBounds_comm _ _ h.n31_32.symm, Array.setIfInBounds_setIfInBounds]

theorem ch_set32 {T : Array Value} {d6 d27 d29 d31 d32 d33 d34 : Nat} (h : Apart7 d6 d27 d29 d31 d32 d33 d34) (t6 t27 t29 t31 t32 t33 t34 x : Value) : (ch T d6 d27 d29 d31 d32 d33 d34 t6 t27 t29 t31 t32 t33 t34).setIfInBounds d32 x = ch T d6 d27 d29 d31 d32 d33 d34 t6 t27 t29 t31 x t33 t34 := by
  unfold ch
  rw [Array.setIfInBounds_comm _ _ h.n32_34.symm, Array.setIfInBounds_comm _ _ h.n32_33.symm, Array.setIfInBounds_setIfInBounds]

theorem ch_set33 {T : Array Value} {d6 d27 d29 d31 d32 d33 d34 : Nat} (h : Apart7 d6 d27 d29 d31 d32 d33 d34) (t6 t27 t29 t31 t32 t33 t34 x : Value) : (ch T d6 d27 d29 d31 d32 d33 d34 t6 t27 t29 t31 t32 t33 t34).setIfInBounds d33 x = ch T d6 d27 d29 d31 d32 d33 d34 t6 t27 t29 t31 t32 x t34 := by
  unfold ch
  rw [Array.setIfInBounds_comm _ _ h.n33_34.symm, Array.setIfInBounds_setIfInBounds]

theorem ch_set34 {T : Array Value} {d6 d27 d29 d31 d32 d33 d34 : Nat} (_h : Apart7 d6 d27 d29 d31 d32 d33 d34) (t6 t27 t29 t31 t32 t33 t34 x : Value) : (ch T d6 d27 d29 d31 d32 d33 d34 t6 t27 t29 t31 t32 t33 t34).setIfInBounds d34 x = ch T d6 d27 d29 d31 d32 d33 d34 t6 t27 t29 t31 t32 t33 x := by
  unfold ch
  rw [Array.setIfInBounds_setIfInBounds]

theorem ch_get6 {T : Array Value} {d6 d27 d29 d31 d32 d33 d34 : Nat} (h : Apart7 d6 d27 d29 d31 d32 d33 d34) (hs : d6 < T.size) (t6 t27 t29 t31 t32 t33 t34 : Value) : (ch T d6 d27 d29 d31 d32 d33 d34 t6 t27 t29 t31 t32 t33 t34)[d6]? = some t6 := by
  unfold ch
  rw [Array.getElem?_setIfInBounds_ne h.n6_34.symm, Array.getElem?_setIfInBounds_ne h.n6_33.symm, Array.getElem?_setIfInBounds_ne h.n6_32.symm, Array.getElem?_setIfInBounds_ne h.n6_31.symm, Array.getElem?_setIfInBounds_ne h.n6_29.symm, Array.getElem?_setIfInBounds_ne h.n6_27.symm, Array.getElem?_setIfInBounds_self_of_lt (by (try simp); exact hs)]

theorem ch_get27 {T : Array Value} {d6 d27 d29 d31 d32 d33 d34 : Nat} (h : Apart7 d6 d27 d29 d31 d32 d33 d34) (hs : d27 < T.size) (t6 t27 t29 t31 t32 t33 t34 : Value) : (ch T d6 d27 d29 d31 d32 d33 d34 t6 t27 t29 t31 t32 t33 t34)[d27]? = some t27 := by
  unfold ch
  rw [Array.getElem?_setIfInBounds_ne h.n27_34.symm, Array.getElem?_setIfInBounds_ne h.n27_33.symm, Array.getElem?_setIfInBounds_ne h.n27_32.symm, Array.getElem?_setIfInBounds_ne h.n27_31.symm, Array.getElem?_setIfInBounds_ne h.n27_29.symm, Array.getElem?_setIfInBounds_self_of_lt (by (try simp); exact hs)]

theorem ch_get29 {T : Array Value} {d6 d27 d29 d31 d32 d33 d34 : Nat} (h : Apart7 d6 d27 d29 d31 d32 d33 d34) (hs : d29 < T.size) (t6 t27 t29 t31 t32 t33 t34 : Value) : (ch T d6 d27 d29 d31 d32 d33 d34 t6 t27 t29 t31 t32 t33 t34)[d29]? = some t29 := by
  unfold ch
  rw [Array.getElem?_setIfInBounds_ne h.n29_34.symm, Array.getElem?_setIfInBounds_ne h.n29_33.symm, Array.getElem?_setIfInBounds_ne h.n29_32.symm, Array.getElem?_setIfInBounds_ne h.n29_31.symm, Array.getElem?_setIfInBounds_self_of_lt (by (try simp); exact hs)]

theorem ch_get31 {T : Array Value} {d6 d27 d29 d31 d32 d33 d34 : Nat} (h : Apart7 d6 d27 d29 d31 d32 d33 d34) (hs : d31 < T.size) (t6 t27 t29 t31 t32 t33 t34 : Value) : (ch T d6 d27 d29 d31 d32 d33 d34 t6 t27 t29 t31 t32 t33 t34)[d31]? = some t31 := by
  unfold ch
  rw [Array.getElem?_setIfInBounds_ne h.n31_34.symm, Array.getElem?_setIfInBounds_ne h.n31_33.symm, Array.getElem?_setIfInBounds_ne h.n31_32.symm, Array.getElem?_setIfInBounds_self_of_lt (by (try simp); exact hs)]

theorem ch_get32 {T : Array Value} {d6 d27 d29 d31 d32 d33 d34 : Nat} (h : Apart7 d6 d27 d29 d31 d32 d33 d34) (hs : d32 < T.size) (t6 t27 t29 t31 t32 t33 t34 : Value) : (ch T d6 d27 d29 d31 d32 d33 d34 t6 t27 t29 t31 t32 t33 t34)[d32]? = some t32 := by
  unfold ch
  rw [Array.getElem?_setIfInBounds_ne h.n32_34.symm, Array.getElem?_setIfInBounds_ne h.n32_33.symm, Array.getElem?_setIfInBounds_self_of_lt (by (try simp); exact hs)]

theorem ch_get33 {T : Array Value} {d6 d27 d29 d31 d32 d33 d34 : Nat} (h : Apart7 d6 d27 d29 d31 d32 d33 d34) (hs : d33 < T.size) (t6 t27 t29 t31 t32 t33 t34 : Value) : (ch T d6 d27 d29 d31 d32 d33 d34 t6 t27 t29 t31 t32 t33 t34)[d33]? = some t33 := by
  unfold ch
  rw [Array.getElem?_setIfInBounds_ne h.n33_34.symm, Array.getElem?_setIfInBounds_self_of_lt (by (try simp); exact hs)]

theorem ch_get34 {T : Array Value} {d6 d27 d29 d31 d32 d33 d34 : Nat} (_h : Apart7 d6 d27 d29 d31 d32 d33 d34) (hs : d34 < T.size) (t6 t27 t29 t31 t32 t33 t34 : Value) : (ch T d6 d27 d29 d31 d32 d33 d34 t6 t27 t29 t31 t32 t33 t34)[d34]? = some t34 := by
  unfold ch
  rw [Array.getElem?_setIfInBounds_self_of_lt (by (try simp); exact hs)]

theorem ch_other {T : Array Value} {d6 d27 d29 d31 d32 d33 d34 i : Nat} {y : Value} (m6 : d6 ≠ i) (m27 : d27 ≠ i) (m29 : d29 ≠ i) (m31 : d31 ≠ i) (m32 : d32 ≠ i) (m33 : d33 ≠ i) (m34 : d34 ≠ i) (hs : T[i]? = some y) (t6 t27 t29 t31 t32 t33 t34 : Value) : (ch T d6 d27 d29 d31 d32 d33 d34 t6 t27 t29 t31 t32 t33 t34)[i]? = some y := by
  unfold ch
  rw [Array.getElem?_setIfInBounds_ne m34, Array.getElem?_setIfInBounds_ne m33, Array.getElem?_setIfInBounds_ne m32, Array.getElem?_setIfInBounds_ne m31, Array.getElem?_setIfInBounds_ne m29, Array.getElem?_setIfInBounds_ne m27, Array.getElem?_setIfInBounds_ne m6]
  exact hs

theorem ch_undef {T : Array Value} {d6 d27 d29 d31 d32 d33 d34 : Nat} (u6 : T[d6]? = some undef) (u27 : T[d27]? = some undef) (u29 : T[d29]? = some undef) (u31 : T[d31]? = some undef) (u32 : T[d32]? = some undef) (u33 : T[d33]? = some undef) (u34 : T[d34]? = some undef) : ch T d6 d27 d29 d31 d32 d33 d34 undef undef undef undef undef undef undef = T := by
  unfold ch
  rw [set_same u6, set_same u27, set_same u29, set_same u31, set_same u32, set_same u33, set_same u34]

theorem eval_of {T : Array Value} {i : Nat} {y : Value} (h : T[i]? = some y) : (⟨T, []⟩ : Act).eval (.tmp i) = y := by
  simp [Act.eval, h]

set_option maxHeartbeats 8000000 in
theorem put_walkT {ops : Array Oper} {Q : Exit → Act → World → Prop} {S : World → Prop} {W0 : World} {k kr : Wk} {lf : Bool} {ks vs : List ByteArray} {cs : List Int} {pg : Int} {vW vN : Value}
    (d6 d27 d28 d29 d30 d31 d32 d33 d34 : Nat) (T : Array Value) (hA : Apart7 d6 d27 d29 d31 d32 d33 d34) (u6 : T[d6]? = some undef) (u27 : T[d27]? = some undef) (u29 : T[d29]? = some undef) (u31 : T[d31]? = some undef) (u32 : T[d32]? = some undef) (u33 : T[d33]? = some undef) (u34 : T[d34]? = some undef) (g28 : T[d28]? = some vW) (g30 : T[d30]? = some vN) (ma6 : d6 ≠ d28) (ma27 : d27 ≠ d28) (ma29 : d29 ≠ d28) (ma31 : d31 ≠ d28) (ma32 : d32 ≠ d28) (ma33 : d33 ≠ d28) (ma34 : d34 ≠ d28) (mb6 : d6 ≠ d30) (mb27 : d27 ≠ d30) (mb29 : d29 ≠ d30) (mb31 : d31 ≠ d30) (mb32 : d32 ≠ d30) (mb33 : d33 ≠ d30) (mb34 : d34 ≠ d30)
    (hS : ∀ W, Below W0.heap.size W0 W → S W)
    (hQp : ∀ c a w x, Q (.panic c) (a.put (some d27) x) w → Q (.panic c) a w) (hQp2 : ∀ c a w x, Q (.panic c) (a.put (some d33) x) w → Q (.panic c) a w) (hQp3 : ∀ c a w x, Q (.panic c) (a.put (some d34) x) w → Q (.panic c) a w)
    (f1 f3 f4 : FuncId) {n1 n3 n4 : Func} (hf1 : Tryd.prog.funcs[f1]? = some n1) (hf3 : Tryd.prog.funcs[f3]? = some n3) (hf4 : Tryd.prog.funcs[f4]? = some n4)
    (m1 : ¬ n1.name = "runtime.NumGoroutine") (m3 : ¬ n3.name = "runtime.NumGoroutine") (m4 : ¬ n4.name = "runtime.NumGoroutine") (b1 : ¬ n1.body = none) (b3 : ¬ n3.body = none) (b4 : ¬ n4.body = none) (ts1 ts3 ts4 : Array TypeId)
    (h1 : ∀ W, Below W0.heap.size W0 W → Calls Tryd.prog f1 #[vW] W fun e w' => ∃ v', e = .returned v' ∧ WorkOwn w' W.heap.size v' k ∧ Below W.heap.size W w')
    (h3 : ∀ W, Below W0.heap.size W0 W → Calls Tryd.prog f3 #[vN] W fun e w' => ∃ v', e = .returned v' ∧ NodeOwn w' W.heap.size v' lf ks vs cs ∧ Below W.heap.size W w')
    (h4 : ∀ W u un, Below W0.heap.size W0 W → WorkAt W u k → NodeAt W un lf ks vs cs → Calls Tryd.prog f4 #[u, un] W fun e w' => ∃ v', e = .returned (.tuple #[v', .int .i64 pg]) ∧ WorkOwn w' W.heap.size v' kr ∧ Below W.heap.size W w')
    {o1 : Oper} (i1 : ops[1]? = some o1) (j1 : o1.guard = none) (x1 : o1.dst = some d29) (p1 : o1.op = .call { callee := .value (.func f1), args := #[.tmp d28], argTypes := ts1 })
    {o3 : Oper} (i3 : ops[3]? = some o3) (j3 : o3.guard = none) (x3 : o3.dst = some d31) (p3 : o3.op = .call { callee := .value (.func f3), args := #[.tmp d30], argTypes := ts3 })
    {o4 : Oper} (i4 : ops[4]? = some o4) (j4 : o4.guard = none) (x4 : o4.dst = some d32) (p4 : o4.op = .call { callee := .value (.func f4), args := #[.tmp d29, .tmp d31], argTypes := ts4 })
    {o5 : Oper} (i5 : ops[5]? = some o5) (j5 : o5.guard = none) (x5 : o5.dst = some d27) (p5 : o5.op = .move (.tmp d32))
    {o6 : Oper} (i6 : ops[6]? = some o6) (j6 : o6.guard = none) (x6 : o6.dst = some d33) (p6 : o6.op = .extract (.tmp d27) 0)
    {o7 : Oper} (i7 : ops[7]? = some o7) (j7 : o7.guard = none) (x7 : o7.dst = some d34) (p7 : o7.op = .extract (.tmp d27) 1)
    {o8 : Oper} (i8 : ops[8]? = some o8) (j8 : o8.guard = none) (x8 : o8.dst = some d6) (p8 : o8.op = .alloc 54)
    (hns : Region.noSelect ops = true)
    (r00 : Region.ready .any ops #[true, false, true, false, false, false, false, false, false, false, false] = [1, 8])
    (r01 : Region.ready .any ops #[true, false, true, false, false, false, false, false, true, false, false] = [1])
    (r10 : Region.ready .any ops #[true, true, true, false, false, false, false, false, false, false, false] = [3, 8])
    (r11 : Region.ready .any ops #[true, true, true, false, false, false, false, false, true, false, false] = [3])
    (r20 : Region.ready .any ops #[true, true, true, true, false, false, false, false, false, false, false] = [4, 8])
    (r21 : Region.ready .any ops #[true, true, true, true, false, false, false, false, true, false, false] = [4])
    (y00 : Region.free .any ops #[true, true, true, true, true, false, false, false, false, false, false] 5 = true) (z00 : (Region.ready .any ops #[true, true, true, true, true, false, false, false, false, false, false]).contains 5 = true)
    (y10 : Region.free .any ops #[true, true, true, true, true, true, false, false, false, false, false] 6 = true) (z10 : (Region.ready .any ops #[true, true, true, true, true, true, false, false, false, false, false]).contains 6 = true)
    (y20 : Region.free .any ops #[true, true, true, true, true, true, true, false, false, false, false] 7 = true) (z20 : (Region.ready .any ops #[true, true, true, true, true, true, true, false, false, false, false]).contains 7 = true)
    (y01 : Region.free .any ops #[true, true, true, true, true, false, false, false, true, false, false] 5 = true) (z01 : (Region.ready .any ops #[true, true, true, true, true, false, false, false, true, false, false]).contains 5 = true)
    (y11 : Region.free .any ops #[true, true, true, true, true, true, false, false, true, false, false] 6 = true) (z11 : (Region.ready .any ops #[true, true, true, true, true, true, false, false, true, false, false]).contains 6 = true)
    (y21 : Region.free .any ops #[true, true, true, true, true, true, true, false, true, false, false] 7 = true) (z21 : (Region.ready .any ops #[true, true, true, true, true, true, true, false, true, false, false]).contains 7 = true)
    (r3 : Region.ready .any ops #[true, true, true, true, true, true, true, true, false, false, false] = [8])
    (hfin : ∀ W g u t29 t31, Below W0.heap.size W0 W → WorkOwn W W0.heap.size u kr → W.heap[g]? = some (.cells #[.slice none 0 0, .slice none 0 0, .int .i64 0, .slice none 0 0, .slice none 0 0, .slice none 0 0] 54 (0, 0)) → W0.heap.size ≤ g → (∀ j, workBlocks u j → j ≠ g) → wpAnyH Tryd.prog .any ops Q S 2 #[true, true, true, true, true, true, true, true, true, false, false] ⟨ch T d6 d27 d29 d31 d32 d33 d34 (.pointer (some ⟨g, 0, none⟩)) (.tuple #[u, .int .i64 pg]) t29 t31 (.tuple #[u, .int .i64 pg]) u (.int .i64 pg), []⟩ W) :
    wpAnyH Tryd.prog .any ops Q S 9 #[true, false, true, false, false, false, false, false, false, false, false] ⟨T, []⟩ W0 := by
  have lt : ∀ {d x}, T[d]? = some x → d < T.size := fun h => (Array.getElem?_eq_some_iff.1 h).1
  have hw := put_walk (S := S) (kr := kr) d6 d27 d28 d29 d30 d31 d32 d33 d34 (ch T d6 d27 d29 d31 d32 d33 d34)
    (fun t6 t27 t29 t31 t32 t33 t34 x => ch_set6 hA t6 t27 t29 t31 t32 t33 t34 x)
    (fun t6 t27 t29 t31 t32 t33 t34 x => ch_set27 hA t6 t27 t29 t31 t32 t33 t34 x)
    (fun t6 t27 t29 t31 t32 t33 t34 x => ch_set29 hA t6 t27 t29 t31 t32 t33 t34 x)
    (fun t6 t27 t29 t31 t32 t33 t34 x => ch_set31 hA t6 t27 t29 t31 t32 t33 t34 x)
    (fun t6 t27 t29 t31 t32 t33 t34 x => ch_set32 hA t6 t27 t29 t31 t32 t33 t34 x)
    (fun t6 t27 t29 t31 t32 t33 t34 x => ch_set33 hA t6 t27 t29 t31 t32 t33 t34 x)
    (fun t6 t27 t29 t31 t32 t33 t34 x => ch_set34 hA t6 t27 t29 t31 t32 t33 t34 x)
    (fun t6 t27 t29 t31 t32 t33 t34 => eval_of (ch_other ma6 ma27 ma29 ma31 ma32 ma33 ma34 g28 t6 t27 t29 t31 t32 t33 t34))
    (fun t6 t27 t29 t31 t32 t33 t34 => eval_of (ch_other mb6 mb27 mb29 mb31 mb32 mb33 mb34 g30 t6 t27 t29 t31 t32 t33 t34))
    (fun t6 t27 t29 t31 t32 t33 t34 => eval_of (ch_get27 hA (lt u27) t6 t27 t29 t31 t32 t33 t34))
    (fun t6 t27 t29 t31 t32 t33 t34 => eval_of (ch_get29 hA (lt u29) t6 t27 t29 t31 t32 t33 t34))
    (fun t6 t27 t29 t31 t32 t33 t34 => eval_of (ch_get31 hA (lt u31) t6 t27 t29 t31 t32 t33 t34))
    (fun t6 t27 t29 t31 t32 t33 t34 => eval_of (ch_get32 hA (lt u32) t6 t27 t29 t31 t32 t33 t34))
    hS hQp hQp2 hQp3 f1 f3 f4 hf1 hf3 hf4 m1 m3 m4 b1 b3 b4 ts1 ts3 ts4 h1 h3 h4
    i1 j1 x1 p1 i3 j3 x3 p3 i4 j4 x4 p4 i5 j5 x5 p5 i6 j6 x6 p6 i7 j7 x7 p7 i8 j8 x8 p8 hns r00 r01 r10 r11 r20 r21 y00 z00 y10 z10 y20 z20 y01 z01 y11 z11 y21 z21 r3 hfin
  rw [ch_undef u6 u27 u29 u31 u32 u33 u34] at hw
  exact hw
end Go.Proofs.YtejfmjejdopglaaDoor
