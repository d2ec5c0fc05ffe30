/-
  Several texts in one. The region in which a work is copied: whatever order is drawn, from state to state. No function of the program. · spec.l08Copy by a contract: the same work, in memory of its own. · A disk that is laid into the variable of an answer, and rows that lie apart by their types. No function of the program. · A work in a variable while GivePage of the specification turns it: its cells, its rows, what lies beside it. No function of the program. · spec.GivePage by a contract: the first usable page, else the next one, else none. · The program's functions over disks by contracts: hasPage, DiskOk, ReadPage, DiskNew. · The program's copyDisk by a contract: the same disk, in memory of its own. · impl.copyWork by a contract: the same work, in memory of its own. · impl.GivePage by a contract: the first usable page, else the next one, else none.
-/
import Derived.Test.YtacmpggigdlmmaaDoorWorkCp
import Derived.Deep.RegionHeld
import Derived.Test.YtacmpggigdlmmaaDoorBtA
import Derived.Test.YtacmpggigdlmmaaDoorDiskCopyN
import Derived.Test.YtacmpggigdlmmaaDoorEnvN
import Derived.Test.YtacmpggigdlmmaaDoorGivePlain
import Derived.Test.YtacmpggigdlmmaaDoorDiskN
import Derived.Test.YtacmpggigdlmmaaDoorClone
import Derived.Test.YtacmpggigdlmmaaDoorPlain10
import Derived.Test.YtacmpggigdlmmaaDoorStepCall
namespace Go.Proofs.YtacmpggigdlmmaaDoor
open Go.RowKit

/-- what lies in the slots that are read alone -/
structure CpC where
  (c0 c1 c2 c3 c4 c6 c7 c9 c10 c13 c14 c17 c18 c20 : Value)

abbrev cpTm (c : CpC) (t5 e1 a1 e2 a2 e3 a3 : Value) : Array Value := #[c.c0, c.c1, c.c2, c.c3, c.c4, t5, c.c6, c.c7, e1, c.c9, c.c10, a1, e2, c.c13, c.c14, a2, e3, c.c17, c.c18, a3, c.c20]

theorem step_build0 {ops : Array Oper} {o : Oper} {a : Act} {K : Act → World → Prop} {Q : Exit → Act → World → Prop} {E : Prop} {W : World} (hgd : o.guard = none) (ho : o.op = .buildSlice 26 0 #[]) (h : K (a.put o.dst (.slice (some ⟨W.heap.size, 0, none⟩) 0 0)) (W.alloc (.cells #[] 3 (0, 0)))) :
    if Region.wanted o (yielded ops a.tmps) = true then Oper.wp Tryd.prog o a W K Q else E := by
  have hw : Region.wanted o (yielded ops a.tmps) = true := by simp [Region.wanted, hgd]
  rw [if_pos hw]
  unfold Oper.wp execOp
  simp only [ho]
  simp [go_sem]
  exact h

set_option maxHeartbeats 8000000 in
theorem copy_walk {ops : Array Oper} {Q : Exit → Act → World → Prop} {S : World → Prop} {w : World} {n0 : Nat} {bx rs : Obj} {ps : List ByteArray} {ls : List (Int × ByteArray)} {us gs fs : List Int} (c : CpC)
    (lu : us.length ≤ 2000000) (lg : gs.length ≤ 2000000) (lf : fs.length ≤ 2000000) (hS : ∀ W Em R D, CS w n0 bx rs ps ls W Em R D → S W)
    (f : FuncId) (fn : Func) (hfn : Tryd.prog.funcs[f]? = some fn) (hname : ¬ fn.name = "runtime.NumGoroutine") (hbody : ¬ fn.body = none) (ts : Array TypeId)
    (hc : ∀ wx, DiskAt wx c.c4 ps ls → Calls Tryd.prog f #[c.c4] wx fun e w' => ∃ v', e = .returned v' ∧ DiskOwn w' wx.heap.size v' ps ls ∧ Below wx.heap.size wx w') (hd : DiskAt w c.c4 ps ls)
    (ru : RowAt w 1 c.c10 us.length (ints us)) (rg : RowAt w 1 c.c14 gs.length (ints gs)) (rf : RowAt w 1 c.c18 fs.length (ints fs))
    {oC : Oper} (iC : ops[2]? = some oC) (jC : oC.guard = none) (dC : oC.dst = some 5) (pC : oC.op = .call { callee := .value (.func f), args := #[.tmp 4], argTypes := ts })
    {oE1 : Oper} (iE1 : ops[5]? = some oE1) (jE1 : oE1.guard = none) (dE1 : oE1.dst = some 8) (pE1 : oE1.op = .buildSlice 26 0 #[])
    {oA1 : Oper} (iA1 : ops[8]? = some oA1) (jA1 : oA1.guard = none) (dA1 : oA1.dst = some 11) (pA1 : oA1.op = .call { callee := .builtin .append, args := #[.tmp 8, .tmp 10], argTypes := #[26, 26] })
    {oE2 : Oper} (iE2 : ops[9]? = some oE2) (jE2 : oE2.guard = none) (dE2 : oE2.dst = some 12) (pE2 : oE2.op = .buildSlice 26 0 #[])
    {oA2 : Oper} (iA2 : ops[12]? = some oA2) (jA2 : oA2.guard = none) (dA2 : oA2.dst = some 15) (pA2 : oA2.op = .call { callee := .builtin .append, args := #[.tmp 12, .tmp 14], argTypes := #[26, 26] })
    {oE3 : Oper} (iE3 : ops[13]? = some oE3) (jE3 : oE3.guard = none) (dE3 : oE3.dst = some 16) (pE3 : oE3.op = .buildSlice 26 0 #[])
    {oA3 : Oper} (iA3 : ops[16]? = some oA3) (jA3 : oA3.guard = none) (dA3 : oA3.dst = some 19) (pA3 : oA3.op = .call { callee := .builtin .append, args := #[.tmp 16, .tmp 18], argTypes := #[26, 26] })
    (r0_000 : Region.ready .any ops #[true, true, false, true, true, false, true, true, false, false, true, true, false, false, true, true, false, false, false] = [2, 5, 9, 13])
    (r1_000 : Region.ready .any ops #[true, true, true, true, true, false, true, true, false, false, true, true, false, false, true, true, false, false, false] = [5, 9, 13])
    (r0_100 : Region.ready .any ops #[true, true, false, true, true, true, true, true, false, false, true, true, false, false, true, true, false, false, false] = [2, 9, 13])
    (r0_010 : Region.ready .any ops #[true, true, false, true, true, false, true, true, false, true, true, true, false, false, true, true, false, false, false] = [2, 5, 13])
    (r0_001 : Region.ready .any ops #[true, true, false, true, true, false, true, true, false, false, true, true, false, true, true, true, false, false, false] = [2, 5, 9])
    (r1_100 : Region.ready .any ops #[true, true, true, true, true, true, true, true, false, false, true, true, false, false, true, true, false, false, false] = [8, 9, 13])
    (r1_010 : Region.ready .any ops #[true, true, true, true, true, false, true, true, false, true, true, true, false, false, true, true, false, false, false] = [5, 13])
    (r1_001 : Region.ready .any ops #[true, true, true, true, true, false, true, true, false, false, true, true, false, true, true, true, false, false, false] = [5, 9])
    (r0_110 : Region.ready .any ops #[true, true, false, true, true, true, true, true, false, true, true, true, false, false, true, true, false, false, false] = [2, 13])
    (r0_101 : Region.ready .any ops #[true, true, false, true, true, true, true, true, false, false, true, true, false, true, true, true, false, false, false] = [2, 9])
    (r0_011 : Region.ready .any ops #[true, true, false, true, true, false, true, true, false, true, true, true, false, true, true, true, false, false, false] = [2, 5])
    (r1_200 : Region.ready .any ops #[true, true, true, true, true, true, true, true, true, false, true, true, false, false, true, true, false, false, false] = [9, 13])
    (r1_110 : Region.ready .any ops #[true, true, true, true, true, true, true, true, false, true, true, true, false, false, true, true, false, false, false] = [8, 13])
    (r1_101 : Region.ready .any ops #[true, true, true, true, true, true, true, true, false, false, true, true, false, true, true, true, false, false, false] = [8, 9])
    (r1_011 : Region.ready .any ops #[true, true, true, true, true, false, true, true, false, true, true, true, false, true, true, true, false, false, false] = [5])
    (r0_111 : Region.ready .any ops #[true, true, false, true, true, true, true, true, false, true, true, true, false, true, true, true, false, false, false] = [2])
    (r1_210 : Region.ready .any ops #[true, true, true, true, true, true, true, true, true, true, true, true, false, false, true, true, false, false, false] = [12, 13])
    (r1_201 : Region.ready .any ops #[true, true, true, true, true, true, true, true, true, false, true, true, false, true, true, true, false, false, false] = [9])
    (r1_111 : Region.ready .any ops #[true, true, true, true, true, true, true, true, false, true, true, true, false, true, true, true, false, false, false] = [8])
    (r1_220 : Region.ready .any ops #[true, true, true, true, true, true, true, true, true, true, true, true, true, false, true, true, false, false, false] = [13])
    (r1_211 : Region.ready .any ops #[true, true, true, true, true, true, true, true, true, true, true, true, false, true, true, true, false, false, false] = [12])
    (r1_221 : Region.ready .any ops #[true, true, true, true, true, true, true, true, true, true, true, true, true, true, true, true, false, false, false] = [16])
    (hfin : ∀ (W : World) (Em : Nat → Prop) (x1 : Option Addr) (p1 : Nat) (y1 : Option Addr) (p2 : Nat) (te1 : Value) (b1 q1 : Nat) (te2 : Value) (b2 q2 : Nat) (te3 : Value) (b3 q3 : Nat) (_ : CS w n0 bx rs ps ls W Em [(.slice (some ⟨b3, 0, none⟩) fs.length q3, fs), (.slice (some ⟨b2, 0, none⟩) gs.length q2, gs), (.slice (some ⟨b1, 0, none⟩) us.length q1, us)] [.agg #[.slice x1 ps.length p1, .slice y1 ls.length p2]]), wpAnyH Tryd.prog .any ops Q S 2 #[true, true, true, true, true, true, true, true, true, true, true, true, true, true, true, true, true, false, false] ⟨(cpTm c (.agg #[.slice x1 ps.length p1, .slice y1 ls.length p2]) te1 (.slice (some ⟨b1, 0, none⟩) us.length q1) te2 (.slice (some ⟨b2, 0, none⟩) gs.length q2) te3 (.slice (some ⟨b3, 0, none⟩) fs.length q3)), []⟩ W) :
    ∀ W, CS w n0 bx rs ps ls W (fun y => y < 0) [] [] → wpAnyH Tryd.prog .any ops Q S 9 #[true, true, false, true, true, false, true, true, false, false, true, true, false, false, true, true, false, false, false] ⟨cpTm c undef undef undef undef undef undef undef, []⟩ W := by
  have hlt : ∀ {W Em R D}, CS w n0 bx rs ps ls W Em R D → ∀ y, Em y → y ≠ W.heap.size := fun h y hy => Nat.ne_of_lt (Array.getElem?_eq_some_iff.1 (h.emp y hy).2).1
  have G1_221 : ∀ (W : World) (Em : Nat → Prop) (x1 : Option Addr) (p1 : Nat) (y1 : Option Addr) (p2 : Nat) (te1 : Value) (b1 q1 : Nat) (te2 : Value) (b2 q2 : Nat) (g3 : Nat) (ta3 : Value) (_ : CS w n0 bx rs ps ls W Em [(.slice (some ⟨b2, 0, none⟩) gs.length q2, gs), (.slice (some ⟨b1, 0, none⟩) us.length q1, us)] [.agg #[.slice x1 ps.length p1, .slice y1 ls.length p2]]) (h3 : Em g3), wpAnyH Tryd.prog .any ops Q S 3 #[true, true, true, true, true, true, true, true, true, true, true, true, true, true, true, true, false, false, false] ⟨(cpTm c (.agg #[.slice x1 ps.length p1, .slice y1 ls.length p2]) te1 (.slice (some ⟨b1, 0, none⟩) us.length q1) te2 (.slice (some ⟨b2, 0, none⟩) gs.length q2) (.slice (some ⟨g3, 0, none⟩) 0 0) ta3), []⟩ W := by
    intro W Em x1 p1 y1 p2 te1 b1 q1 te2 b2 q2 g3 ta3 hcs h3
    refine wpAnyH_ready r1_221 (by simp) ?_
    refine AllReadyH.cons iA3 (fun K hK => ?_) ?_
    · refine step_copy hcs jA3 (.tmp 16) (.tmp 18) pA3 rfl rfl fs lf rf h3 (fun b3 q3 W' _ hcs' => ?_)
      rw [dA3]
      exact hK.out _ _ (hS _ _ _ _ hcs') (fun _ => hfin W' _ x1 p1 y1 p2 te1 b1 q1 te2 b2 q2 _ b3 q3 hcs' )
    exact AllReadyH.nil
  have G1_220 : ∀ (W : World) (Em : Nat → Prop) (x1 : Option Addr) (p1 : Nat) (y1 : Option Addr) (p2 : Nat) (te1 : Value) (b1 q1 : Nat) (te2 : Value) (b2 q2 : Nat) (te3 : Value) (ta3 : Value) (_ : CS w n0 bx rs ps ls W Em [(.slice (some ⟨b2, 0, none⟩) gs.length q2, gs), (.slice (some ⟨b1, 0, none⟩) us.length q1, us)] [.agg #[.slice x1 ps.length p1, .slice y1 ls.length p2]]), wpAnyH Tryd.prog .any ops Q S 4 #[true, true, true, true, true, true, true, true, true, true, true, true, true, false, true, true, false, false, false] ⟨(cpTm c (.agg #[.slice x1 ps.length p1, .slice y1 ls.length p2]) te1 (.slice (some ⟨b1, 0, none⟩) us.length q1) te2 (.slice (some ⟨b2, 0, none⟩) gs.length q2) te3 ta3), []⟩ W := by
    intro W Em x1 p1 y1 p2 te1 b1 q1 te2 b2 q2 te3 ta3 hcs
    refine wpAnyH_ready r1_220 (by simp) ?_
    refine AllReadyH.cons iE3 (fun K hK => ?_) ?_
    · refine step_build0 jE3 pE3 ?_
      rw [dE3]
      exact hK.out _ _ (hS _ _ _ _ (cs_alloc hcs)) (fun _ => G1_221 _ _ x1 p1 y1 p2 te1 b1 q1 te2 b2 q2 W.heap.size ta3 (cs_alloc hcs) (Or.inl rfl))
    exact AllReadyH.nil
  have G1_211 : ∀ (W : World) (Em : Nat → Prop) (x1 : Option Addr) (p1 : Nat) (y1 : Option Addr) (p2 : Nat) (te1 : Value) (b1 q1 : Nat) (g2 : Nat) (ta2 : Value) (g3 : Nat) (ta3 : Value) (_ : CS w n0 bx rs ps ls W Em [(.slice (some ⟨b1, 0, none⟩) us.length q1, us)] [.agg #[.slice x1 ps.length p1, .slice y1 ls.length p2]]) (h2 : Em g2) (h3 : Em g3) (n23 : g2 ≠ g3), wpAnyH Tryd.prog .any ops Q S 4 #[true, true, true, true, true, true, true, true, true, true, true, true, false, true, true, true, false, false, false] ⟨(cpTm c (.agg #[.slice x1 ps.length p1, .slice y1 ls.length p2]) te1 (.slice (some ⟨b1, 0, none⟩) us.length q1) (.slice (some ⟨g2, 0, none⟩) 0 0) ta2 (.slice (some ⟨g3, 0, none⟩) 0 0) ta3), []⟩ W := by
    intro W Em x1 p1 y1 p2 te1 b1 q1 g2 ta2 g3 ta3 hcs h2 h3 n23
    refine wpAnyH_ready r1_211 (by simp) ?_
    refine AllReadyH.cons iA2 (fun K hK => ?_) ?_
    · refine step_copy hcs jA2 (.tmp 12) (.tmp 14) pA2 rfl rfl gs lg rg h2 (fun b2 q2 W' _ hcs' => ?_)
      rw [dA2]
      exact hK.out _ _ (hS _ _ _ _ hcs') (fun _ => G1_221 W' _ x1 p1 y1 p2 te1 b1 q1 _ b2 q2 g3 ta3 hcs' (⟨h3, n23.symm⟩))
    exact AllReadyH.nil
  have G1_210 : ∀ (W : World) (Em : Nat → Prop) (x1 : Option Addr) (p1 : Nat) (y1 : Option Addr) (p2 : Nat) (te1 : Value) (b1 q1 : Nat) (g2 : Nat) (ta2 : Value) (te3 : Value) (ta3 : Value) (_ : CS w n0 bx rs ps ls W Em [(.slice (some ⟨b1, 0, none⟩) us.length q1, us)] [.agg #[.slice x1 ps.length p1, .slice y1 ls.length p2]]) (h2 : Em g2), wpAnyH Tryd.prog .any ops Q S 5 #[true, true, true, true, true, true, true, true, true, true, true, true, false, false, true, true, false, false, false] ⟨(cpTm c (.agg #[.slice x1 ps.length p1, .slice y1 ls.length p2]) te1 (.slice (some ⟨b1, 0, none⟩) us.length q1) (.slice (some ⟨g2, 0, none⟩) 0 0) ta2 te3 ta3), []⟩ W := by
    intro W Em x1 p1 y1 p2 te1 b1 q1 g2 ta2 te3 ta3 hcs h2
    refine wpAnyH_ready r1_210 (by simp) ?_
    refine AllReadyH.cons iA2 (fun K hK => ?_) ?_
    · refine step_copy hcs jA2 (.tmp 12) (.tmp 14) pA2 rfl rfl gs lg rg h2 (fun b2 q2 W' _ hcs' => ?_)
      rw [dA2]
      exact hK.out _ _ (hS _ _ _ _ hcs') (fun _ => G1_220 W' _ x1 p1 y1 p2 te1 b1 q1 _ b2 q2 te3 ta3 hcs' )
    refine AllReadyH.cons iE3 (fun K hK => ?_) ?_
    · refine step_build0 jE3 pE3 ?_
      rw [dE3]
      exact hK.out _ _ (hS _ _ _ _ (cs_alloc hcs)) (fun _ => G1_211 _ _ x1 p1 y1 p2 te1 b1 q1 g2 ta2 W.heap.size ta3 (cs_alloc hcs) (Or.inr h2) (Or.inl rfl) (hlt hcs g2 h2))
    exact AllReadyH.nil
  have G1_201 : ∀ (W : World) (Em : Nat → Prop) (x1 : Option Addr) (p1 : Nat) (y1 : Option Addr) (p2 : Nat) (te1 : Value) (b1 q1 : Nat) (te2 : Value) (ta2 : Value) (g3 : Nat) (ta3 : Value) (_ : CS w n0 bx rs ps ls W Em [(.slice (some ⟨b1, 0, none⟩) us.length q1, us)] [.agg #[.slice x1 ps.length p1, .slice y1 ls.length p2]]) (h3 : Em g3), wpAnyH Tryd.prog .any ops Q S 5 #[true, true, true, true, true, true, true, true, true, false, true, true, false, true, true, true, false, false, false] ⟨(cpTm c (.agg #[.slice x1 ps.length p1, .slice y1 ls.length p2]) te1 (.slice (some ⟨b1, 0, none⟩) us.length q1) te2 ta2 (.slice (some ⟨g3, 0, none⟩) 0 0) ta3), []⟩ W := by
    intro W Em x1 p1 y1 p2 te1 b1 q1 te2 ta2 g3 ta3 hcs h3
    refine wpAnyH_ready r1_201 (by simp) ?_
    refine AllReadyH.cons iE2 (fun K hK => ?_) ?_
    · refine step_build0 jE2 pE2 ?_
      rw [dE2]
      exact hK.out _ _ (hS _ _ _ _ (cs_alloc hcs)) (fun _ => G1_211 _ _ x1 p1 y1 p2 te1 b1 q1 W.heap.size ta2 g3 ta3 (cs_alloc hcs) (Or.inl rfl) (Or.inr h3) ((hlt hcs g3 h3).symm))
    exact AllReadyH.nil
  have G1_111 : ∀ (W : World) (Em : Nat → Prop) (x1 : Option Addr) (p1 : Nat) (y1 : Option Addr) (p2 : Nat) (g1 : Nat) (ta1 : Value) (g2 : Nat) (ta2 : Value) (g3 : Nat) (ta3 : Value) (_ : CS w n0 bx rs ps ls W Em [] [.agg #[.slice x1 ps.length p1, .slice y1 ls.length p2]]) (h1 : Em g1) (h2 : Em g2) (h3 : Em g3) (n12 : g1 ≠ g2) (n13 : g1 ≠ g3) (n23 : g2 ≠ g3), wpAnyH Tryd.prog .any ops Q S 5 #[true, true, true, true, true, true, true, true, false, true, true, true, false, true, true, true, false, false, false] ⟨(cpTm c (.agg #[.slice x1 ps.length p1, .slice y1 ls.length p2]) (.slice (some ⟨g1, 0, none⟩) 0 0) ta1 (.slice (some ⟨g2, 0, none⟩) 0 0) ta2 (.slice (some ⟨g3, 0, none⟩) 0 0) ta3), []⟩ W := by
    intro W Em x1 p1 y1 p2 g1 ta1 g2 ta2 g3 ta3 hcs h1 h2 h3 n12 n13 n23
    refine wpAnyH_ready r1_111 (by simp) ?_
    refine AllReadyH.cons iA1 (fun K hK => ?_) ?_
    · refine step_copy hcs jA1 (.tmp 8) (.tmp 10) pA1 rfl rfl us lu ru h1 (fun b1 q1 W' _ hcs' => ?_)
      rw [dA1]
      exact hK.out _ _ (hS _ _ _ _ hcs') (fun _ => G1_211 W' _ x1 p1 y1 p2 _ b1 q1 g2 ta2 g3 ta3 hcs' (⟨h2, n12.symm⟩) (⟨h3, n13.symm⟩) (n23))
    exact AllReadyH.nil
  have G1_200 : ∀ (W : World) (Em : Nat → Prop) (x1 : Option Addr) (p1 : Nat) (y1 : Option Addr) (p2 : Nat) (te1 : Value) (b1 q1 : Nat) (te2 : Value) (ta2 : Value) (te3 : Value) (ta3 : Value) (_ : CS w n0 bx rs ps ls W Em [(.slice (some ⟨b1, 0, none⟩) us.length q1, us)] [.agg #[.slice x1 ps.length p1, .slice y1 ls.length p2]]), wpAnyH Tryd.prog .any ops Q S 6 #[true, true, true, true, true, true, true, true, true, false, true, true, false, false, true, true, false, false, false] ⟨(cpTm c (.agg #[.slice x1 ps.length p1, .slice y1 ls.length p2]) te1 (.slice (some ⟨b1, 0, none⟩) us.length q1) te2 ta2 te3 ta3), []⟩ W := by
    intro W Em x1 p1 y1 p2 te1 b1 q1 te2 ta2 te3 ta3 hcs
    refine wpAnyH_ready r1_200 (by simp) ?_
    refine AllReadyH.cons iE2 (fun K hK => ?_) ?_
    · refine step_build0 jE2 pE2 ?_
      rw [dE2]
      exact hK.out _ _ (hS _ _ _ _ (cs_alloc hcs)) (fun _ => G1_210 _ _ x1 p1 y1 p2 te1 b1 q1 W.heap.size ta2 te3 ta3 (cs_alloc hcs) (Or.inl rfl))
    refine AllReadyH.cons iE3 (fun K hK => ?_) ?_
    · refine step_build0 jE3 pE3 ?_
      rw [dE3]
      exact hK.out _ _ (hS _ _ _ _ (cs_alloc hcs)) (fun _ => G1_201 _ _ x1 p1 y1 p2 te1 b1 q1 te2 ta2 W.heap.size ta3 (cs_alloc hcs) (Or.inl rfl))
    exact AllReadyH.nil
  have G1_110 : ∀ (W : World) (Em : Nat → Prop) (x1 : Option Addr) (p1 : Nat) (y1 : Option Addr) (p2 : Nat) (g1 : Nat) (ta1 : Value) (g2 : Nat) (ta2 : Value) (te3 : Value) (ta3 : Value) (_ : CS w n0 bx rs ps ls W Em [] [.agg #[.slice x1 ps.length p1, .slice y1 ls.length p2]]) (h1 : Em g1) (h2 : Em g2) (n12 : g1 ≠ g2), wpAnyH Tryd.prog .any ops Q S 6 #[true, true, true, true, true, true, true, true, false, true, true, true, false, false, true, true, false, false, false] ⟨(cpTm c (.agg #[.slice x1 ps.length p1, .slice y1 ls.length p2]) (.slice (some ⟨g1, 0, none⟩) 0 0) ta1 (.slice (some ⟨g2, 0, none⟩) 0 0) ta2 te3 ta3), []⟩ W := by
    intro W Em x1 p1 y1 p2 g1 ta1 g2 ta2 te3 ta3 hcs h1 h2 n12
    refine wpAnyH_ready r1_110 (by simp) ?_
    refine AllReadyH.cons iA1 (fun K hK => ?_) ?_
    · refine step_copy hcs jA1 (.tmp 8) (.tmp 10) pA1 rfl rfl us lu ru h1 (fun b1 q1 W' _ hcs' => ?_)
      rw [dA1]
      exact hK.out _ _ (hS _ _ _ _ hcs') (fun _ => G1_210 W' _ x1 p1 y1 p2 _ b1 q1 g2 ta2 te3 ta3 hcs' (⟨h2, n12.symm⟩))
    refine AllReadyH.cons iE3 (fun K hK => ?_) ?_
    · refine step_build0 jE3 pE3 ?_
      rw [dE3]
      exact hK.out _ _ (hS _ _ _ _ (cs_alloc hcs)) (fun _ => G1_111 _ _ x1 p1 y1 p2 g1 ta1 g2 ta2 W.heap.size ta3 (cs_alloc hcs) (Or.inr h1) (Or.inr h2) (Or.inl rfl) (n12) (hlt hcs g1 h1) (hlt hcs g2 h2))
    exact AllReadyH.nil
  have G1_101 : ∀ (W : World) (Em : Nat → Prop) (x1 : Option Addr) (p1 : Nat) (y1 : Option Addr) (p2 : Nat) (g1 : Nat) (ta1 : Value) (te2 : Value) (ta2 : Value) (g3 : Nat) (ta3 : Value) (_ : CS w n0 bx rs ps ls W Em [] [.agg #[.slice x1 ps.length p1, .slice y1 ls.length p2]]) (h1 : Em g1) (h3 : Em g3) (n13 : g1 ≠ g3), wpAnyH Tryd.prog .any ops Q S 6 #[true, true, true, true, true, true, true, true, false, false, true, true, false, true, true, true, false, false, false] ⟨(cpTm c (.agg #[.slice x1 ps.length p1, .slice y1 ls.length p2]) (.slice (some ⟨g1, 0, none⟩) 0 0) ta1 te2 ta2 (.slice (some ⟨g3, 0, none⟩) 0 0) ta3), []⟩ W := by
    intro W Em x1 p1 y1 p2 g1 ta1 te2 ta2 g3 ta3 hcs h1 h3 n13
    refine wpAnyH_ready r1_101 (by simp) ?_
    refine AllReadyH.cons iA1 (fun K hK => ?_) ?_
    · refine step_copy hcs jA1 (.tmp 8) (.tmp 10) pA1 rfl rfl us lu ru h1 (fun b1 q1 W' _ hcs' => ?_)
      rw [dA1]
      exact hK.out _ _ (hS _ _ _ _ hcs') (fun _ => G1_201 W' _ x1 p1 y1 p2 _ b1 q1 te2 ta2 g3 ta3 hcs' (⟨h3, n13.symm⟩))
    refine AllReadyH.cons iE2 (fun K hK => ?_) ?_
    · refine step_build0 jE2 pE2 ?_
      rw [dE2]
      exact hK.out _ _ (hS _ _ _ _ (cs_alloc hcs)) (fun _ => G1_111 _ _ x1 p1 y1 p2 g1 ta1 W.heap.size ta2 g3 ta3 (cs_alloc hcs) (Or.inr h1) (Or.inl rfl) (Or.inr h3) (hlt hcs g1 h1) (n13) ((hlt hcs g3 h3).symm))
    exact AllReadyH.nil
  have G1_011 : ∀ (W : World) (Em : Nat → Prop) (x1 : Option Addr) (p1 : Nat) (y1 : Option Addr) (p2 : Nat) (te1 : Value) (ta1 : Value) (g2 : Nat) (ta2 : Value) (g3 : Nat) (ta3 : Value) (_ : CS w n0 bx rs ps ls W Em [] [.agg #[.slice x1 ps.length p1, .slice y1 ls.length p2]]) (h2 : Em g2) (h3 : Em g3) (n23 : g2 ≠ g3), wpAnyH Tryd.prog .any ops Q S 6 #[true, true, true, true, true, false, true, true, false, true, true, true, false, true, true, true, false, false, false] ⟨(cpTm c (.agg #[.slice x1 ps.length p1, .slice y1 ls.length p2]) te1 ta1 (.slice (some ⟨g2, 0, none⟩) 0 0) ta2 (.slice (some ⟨g3, 0, none⟩) 0 0) ta3), []⟩ W := by
    intro W Em x1 p1 y1 p2 te1 ta1 g2 ta2 g3 ta3 hcs h2 h3 n23
    refine wpAnyH_ready r1_011 (by simp) ?_
    refine AllReadyH.cons iE1 (fun K hK => ?_) ?_
    · refine step_build0 jE1 pE1 ?_
      rw [dE1]
      exact hK.out _ _ (hS _ _ _ _ (cs_alloc hcs)) (fun _ => G1_111 _ _ x1 p1 y1 p2 W.heap.size ta1 g2 ta2 g3 ta3 (cs_alloc hcs) (Or.inl rfl) (Or.inr h2) (Or.inr h3) ((hlt hcs g2 h2).symm) ((hlt hcs g3 h3).symm) (n23))
    exact AllReadyH.nil
  have G0_111 : ∀ (W : World) (Em : Nat → Prop) (t5 : Value) (g1 : Nat) (ta1 : Value) (g2 : Nat) (ta2 : Value) (g3 : Nat) (ta3 : Value) (_ : CS w n0 bx rs ps ls W Em [] []) (h1 : Em g1) (h2 : Em g2) (h3 : Em g3) (n12 : g1 ≠ g2) (n13 : g1 ≠ g3) (n23 : g2 ≠ g3), wpAnyH Tryd.prog .any ops Q S 6 #[true, true, false, true, true, true, true, true, false, true, true, true, false, true, true, true, false, false, false] ⟨(cpTm c t5 (.slice (some ⟨g1, 0, none⟩) 0 0) ta1 (.slice (some ⟨g2, 0, none⟩) 0 0) ta2 (.slice (some ⟨g3, 0, none⟩) 0 0) ta3), []⟩ W := by
    intro W Em t5 g1 ta1 g2 ta2 g3 ta3 hcs h1 h2 h3 n12 n13 n23
    refine wpAnyH_ready r0_111 (by simp) ?_
    refine AllReadyH.cons iC (fun K hK => ?_) ?_
    · refine step_callcs hcs jC f fn hfn hname hbody (.tmp 4) ts pC c.c4 rfl hc hd (fun x1 p1 y1 p2 W' _ hcs' => ?_)
      rw [dC]
      exact hK.out _ _ (hS _ _ _ _ hcs') (fun _ => G1_111 W' _ x1 p1 y1 p2 g1 ta1 g2 ta2 g3 ta3 hcs' (h1) (h2) (h3) (n12) (n13) (n23))
    exact AllReadyH.nil
  have G1_100 : ∀ (W : World) (Em : Nat → Prop) (x1 : Option Addr) (p1 : Nat) (y1 : Option Addr) (p2 : Nat) (g1 : Nat) (ta1 : Value) (te2 : Value) (ta2 : Value) (te3 : Value) (ta3 : Value) (_ : CS w n0 bx rs ps ls W Em [] [.agg #[.slice x1 ps.length p1, .slice y1 ls.length p2]]) (h1 : Em g1), wpAnyH Tryd.prog .any ops Q S 7 #[true, true, true, true, true, true, true, true, false, false, true, true, false, false, true, true, false, false, false] ⟨(cpTm c (.agg #[.slice x1 ps.length p1, .slice y1 ls.length p2]) (.slice (some ⟨g1, 0, none⟩) 0 0) ta1 te2 ta2 te3 ta3), []⟩ W := by
    intro W Em x1 p1 y1 p2 g1 ta1 te2 ta2 te3 ta3 hcs h1
    refine wpAnyH_ready r1_100 (by simp) ?_
    refine AllReadyH.cons iA1 (fun K hK => ?_) ?_
    · refine step_copy hcs jA1 (.tmp 8) (.tmp 10) pA1 rfl rfl us lu ru h1 (fun b1 q1 W' _ hcs' => ?_)
      rw [dA1]
      exact hK.out _ _ (hS _ _ _ _ hcs') (fun _ => G1_200 W' _ x1 p1 y1 p2 _ b1 q1 te2 ta2 te3 ta3 hcs' )
    refine AllReadyH.cons iE2 (fun K hK => ?_) ?_
    · refine step_build0 jE2 pE2 ?_
      rw [dE2]
      exact hK.out _ _ (hS _ _ _ _ (cs_alloc hcs)) (fun _ => G1_110 _ _ x1 p1 y1 p2 g1 ta1 W.heap.size ta2 te3 ta3 (cs_alloc hcs) (Or.inr h1) (Or.inl rfl) (hlt hcs g1 h1))
    refine AllReadyH.cons iE3 (fun K hK => ?_) ?_
    · refine step_build0 jE3 pE3 ?_
      rw [dE3]
      exact hK.out _ _ (hS _ _ _ _ (cs_alloc hcs)) (fun _ => G1_101 _ _ x1 p1 y1 p2 g1 ta1 te2 ta2 W.heap.size ta3 (cs_alloc hcs) (Or.inr h1) (Or.inl rfl) (hlt hcs g1 h1))
    exact AllReadyH.nil
  have G1_010 : ∀ (W : World) (Em : Nat → Prop) (x1 : Option Addr) (p1 : Nat) (y1 : Option Addr) (p2 : Nat) (te1 : Value) (ta1 : Value) (g2 : Nat) (ta2 : Value) (te3 : Value) (ta3 : Value) (_ : CS w n0 bx rs ps ls W Em [] [.agg #[.slice x1 ps.length p1, .slice y1 ls.length p2]]) (h2 : Em g2), wpAnyH Tryd.prog .any ops Q S 7 #[true, true, true, true, true, false, true, true, false, true, true, true, false, false, true, true, false, false, false] ⟨(cpTm c (.agg #[.slice x1 ps.length p1, .slice y1 ls.length p2]) te1 ta1 (.slice (some ⟨g2, 0, none⟩) 0 0) ta2 te3 ta3), []⟩ W := by
    intro W Em x1 p1 y1 p2 te1 ta1 g2 ta2 te3 ta3 hcs h2
    refine wpAnyH_ready r1_010 (by simp) ?_
    refine AllReadyH.cons iE1 (fun K hK => ?_) ?_
    · refine step_build0 jE1 pE1 ?_
      rw [dE1]
      exact hK.out _ _ (hS _ _ _ _ (cs_alloc hcs)) (fun _ => G1_110 _ _ x1 p1 y1 p2 W.heap.size ta1 g2 ta2 te3 ta3 (cs_alloc hcs) (Or.inl rfl) (Or.inr h2) ((hlt hcs g2 h2).symm))
    refine AllReadyH.cons iE3 (fun K hK => ?_) ?_
    · refine step_build0 jE3 pE3 ?_
      rw [dE3]
      exact hK.out _ _ (hS _ _ _ _ (cs_alloc hcs)) (fun _ => G1_011 _ _ x1 p1 y1 p2 te1 ta1 g2 ta2 W.heap.size ta3 (cs_alloc hcs) (Or.inr h2) (Or.inl rfl) (hlt hcs g2 h2))
    exact AllReadyH.nil
  have G1_001 : ∀ (W : World) (Em : Nat → Prop) (x1 : Option Addr) (p1 : Nat) (y1 : Option Addr) (p2 : Nat) (te1 : Value) (ta1 : Value) (te2 : Value) (ta2 : Value) (g3 : Nat) (ta3 : Value) (_ : CS w n0 bx rs ps ls W Em [] [.agg #[.slice x1 ps.length p1, .slice y1 ls.length p2]]) (h3 : Em g3), wpAnyH Tryd.prog .any ops Q S 7 #[true, true, true, true, true, false, true, true, false, false, true, true, false, true, true, true, false, false, false] ⟨(cpTm c (.agg #[.slice x1 ps.length p1, .slice y1 ls.length p2]) te1 ta1 te2 ta2 (.slice (some ⟨g3, 0, none⟩) 0 0) ta3), []⟩ W := by
    intro W Em x1 p1 y1 p2 te1 ta1 te2 ta2 g3 ta3 hcs h3
    refine wpAnyH_ready r1_001 (by simp) ?_
    refine AllReadyH.cons iE1 (fun K hK => ?_) ?_
    · refine step_build0 jE1 pE1 ?_
      rw [dE1]
      exact hK.out _ _ (hS _ _ _ _ (cs_alloc hcs)) (fun _ => G1_101 _ _ x1 p1 y1 p2 W.heap.size ta1 te2 ta2 g3 ta3 (cs_alloc hcs) (Or.inl rfl) (Or.inr h3) ((hlt hcs g3 h3).symm))
    refine AllReadyH.cons iE2 (fun K hK => ?_) ?_
    · refine step_build0 jE2 pE2 ?_
      rw [dE2]
      exact hK.out _ _ (hS _ _ _ _ (cs_alloc hcs)) (fun _ => G1_011 _ _ x1 p1 y1 p2 te1 ta1 W.heap.size ta2 g3 ta3 (cs_alloc hcs) (Or.inl rfl) (Or.inr h3) ((hlt hcs g3 h3).symm))
    exact AllReadyH.nil
  have G0_110 : ∀ (W : World) (Em : Nat → Prop) (t5 : Value) (g1 : Nat) (ta1 : Value) (g2 : Nat) (ta2 : Value) (te3 : Value) (ta3 : Value) (_ : CS w n0 bx rs ps ls W Em [] []) (h1 : Em g1) (h2 : Em g2) (n12 : g1 ≠ g2), wpAnyH Tryd.prog .any ops Q S 7 #[true, true, false, true, true, true, true, true, false, true, true, true, false, false, true, true, false, false, false] ⟨(cpTm c t5 (.slice (some ⟨g1, 0, none⟩) 0 0) ta1 (.slice (some ⟨g2, 0, none⟩) 0 0) ta2 te3 ta3), []⟩ W := by
    intro W Em t5 g1 ta1 g2 ta2 te3 ta3 hcs h1 h2 n12
    refine wpAnyH_ready r0_110 (by simp) ?_
    refine AllReadyH.cons iC (fun K hK => ?_) ?_
    · refine step_callcs hcs jC f fn hfn hname hbody (.tmp 4) ts pC c.c4 rfl hc hd (fun x1 p1 y1 p2 W' _ hcs' => ?_)
      rw [dC]
      exact hK.out _ _ (hS _ _ _ _ hcs') (fun _ => G1_110 W' _ x1 p1 y1 p2 g1 ta1 g2 ta2 te3 ta3 hcs' (h1) (h2) (n12))
    refine AllReadyH.cons iE3 (fun K hK => ?_) ?_
    · refine step_build0 jE3 pE3 ?_
      rw [dE3]
      exact hK.out _ _ (hS _ _ _ _ (cs_alloc hcs)) (fun _ => G0_111 _ _ t5 g1 ta1 g2 ta2 W.heap.size ta3 (cs_alloc hcs) (Or.inr h1) (Or.inr h2) (Or.inl rfl) (n12) (hlt hcs g1 h1) (hlt hcs g2 h2))
    exact AllReadyH.nil
  have G0_101 : ∀ (W : World) (Em : Nat → Prop) (t5 : Value) (g1 : Nat) (ta1 : Value) (te2 : Value) (ta2 : Value) (g3 : Nat) (ta3 : Value) (_ : CS w n0 bx rs ps ls W Em [] []) (h1 : Em g1) (h3 : Em g3) (n13 : g1 ≠ g3), wpAnyH Tryd.prog .any ops Q S 7 #[true, true, false, true, true, true, true, true, false, false, true, true, false, true, true, true, false, false, false] ⟨(cpTm c t5 (.slice (some ⟨g1, 0, none⟩) 0 0) ta1 te2 ta2 (.slice (some ⟨g3, 0, none⟩) 0 0) ta3), []⟩ W := by
    intro W Em t5 g1 ta1 te2 ta2 g3 ta3 hcs h1 h3 n13
    refine wpAnyH_ready r0_101 (by simp) ?_
    refine AllReadyH.cons iC (fun K hK => ?_) ?_
    · refine step_callcs hcs jC f fn hfn hname hbody (.tmp 4) ts pC c.c4 rfl hc hd (fun x1 p1 y1 p2 W' _ hcs' => ?_)
      rw [dC]
      exact hK.out _ _ (hS _ _ _ _ hcs') (fun _ => G1_101 W' _ x1 p1 y1 p2 g1 ta1 te2 ta2 g3 ta3 hcs' (h1) (h3) (n13))
    refine AllReadyH.cons iE2 (fun K hK => ?_) ?_
    · refine step_build0 jE2 pE2 ?_
      rw [dE2]
      exact hK.out _ _ (hS _ _ _ _ (cs_alloc hcs)) (fun _ => G0_111 _ _ t5 g1 ta1 W.heap.size ta2 g3 ta3 (cs_alloc hcs) (Or.inr h1) (Or.inl rfl) (Or.inr h3) (hlt hcs g1 h1) (n13) ((hlt hcs g3 h3).symm))
    exact AllReadyH.nil
  have G0_011 : ∀ (W : World) (Em : Nat → Prop) (t5 : Value) (te1 : Value) (ta1 : Value) (g2 : Nat) (ta2 : Value) (g3 : Nat) (ta3 : Value) (_ : CS w n0 bx rs ps ls W Em [] []) (h2 : Em g2) (h3 : Em g3) (n23 : g2 ≠ g3), wpAnyH Tryd.prog .any ops Q S 7 #[true, true, false, true, true, false, true, true, false, true, true, true, false, true, true, true, false, false, false] ⟨(cpTm c t5 te1 ta1 (.slice (some ⟨g2, 0, none⟩) 0 0) ta2 (.slice (some ⟨g3, 0, none⟩) 0 0) ta3), []⟩ W := by
    intro W Em t5 te1 ta1 g2 ta2 g3 ta3 hcs h2 h3 n23
    refine wpAnyH_ready r0_011 (by simp) ?_
    refine AllReadyH.cons iC (fun K hK => ?_) ?_
    · refine step_callcs hcs jC f fn hfn hname hbody (.tmp 4) ts pC c.c4 rfl hc hd (fun x1 p1 y1 p2 W' _ hcs' => ?_)
      rw [dC]
      exact hK.out _ _ (hS _ _ _ _ hcs') (fun _ => G1_011 W' _ x1 p1 y1 p2 te1 ta1 g2 ta2 g3 ta3 hcs' (h2) (h3) (n23))
    refine AllReadyH.cons iE1 (fun K hK => ?_) ?_
    · refine step_build0 jE1 pE1 ?_
      rw [dE1]
      exact hK.out _ _ (hS _ _ _ _ (cs_alloc hcs)) (fun _ => G0_111 _ _ t5 W.heap.size ta1 g2 ta2 g3 ta3 (cs_alloc hcs) (Or.inl rfl) (Or.inr h2) (Or.inr h3) ((hlt hcs g2 h2).symm) ((hlt hcs g3 h3).symm) (n23))
    exact AllReadyH.nil
  have G1_000 : ∀ (W : World) (Em : Nat → Prop) (x1 : Option Addr) (p1 : Nat) (y1 : Option Addr) (p2 : Nat) (te1 : Value) (ta1 : Value) (te2 : Value) (ta2 : Value) (te3 : Value) (ta3 : Value) (_ : CS w n0 bx rs ps ls W Em [] [.agg #[.slice x1 ps.length p1, .slice y1 ls.length p2]]), wpAnyH Tryd.prog .any ops Q S 8 #[true, true, true, true, true, false, true, true, false, false, true, true, false, false, true, true, false, false, false] ⟨(cpTm c (.agg #[.slice x1 ps.length p1, .slice y1 ls.length p2]) te1 ta1 te2 ta2 te3 ta3), []⟩ W := by
    intro W Em x1 p1 y1 p2 te1 ta1 te2 ta2 te3 ta3 hcs
    refine wpAnyH_ready r1_000 (by simp) ?_
    refine AllReadyH.cons iE1 (fun K hK => ?_) ?_
    · refine step_build0 jE1 pE1 ?_
      rw [dE1]
      exact hK.out _ _ (hS _ _ _ _ (cs_alloc hcs)) (fun _ => G1_100 _ _ x1 p1 y1 p2 W.heap.size ta1 te2 ta2 te3 ta3 (cs_alloc hcs) (Or.inl rfl))
    refine AllReadyH.cons iE2 (fun K hK => ?_) ?_
    · refine step_build0 jE2 pE2 ?_
      rw [dE2]
      exact hK.out _ _ (hS _ _ _ _ (cs_alloc hcs)) (fun _ => G1_010 _ _ x1 p1 y1 p2 te1 ta1 W.heap.size ta2 te3 ta3 (cs_alloc hcs) (Or.inl rfl))
    refine AllReadyH.cons iE3 (fun K hK => ?_) ?_
    · refine step_build0 jE3 pE3 ?_
      rw [dE3]
      exact hK.out _ _ (hS _ _ _ _ (cs_alloc hcs)) (fun _ => G1_001 _ _ x1 p1 y1 p2 te1 ta1 te2 ta2 W.heap.size ta3 (cs_alloc hcs) (Or.inl rfl))
    exact AllReadyH.nil
  have G0_100 : ∀ (W : World) (Em : Nat → Prop) (t5 : Value) (g1 : Nat) (ta1 : Value) (te2 : Value) (ta2 : Value) (te3 : Value) (ta3 : Value) (_ : CS w n0 bx rs ps ls W Em [] []) (h1 : Em g1), wpAnyH Tryd.prog .any ops Q S 8 #[true, true, false, true, true, true, true, true, false, false, true, true, false, false, true, true, false, false, false] ⟨(cpTm c t5 (.slice (some ⟨g1, 0, none⟩) 0 0) ta1 te2 ta2 te3 ta3), []⟩ W := by
    intro W Em t5 g1 ta1 te2 ta2 te3 ta3 hcs h1
    refine wpAnyH_ready r0_100 (by simp) ?_
    refine AllReadyH.cons iC (fun K hK => ?_) ?_
    · refine step_callcs hcs jC f fn hfn hname hbody (.tmp 4) ts pC c.c4 rfl hc hd (fun x1 p1 y1 p2 W' _ hcs' => ?_)
      rw [dC]
      exact hK.out _ _ (hS _ _ _ _ hcs') (fun _ => G1_100 W' _ x1 p1 y1 p2 g1 ta1 te2 ta2 te3 ta3 hcs' (h1))
    refine AllReadyH.cons iE2 (fun K hK => ?_) ?_
    · refine step_build0 jE2 pE2 ?_
      rw [dE2]
      exact hK.out _ _ (hS _ _ _ _ (cs_alloc hcs)) (fun _ => G0_110 _ _ t5 g1 ta1 W.heap.size ta2 te3 ta3 (cs_alloc hcs) (Or.inr h1) (Or.inl rfl) (hlt hcs g1 h1))
    refine AllReadyH.cons iE3 (fun K hK => ?_) ?_
    · refine step_build0 jE3 pE3 ?_
      rw [dE3]
      exact hK.out _ _ (hS _ _ _ _ (cs_alloc hcs)) (fun _ => G0_101 _ _ t5 g1 ta1 te2 ta2 W.heap.size ta3 (cs_alloc hcs) (Or.inr h1) (Or.inl rfl) (hlt hcs g1 h1))
    exact AllReadyH.nil
  have G0_010 : ∀ (W : World) (Em : Nat → Prop) (t5 : Value) (te1 : Value) (ta1 : Value) (g2 : Nat) (ta2 : Value) (te3 : Value) (ta3 : Value) (_ : CS w n0 bx rs ps ls W Em [] []) (h2 : Em g2), wpAnyH Tryd.prog .any ops Q S 8 #[true, true, false, true, true, false, true, true, false, true, true, true, false, false, true, true, false, false, false] ⟨(cpTm c t5 te1 ta1 (.slice (some ⟨g2, 0, none⟩) 0 0) ta2 te3 ta3), []⟩ W := by
    intro W Em t5 te1 ta1 g2 ta2 te3 ta3 hcs h2
    refine wpAnyH_ready r0_010 (by simp) ?_
    refine AllReadyH.cons iC (fun K hK => ?_) ?_
    · refine step_callcs hcs jC f fn hfn hname hbody (.tmp 4) ts pC c.c4 rfl hc hd (fun x1 p1 y1 p2 W' _ hcs' => ?_)
      rw [dC]
      exact hK.out _ _ (hS _ _ _ _ hcs') (fun _ => G1_010 W' _ x1 p1 y1 p2 te1 ta1 g2 ta2 te3 ta3 hcs' (h2))
    refine AllReadyH.cons iE1 (fun K hK => ?_) ?_
    · refine step_build0 jE1 pE1 ?_
      rw [dE1]
      exact hK.out _ _ (hS _ _ _ _ (cs_alloc hcs)) (fun _ => G0_110 _ _ t5 W.heap.size ta1 g2 ta2 te3 ta3 (cs_alloc hcs) (Or.inl rfl) (Or.inr h2) ((hlt hcs g2 h2).symm))
    refine AllReadyH.cons iE3 (fun K hK => ?_) ?_
    · refine step_build0 jE3 pE3 ?_
      rw [dE3]
      exact hK.out _ _ (hS _ _ _ _ (cs_alloc hcs)) (fun _ => G0_011 _ _ t5 te1 ta1 g2 ta2 W.heap.size ta3 (cs_alloc hcs) (Or.inr h2) (Or.inl rfl) (hlt hcs g2 h2))
    exact AllReadyH.nil
  have G0_001 : ∀ (W : World) (Em : Nat → Prop) (t5 : Value) (te1 : Value) (ta1 : Value) (te2 : Value) (ta2 : Value) (g3 : Nat) (ta3 : Value) (_ : CS w n0 bx rs ps ls W Em [] []) (h3 : Em g3), wpAnyH Tryd.prog .any ops Q S 8 #[true, true, false, true, true, false, true, true, false, false, true, true, false, true, true, true, false, false, false] ⟨(cpTm c t5 te1 ta1 te2 ta2 (.slice (some ⟨g3, 0, none⟩) 0 0) ta3), []⟩ W := by
    intro W Em t5 te1 ta1 te2 ta2 g3 ta3 hcs h3
    refine wpAnyH_ready r0_001 (by simp) ?_
    refine AllReadyH.cons iC (fun K hK => ?_) ?_
    · refine step_callcs hcs jC f fn hfn hname hbody (.tmp 4) ts pC c.c4 rfl hc hd (fun x1 p1 y1 p2 W' _ hcs' => ?_)
      rw [dC]
      exact hK.out _ _ (hS _ _ _ _ hcs') (fun _ => G1_001 W' _ x1 p1 y1 p2 te1 ta1 te2 ta2 g3 ta3 hcs' (h3))
    refine AllReadyH.cons iE1 (fun K hK => ?_) ?_
    · refine step_build0 jE1 pE1 ?_
      rw [dE1]
      exact hK.out _ _ (hS _ _ _ _ (cs_alloc hcs)) (fun _ => G0_101 _ _ t5 W.heap.size ta1 te2 ta2 g3 ta3 (cs_alloc hcs) (Or.inl rfl) (Or.inr h3) ((hlt hcs g3 h3).symm))
    refine AllReadyH.cons iE2 (fun K hK => ?_) ?_
    · refine step_build0 jE2 pE2 ?_
      rw [dE2]
      exact hK.out _ _ (hS _ _ _ _ (cs_alloc hcs)) (fun _ => G0_011 _ _ t5 te1 ta1 W.heap.size ta2 g3 ta3 (cs_alloc hcs) (Or.inl rfl) (Or.inr h3) ((hlt hcs g3 h3).symm))
    exact AllReadyH.nil
  have G0_000 : ∀ (W : World) (Em : Nat → Prop) (t5 : Value) (te1 : Value) (ta1 : Value) (te2 : Value) (ta2 : Value) (te3 : Value) (ta3 : Value) (_ : CS w n0 bx rs ps ls W Em [] []), wpAnyH Tryd.prog .any ops Q S 9 #[true, true, false, true, true, false, true, true, false, false, true, true, false, false, true, true, false, false, false] ⟨(cpTm c t5 te1 ta1 te2 ta2 te3 ta3), []⟩ W := by
    intro W Em t5 te1 ta1 te2 ta2 te3 ta3 hcs
    refine wpAnyH_ready r0_000 (by simp) ?_
    refine AllReadyH.cons iC (fun K hK => ?_) ?_
    · refine step_callcs hcs jC f fn hfn hname hbody (.tmp 4) ts pC c.c4 rfl hc hd (fun x1 p1 y1 p2 W' _ hcs' => ?_)
      rw [dC]
      exact hK.out _ _ (hS _ _ _ _ hcs') (fun _ => G1_000 W' _ x1 p1 y1 p2 te1 ta1 te2 ta2 te3 ta3 hcs' )
    refine AllReadyH.cons iE1 (fun K hK => ?_) ?_
    · refine step_build0 jE1 pE1 ?_
      rw [dE1]
      exact hK.out _ _ (hS _ _ _ _ (cs_alloc hcs)) (fun _ => G0_100 _ _ t5 W.heap.size ta1 te2 ta2 te3 ta3 (cs_alloc hcs) (Or.inl rfl))
    refine AllReadyH.cons iE2 (fun K hK => ?_) ?_
    · refine step_build0 jE2 pE2 ?_
      rw [dE2]
      exact hK.out _ _ (hS _ _ _ _ (cs_alloc hcs)) (fun _ => G0_010 _ _ t5 te1 ta1 W.heap.size ta2 te3 ta3 (cs_alloc hcs) (Or.inl rfl))
    refine AllReadyH.cons iE3 (fun K hK => ?_) ?_
    · refine step_build0 jE3 pE3 ?_
      rw [dE3]
      exact hK.out _ _ (hS _ _ _ _ (cs_alloc hcs)) (fun _ => G0_001 _ _ t5 te1 ta1 te2 ta2 W.heap.size ta3 (cs_alloc hcs) (Or.inl rfl))
    exact AllReadyH.nil
  exact fun W h => G0_000 W _ undef undef undef undef undef undef undef h
end Go.Proofs.YtacmpggigdlmmaaDoor

namespace Go.Proofs.YtacmpggigdlmmaaDoor
open Go.RowKit

set_option maxHeartbeats 16000000 in
set_option maxRecDepth 100000 in
theorem specWCopy_any (v : Value) (k : Wk) (hk : k.small) (w : World) (hd : WorkAt w v k) :
    Calls Tryd.prog 18 #[v] w fun e w' => ∃ v', e = .returned v' ∧ WorkNw w' w.heap.size v' k ∧ Below w.heap.size w w' := by
  obtain ⟨s1, s2, s3, s4, s5, s6, s7⟩ := hk
  have HC := hide (fun vp vl wx h => specCopy_any (.agg #[vp, vl]) k.ps k.ls s1 s3 wx h)
  have HS := hide (⟨s1, s3, s5, s6, s7⟩ : k.ps.length ≤ 1048576 ∧ k.ls.length ≤ 1048576 ∧ k.us.length ≤ 2000000 ∧ k.gs.length ≤ 2000000 ∧ k.fs.length ≤ 2000000)
  clear s1 s2 s3 s4 s5 s6 s7
  obtain ⟨vp, vl, vu, vg, vf, rfl, h1, h2, h3, h4, -⟩ := hd
  have HD := hide h1
  have HU := hide h2
  have HG := hide h3
  have HF := hide h4
  clear h1 h2 h3 h4
  obtain ⟨nx, hnx⟩ : ∃ n, n = k.next := ⟨_, rfl⟩
  rw [← hnx]
  have HNx := hide hnx
  clear hnx
  obtain ⟨w0, hw0⟩ : ∃ w0, w0 = (w.alloc (Obj.cells #[vp, vl, .int .i64 nx, vu, vg, vf] 36)).alloc (Obj.cells #[.slice none 0 0, .slice none 0 0, .int .i64 0, .slice none 0 0, .slice none 0 0, .slice none 0 0] 36) := ⟨_, rfl⟩
  have hb0 : Below w.heap.size w w0 := by rw [hw0]; exact ((Below.refl w.heap.size w).alloc (Nat.le_refl _) _).alloc (by simp) _
  obtain ⟨q0, q1, hs0⟩ := two_allocs w (Obj.cells #[vp, vl, .int .i64 nx, vu, vg, vf] 36) (Obj.cells #[.slice none 0 0, .slice none 0 0, .int .i64 0, .slice none 0 0, .slice none 0 0, .slice none 0 0] 36)
  rw [← hw0] at q0 q1 hs0
  obtain ⟨a0, ha0⟩ : ∃ a, a = w.heap.size := ⟨_, rfl⟩
  rw [← ha0] at q0 q1 hs0
  have hcs0 : CS w a0 (Obj.cells #[vp, vl, .int .i64 nx, vu, vg, vf] 36) (Obj.cells #[.slice none 0 0, .slice none 0 0, .int .i64 0, .slice none 0 0, .slice none 0 0, .slice none 0 0] 36) k.ps k.ls w0 (fun y => y < 0) [] [] :=
    ⟨ha0, hb0, q0, q1, fun g hg => absurd hg (by omega), fun r hr => (by cases hr), List.Pairwise.nil, fun v hv => (by cases hv)⟩
  go_enter Tryd.func18, Tryd.ntmps18
  go_wp2_with fail
  rw [← hw0, ← ha0]
  clear ha0 hw0 hs0 hb0 q0 q1
  refine wp_region_held_drew (S := fun wx => wx.cell? ⟨a0, 0, none⟩ = some vp ∧ wx.cell? ⟨a0, 1, none⟩ = some vl ∧ wx.cell? ⟨a0, 2, none⟩ = some (.int .i64 nx) ∧ wx.cell? ⟨a0, 3, none⟩ = some vu ∧ wx.cell? ⟨a0, 4, none⟩ = some vg ∧ wx.cell? ⟨a0, 5, none⟩ = some vf) (by kernel_rfl) (cs_cells (cs_drew hcs0)) (fun hHeld => ?_)
  refine takeW 0 3 ?_ rfl rfl (by kernel_rfl) (by kernel_rfl) (by kernel_rfl) (fun _ _ _ h => h) (Or.inl ⟨by rfl, ?_⟩) hHeld ?_
  rotate_left
  · (intro wx hSw; (try dsimp only at hSw); go_simp; try with_reducible rfl)
  simp only [List.setIfInBounds_toArray, List.set_cons_zero, List.set_cons_succ]
  refine takeW 1 4 ?_ rfl rfl (by kernel_rfl) (by kernel_rfl) (by kernel_rfl) (fun _ _ _ h => h) (Or.inl ⟨by rfl, ?_⟩) hHeld ?_
  rotate_left
  · (intro wx hSw; (try dsimp only at hSw); go_simp; try with_reducible rfl)
  simp only [List.setIfInBounds_toArray, List.set_cons_zero, List.set_cons_succ]
  refine takeW 3 6 ?_ rfl rfl (by kernel_rfl) (by kernel_rfl) (by kernel_rfl) (fun _ _ _ h => h) (Or.inl ⟨by rfl, ?_⟩) hHeld ?_
  rotate_left
  · (intro wx hSw; (try dsimp only at hSw); go_simp; try with_reducible rfl)
  simp only [List.setIfInBounds_toArray, List.set_cons_zero, List.set_cons_succ]
  refine takeW 4 7 ?_ rfl rfl (by kernel_rfl) (by kernel_rfl) (by kernel_rfl) (fun _ _ _ h => h) (Or.inl ⟨by rfl, ?_⟩) hHeld ?_
  rotate_left
  · (intro wx hSw; (try dsimp only at hSw); go_simp; try with_reducible rfl)
  simp only [List.setIfInBounds_toArray, List.set_cons_zero, List.set_cons_succ]
  refine takeW 6 9 ?_ rfl rfl (by kernel_rfl) (by kernel_rfl) (by kernel_rfl) (fun _ _ _ h => h) (Or.inl ⟨by rfl, ?_⟩) hHeld ?_
  rotate_left
  · (intro wx hSw; (try dsimp only at hSw); go_simp; try with_reducible rfl)
  simp only [List.setIfInBounds_toArray, List.set_cons_zero, List.set_cons_succ]
  refine takeW 7 10 ?_ rfl rfl (by kernel_rfl) (by kernel_rfl) (by kernel_rfl) (fun _ _ _ h => h) (Or.inl ⟨by rfl, ?_⟩) hHeld ?_
  rotate_left
  · (intro wx hSw; (try dsimp only at hSw); go_simp; try with_reducible rfl)
  simp only [List.setIfInBounds_toArray, List.set_cons_zero, List.set_cons_succ]
  refine takeW 10 13 ?_ rfl rfl (by kernel_rfl) (by kernel_rfl) (by kernel_rfl) (fun _ _ _ h => h) (Or.inl ⟨by rfl, ?_⟩) hHeld ?_
  rotate_left
  · (intro wx hSw; (try dsimp only at hSw); go_simp; try with_reducible rfl)
  simp only [List.setIfInBounds_toArray, List.set_cons_zero, List.set_cons_succ]
  refine takeW 11 14 ?_ rfl rfl (by kernel_rfl) (by kernel_rfl) (by kernel_rfl) (fun _ _ _ h => h) (Or.inl ⟨by rfl, ?_⟩) hHeld ?_
  rotate_left
  · (intro wx hSw; (try dsimp only at hSw); go_simp; try with_reducible rfl)
  simp only [List.setIfInBounds_toArray, List.set_cons_zero, List.set_cons_succ]
  refine takeW 14 17 ?_ rfl rfl (by kernel_rfl) (by kernel_rfl) (by kernel_rfl) (fun _ _ _ h => h) (Or.inl ⟨by rfl, ?_⟩) hHeld ?_
  rotate_left
  · (intro wx hSw; (try dsimp only at hSw); go_simp; try with_reducible rfl)
  simp only [List.setIfInBounds_toArray, List.set_cons_zero, List.set_cons_succ]
  refine takeW 15 18 ?_ rfl rfl (by kernel_rfl) (by kernel_rfl) (by kernel_rfl) (fun _ _ _ h => h) (Or.inl ⟨by rfl, ?_⟩) hHeld ?_
  rotate_left
  · (intro wx hSw; (try dsimp only at hSw); go_simp; try with_reducible rfl)
  simp only [List.setIfInBounds_toArray, List.set_cons_zero, List.set_cons_succ]
  refine copy_walk (us := k.us) (gs := k.gs) (fs := k.fs) ⟨_, _, _, _, _, _, _, _, _, _, _, _, _, _⟩ HS.out.2.2.1 HS.out.2.2.2.1 HS.out.2.2.2.2 (fun _ _ _ _ h => cs_cells h) 35 Tryd.f35 Tryd.func35 (by decide) (Option.some_ne_none _) #[34] (HC.out vp vl) HD.out HU.out HG.out HF.out rfl rfl rfl rfl rfl rfl rfl rfl rfl rfl rfl rfl rfl rfl rfl rfl rfl rfl rfl rfl rfl rfl rfl rfl rfl rfl rfl rfl (by kernel_rfl) (by kernel_rfl) (by kernel_rfl) (by kernel_rfl) (by kernel_rfl) (by kernel_rfl) (by kernel_rfl) (by kernel_rfl) (by kernel_rfl) (by kernel_rfl) (by kernel_rfl) (by kernel_rfl) (by kernel_rfl) (by kernel_rfl) (by kernel_rfl) (by kernel_rfl) (by kernel_rfl) (by kernel_rfl) (by kernel_rfl) (by kernel_rfl) (by kernel_rfl) (by kernel_rfl) ?_ _ (cs_drew hcs0)
  intro W Em x1 p1 y1 p2 te1 b1 q1 te2 b2 q2 te3 b3 q3 hcs
  have hHeld2 := cs_cells hcs
  refine takeW 17 20 ?_ rfl rfl (by kernel_rfl) (by kernel_rfl) (by kernel_rfl) (fun _ _ _ h => h) (Or.inl ⟨by rfl, ?_⟩) hHeld2 ?_
  rotate_left
  · (intro wx hSw; (try dsimp only at hSw); go_simp; try with_reducible rfl)
  simp only [List.setIfInBounds_toArray, List.set_cons_zero, List.set_cons_succ]
  have hwk := cs_work (k := k) hcs
  rw [← HNx.out] at hwk
  have hret := ret_nw hcs.res hwk (by omega) (by have := hcs.n0e; omega) hcs.low
  obtain ⟨⟨r0, r1, r2, r3, r4, r5⟩, z0, z1, z2, z3, z4, z5⟩ := cs_res hcs
  obtain ⟨f0, f1, f2, f3, f4, f5⟩ := blk6c hret.1
  have HR := hide hret
  have HCs := hide hcs
  clear hret hwk hcs hHeld hcs0
  refine wpAnyH_ready (rs := [18]) (by kernel_rfl) (by simp) ?_
  refine AllReadyH.cons rfl (fun K hK => ?_) AllReadyH.nil
  go_simp
  refine hK.out _ _ (cs_cells6 HCs.out) (fun _ => ?_)
  refine wpAnyH_done (by kernel_rfl) ?_ _
  go_wp2_with fail
  refine bodyPost_ret (v := .agg #[.slice x1 k.ps.length p1, .slice y1 k.ls.length p2, .int .i64 nx, .slice (some ⟨b1, 0, none⟩) k.us.length q1, .slice (some ⟨b2, 0, none⟩) k.gs.length q2, .slice (some ⟨b3, 0, none⟩) k.fs.length q3]) (by simp [results, Tryd.results18, go_sem, f0, f1, f2, f3, f4, f5]) rfl ⟨_, rfl, HR.out.2.1, HR.out.2.2⟩
end Go.Proofs.YtacmpggigdlmmaaDoor

namespace Go.Proofs.YtacmpggigdlmmaaDoor
open Go.RowKit

theorem disk_rows {w : World} {B : Nat} {u0 u1 : Value} {ps : List ByteArray} {ls : List (Int × ByteArray)} (h : DiskOwn w B (.agg #[u0, u1]) ps ls) : w.ownsRow B 9 1 u0 ps.length (strs ps) ∧ w.ownsRow B 96 2 u1 ls.length (puts ls) := by
  obtain ⟨vp, vl, e, h1, h2⟩ := h
  injection e with e
  injection e with e
  injection e with e1 e
  injection e with e2
  subst e1 e2
  exact ⟨h1, h2⟩

/-- a disk is laid into the variable of the answer -/
theorem ret_disk {w wr : World} {a1 B : Nat} {r0 r1 u0 u1 : Value} {t : TypeId} {ps : List ByteArray} {ls : List (Int × ByteArray)} (hres : wr.heap[a1]? = some (Obj.cells #[r0, r1] t)) (hd : DiskOwn wr B (.agg #[u0, u1]) ps ls) (hB : a1 < B) (hw : w.heap.size ≤ a1) (hb : Below w.heap.size w wr) :
    ((wr.setCell ⟨a1, 0, none⟩ u0).setCell ⟨a1, 1, none⟩ u1).cell? ⟨a1, 0, none⟩ = some u0 ∧ ((wr.setCell ⟨a1, 0, none⟩ u0).setCell ⟨a1, 1, none⟩ u1).cell? ⟨a1, 1, none⟩ = some u1 ∧
    DiskOwn ((wr.setCell ⟨a1, 0, none⟩ u0).setCell ⟨a1, 1, none⟩ u1) w.heap.size (.agg #[u0, u1]) ps ls ∧ Below w.heap.size w ((wr.setCell ⟨a1, 0, none⟩ u0).setCell ⟨a1, 1, none⟩ u1) := by
  have y1 : (wr.setCell ⟨a1, 0, none⟩ u0).heap[a1]? = some (Obj.cells #[u0, r1] t) := heap_setCell_same _ a1 0 _ _ _ hres
  have y2 : ((wr.setCell ⟨a1, 0, none⟩ u0).setCell ⟨a1, 1, none⟩ u1).heap[a1]? = some (Obj.cells #[u0, u1] t) := heap_setCell_same _ a1 1 _ _ _ y1
  have k2 : Kept wr ((wr.setCell ⟨a1, 0, none⟩ u0).setCell ⟨a1, 1, none⟩ u1) (fun k => k = a1) := kept_trans (kept_setCell _ _ _ _) (kept_setCell _ _ _ _) (fun j _ h => h)
  obtain ⟨o1, o2⟩ := disk_rows hd
  refine ⟨(cell_at y2 0).1, (cell_at y2 1).1, ⟨_, _, rfl, ?_, ?_⟩, ?_⟩
  · exact own_down (own_kept o1 k2 (fun k hk => by have := (o1.lt k hk).1; omega)) (by omega)
  · exact own_down (own_kept o2 k2 (fun k hk => by have := (o2.lt k hk).1; omega)) (by omega)
  · exact (hb.setCell (by exact hw) _).setCell (by exact hw) _

theorem own_ne_type {w : World} {B e sz n g : Nat} {v : Value} {xs : List Value} {cs : Array Value} {t : TypeId} {fr : Nat × Nat} (h : w.ownsRow B e sz v n xs) (hg : w.heap[g]? = some (.cells cs t fr)) (hne : e ≠ t) : v.ownBlock ≠ some g := by
  intro h1
  rcases h.2 with ⟨rfl, -⟩ | ⟨k, cap, cur, rfl, -, hh, -⟩
  · cases h1
  · injection h1 with h1
    have h1 : k = g := h1
    subst h1
    rw [hh] at hg
    injection hg with hg
    injection hg with _ he _
    exact hne he

theorem own_apart {w w' : World} {B B' e e' sz sz' n n' : Nat} {v v' : Value} {xs xs' : List Value} (h : w.ownsRow B e sz v n xs) (h' : w.ownsRow B' e' sz' v' n' xs') (hne : e ≠ e') (hg : w.grownBy w' v'.ownBlock) : w'.ownsRow B e sz v n xs := by
  cases hv : v.ownBlock with
  | none => exact h.kept hg (Or.inl hv)
  | some k => exact h.kept hg (Or.inr (by rw [hv]; exact fun e1 => one_type h h' hne k hv e1.symm))

end Go.Proofs.YtacmpggigdlmmaaDoor

namespace Go.Proofs.YtacmpggigdlmmaaDoor
open Go.RowKit

/-- the variable g of a work k, its rows u0 .. u5; the box and the answer's variable beside it -/
structure GV (w W : World) (a0 g B : Nat) (bx rs : Obj) (u0 u1 u3 u4 u5 : Value) (k : Wk) : Prop where
  var : W.heap[g]? = some (Obj.cells #[u0, u1, .int .i64 k.next, u3, u4, u5] 36)
  res : W.heap[a0 + 1]? = some rs
  box : W.heap[a0]? = some bx
  low : Below w.heap.size w W
  ha : a0 = w.heap.size
  hB : a0 + 2 ≤ B
  hg : a0 + 2 ≤ g
  hBW : B ≤ W.heap.size
  nw : WorkNw W B (.agg #[u0, u1, .int .i64 k.next, u3, u4, u5]) k

theorem gv_away {w W : World} {a0 g B : Nat} {bx rs : Obj} {u0 u1 u3 u4 u5 : Value} {k : Wk} (h : GV w W a0 g B bx rs u0 u1 u3 u4 u5 k) : ∀ j, workBlocks (.agg #[u0, u1, .int .i64 k.next, u3, u4, u5]) j → j ≠ g ∧ j ≠ a0 ∧ j ≠ a0 + 1 ∧ B ≤ j ∧ j < W.heap.size := fun j hj => by
  have hl := workOwn_lt (nw_own h.nw) j hj
  have hB := h.hB
  refine ⟨fun e => ?_, by omega, by omega, hl.1, hl.2⟩
  subst e
  obtain ⟨vp, vl, n, vu, vg, vf, e, hj⟩ := hj
  obtain ⟨rfl, rfl, rfl, rfl, rfl, rfl⟩ := agg6 e
  obtain ⟨hd, -, h3, h4, h5, -⟩ := nw_rows h.nw
  obtain ⟨vp', vl', e, d1, d2⟩ := hd
  injection e with e
  injection e with e
  injection e with e1 e
  injection e with e2
  subst e1 e2
  rcases hj with ⟨vp2, vl2, e, hj⟩ | hj | hj | hj
  · injection e with e
    injection e with e
    injection e with e1 e
    injection e with e2
    subst e1 e2
    rcases hj with hj | hj
    · exact own_ne_type d1 h.var (by decide) hj
    · exact own_ne_type d2 h.var (by decide) hj
  · exact own_ne_type h3 h.var (by decide) hj
  · exact own_ne_type h4 h.var (by decide) hj
  · exact own_ne_type h5 h.var (by decide) hj

theorem gv_below {w W W' : World} {a0 g B : Nat} {bx rs : Obj} {u0 u1 u3 u4 u5 : Value} {k : Wk} (h : GV w W a0 g B bx rs u0 u1 u3 u4 u5 k) (hb : Below W.heap.size W W') : GV w W' a0 g B bx rs u0 u1 u3 u4 u5 k :=
  ⟨staysW h.var hb, staysW h.res hb, staysW h.box hb, h.low.trans (hb.mono h.low.size), h.ha, h.hB, h.hg, Nat.le_trans h.hBW hb.size, nw_below h.nw hb⟩

/-- the row of the usable ones is another -/
theorem gv_us {w W W' : World} {a0 g B e b c : Nat} {bx rs : Obj} {u0 u1 u3 u4 u5 : Value} {k : Wk} {l : List Int} (h : GV w W a0 g B bx rs u0 u1 u3 u4 u5 k) (he : W.heap.size ≤ e) (hgr : (W.alloc (Obj.cells #[] 3)).grownBy W' (some e)) (hown : W'.ownsRow e 3 1 (.slice (some ⟨b, 0, none⟩) l.length c) l.length (ints l)) :
    W'.heap[g]? = some (Obj.cells #[u0, u1, .int .i64 k.next, u3, u4, u5] 36) ∧ GV w (W'.setCell ⟨g, 3, none⟩ (.slice (some ⟨b, 0, none⟩) l.length c)) a0 g B bx rs u0 u1 (.slice (some ⟨b, 0, none⟩) l.length c) u4 u5 { k with us := l } := by
  have hb1 : Below W.heap.size W (W.alloc (Obj.cells #[] 3)) := (Below.refl _ _).alloc (Nat.le_refl _) _
  have hb2 : Below W.heap.size W W' := ⟨hgr.os.trans hb1.os, hgr.tape.trans hb1.tape, hgr.output.trans hb1.output, Nat.le_trans hb1.size hgr.size, fun j hj => (hgr.block j (Nat.lt_of_lt_of_le hj hb1.size) (by intro e'; injection e' with e'; omega)).trans (hb1.block j hj)⟩
  have h2 := gv_below h hb2
  have aw := gv_away h
  have hk : Kept W' (W'.setCell ⟨g, 3, none⟩ (.slice (some ⟨b, 0, none⟩) l.length c)) (fun j => j = g) := kept_setCell _ _ _ _
  have hgl : g < W.heap.size := (Array.getElem?_eq_some_iff.1 h.var).1
  have hal : a0 + 1 < W.heap.size := (Array.getElem?_eq_some_iff.1 h.res).1
  have hbl : a0 < W.heap.size := (Array.getElem?_eq_some_iff.1 h.box).1
  have hg2 := h.hg
  obtain ⟨hd, -, h3, h4, h5, n1, n2, n3⟩ := nw_rows h2.nw
  have hbe : ∀ j, (Value.slice (some (⟨b, 0, none⟩ : Addr)) l.length c).ownBlock = some j → W.heap.size ≤ j := fun j e' => Nat.le_trans he (hown.lt j e').1
  refine ⟨h2.var, heap_setCell_same W' g 3 _ _ _ h2.var, (hk.2.2.2.2 _ (Nat.lt_of_lt_of_le hal hb2.size) (by omega)).trans h2.res, (hk.2.2.2.2 _ (Nat.lt_of_lt_of_le hbl hb2.size) (by omega)).trans h2.box, h2.low.trans (below_of_kept hk h2.low.size (fun j e' => by have := h.ha; omega)), h.ha, h.hB, h.hg, Nat.le_trans h2.hBW hk.2.2.2.1, ⟨u0, u1, _, u4, u5, rfl, ?_, ?_, ?_, ?_, ?_, ?_, n3⟩⟩
  · exact diskOwn_kept hd hk (fun j e' => (aw j ⟨_, _, _, _, _, _, rfl, Or.inl e'⟩).1)
  · exact own_kept (own_down hown (Nat.le_trans h.hBW he)) hk (fun j e' h' => by have := hbe j e'; omega)
  · exact own_kept h4 hk (fun j e' => (aw j ⟨_, _, _, _, _, _, rfl, Or.inr (Or.inr (Or.inl e'))⟩).1)
  · exact own_kept h5 hk (fun j e' => (aw j ⟨_, _, _, _, _, _, rfl, Or.inr (Or.inr (Or.inr e'))⟩).1)
  · intro j e1 e2
    have := hbe j e1
    have := (aw j ⟨_, _, _, _, _, _, rfl, Or.inr (Or.inr (Or.inl e2))⟩).2.2.2.2
    omega
  · intro j e1 e2
    have := hbe j e1
    have := (aw j ⟨_, _, _, _, _, _, rfl, Or.inr (Or.inr (Or.inr e2))⟩).2.2.2.2
    omega

/-- a page goes behind the fresh ones -/
theorem gv_fs {w W W' : World} {a0 g B b d : Nat} {bx rs : Obj} {u0 u1 u3 u4 u5 : Value} {k : Wk} {p : Int} (h : GV w W a0 g B bx rs u0 u1 u3 u4 u5 k) (hgr : (W.alloc (Obj.cells #[.int .i64 p] 3)).grownBy W' u5.ownBlock) (hown : W'.ownsRow B 3 1 (.slice (some ⟨b, 0, none⟩) (k.fs.length + 1) d) (k.fs.length + 1) (ints k.fs ++ [.int .i64 p])) (hb : u5.ownBlock = some b ∨ b = W.heap.size + 1) :
    W'.heap[g]? = some (Obj.cells #[u0, u1, .int .i64 k.next, u3, u4, u5] 36) ∧ GV w (W'.setCell ⟨g, 5, none⟩ (.slice (some ⟨b, 0, none⟩) (k.fs.length + 1) d)) a0 g B bx rs u0 u1 u3 u4 (.slice (some ⟨b, 0, none⟩) (k.fs.length + 1) d) { k with fs := k.fs ++ [p] } := by
  have hb1 : Below W.heap.size W (W.alloc (Obj.cells #[.int .i64 p] 3)) := (Below.refl _ _).alloc (Nat.le_refl _) _
  have aw := gv_away h
  obtain ⟨hd, -, h3, h4, h5, n1, n2, n3⟩ := nw_rows h.nw
  have hk0 : Kept W W' (fun j => u5.ownBlock = some j) := ⟨hgr.os.trans hb1.os, hgr.tape.trans hb1.tape, hgr.output.trans hb1.output, Nat.le_trans hb1.size hgr.size, fun j hj hn => (hgr.block j (Nat.lt_of_lt_of_le hj hb1.size) (fun e => hn e.symm)).trans (hb1.block j hj)⟩
  have hk1 : Kept W' (W'.setCell ⟨g, 5, none⟩ (.slice (some ⟨b, 0, none⟩) (k.fs.length + 1) d)) (fun j => j = g) := kept_setCell _ _ _ _
  have hk : Kept W (W'.setCell ⟨g, 5, none⟩ (.slice (some ⟨b, 0, none⟩) (k.fs.length + 1) d)) (fun j => j = g ∨ u5.ownBlock = some j) := kept_trans (kept_mono hk0 (fun j _ e => Or.inr e)) hk1 (fun j _ e => Or.inl e)
  have hgl : g < W.heap.size := (Array.getElem?_eq_some_iff.1 h.var).1
  have hal : a0 + 1 < W.heap.size := (Array.getElem?_eq_some_iff.1 h.res).1
  have hbl : a0 < W.heap.size := (Array.getElem?_eq_some_iff.1 h.box).1
  have w5 : ∀ j, u5.ownBlock = some j → j ≠ g ∧ j ≠ a0 ∧ j ≠ a0 + 1 ∧ B ≤ j ∧ j < W.heap.size := fun j e => aw j ⟨_, _, _, _, _, _, rfl, Or.inr (Or.inr (Or.inr e))⟩
  have hv : W'.heap[g]? = some (Obj.cells #[u0, u1, .int .i64 k.next, u3, u4, u5] 36) := (hk0.2.2.2.2 g hgl (fun e => (w5 g e).1 rfl)).trans h.var
  have hg2 := h.hg
  have hB := h.hB
  refine ⟨hv, heap_setCell_same W' g 5 _ _ _ hv, (hk.2.2.2.2 _ hal (fun e => by rcases e with e | e; omega; exact (w5 _ e).2.2.1 rfl)).trans h.res, (hk.2.2.2.2 _ hbl (fun e => by rcases e with e | e; omega; exact (w5 _ e).2.1 rfl)).trans h.box, h.low.trans (below_of_kept hk h.low.size (fun j e => by have := h.ha; rcases e with e | e; omega; have := (w5 j e).2.2.2.1; omega)), h.ha, h.hB, h.hg, Nat.le_trans h.hBW hk.2.2.2.1, ⟨u0, u1, u3, u4, _, rfl, ?_, ?_, ?_, ?_, n1, ?_, ?_⟩⟩
  · exact diskOwn_kept hd hk (fun j e h' => by rcases h' with h' | h'; exact (aw j ⟨_, _, _, _, _, _, rfl, Or.inl e⟩).1 h'; exact disk_int_apart hd (intOwn_of_own h5) j e h')
  · exact own_kept h3 hk (fun j e h' => by rcases h' with h' | h'; exact (aw j ⟨_, _, _, _, _, _, rfl, Or.inr (Or.inl e)⟩).1 h'; exact n2 j e h')
  · exact own_kept h4 hk (fun j e h' => by rcases h' with h' | h'; exact (aw j ⟨_, _, _, _, _, _, rfl, Or.inr (Or.inr (Or.inl e))⟩).1 h'; exact n3 j e h')
  · have e1 : (k.fs ++ [p]).length = k.fs.length + 1 := by simp
    have e2 : ints (k.fs ++ [p]) = ints k.fs ++ [.int .i64 p] := by simp [ints]
    show World.ownsRow _ B _ 1 _ (k.fs ++ [p]).length (ints (k.fs ++ [p]))
    rw [e1, e2]
    refine own_kept hown hk1 (fun j e h' => ?_)
    injection e with e
    have e : b = j := e
    rcases hb with hb | hb
    · exact (w5 b hb).1 (by omega)
    · omega
  · intro j e1 e2
    injection e2 with e2
    have e2 : b = j := e2
    rcases hb with hb | hb
    · exact n2 j e1 (by rw [← e2]; exact hb)
    · have := (aw j ⟨_, _, _, _, _, _, rfl, Or.inr (Or.inl e1)⟩).2.2.2.2; omega
  · intro j e1 e2
    injection e2 with e2
    have e2 : b = j := e2
    rcases hb with hb | hb
    · exact n3 j e1 (by rw [← e2]; exact hb)
    · have := (aw j ⟨_, _, _, _, _, _, rfl, Or.inr (Or.inr (Or.inl e1))⟩).2.2.2.2; omega

theorem nfrow {W : World} {B nf c5 : Nat} {a5 : Option Addr} {l : List Int} (hn : nf = l.length) (h : W.ownsRow B 3 1 (.slice a5 nf c5) l.length (ints l)) : W.ownsRow B 3 1 (.slice a5 nf c5) nf (ints l) := by
  subst hn; exact h

theorem gv_fs_kept {w W W' : World} {a0 g B : Nat} {bx rs : Obj} {u0 u1 u3 u4 u5 : Value} {k : Wk} {o : Obj} (h : GV w W a0 g B bx rs u0 u1 u3 u4 u5 k) (hgr : (W.alloc o).grownBy W' u5.ownBlock) : Kept W W' (fun j => u5.ownBlock = some j) ∧ ∀ j, u5.ownBlock = some j → j ≠ a0 ∧ B ≤ j := by
  have hb1 : Below W.heap.size W (W.alloc o) := (Below.refl _ _).alloc (Nat.le_refl _) _
  refine ⟨⟨hgr.os.trans hb1.os, hgr.tape.trans hb1.tape, hgr.output.trans hb1.output, Nat.le_trans hb1.size hgr.size, fun j hj hn => (hgr.block j (Nat.lt_of_lt_of_le hj hb1.size) (fun e => hn e.symm)).trans (hb1.block j hj)⟩, fun j e => ?_⟩
  have := gv_away h j ⟨_, _, _, _, _, _, rfl, Or.inr (Or.inr (Or.inr e))⟩
  exact ⟨this.2.1, this.2.2.2.1⟩

theorem gv_fs_box {w W W' : World} {a0 g B : Nat} {bx rs : Obj} {u0 u1 u3 u4 u5 : Value} {k : Wk} {o : Obj} (h : GV w W a0 g B bx rs u0 u1 u3 u4 u5 k) (hgr : (W.alloc o).grownBy W' u5.ownBlock) : W'.heap[a0]? = some bx := by
  obtain ⟨hk, hn⟩ := gv_fs_kept h hgr
  exact (hk.2.2.2.2 a0 (Array.getElem?_eq_some_iff.1 h.box).1 (fun e => (hn a0 e).1 rfl)).trans h.box

theorem gv_fs_low {w W W' : World} {a0 g B : Nat} {bx rs : Obj} {u0 u1 u3 u4 u5 : Value} {k : Wk} {o : Obj} (h : GV w W a0 g B bx rs u0 u1 u3 u4 u5 k) (hgr : (W.alloc o).grownBy W' u5.ownBlock) : Below w.heap.size w W' := by
  obtain ⟨hk, hn⟩ := gv_fs_kept h hgr
  exact h.low.trans (below_of_kept hk h.low.size (fun j e => by have := (hn j e).2; have := h.hB; have := h.ha; omega))

theorem keep6 {W : World} {g a : Nat} {o : Obj} {u0 u1 u2 u3 u4 u5 : Value} (h : W.heap[g]? = some o) (hne : g ≠ a) : (set6 W a u0 u1 u2 u3 u4 u5).heap[g]? = some o :=
  ((set6_kept W a u0 u1 u2 u3 u4 u5).2.2.2.2 g (Array.getElem?_eq_some_iff.1 h).1 hne).trans h

theorem s8 {W : World} {g a0 : Nat} {c0 c1 c2 c3 c4 c5 d0 d1 d2 d3 d4 d5 : Value} {t t' : TypeId} (h : W.heap[g]? = some (Obj.cells #[c0, c1, c2, c3, c4, c5] t)) (hb : W.heap[a0]? = some (Obj.cells #[d0, d1, d2, d3, d4, d5] t')) :
    W.cell? ⟨g, 0, none⟩ = some c0 ∧ W.cell? ⟨g, 1, none⟩ = some c1 ∧ W.cell? ⟨g, 2, none⟩ = some c2 ∧ W.cell? ⟨g, 3, none⟩ = some c3 ∧ W.cell? ⟨g, 4, none⟩ = some c4 ∧ W.cell? ⟨g, 5, none⟩ = some c5 ∧ W.cell? ⟨a0, 2, none⟩ = some d2 ∧ W.cell? ⟨a0, 3, none⟩ = some d3 :=
  ⟨(cell_at h 0).1, (cell_at h 1).1, (cell_at h 2).1, (cell_at h 3).1, (cell_at h 4).1, (cell_at h 5).1, (cell_at hb 2).1, (cell_at hb 3).1⟩

theorem s3 {W : World} {a0 b off : Nat} {d0 d1 d2 d3 d4 d5 x : Value} {t' : TypeId} (hb : W.heap[a0]? = some (Obj.cells #[d0, d1, d2, d3, d4, d5] t')) (hr : W.cell? ⟨b, off, none⟩ = some x) : W.cell? ⟨a0, 3, none⟩ = some d3 ∧ W.cell? ⟨b, off, none⟩ = some x := ⟨(cell_at hb 3).1, hr⟩

theorem wpList_copy {P : Program} (w : World) {ops : Array Oper} {rest : List Oper} {o : Oper} {a : Act} {Q : Exit → Act → World → Prop} (hgd : o.guard = none) (s x : Operand) (t : TypeId) (ho : o.op = .call { callee := .builtin .append, args := #[s, x], argTypes := #[t, t] })
    (e : TypeId) (i : TypeInfo) (z : Value) (ht : P.underlying t = some (.slice e)) (hi : P.info? e = some i) (hz : i.zero = some z) (hsize : i.size = 1) (hby : i.bytes = 8) (hzs : z.cells.size = 1)
    (g : Nat) (hs : a.eval s = .slice (some ⟨g, 0, none⟩) 0 0) (hge : w.heap[g]? = some (.cells #[] e (0, 0))) (u : Value) (m : Nat) (ys : List Value) (hx : a.eval x = u) (hrow : RowAt w 1 u m ys) (h1 : ∀ y ∈ ys, y.oneCell' = true) (hm : m ≤ 2000000)
    (h : ∀ b c w', w'.ownsRow g e 1 (.slice (some ⟨b, 0, none⟩) m c) m ys → w.grownBy w' (some g) → (b = g ∨ b = w.heap.size) → wpList P ops Q rest (a.put o.dst (.slice (some ⟨b, 0, none⟩) m c)) w') : wpList P ops Q (o :: rest) a w :=
  wpList_plain hgd fun _ hK => by
    obtain ⟨b, c, w', hr, q2, q3, q4⟩ := run_copy (P := P) w t o.type e i z ht hi hz hsize hby hzs g hge u m ys hrow h1 hm
    unfold Oper.wp execOp
    simp only [ho, resolve, invoke, builtin, Sem.run_bind, Sem.run_pure, Result.andThen_ok, List.map_toArray, List.map_cons, List.map_nil, hs, hx, hr]
    exact hK _ _ (h b c w' q2 q3 q4)

/-- the row without its first one, as a slice from 1 on tells it -/
theorem row_tail {w : World} {b off n c c' : Nat} {x : Int} {l : List Int} {y : Option Addr} (hn : n = l.length + 1) (h : RowAt w 1 (.slice (some ⟨b, off, none⟩) n c) n (ints (x :: l))) (hy : y = some ⟨b, off + 1, none⟩ ∨ l.length = 0) : RowAt w 1 (.slice y (n - 1) c') (n - 1) (ints l) := by
  obtain ⟨-, a, cap, e, h2⟩ := h
  injection e with e1 e2 e3
  subst e1
  refine ⟨by rw [ints_length]; omega, _, _, rfl, ?_⟩
  rcases hy with rfl | hy
  · rcases h2 with h0 | ⟨b', off', e, hlt, hc⟩
    · omega
    · injection e with e
      injection e with e1 e2
      subst e1 e2
      refine Or.inr ⟨b, off + 1, rfl, hlt, fun j hj => ?_⟩
      have := hc (j + 1) (by omega)
      rw [Nat.add_assoc, Nat.add_comm 1 j, this]
      simp [ints]
  · exact Or.inl (by omega)
end Go.Proofs.YtacmpggigdlmmaaDoor

namespace Go.Proofs.YtacmpggigdlmmaaDoor
open Go.RowKit

set_option maxHeartbeats 8000000 in
set_option maxRecDepth 100000 in
theorem specGivePage_any (v : Value) (k : Wk) (hk : k.small) (w : World) (hd : WorkAt w v k) :
    Calls Tryd.prog 37 #[v] w fun e w' => ∃ v', e = .returned (.tuple #[v', .int .i64 (giveP k)]) ∧ WorkOwn w' w.heap.size v' (giveK k) ∧ Below w.heap.size w w' := by
  obtain ⟨i0, hi, hz0, hz1, hz2⟩ := info_parts Tryd.infoIntC
  have hfl := hk.2.2.2.2.2.2
  have hpl := hk.1
  have HC := hide (fun u wx h => specWCopy_any u k hk wx h)
  have HSu := hide hk.2.2.2.2.1
  have HD := hide hd
  obtain ⟨vp, vl, vu, vg, vf, rfl, h1, h2, h3, h4, ua, uc, rfl, hucap⟩ := hd
  obtain ⟨xp, cxp, rfl⟩ : ∃ a cap, vp = .slice a k.ps.length cap := by obtain ⟨vp', vl', e, h, -⟩ := h1; obtain ⟨-, a, cap, e2, -⟩ := h; injection e with e; injection e with e; injection e with e1 e; subst e1; exact ⟨a, cap, e2⟩
  have HRw := hide h2
  obtain ⟨nx, hnx⟩ : ∃ n, n = k.next := ⟨_, rfl⟩
  rw [← hnx] at HD ⊢
  have HNx := hide hnx
  obtain ⟨np, hnp⟩ : ∃ n, n = k.ps.length := ⟨_, rfl⟩
  obtain ⟨nu, hnu⟩ : ∃ n, n = k.us.length := ⟨_, rfl⟩
  rw [← hnu] at hucap HRw
  rw [← hnp, ← hnu] at HD ⊢
  have HLn0 := hide (⟨hnp, hnu⟩ : _ ∧ _)
  clear hk hnx h1 h2 h3 h4 hnp hnu
  obtain ⟨w0, hw0⟩ : ∃ w0, w0 = (w.alloc (Obj.cells #[.slice xp np cxp, vl, .int .i64 nx, .slice ua nu uc, vg, vf] 36)).alloc (Obj.cells #[.slice none 0 0, .slice none 0 0, .int .i64 0, .slice none 0 0, .slice none 0 0, .slice none 0 0] 36) := ⟨_, rfl⟩
  have hb0 : Below w.heap.size w w0 := by rw [hw0]; exact ((Below.refl w.heap.size w).alloc (Nat.le_refl _) _).alloc (by simp) _
  obtain ⟨q0, q1, hs0⟩ := two_allocs w (Obj.cells #[.slice xp np cxp, vl, .int .i64 nx, .slice ua nu uc, vg, vf] 36) (Obj.cells #[.slice none 0 0, .slice none 0 0, .int .i64 0, .slice none 0 0, .slice none 0 0, .slice none 0 0] 36)
  rw [← hw0] at q0 q1 hs0
  obtain ⟨a0, ha0⟩ : ∃ a, a = w.heap.size := ⟨_, rfl⟩
  rw [← ha0] at q0 q1 hs0
  have HA : Hid (a0 = w.heap.size ∧ w0.heap.size = a0 + 2) := hide ⟨ha0, hs0⟩
  have HB0 := hide hb0
  have HQ := hide (⟨q0, q1⟩ : _ ∧ _)
  go_enter Tryd.func37, Tryd.ntmps37
  go_wp2_with fail
  rw [← hw0, ← ha0]
  clear hb0 q0 q1 hs0 hw0 ha0
  refine (HC.out _ _ (work_below HD.out HB0.out)).mono ?_
  rintro e w1 ⟨u, rfl, hnw, hb1⟩
  obtain ⟨a1, c1, a2, c2, a3, c3, a4, c4, a5, c5, rfl⟩ := nw_form hnw
  rw [← HNx.out] at hnw ⊢
  obtain ⟨hnp, hnu⟩ := HLn0.out
  obtain ⟨nl, hnl⟩ : ∃ n, n = k.ls.length := ⟨_, rfl⟩
  obtain ⟨ng, hng⟩ : ∃ n, n = k.gs.length := ⟨_, rfl⟩
  obtain ⟨nf, hnf⟩ : ∃ n, n = k.fs.length := ⟨_, rfl⟩
  rw [← hnp, ← hnl, ← hnu, ← hng, ← hnf] at hnw ⊢
  rw [← hnp] at hpl
  rw [← hnf] at hfl
  have HLn := hide (⟨hnp, hnl, hnu, hng, hnf⟩ : _ ∧ _ ∧ _ ∧ _ ∧ _)
  obtain ⟨g, hg⟩ : ∃ g, g = w1.heap.size := ⟨_, rfl⟩
  obtain ⟨w2, hw2⟩ : ∃ wx, wx = w1.alloc (Obj.cells #[.slice a1 np c1, .slice a2 nl c2, .int .i64 nx, .slice a3 nu c3, .slice a4 ng c4, .slice a5 nf c5] 36) := ⟨_, rfl⟩
  have hb2 : Below w1.heap.size w1 w2 := by rw [hw2]; exact (Below.refl _ _).alloc (Nat.le_refl _) _
  have hv2 : w2.heap[g]? = some (Obj.cells #[.slice a1 np c1, .slice a2 nl c2, .int .i64 nx, .slice a3 nu c3, .slice a4 ng c4, .slice a5 nf c5] 36) := by rw [hw2, hg]; exact heap_alloc_new w1 _
  have HB2 : Hid (Below w.heap.size w w2) := hide ((HB0.out.trans (hb1.mono HB0.out.size)).trans (hb2.mono (HB0.out.trans (hb1.mono HB0.out.size)).size))
  have hbx : w2.heap[a0]? = _ := staysW (staysW HQ.out.1 hb1) hb2
  have hrs : w2.heap[a0 + 1]? = _ := staysW (staysW HQ.out.2 hb1) hb2
  have HNw := hide (nw_below hnw hb2)
  have HGt : Hid (w0.heap.size ≤ g ∧ g < w2.heap.size ∧ ∀ j, workBlocks (.agg #[.slice a1 np c1, .slice a2 nl c2, .int .i64 nx, .slice a3 nu c3, .slice a4 ng c4, .slice a5 nf c5]) j → w0.heap.size ≤ j ∧ j < g) := hide ⟨by rw [hg]; exact hb1.size, (Array.getElem?_eq_some_iff.1 hv2).1, fun j hj => by rw [hg]; exact workOwn_lt (nw_own hnw) j hj⟩
  have HV2 := hide hv2
  have HRs := hide hrs
  have HBx := hide hbx
  obtain ⟨v0, v1, v2, v3, v4, v5⟩ := blk6c hv2
  obtain ⟨bx0, bx1, bx2, bx3, bx4, bx5⟩ := blk6c hbx
  obtain ⟨r0, r1, r2, r3, r4, r5⟩ := blk6c hrs
  have zr0 := (cell_at hrs 0).2
  have zr1 := (cell_at hrs 1).2
  have zr2 := (cell_at hrs 2).2
  have zr3 := (cell_at hrs 3).2
  have zr4 := (cell_at hrs 4).2
  have zr5 := (cell_at hrs 5).2
  have hng1 : a0 + 1 ≠ g := by have := HA.out; have := HGt.out.1; omega
  have hng0 : a0 ≠ g := by have := HA.out; have := HGt.out.1; omega
  have hgt : ∀ j, g < j → j ≠ g := fun j h => by omega
  have HN1 := hide hnw
  have HB1 : Hid (Below w.heap.size w w1) := hide (HB0.out.trans (hb1.mono HB0.out.size))
  have HR1 := hide (staysW HQ.out.2 hb1)
  have HF1 : Hid (w1.ownsRow w0.heap.size 3 1 (.slice a5 nf c5) nf (ints k.fs)) := hide (by have := (nw_rows hnw).2.2.2.2.1; rw [← hnf] at this; exact this)
  have HBx1 := hide (staysW HQ.out.1 hb1)
  have HGv : Hid (GV w w2 a0 g w0.heap.size (Obj.cells #[.slice xp np cxp, vl, .int .i64 nx, .slice ua nu uc, vg, vf] 36) (Obj.cells #[.slice none 0 0, .slice none 0 0, .int .i64 0, .slice none 0 0, .slice none 0 0, .slice none 0 0] 36) (.slice a1 np c1) (.slice a2 nl c2) (.slice a3 nu c3) (.slice a4 ng c4) (.slice a5 nf c5) k) := hide ⟨by rw [← HNx.out]; exact hv2, hrs, hbx, HB2.out, HA.out.1, by have := HA.out; omega, by have := HA.out; have := HGt.out.1; omega, by have := HGt.out; omega, by rw [← HNx.out]; exact nw_below hnw hb2⟩
  rw [hw2] at r0 r1 r2 r3 r4 r5 zr0 zr1 zr2 zr3 zr4 zr5
  clear bx0 bx1 bx2 bx3 bx4 bx5
  have bx0 : ∀ o, (w1.alloc o).cell? ⟨a0, 0, none⟩ = some (.slice xp np cxp) := fun o => (cell_at (staysW HBx1.out ((Below.refl _ _).alloc (Nat.le_refl _) o)) 0).1
  have bx1 : ∀ o, (w1.alloc o).cell? ⟨a0, 1, none⟩ = some vl := fun o => (cell_at (staysW HBx1.out ((Below.refl _ _).alloc (Nat.le_refl _) o)) 1).1
  have bx2 : ∀ o, (w1.alloc o).cell? ⟨a0, 2, none⟩ = some (.int .i64 nx) := fun o => (cell_at (staysW HBx1.out ((Below.refl _ _).alloc (Nat.le_refl _) o)) 2).1
  have bx3 : ∀ o, (w1.alloc o).cell? ⟨a0, 3, none⟩ = some (.slice ua nu uc) := fun o => (cell_at (staysW HBx1.out ((Below.refl _ _).alloc (Nat.le_refl _) o)) 3).1
  clear v0 v1 v2 v3 v4 v5
  clear hbx hrs hnp hnl hnu hng hnf hnw hb1 hb2
  by_cases hu : k.us = []
  · have hnu0 : nu = 0 := by rw [HLn.out.2.2.1, hu]; rfl
    subst hnu0
    by_cases hn : nx < (np : Int)
    · have hgv := give_next (k := k) hu (by rw [← HNx.out, ← HLn.out.1]; exact hn)
      rw [← HNx.out] at hgv
      have HGn := hide hgv
      have hn' : ¬ ((np : Int) ≤ nx) := by omega
      have dn : decide ((np : Int) ≤ nx) = false := decide_eq_false hn'
      clear hgv
      clear r0 r1 r2 r3 r4 r5 zr0 zr1 zr2 zr3 zr4 zr5 hv2
      have HU0 : Hid (IntOwn w1 w0.heap.size (.slice a3 0 c3) k.us) := hide (intOwn_of_own (nw_rows HN1.out).2.2.1)
      rw [HNx.out] at HN1
      have HUs := hide hu
      clear hu
      go_wp2_with (at_builtin; (refine wpList_append_lies _ rfl _ _ 26 rfl w0.heap.size 3 i0 (.int .i64 0) 1 8 Tryd.underlying26 hi hz0 hz1 hz2 rfl (by decide) _ nf (ints k.fs) rfl ((HF1.out.alloc _).alloc _) ⟨w1.heap.size + 1, 0, none⟩ 1 1 [.int .i64 (nx)] rfl rfl ?c0 ?c1 (by decide) ?c3 ?c4 ?c5 _ rfl ?_))
      case c0 => exact one_newC _ _ (by simp) _ _
      case c1 => intro u hu; simp at hu; subst hu; rfl
      case c3 => unfold maxLen; omega
      case c4 => omega
      case c5 => have := HGt.out.1; simp; omega
      intro b5 d5 w5 hown5 hg5 hb5 hl5
      obtain ⟨e5, e6, e7, e8, e9, e10⟩ := give_app (us' := k.us) (n' := wrap64 (nx + 1)) HLn.out.2.2.2.2 HN1.out (HU0.out) (fun j e => e) hg HR1.out (by have := HA.out; omega) HA.out.1 HGt.out.1 HB1.out hown5 hg5 (by rcases hb5 with hb5 | hb5; exact Or.inl hb5; right; (try simp at hb5); omega)
      have s5 : w5.cell? ⟨w1.heap.size, 5, none⟩ = some (.slice a5 nf c5) := by rw [← hg]; exact (cell_at e5 5).1
      have z5 : w5.frozen? ⟨w1.heap.size, 5, none⟩ = false := by rw [← hg]; exact (cell_at e5 5).2
      obtain ⟨w6, hw6⟩ : ∃ w6, w6 = w5.setCell ⟨g, 5, none⟩ (.slice (some ⟨b5, 0, none⟩) (nf + 1) d5) := ⟨_, rfl⟩
      rw [← hw6] at e6 e7 e8 e9 e10
      obtain ⟨v0, v1, v2, v3, v4, v5⟩ := blk6c e6
      obtain ⟨r0, r1, r2, r3, r4, r5⟩ := blk6c e7
      have zr0 := (cell_at e7 0).2
      have zr1 := (cell_at e7 1).2
      have zr2 := (cell_at e7 2).2
      have zr3 := (cell_at e7 3).2
      have zr4 := (cell_at e7 4).2
      have zr5 := (cell_at e7 5).2
      have hret := ret_work (w := w) e7 e8 (by have := HA.out; omega) (by have := HA.out; omega) e9
      have HRet := hide hret
      rw [hw6, hg] at v0 v1 v2 v3 v4 v5 r0 r1 r2 r3 r4 r5 zr0 zr1 zr2 zr3 zr4 zr5
      have HW6 := hide hw6
      have HG := hide hg
      have HE6 := hide (⟨e6, e7, e8, e9, e10⟩ : _ ∧ _ ∧ _ ∧ _ ∧ _)
      clear hown5 hg5 hb5 hl5 e5 e6 e7 e8 e9 e10 hret hw6 hg hw2 hng1 hng0 hgt
      go_wp2_with fail
      rw [← HG.out, ← HW6.out]
      have hbx6 := HE6.out.2.2.2.2 a0 _ HBx1.out (by have := HA.out; omega)
      obtain ⟨wd, hwd⟩ : ∃ wd, wd = w6.drew := ⟨_, rfl⟩
      have hbd : Below w6.heap.size w6 wd := by rw [hwd]; exact (Below.refl _ _).drew
      have hvd := staysW HE6.out.1 hbd
      have hrd := staysW HE6.out.2.1 hbd
      have hxd := staysW hbx6 hbd
      have HS0 := hide (s8 hvd hxd)
      have HS1 := hide (fun u0 u1 u2 u3 u4 u5 => s8 (W := set6 wd (a0 + 1) u0 u1 u2 u3 u4 u5) (keep6 hvd (by have := HA.out; have := HGt.out.1; have := HG.out; omega)) (keep6 hxd (by omega)))
      have HRt := hide (ret_work (w := w) hrd (workOwn_below HE6.out.2.2.1 hbd) (by have := HA.out; omega) (by have := HA.out; omega) (HE6.out.2.2.2.1.trans (hbd.mono HE6.out.2.2.2.1.size)))
      have HRd := hide hrd
      refine wp_region_held_drew (S := fun wx => wx.cell? ⟨g, 0, none⟩ = some (.slice a1 np c1) ∧ wx.cell? ⟨g, 1, none⟩ = some (.slice a2 nl c2) ∧ wx.cell? ⟨g, 2, none⟩ = some (.int .i64 (wrap64 (nx + 1))) ∧ wx.cell? ⟨g, 3, none⟩ = some (.slice a3 0 c3) ∧ wx.cell? ⟨g, 4, none⟩ = some (.slice a4 ng c4) ∧ wx.cell? ⟨g, 5, none⟩ = some (.slice (some ⟨b5, 0, none⟩) (nf + 1) d5) ∧ wx.cell? ⟨a0, 2, none⟩ = some (.int .i64 nx) ∧ wx.cell? ⟨a0, 3, none⟩ = some (.slice ua 0 uc)) (by kernel_rfl) (by rw [← hwd]; exact HS0.out) (fun hHeld => ?_)
      rw [← hwd]
      clear hwd hbd hvd hrd hxd hbx6 v0 v1 v2 v3 v4 v5 hHeld r0 r1 r2 r3 r4 r5 zr0 zr1 zr2 zr3 zr4 zr5 bx0 bx1 bx2 bx3
      refine takeW 0 50 ?_ rfl rfl (by kernel_rfl) (by kernel_rfl) (by kernel_rfl) (fun _ _ _ h => h) (Or.inl ⟨by rfl, ?_⟩) HS0.out ?_
      rotate_left
      · (intro wx hSw; (try dsimp only at hSw); go_simp; try with_reducible rfl)
      simp only [List.setIfInBounds_toArray, List.set_cons_zero, List.set_cons_succ]
      refine takeW 1 51 ?_ rfl rfl (by kernel_rfl) (by kernel_rfl) (by kernel_rfl) (fun _ _ _ h => h) (Or.inl ⟨by rfl, ?_⟩) HS0.out ?_
      rotate_left
      · (intro wx hSw; (try dsimp only at hSw); go_simp; try with_reducible rfl)
      simp only [List.setIfInBounds_toArray, List.set_cons_zero, List.set_cons_succ]
      refine takeW 2 52 ?_ rfl rfl (by kernel_rfl) (by kernel_rfl) (by kernel_rfl) (fun _ _ _ h => h) (Or.inl ⟨by rfl, ?_⟩) HS0.out ?_
      rotate_left
      · (intro wx hSw; (try dsimp only at hSw); go_simp; try with_reducible rfl)
      simp only [List.setIfInBounds_toArray, List.set_cons_zero, List.set_cons_succ]
      obtain ⟨r0, r1, r2, r3, r4, r5⟩ := blk6c HRd.out
      have zr0 := (cell_at HRd.out 0).2
      have zr1 := (cell_at HRd.out 1).2
      have zr2 := (cell_at HRd.out 2).2
      have zr3 := (cell_at HRd.out 3).2
      have zr4 := (cell_at HRd.out 4).2
      have zr5 := (cell_at HRd.out 5).2
      refine wpAnyH_ready (rs := [3]) (by kernel_rfl) (by simp) ?_
      refine AllReadyH.cons rfl (fun K hK => ?_) AllReadyH.nil
      go_simp
      refine hK.out _ _ (HS1.out _ _ _ _ _ _) (fun _ => ?_)
      clear hK K
      refine takeW 4 3 ?_ rfl rfl (by kernel_rfl) (by kernel_rfl) (by kernel_rfl) (fun _ _ _ h => h) (Or.inl ⟨by rfl, ?_⟩) (HS1.out _ _ _ _ _ _) ?_
      rotate_left
      · (intro wx hSw; (try dsimp only at hSw); go_simp; try with_reducible rfl)
      simp only [List.setIfInBounds_toArray, List.set_cons_zero, List.set_cons_succ]
      refine wpAnyH_done (by kernel_rfl) ?_ _
      go_wp2_with fail
      obtain ⟨f0, f1, f2, f3, f4, f5⟩ := blk6c HRt.out.1
      refine bodyPost_ret (v := .tuple #[.agg #[.slice a1 np c1, .slice a2 nl c2, .int .i64 (wrap64 (nx + 1)), .slice a3 0 c3, .slice a4 ng c4, .slice (some ⟨b5, 0, none⟩) (nf + 1) d5], .int .i64 (nx)]) (by simp [results, Tryd.results37, go_sem, f0, f1, f2, f3, f4, f5]) rfl ⟨_, by rw [HGn.out.2], by rw [HGn.out.1]; exact HRt.out.2.1, HRt.out.2.2⟩
    · have HGn := hide (give_none (k := k) hu (by rw [← HNx.out, ← HLn.out.1]; exact hn))
      have hn' : (np : Int) ≤ nx := by omega
      have hret := ret_work (w := w) HRs.out (nw_own HNw.out) (by have := HA.out; omega) (by have := HA.out; omega) HB2.out
      have HRet := hide hret
      have HUs := hide hu
      have HW2 := hide hw2
      have HGg := hide hg
      clear hu hret hv2 hw2 hg hgt hng1 hng0
      go_wp2_with fail
      rw [← HW2.out]
      obtain ⟨f0, f1, f2, f3, f4, f5⟩ := blk6c HRet.out.1
      refine bodyPost_ret (v := .tuple #[.agg #[.slice a1 np c1, .slice a2 nl c2, .int .i64 nx, .slice a3 0 c3, .slice a4 ng c4, .slice a5 nf c5], .int .i64 0]) (by simp [results, Tryd.results37, go_sem, f0, f1, f2, f3, f4, f5]) rfl ⟨_, by rw [HGn.out.2], by rw [HGn.out.1]; exact HRet.out.2.1, HRet.out.2.2⟩
  · obtain ⟨x, t, hxt⟩ := List.exists_cons_of_ne_nil hu
    have HGn : Hid (giveK k = { k with us := t, fs := k.fs ++ [x] } ∧ giveP k = x) := hide (give_cons (k := k) hxt)
    have hnt : nu = t.length + 1 := by rw [HLn.out.2.2.1, hxt]; rfl
    obtain ⟨bu, off, hua, hbl, hcx⟩ : ∃ bu off, ua = some ⟨bu, off, none⟩ ∧ bu < w.heap.size ∧ w.cell? ⟨bu, off, none⟩ = some (.int .i64 x) := by
      obtain ⟨-, a, cap, e, h⟩ := HRw.out
      injection e with e1
      subst e1
      rcases h with h0 | ⟨bu, off, rfl, hlt, hc⟩
      · omega
      · refine ⟨bu, off, rfl, hlt, ?_⟩
        have := hc 0 (by omega)
        rw [Nat.add_zero] at this
        rw [this, hxt]
        rfl
    subst hua
    have HCx := hide (⟨hbl, hcx⟩ : _ ∧ _)
    have hcx2 : ∀ o, (w1.alloc o).cell? ⟨bu, off, none⟩ = some (.int .i64 x) := fun o => ((HB1.out.alloc HB1.out.size o).cell (by exact hbl)).trans hcx
    have hRt : ∀ y c', (y = some ⟨bu, off + 1, none⟩ ∨ t.length = 0) → RowAt w 1 (.slice y (nu - 1) c') (nu - 1) (ints t) := fun y c' hy => row_tail (x := x) hnt (by have := HRw.out; rw [hxt] at this; exact this) hy
    have hul : nu ≤ 2000000 := by rw [HLn.out.2.2.1]; exact HSu.out
    have HTl : Hid (t.length = nu - 1) := hide (by omega)
    have HXt := hide hxt
    have hn0 : (0 : Int) < (nu : Int) := by omega
    have hn1 : (1 : Int) ≤ (nu : Int) := by omega
    have hnc2 : (nu : Int) ≤ (uc : Int) := by omega
    have bx4 : ∀ o o', ((w1.alloc o).alloc o').cell? ⟨a0, 3, none⟩ = some (.slice (some ⟨bu, off, none⟩) nu uc) := fun o o' => (cell_at (staysW HBx1.out (((Below.refl _ _).alloc (Nat.le_refl _) o).alloc (by simp) o')) 3).1
    clear hu hbl hcx hxt hv2 r0 r1 r2 r3 r4 r5 zr0 zr1 zr2 zr3 zr4 zr5
    by_cases hc1 : uc = 1
    · subst hc1
      obtain rfl : nu = 1 := by omega
      obtain rfl : t = [] := List.eq_nil_of_length_eq_zero (by omega)
      have HRt : Hid (RowAt w 1 (.slice (some ⟨bu, off, none⟩) 0 0) 0 (ints [])) := hide (hRt _ 0 (Or.inr rfl))
      clear hRt hnt hn0 hn1 hnc2 hucap
      go_wp2_with (at_builtin; (refine wpList_copy _ rfl _ _ 26 rfl 3 i0 (.int .i64 0) Tryd.underlying26 hi hz0 hz1 hz2 rfl (w1.heap.size + 1) rfl ?c0 _ (0) (ints []) rfl ?c1 (ints_one _) ?c2 ?_))
      case c0 => have := heap_alloc_new (w1.alloc (Obj.cells #[.slice a1 np c1, .slice a2 nl c2, .int .i64 nx, .slice a3 1 c3, .slice a4 ng c4, .slice a5 nf c5] 36)) (Obj.cells #[] 3); rw [World.size_alloc] at this; exact this
      case c1 => exact row_below HRt.out (by rw [← hw2]; exact HB2.out.alloc HB2.out.size _)
      case c2 => omega
      intro b3 q3 wA hownA hgA hbA
      rw [← hw2] at hgA
      have hgv3 := gv_us (l := []) HGv.out (e := w1.heap.size + 1) (by rw [hw2, World.size_alloc]; omega) hgA hownA
      rw [List.length_nil] at hgv3
      have s3c : wA.cell? ⟨w1.heap.size, 3, none⟩ = some (.slice a3 1 c3) := by rw [← hg]; exact (cell_at hgv3.1 3).1
      have s3z : wA.frozen? ⟨w1.heap.size, 3, none⟩ = false := by rw [← hg]; exact (cell_at hgv3.1 3).2
      obtain ⟨w3, hw3⟩ : ∃ w3, w3 = wA.setCell ⟨g, 3, none⟩ (.slice (some ⟨b3, 0, none⟩) (0) q3) := ⟨_, rfl⟩
      have HG3 := hide hgv3.2
      rw [← hw3] at HG3
      have HGe := hide hg
      have HW3 := hide hw3
      clear hownA hgA hbA hgv3 hg hw2 hw3 bx0 bx1 bx2 bx3 bx4 hcx2 hgt hng1 hng0
      go_wp2_with fail
      rw [← HGe.out, ← HW3.out]
      clear s3c s3z
      obtain ⟨wd, hwd⟩ : ∃ wd, wd = w3.drew := ⟨_, rfl⟩
      have HGd := hide (gv_below HG3.out (show Below w3.heap.size w3 wd by rw [hwd]; exact (Below.refl _ _).drew))
      have HRow : Hid (∀ wx, Below w.heap.size w wx → wx.cell? ⟨bu, off, none⟩ = some (.int .i64 x)) := hide (fun wx hb => (hb.cell (by exact HCx.out.1)).trans HCx.out.2)
      have HSw : Hid (∀ wx, wx.heap[a0]? = some (Obj.cells #[.slice xp np cxp, vl, .int .i64 nx, .slice (some ⟨bu, off, none⟩) 1 1, vg, vf] 36) → Below w.heap.size w wx → (fun wx => wx.cell? ⟨a0, 3, none⟩ = some (.slice (some ⟨bu, off, none⟩) 1 1) ∧ wx.cell? ⟨bu, off, none⟩ = some (.int .i64 x)) wx) := hide (fun wx hb hl => s3 hb (HRow.out wx hl))
      have hHeld := HSw.out wd HGd.out.box HGd.out.low
      refine wp_region_held_drew (S := fun wx => wx.cell? ⟨a0, 3, none⟩ = some (.slice (some ⟨bu, off, none⟩) 1 1) ∧ wx.cell? ⟨bu, off, none⟩ = some (.int .i64 x)) (by kernel_rfl) (by rw [← hwd]; exact hHeld) (fun _ => ?_)
      rw [← hwd]
      clear hwd
      refine takeW 0 17 ?_ rfl rfl (by kernel_rfl) (by kernel_rfl) (by kernel_rfl) (fun _ _ _ h => h) (Or.inl ⟨by rfl, ?_⟩) hHeld ?_
      rotate_left
      · (intro wx hSw; (try dsimp only at hSw); go_simp; try with_reducible rfl)
      simp only [List.setIfInBounds_toArray, List.set_cons_zero, List.set_cons_succ]
      refine takeW 2 19 ?_ rfl rfl (by kernel_rfl) (by kernel_rfl) (by kernel_rfl) (fun _ _ _ h => h) (Or.inl ⟨by rfl, ?_⟩) hHeld ?_
      rotate_left
      · (intro wx hSw; (try dsimp only at hSw); go_simp; try with_reducible rfl)
      simp only [List.setIfInBounds_toArray, List.set_cons_zero, List.set_cons_succ]
      refine takeW 3 20 ?_ rfl rfl (by kernel_rfl) (by kernel_rfl) (by kernel_rfl) (fun _ _ _ h => h) (Or.inl ⟨by rfl, ?_⟩) hHeld ?_
      rotate_left
      · (intro wx hSw; (try dsimp only at hSw); go_simp; try with_reducible rfl)
      simp only [List.setIfInBounds_toArray, List.set_cons_zero, List.set_cons_succ]
      refine takeW 4 21 ?_ rfl rfl (by kernel_rfl) (by kernel_rfl) (by kernel_rfl) (fun _ _ _ h => h) (Or.inl ⟨by rfl, ?_⟩) hHeld ?_
      rotate_left
      · (intro wx hSw; (try dsimp only at hSw); go_simp; try with_reducible rfl)
      simp only [List.setIfInBounds_toArray, List.set_cons_zero, List.set_cons_succ]
      refine takeW 5 22 ?_ rfl rfl (by kernel_rfl) (by kernel_rfl) (by kernel_rfl) (fun _ _ _ h => h) (Or.inl ⟨by rfl, ?_⟩) hHeld ?_
      rotate_left
      · (intro wx hSw; (try dsimp only at hSw); go_simp; try with_reducible rfl)
      simp only [List.setIfInBounds_toArray, List.set_cons_zero, List.set_cons_succ]
      refine wpAnyH_ready (rs := [1, 6]) (by kernel_rfl) (by simp) ?_
      have HSa : Hid (∀ o, (fun wx => wx.cell? ⟨a0, 3, none⟩ = some (.slice (some ⟨bu, off, none⟩) 1 1) ∧ wx.cell? ⟨bu, off, none⟩ = some (.int .i64 x)) (wd.alloc o)) := hide (fun o => HSw.out _ (staysW HGd.out.box ((Below.refl _ _).alloc (Nat.le_refl _) o)) (HGd.out.low.alloc HGd.out.low.size o))
      have m0 : wd.cell? ⟨g, 5, none⟩ = some (.slice a5 nf c5) := (cell_at HGd.out.var 5).1
      have m0a : ∀ o, (wd.alloc o).cell? ⟨g, 5, none⟩ = some (.slice a5 nf c5) := fun o => (cell_at (staysW HGd.out.var ((Below.refl _ _).alloc (Nat.le_refl _) o)) 5).1
      refine ready2 rfl rfl ?_
      apply branch2
      · intro hG K hK
        go_simp
        refine hK.out _ _ hHeld (fun _ => ?_)
        clear hK K
        refine wpAnyH_ready (rs := [6]) (by kernel_rfl) (by simp) ?_
        refine AllReadyH.cons rfl (fun K hK => ?_) AllReadyH.nil
        go_simp
        refine hK.out _ _ (HSa.out _) (fun _ => ?_)
        clear hK K
        exact hG
      · intro hG K hK
        go_simp
        refine hK.out _ _ (HSa.out _) (fun _ => ?_)
        clear hK K
        refine wpAnyH_ready (rs := [1]) (by kernel_rfl) (by simp) ?_
        refine AllReadyH.cons rfl (fun K hK => ?_) AllReadyH.nil
        go_simp
        refine hK.out _ _ (HSa.out _) (fun _ => ?_)
        clear hK K
        exact hG
      clear m0 m0a
      refine wpAnyH_ready (rs := [7]) (by kernel_rfl) (by simp) ?_
      refine AllReadyH.cons rfl (fun K hK => ?_) AllReadyH.nil
      refine step_append_lies _ ?_ (.tmp 18) (.tmp 23) 26 ?_ w0.heap.size 3 i0 (.int .i64 0) 1 8 Tryd.underlying26 hi hz0 hz1 hz2 ?_ ?_ (.slice a5 nf c5) nf (ints k.fs) ?_ ((nfrow HLn.out.2.2.2.2 (nw_rows HGd.out.nw).2.2.2.2.1).alloc _) ⟨wd.heap.size, 0, none⟩ 1 1 [.int .i64 x] ?_ ?_ (one_newC wd _ rfl _ _) ?_ ?_ ?_ ?_ ?_ _ rfl ?_
      · exact rfl
      · exact rfl
      · exact rfl
      · decide
      · exact rfl
      · exact rfl
      · exact rfl
      · intro u hu; simp at hu; subst hu; rfl
      · decide
      · unfold maxLen; omega
      · omega
      · have := HGd.out.hBW; simp; omega
      intro b5 d5 w5 hown5 hg5 hb5 hl5
      have hgv5 := gv_fs (p := x) (b := b5) (d := d5) HGd.out hg5 (by have h := hown5; rw [HLn.out.2.2.2.2] at h; exact h) (by rcases hb5 with hb5 | hb5; exact Or.inl hb5; right; (try simp at hb5); omega)
      simp only [← HLn.out.2.2.2.2] at hgv5
      have HV5 := hide hgv5
      have hS5 := HSw.out w5 (gv_fs_box HGd.out hg5) (gv_fs_low HGd.out hg5)
      refine hK.out (Act.put _ (some 24) _) _ hS5 (fun _ => ?_)
      clear hK K hown5 hg5 hb5 hl5 hgv5
      simp only [Act.put, List.setIfInBounds_toArray, List.set_cons_zero, List.set_cons_succ]
      refine takeW 8 25 ?_ rfl rfl (by kernel_rfl) (by kernel_rfl) (by kernel_rfl) (fun _ _ _ h => h) (Or.inl ⟨by rfl, ?_⟩) hS5 ?_
      rotate_left
      · (intro wx hSw; (try dsimp only at hSw); go_simp; try with_reducible rfl)
      simp only [List.setIfInBounds_toArray, List.set_cons_zero, List.set_cons_succ]
      obtain ⟨t0, t1, t2, t3, t4, t5⟩ := blk6c HV5.out.1
      have z5 := (cell_at HV5.out.1 5).2
      refine wpAnyH_ready (rs := [9]) (by kernel_rfl) (by simp) ?_
      refine AllReadyH.cons rfl (fun K hK => ?_) AllReadyH.nil
      go_simp
      refine hK.out _ _ (HSw.out _ HV5.out.2.box HV5.out.2.low) (fun _ => ?_)
      clear hK K t0 t1 t2 t3 t4 t5 z5 hS5 hHeld
      refine wpAnyH_done (by kernel_rfl) ?_ _
      obtain ⟨w6, hw6⟩ : ∃ w6, w6 = w5.setCell ⟨g, 5, none⟩ (.slice (some ⟨b5, 0, none⟩) (nf + 1) d5) := ⟨_, rfl⟩
      have HV6 := hide HV5.out.2
      rw [← hw6] at HV6 ⊢
      clear hw6 HV5 HSa
      go_wp2_with fail
      obtain ⟨we, hwe⟩ : ∃ we, we = w6.drew := ⟨_, rfl⟩
      have HGe6 := hide (gv_below HV6.out (show Below w6.heap.size w6 we by rw [hwe]; exact (Below.refl _ _).drew))
      have HT0 := hide (⟨s8 HGe6.out.var HGe6.out.box, HRow.out we HGe6.out.low⟩ : _ ∧ _)
      have HT1 := hide (fun u0 u1 u2 u3 u4 u5 => (⟨s8 (W := set6 we (a0 + 1) u0 u1 u2 u3 u4 u5) (keep6 HGe6.out.var (by have := HGe6.out.hg; omega)) (keep6 HGe6.out.box (by omega)), HRow.out _ (HGe6.out.low.trans (below_of_kept (set6_kept we (a0 + 1) u0 u1 u2 u3 u4 u5) HGe6.out.low.size (fun j e => by have := HGe6.out.ha; omega)))⟩ : _ ∧ _))
      rw [← HNx.out] at HT0 HT1
      have HRt6 := hide (ret_work (w := w) HGe6.out.res (nw_own HGe6.out.nw) (by have := HGe6.out.hB; omega) (by have := HGe6.out.ha; omega) HGe6.out.low)
      refine wp_region_held_drew (S := fun wx => (wx.cell? ⟨g, 0, none⟩ = some (.slice a1 np c1) ∧ wx.cell? ⟨g, 1, none⟩ = some (.slice a2 nl c2) ∧ wx.cell? ⟨g, 2, none⟩ = some (.int .i64 nx) ∧ wx.cell? ⟨g, 3, none⟩ = some (.slice (some ⟨b3, 0, none⟩) (0) q3) ∧ wx.cell? ⟨g, 4, none⟩ = some (.slice a4 ng c4) ∧ wx.cell? ⟨g, 5, none⟩ = some (.slice (some ⟨b5, 0, none⟩) (nf + 1) d5) ∧ wx.cell? ⟨a0, 2, none⟩ = some (.int .i64 nx) ∧ wx.cell? ⟨a0, 3, none⟩ = some (.slice (some ⟨bu, off, none⟩) 1 1)) ∧ wx.cell? ⟨bu, off, none⟩ = some (.int .i64 x)) (by kernel_rfl) (by rw [← hwe]; exact HT0.out) (fun _ => ?_)
      rw [← hwe]
      clear hwe
      refine takeW 0 26 ?_ rfl rfl (by kernel_rfl) (by kernel_rfl) (by kernel_rfl) (fun _ _ _ h => h) (Or.inl ⟨by rfl, ?_⟩) HT0.out ?_
      rotate_left
      · (intro wx hSw; (try dsimp only at hSw); go_simp; try with_reducible rfl)
      simp only [List.setIfInBounds_toArray, List.set_cons_zero, List.set_cons_succ]
      refine takeW 1 27 ?_ rfl rfl (by kernel_rfl) (by kernel_rfl) (by kernel_rfl) (fun _ _ _ h => h) (Or.inl ⟨by rfl, ?_⟩) HT0.out ?_
      rotate_left
      · (intro wx hSw; (try dsimp only at hSw); go_simp; try with_reducible rfl)
      simp only [List.setIfInBounds_toArray, List.set_cons_zero, List.set_cons_succ]
      refine takeW 2 28 ?_ rfl rfl (by kernel_rfl) (by kernel_rfl) (by kernel_rfl) (fun _ _ _ h => h) (Or.inl ⟨by rfl, ?_⟩) HT0.out ?_
      rotate_left
      · (intro wx hSw; (try dsimp only at hSw); go_simp; try with_reducible rfl)
      simp only [List.setIfInBounds_toArray, List.set_cons_zero, List.set_cons_succ]
      refine takeW 3 29 ?_ rfl rfl (by kernel_rfl) (by kernel_rfl) (by kernel_rfl) (fun _ _ _ h => h) (Or.inl ⟨by rfl, ?_⟩) HT0.out ?_
      rotate_left
      · (intro wx hSw; (try dsimp only at hSw); go_simp; try with_reducible rfl)
      simp only [List.setIfInBounds_toArray, List.set_cons_zero, List.set_cons_succ]
      refine takeW 4 30 ?_ rfl rfl (by kernel_rfl) (by kernel_rfl) (by kernel_rfl) (fun _ _ _ h => h) (Or.inl ⟨by rfl, ?_⟩) HT0.out ?_
      rotate_left
      · (intro wx hSw; (try dsimp only at hSw); go_simp; try with_reducible rfl)
      simp only [List.setIfInBounds_toArray, List.set_cons_zero, List.set_cons_succ]
      obtain ⟨r0, r1, r2, r3, r4, r5⟩ := blk6c HGe6.out.res
      have zr0 := (cell_at HGe6.out.res 0).2
      have zr1 := (cell_at HGe6.out.res 1).2
      have zr2 := (cell_at HGe6.out.res 2).2
      have zr3 := (cell_at HGe6.out.res 3).2
      have zr4 := (cell_at HGe6.out.res 4).2
      have zr5 := (cell_at HGe6.out.res 5).2
      refine wpAnyH_ready (rs := [5]) (by kernel_rfl) (by simp) ?_
      refine AllReadyH.cons rfl (fun K hK => ?_) AllReadyH.nil
      go_simp
      refine hK.out _ _ (HT1.out _ _ _ _ _ _) (fun _ => ?_)
      clear hK K
      refine takeW 6 3 ?_ rfl rfl (by kernel_rfl) (by kernel_rfl) (by kernel_rfl) (fun _ _ _ h => h) (Or.inl ⟨by rfl, ?_⟩) (HT1.out _ _ _ _ _ _) ?_
      rotate_left
      · (intro wx hSw; (try dsimp only at hSw); go_simp; try with_reducible rfl)
      simp only [List.setIfInBounds_toArray, List.set_cons_zero, List.set_cons_succ]
      refine wpAnyH_done (by kernel_rfl) ?_ _
      go_wp2_with fail
      obtain ⟨f0, f1, f2, f3, f4, f5⟩ := blk6c HRt6.out.1
      rw [← HNx.out] at f0 f1 f2 f3 f4 f5
      refine bodyPost_ret (v := .tuple #[.agg #[.slice a1 np c1, .slice a2 nl c2, .int .i64 nx, .slice (some ⟨b3, 0, none⟩) (0) q3, .slice a4 ng c4, .slice (some ⟨b5, 0, none⟩) (nf + 1) d5], .int .i64 x]) (by simp [results, Tryd.results37, go_sem, f0, f1, f2, f3, f4, f5]) rfl ⟨_, by rw [HGn.out.2], by rw [HGn.out.1, HNx.out]; exact HRt6.out.2.1, by rw [HNx.out]; exact HRt6.out.2.2⟩
    · have HRt : Hid (RowAt w 1 (.slice (some ⟨bu, off + 1, none⟩) (nu - 1) (uc - 1)) (nu - 1) (ints t)) := hide (hRt _ _ (Or.inl rfl))
      clear hRt hnt
      go_wp2_with (at_builtin; (refine wpList_copy _ rfl _ _ 26 rfl 3 i0 (.int .i64 0) Tryd.underlying26 hi hz0 hz1 hz2 rfl (w1.heap.size + 1) rfl ?c0 _ (nu - 1) (ints t) rfl ?c1 (ints_one _) ?c2 ?_))
      case c0 => have := heap_alloc_new (w1.alloc (Obj.cells #[.slice a1 np c1, .slice a2 nl c2, .int .i64 nx, .slice a3 nu c3, .slice a4 ng c4, .slice a5 nf c5] 36)) (Obj.cells #[] 3); rw [World.size_alloc] at this; exact this
      case c1 => exact row_below HRt.out (by rw [← hw2]; exact HB2.out.alloc HB2.out.size _)
      case c2 => omega
      intro b3 q3 wA hownA hgA hbA
      rw [← hw2] at hgA
      have hgv3 := gv_us (l := t) HGv.out (e := w1.heap.size + 1) (by rw [hw2, World.size_alloc]; omega) hgA (by rw [HTl.out]; exact hownA)
      rw [HTl.out] at hgv3
      have s3c : wA.cell? ⟨w1.heap.size, 3, none⟩ = some (.slice a3 nu c3) := by rw [← hg]; exact (cell_at hgv3.1 3).1
      have s3z : wA.frozen? ⟨w1.heap.size, 3, none⟩ = false := by rw [← hg]; exact (cell_at hgv3.1 3).2
      obtain ⟨w3, hw3⟩ : ∃ w3, w3 = wA.setCell ⟨g, 3, none⟩ (.slice (some ⟨b3, 0, none⟩) (nu - 1) q3) := ⟨_, rfl⟩
      have HG3 := hide hgv3.2
      rw [← hw3] at HG3
      have HGe := hide hg
      have HW3 := hide hw3
      clear hownA hgA hbA hgv3 hg hw2 hw3 bx0 bx1 bx2 bx3 bx4 hcx2 hgt hng1 hng0
      go_wp2_with fail
      rw [← HGe.out, ← HW3.out]
      clear s3c s3z
      obtain ⟨wd, hwd⟩ : ∃ wd, wd = w3.drew := ⟨_, rfl⟩
      have HGd := hide (gv_below HG3.out (show Below w3.heap.size w3 wd by rw [hwd]; exact (Below.refl _ _).drew))
      have HRow : Hid (∀ wx, Below w.heap.size w wx → wx.cell? ⟨bu, off, none⟩ = some (.int .i64 x)) := hide (fun wx hb => (hb.cell (by exact HCx.out.1)).trans HCx.out.2)
      have HSw : Hid (∀ wx, wx.heap[a0]? = some (Obj.cells #[.slice xp np cxp, vl, .int .i64 nx, .slice (some ⟨bu, off, none⟩) nu uc, vg, vf] 36) → Below w.heap.size w wx → (fun wx => wx.cell? ⟨a0, 3, none⟩ = some (.slice (some ⟨bu, off, none⟩) nu uc) ∧ wx.cell? ⟨bu, off, none⟩ = some (.int .i64 x)) wx) := hide (fun wx hb hl => s3 hb (HRow.out wx hl))
      have hHeld := HSw.out wd HGd.out.box HGd.out.low
      refine wp_region_held_drew (S := fun wx => wx.cell? ⟨a0, 3, none⟩ = some (.slice (some ⟨bu, off, none⟩) nu uc) ∧ wx.cell? ⟨bu, off, none⟩ = some (.int .i64 x)) (by kernel_rfl) (by rw [← hwd]; exact hHeld) (fun _ => ?_)
      rw [← hwd]
      clear hwd
      refine takeW 0 17 ?_ rfl rfl (by kernel_rfl) (by kernel_rfl) (by kernel_rfl) (fun _ _ _ h => h) (Or.inl ⟨by rfl, ?_⟩) hHeld ?_
      rotate_left
      · (intro wx hSw; (try dsimp only at hSw); go_simp; try with_reducible rfl)
      simp only [List.setIfInBounds_toArray, List.set_cons_zero, List.set_cons_succ]
      refine takeW 2 19 ?_ rfl rfl (by kernel_rfl) (by kernel_rfl) (by kernel_rfl) (fun _ _ _ h => h) (Or.inl ⟨by rfl, ?_⟩) hHeld ?_
      rotate_left
      · (intro wx hSw; (try dsimp only at hSw); go_simp; try with_reducible rfl)
      simp only [List.setIfInBounds_toArray, List.set_cons_zero, List.set_cons_succ]
      refine takeW 3 20 ?_ rfl rfl (by kernel_rfl) (by kernel_rfl) (by kernel_rfl) (fun _ _ _ h => h) (Or.inl ⟨by rfl, ?_⟩) hHeld ?_
      rotate_left
      · (intro wx hSw; (try dsimp only at hSw); go_simp; try with_reducible rfl)
      simp only [List.setIfInBounds_toArray, List.set_cons_zero, List.set_cons_succ]
      refine takeW 4 21 ?_ rfl rfl (by kernel_rfl) (by kernel_rfl) (by kernel_rfl) (fun _ _ _ h => h) (Or.inl ⟨by rfl, ?_⟩) hHeld ?_
      rotate_left
      · (intro wx hSw; (try dsimp only at hSw); go_simp; try with_reducible rfl)
      simp only [List.setIfInBounds_toArray, List.set_cons_zero, List.set_cons_succ]
      refine takeW 5 22 ?_ rfl rfl (by kernel_rfl) (by kernel_rfl) (by kernel_rfl) (fun _ _ _ h => h) (Or.inl ⟨by rfl, ?_⟩) hHeld ?_
      rotate_left
      · (intro wx hSw; (try dsimp only at hSw); go_simp; try with_reducible rfl)
      simp only [List.setIfInBounds_toArray, List.set_cons_zero, List.set_cons_succ]
      refine wpAnyH_ready (rs := [1, 6]) (by kernel_rfl) (by simp) ?_
      have HSa : Hid (∀ o, (fun wx => wx.cell? ⟨a0, 3, none⟩ = some (.slice (some ⟨bu, off, none⟩) nu uc) ∧ wx.cell? ⟨bu, off, none⟩ = some (.int .i64 x)) (wd.alloc o)) := hide (fun o => HSw.out _ (staysW HGd.out.box ((Below.refl _ _).alloc (Nat.le_refl _) o)) (HGd.out.low.alloc HGd.out.low.size o))
      have m0 : wd.cell? ⟨g, 5, none⟩ = some (.slice a5 nf c5) := (cell_at HGd.out.var 5).1
      have m0a : ∀ o, (wd.alloc o).cell? ⟨g, 5, none⟩ = some (.slice a5 nf c5) := fun o => (cell_at (staysW HGd.out.var ((Below.refl _ _).alloc (Nat.le_refl _) o)) 5).1
      refine ready2 rfl rfl ?_
      apply branch2
      · intro hG K hK
        go_simp
        refine hK.out _ _ hHeld (fun _ => ?_)
        clear hK K
        refine wpAnyH_ready (rs := [6]) (by kernel_rfl) (by simp) ?_
        refine AllReadyH.cons rfl (fun K hK => ?_) AllReadyH.nil
        go_simp
        refine hK.out _ _ (HSa.out _) (fun _ => ?_)
        clear hK K
        exact hG
      · intro hG K hK
        go_simp
        refine hK.out _ _ (HSa.out _) (fun _ => ?_)
        clear hK K
        refine wpAnyH_ready (rs := [1]) (by kernel_rfl) (by simp) ?_
        refine AllReadyH.cons rfl (fun K hK => ?_) AllReadyH.nil
        go_simp
        refine hK.out _ _ (HSa.out _) (fun _ => ?_)
        clear hK K
        exact hG
      clear m0 m0a
      refine wpAnyH_ready (rs := [7]) (by kernel_rfl) (by simp) ?_
      refine AllReadyH.cons rfl (fun K hK => ?_) AllReadyH.nil
      refine step_append_lies _ ?_ (.tmp 18) (.tmp 23) 26 ?_ w0.heap.size 3 i0 (.int .i64 0) 1 8 Tryd.underlying26 hi hz0 hz1 hz2 ?_ ?_ (.slice a5 nf c5) nf (ints k.fs) ?_ ((nfrow HLn.out.2.2.2.2 (nw_rows HGd.out.nw).2.2.2.2.1).alloc _) ⟨wd.heap.size, 0, none⟩ 1 1 [.int .i64 x] ?_ ?_ (one_newC wd _ rfl _ _) ?_ ?_ ?_ ?_ ?_ _ rfl ?_
      · exact rfl
      · exact rfl
      · exact rfl
      · decide
      · exact rfl
      · exact rfl
      · exact rfl
      · intro u hu; simp at hu; subst hu; rfl
      · decide
      · unfold maxLen; omega
      · omega
      · have := HGd.out.hBW; simp; omega
      intro b5 d5 w5 hown5 hg5 hb5 hl5
      have hgv5 := gv_fs (p := x) (b := b5) (d := d5) HGd.out hg5 (by have h := hown5; rw [HLn.out.2.2.2.2] at h; exact h) (by rcases hb5 with hb5 | hb5; exact Or.inl hb5; right; (try simp at hb5); omega)
      simp only [← HLn.out.2.2.2.2] at hgv5
      have HV5 := hide hgv5
      have hS5 := HSw.out w5 (gv_fs_box HGd.out hg5) (gv_fs_low HGd.out hg5)
      refine hK.out (Act.put _ (some 24) _) _ hS5 (fun _ => ?_)
      clear hK K hown5 hg5 hb5 hl5 hgv5
      simp only [Act.put, List.setIfInBounds_toArray, List.set_cons_zero, List.set_cons_succ]
      refine takeW 8 25 ?_ rfl rfl (by kernel_rfl) (by kernel_rfl) (by kernel_rfl) (fun _ _ _ h => h) (Or.inl ⟨by rfl, ?_⟩) hS5 ?_
      rotate_left
      · (intro wx hSw; (try dsimp only at hSw); go_simp; try with_reducible rfl)
      simp only [List.setIfInBounds_toArray, List.set_cons_zero, List.set_cons_succ]
      obtain ⟨t0, t1, t2, t3, t4, t5⟩ := blk6c HV5.out.1
      have z5 := (cell_at HV5.out.1 5).2
      refine wpAnyH_ready (rs := [9]) (by kernel_rfl) (by simp) ?_
      refine AllReadyH.cons rfl (fun K hK => ?_) AllReadyH.nil
      go_simp
      refine hK.out _ _ (HSw.out _ HV5.out.2.box HV5.out.2.low) (fun _ => ?_)
      clear hK K t0 t1 t2 t3 t4 t5 z5 hS5 hHeld
      refine wpAnyH_done (by kernel_rfl) ?_ _
      obtain ⟨w6, hw6⟩ : ∃ w6, w6 = w5.setCell ⟨g, 5, none⟩ (.slice (some ⟨b5, 0, none⟩) (nf + 1) d5) := ⟨_, rfl⟩
      have HV6 := hide HV5.out.2
      rw [← hw6] at HV6 ⊢
      clear hw6 HV5 HSa
      go_wp2_with fail
      obtain ⟨we, hwe⟩ : ∃ we, we = w6.drew := ⟨_, rfl⟩
      have HGe6 := hide (gv_below HV6.out (show Below w6.heap.size w6 we by rw [hwe]; exact (Below.refl _ _).drew))
      have HT0 := hide (⟨s8 HGe6.out.var HGe6.out.box, HRow.out we HGe6.out.low⟩ : _ ∧ _)
      have HT1 := hide (fun u0 u1 u2 u3 u4 u5 => (⟨s8 (W := set6 we (a0 + 1) u0 u1 u2 u3 u4 u5) (keep6 HGe6.out.var (by have := HGe6.out.hg; omega)) (keep6 HGe6.out.box (by omega)), HRow.out _ (HGe6.out.low.trans (below_of_kept (set6_kept we (a0 + 1) u0 u1 u2 u3 u4 u5) HGe6.out.low.size (fun j e => by have := HGe6.out.ha; omega)))⟩ : _ ∧ _))
      rw [← HNx.out] at HT0 HT1
      have HRt6 := hide (ret_work (w := w) HGe6.out.res (nw_own HGe6.out.nw) (by have := HGe6.out.hB; omega) (by have := HGe6.out.ha; omega) HGe6.out.low)
      refine wp_region_held_drew (S := fun wx => (wx.cell? ⟨g, 0, none⟩ = some (.slice a1 np c1) ∧ wx.cell? ⟨g, 1, none⟩ = some (.slice a2 nl c2) ∧ wx.cell? ⟨g, 2, none⟩ = some (.int .i64 nx) ∧ wx.cell? ⟨g, 3, none⟩ = some (.slice (some ⟨b3, 0, none⟩) (nu - 1) q3) ∧ wx.cell? ⟨g, 4, none⟩ = some (.slice a4 ng c4) ∧ wx.cell? ⟨g, 5, none⟩ = some (.slice (some ⟨b5, 0, none⟩) (nf + 1) d5) ∧ wx.cell? ⟨a0, 2, none⟩ = some (.int .i64 nx) ∧ wx.cell? ⟨a0, 3, none⟩ = some (.slice (some ⟨bu, off, none⟩) nu uc)) ∧ wx.cell? ⟨bu, off, none⟩ = some (.int .i64 x)) (by kernel_rfl) (by rw [← hwe]; exact HT0.out) (fun _ => ?_)
      rw [← hwe]
      clear hwe
      refine takeW 0 26 ?_ rfl rfl (by kernel_rfl) (by kernel_rfl) (by kernel_rfl) (fun _ _ _ h => h) (Or.inl ⟨by rfl, ?_⟩) HT0.out ?_
      rotate_left
      · (intro wx hSw; (try dsimp only at hSw); go_simp; try with_reducible rfl)
      simp only [List.setIfInBounds_toArray, List.set_cons_zero, List.set_cons_succ]
      refine takeW 1 27 ?_ rfl rfl (by kernel_rfl) (by kernel_rfl) (by kernel_rfl) (fun _ _ _ h => h) (Or.inl ⟨by rfl, ?_⟩) HT0.out ?_
      rotate_left
      · (intro wx hSw; (try dsimp only at hSw); go_simp; try with_reducible rfl)
      simp only [List.setIfInBounds_toArray, List.set_cons_zero, List.set_cons_succ]
      refine takeW 2 28 ?_ rfl rfl (by kernel_rfl) (by kernel_rfl) (by kernel_rfl) (fun _ _ _ h => h) (Or.inl ⟨by rfl, ?_⟩) HT0.out ?_
      rotate_left
      · (intro wx hSw; (try dsimp only at hSw); go_simp; try with_reducible rfl)
      simp only [List.setIfInBounds_toArray, List.set_cons_zero, List.set_cons_succ]
      refine takeW 3 29 ?_ rfl rfl (by kernel_rfl) (by kernel_rfl) (by kernel_rfl) (fun _ _ _ h => h) (Or.inl ⟨by rfl, ?_⟩) HT0.out ?_
      rotate_left
      · (intro wx hSw; (try dsimp only at hSw); go_simp; try with_reducible rfl)
      simp only [List.setIfInBounds_toArray, List.set_cons_zero, List.set_cons_succ]
      refine takeW 4 30 ?_ rfl rfl (by kernel_rfl) (by kernel_rfl) (by kernel_rfl) (fun _ _ _ h => h) (Or.inl ⟨by rfl, ?_⟩) HT0.out ?_
      rotate_left
      · (intro wx hSw; (try dsimp only at hSw); go_simp; try with_reducible rfl)
      simp only [List.setIfInBounds_toArray, List.set_cons_zero, List.set_cons_succ]
      obtain ⟨r0, r1, r2, r3, r4, r5⟩ := blk6c HGe6.out.res
      have zr0 := (cell_at HGe6.out.res 0).2
      have zr1 := (cell_at HGe6.out.res 1).2
      have zr2 := (cell_at HGe6.out.res 2).2
      have zr3 := (cell_at HGe6.out.res 3).2
      have zr4 := (cell_at HGe6.out.res 4).2
      have zr5 := (cell_at HGe6.out.res 5).2
      refine wpAnyH_ready (rs := [5]) (by kernel_rfl) (by simp) ?_
      refine AllReadyH.cons rfl (fun K hK => ?_) AllReadyH.nil
      go_simp
      refine hK.out _ _ (HT1.out _ _ _ _ _ _) (fun _ => ?_)
      clear hK K
      refine takeW 6 3 ?_ rfl rfl (by kernel_rfl) (by kernel_rfl) (by kernel_rfl) (fun _ _ _ h => h) (Or.inl ⟨by rfl, ?_⟩) (HT1.out _ _ _ _ _ _) ?_
      rotate_left
      · (intro wx hSw; (try dsimp only at hSw); go_simp; try with_reducible rfl)
      simp only [List.setIfInBounds_toArray, List.set_cons_zero, List.set_cons_succ]
      refine wpAnyH_done (by kernel_rfl) ?_ _
      go_wp2_with fail
      obtain ⟨f0, f1, f2, f3, f4, f5⟩ := blk6c HRt6.out.1
      rw [← HNx.out] at f0 f1 f2 f3 f4 f5
      refine bodyPost_ret (v := .tuple #[.agg #[.slice a1 np c1, .slice a2 nl c2, .int .i64 nx, .slice (some ⟨b3, 0, none⟩) (nu - 1) q3, .slice a4 ng c4, .slice (some ⟨b5, 0, none⟩) (nf + 1) d5], .int .i64 x]) (by simp [results, Tryd.results37, go_sem, f0, f1, f2, f3, f4, f5]) rfl ⟨_, by rw [HGn.out.2], by rw [HGn.out.1, HNx.out]; exact HRt6.out.2.1, by rw [HNx.out]; exact HRt6.out.2.2⟩
end Go.Proofs.YtacmpggigdlmmaaDoor

namespace Go.Proofs.YtacmpggigdlmmaaDoor
open Go.RowKit

set_option maxHeartbeats 400000 in
theorem hasPage_any (a : Option Addr) (n cap : Nat) (vl : Value) (page : Int) (w : World) :
    Calls Tryd.prog 81 #[.agg #[.slice a n cap, vl], .int .i64 page] w fun e w' => e = .returned (.bool (decide (0 ≤ page ∧ page < (n : Int)))) ∧ Below w.heap.size w w' := by
  have HB : Hid (∀ o, Below w.heap.size w (w.alloc o)) := hide (fun o => (Below.refl w.heap.size w).alloc (Nat.le_refl _) _)
  by_cases h0 : 0 ≤ page
  · by_cases h1 : page < (n : Int)
    · rw [decide_eq_true (show 0 ≤ page ∧ page < (n : Int) from ⟨h0, h1⟩)]
      have h2 : decide (0 ≤ page) = true := decide_eq_true h0
      have h3 : decide (page < (n : Int)) = true := decide_eq_true h1
      go_enter Tryd.func81, Tryd.ntmps81
      go_wp2
      go_ret
      exact ⟨rfl, HB.out _⟩
    · rw [decide_eq_false (show ¬ (0 ≤ page ∧ page < (n : Int)) from fun h => h1 h.2)]
      have h2 : decide (0 ≤ page) = true := decide_eq_true h0
      have h3 : decide (page < (n : Int)) = false := decide_eq_false h1
      go_enter Tryd.func81, Tryd.ntmps81
      go_wp2
      go_ret
      exact ⟨rfl, HB.out _⟩
  · rw [decide_eq_false (show ¬ (0 ≤ page ∧ page < (n : Int)) from fun h => h0 h.1)]
    have h2 : decide (0 ≤ page) = false := decide_eq_false h0
    go_enter Tryd.func81, Tryd.ntmps81
    go_wp2
    go_ret
    exact ⟨rfl, HB.out _⟩

theorem Tryd.infoDiskI : (Tryd.prog.info? 34).map (fun i => (i.zero, i.size, i.bytes)) = some (some (.agg #[.slice none 0 0, .slice none 0 0]), 2, 48) := by kernel_rfl

theorem diskOk_count {ps : List ByteArray} {ls : List (Int × ByteArray)} (h : ¬ (4 ≤ ps.length ∧ ps.length ≤ 40 ∧ ls.length ≤ 200)) : diskOkB ps ls = false := by
  rw [diskOkB, decide_eq_false h]; simp

set_option maxHeartbeats 2000000 in
set_option maxRecDepth 100000 in
theorem implDiskOk_any (v : Value) (ps : List ByteArray) (ls : List (Int × ByteArray)) (hp : ps.length ≤ 1048576) (hl : ls.length ≤ 1048576) (hps : ∀ s ∈ ps, s.size ≤ 1048576) (hls : ∀ p ∈ ls, p.2.size ≤ 1048576) (w : World) (hd : DiskAt w v ps ls) :
    Calls Tryd.prog 80 #[v] w fun e w' => e = .returned (.bool (diskOkB ps ls)) ∧ Below w.heap.size w w' := by
  obtain ⟨vp, vl, rfl, h1, h2⟩ := hd
  obtain ⟨x1, c1, rfl⟩ : ∃ a cap, vp = .slice a ps.length cap := by obtain ⟨-, a, cap, e, -⟩ := h1; exact ⟨a, cap, e⟩
  obtain ⟨x2, c2, rfl⟩ : ∃ a cap, vl = .slice a ls.length cap := by obtain ⟨-, a, cap, e, -⟩ := h2; exact ⟨a, cap, e⟩
  have H1 := hide h1
  have H2 := hide h2
  have HPs := hide hps
  have HLs := hide hls
  clear h1 h2 hps hls
  obtain ⟨w0, hw0⟩ : ∃ w0, w0 = w.alloc (Obj.cells #[.slice x1 ps.length c1, .slice x2 ls.length c2] 34) := ⟨_, rfl⟩
  have hb0 : Below w.heap.size w w0 := by rw [hw0]; exact (Below.refl w.heap.size w).alloc (Nat.le_refl _) _
  have hblk : w0.heap[w.heap.size]? = some (Obj.cells #[.slice x1 ps.length c1, .slice x2 ls.length c2] 34) := by rw [hw0]; exact heap_alloc_new w _
  have hsz : w.heap.size < w0.heap.size := (Array.getElem?_eq_some_iff.1 hblk).1
  have HB0 := hide hb0
  have HBk := hide hblk
  have HSz := hide hsz
  clear hb0 hblk hsz
  by_cases hcnt : 4 ≤ ps.length ∧ ps.length ≤ 40 ∧ ls.length ≤ 200
  · obtain ⟨n1, n2, n3⟩ := hcnt
    have HT := hide (decide_eq_true (show 4 ≤ ps.length ∧ ps.length ≤ 40 ∧ ls.length ≤ 200 from ⟨n1, n2, n3⟩))
    have d1 : decide ((ps.length : Int) < 4) = false := by simp; omega
    have d2 : decide ((40 : Int) < (ps.length : Int)) = false := by simp; omega
    have d3 : decide ((200 : Int) < (ls.length : Int)) = false := by simp; omega
    go_enter Tryd.func80, Tryd.ntmps80
    go_wp2_with fail
    rw [← hw0]
    clear hw0
    have cb0 : w0.cell? ⟨w.heap.size, 0, none⟩ = some (.slice x1 ps.length c1) := (cell_at HBk.out 0).1
    have cb1 : w0.cell? ⟨w.heap.size, 1, none⟩ = some (.slice x2 ls.length c2) := (cell_at HBk.out 1).1
    go_loopg [26] ps.length (fun q iv wr => ∃ k : Nat, k ≤ ps.length ∧ iv = .int .i64 (k : Int) ∧ q + k = ps.length ∧ Hid (∀ i (h : i < ps.length), i < k → ps[i].size ≤ 240) ∧ w0 = wr)
    case atStart => exact ⟨0, Nat.zero_le _, rfl, rfl, hide (fun i h h0 => by omega), rfl⟩
    case round =>
      obtain ⟨k, hk, rfl, hg, HA, rfl⟩ := hrel
      have HG := hide hg
      clear hg
      by_cases hlt : k < ps.length
      · rcases H1.out.2 with ⟨a, cap, e, h0 | ⟨b, off, e2, hbl, hc⟩⟩
        · omega
        · injection e with e1 e3 e4
          subst e1 e4
          subst e2
          obtain ⟨x, hx⟩ : ∃ x, x = ps[k] := ⟨_, rfl⟩
          have hxs : x.size ≤ 1048576 := by rw [hx]; exact HPs.out _ (List.getElem_mem hlt)
          have hcell : w0.cell? ⟨b, off + k, none⟩ = some (.string x) := by rw [HB0.out.cell (by exact hbl), hc k (by omega), strs_at ps k hlt, hx]
          have HX := hide hx
          have hi0 : (0 : Int) ≤ (k : Int) := by omega
          have hi1 : (k : Int) < (ps.length : Int) := by omega
          clear hx hc
          by_cases hbig : 240 < x.size
          · have HO : Hid (diskOkB ps ls = false) := hide (diskOk_page hlt (by rw [← HX.out]; exact hbig))
            go_wp2_with fail
            go_ret
            rw [HO.out]
            exact ⟨rfl, HB0.out⟩
          · have HA2 : Hid (∀ i (h : i < ps.length), i < k + 1 → ps[i].size ≤ 240) := hide (fun i h hi => by
              by_cases e : i = k
              · subst e; rw [← HX.out]; omega
              · exact HA.out i h (by omega))
            go_wp2_with fail
            go_roundg (gk - 1)
            case measure => have := HG.out; omega
            case rel => exact ⟨k + 1, by omega, by go_num, by have := HG.out; omega, HA2, rfl⟩
      · have HAll : Hid (∀ i (h : i < ps.length), ps[i].size ≤ 240) := hide (fun i h => HA.out i h (by omega))
        clear HA
        go_wp2_with fail
        go_loopg [37] ls.length (fun q iv wr => ∃ j : Nat, j ≤ ls.length ∧ iv = .int .i64 (j : Int) ∧ q + j = ls.length ∧ Hid (∀ i (h : i < ls.length), i < j → 0 ≤ ls[i].1 ∧ ls[i].1 < (ps.length : Int) ∧ ls[i].2.size ≤ 240) ∧ Below w0.heap.size w0 wr)
        case atStart => exact ⟨0, Nat.zero_le _, rfl, rfl, hide (fun i h h0 => by omega), Below.refl _ _⟩
        case round =>
          obtain ⟨j, hj, rfl, hg, HA, hbw⟩ := hrel
          have HG2 := hide hg
          have HBw := hide hbw
          have HBa : Hid (Below w.heap.size w wr) := hide (HB0.out.trans (hbw.mono HB0.out.size))
          clear hg
          by_cases hjl : j < ls.length
          · rcases H2.out.2 with ⟨a, cap, e, h0 | ⟨b, off, e2, hbl, hc⟩⟩
            · omega
            · injection e with e1 e3 e4
              subst e1 e4
              subst e2
              obtain ⟨q, t, hqt⟩ : ∃ q t, (q, t) = ls[j] := ⟨_, _, rfl⟩
              have hts : t.size ≤ 1048576 := by have := HLs.out _ (List.getElem_mem hjl); rw [← hqt] at this; exact this
              have hc0 : wr.cell? ⟨b, off + j * 2, none⟩ = some (.int .i64 q) := by rw [HBa.out.cell (by exact hbl), hc (j * 2) (by omega), (puts_at ls j hjl).1, ← hqt]
              have hc1 : wr.cell? ⟨b, off + j * 2 + 1, none⟩ = some (.string t) := by rw [HBa.out.cell (by exact hbl), Nat.add_assoc, hc (j * 2 + 1) (by omega), (puts_at ls j hjl).2, ← hqt]
              have hi0 : (0 : Int) ≤ (j : Int) := by omega
              have hi1 : (j : Int) < (ls.length : Int) := by omega
              have HQT := hide hqt
              have HC := hide (hasPage_any x1 ps.length c1 (.slice (some ⟨b, off, none⟩) ls.length c2) q)
              clear hc hqt
              have cd0 : wr.cell? ⟨w.heap.size, 0, none⟩ = some (.slice x1 ps.length c1) := (hbw.cell (by exact HSz.out)).trans cb0
              have cd1 : wr.cell? ⟨w.heap.size, 1, none⟩ = some (.slice (some ⟨b, off, none⟩) ls.length c2) := (hbw.cell (by exact HSz.out)).trans cb1
              have ca0 : ∀ o, (wr.alloc o).cell? ⟨w.heap.size, 0, none⟩ = some (.slice x1 ps.length c1) := fun o => (cell_at ((Below.heap_alloc wr o _ (Nat.lt_of_lt_of_le HSz.out hbw.size)).trans ((hbw.block _ HSz.out).trans HBk.out)) 0).1
              have ca1 : ∀ o, (wr.alloc o).cell? ⟨w.heap.size, 1, none⟩ = some (.slice (some ⟨b, off, none⟩) ls.length c2) := fun o => (cell_at ((Below.heap_alloc wr o _ (Nat.lt_of_lt_of_le HSz.out hbw.size)).trans ((hbw.block _ HSz.out).trans HBk.out)) 1).1
              obtain ⟨wa, hwa⟩ : ∃ wa, wa = wr.alloc (Obj.cells #[.int .i64 q, .string t] 96) := ⟨_, rfl⟩
              have hva : wa.heap[wr.heap.size]? = some (Obj.cells #[.int .i64 q, .string t] 96) := by rw [hwa]; exact heap_alloc_new wr _
              have HVa := hide hva
              have HWa : Hid (Below wr.heap.size wr wa) := hide (by rw [hwa]; exact (Below.refl _ _).alloc (Nat.le_refl _) _)
              clear hbw cb0 cb1 hva
              by_cases hin : 0 ≤ q ∧ q < (ps.length : Int)
              · rw [decide_eq_true hin] at HC
                go_wp2_with fail
                rw [← hwa]
                refine (HC.out _).mono ?_
                rintro e w2 ⟨rfl, hb2⟩
                have hcp : w2.cell? ⟨wr.heap.size, 1, none⟩ = some (.string t) := (cell_at ((hb2.block _ (Array.getElem?_eq_some_iff.1 HVa.out).1).trans HVa.out) 1).1
                have HB2 : Hid (Below wr.heap.size wr w2) := hide (HWa.out.trans (hb2.mono HWa.out.size))
                clear hb2 hwa ca0 ca1 cd0 cd1 hc0 hc1
                by_cases hbig : 240 < t.size
                · have HO : Hid (diskOkB ps ls = false) := hide (diskOk_late hjl (by rw [← HQT.out]; show ¬ (0 ≤ q ∧ q < (ps.length : Int) ∧ t.size ≤ 240); omega))
                  have hd1 : decide ((240 : Int) < (t.size : Int)) = true := by simp; omega
                  go_wp2_with fail
                  go_ret
                  rw [HO.out]
                  exact ⟨rfl, HBa.out.trans (HB2.out.mono HBa.out.size)⟩
                · have HA2 : Hid (∀ i (h : i < ls.length), i < j + 1 → 0 ≤ ls[i].1 ∧ ls[i].1 < (ps.length : Int) ∧ ls[i].2.size ≤ 240) := hide (fun i h hi => by
                    by_cases e : i = j
                    · subst e; rw [← HQT.out]; show 0 ≤ q ∧ q < (ps.length : Int) ∧ t.size ≤ 240; omega
                    · exact HA.out i h (by omega))
                  have hd1 : decide ((240 : Int) < (t.size : Int)) = false := by simp; omega
                  go_wp2_with fail
                  go_roundg (gk - 1)
                  case measure => have := HG2.out; omega
                  case rel => exact ⟨j + 1, by omega, by go_num, by have := HG2.out; omega, HA2, HBw.out.trans (HB2.out.mono HBw.out.size)⟩
              · rw [decide_eq_false hin] at HC
                have HO : Hid (diskOkB ps ls = false) := hide (diskOk_late hjl (by rw [← HQT.out]; show ¬ (0 ≤ q ∧ q < (ps.length : Int) ∧ t.size ≤ 240); omega))
                go_wp2_with fail
                rw [← hwa]
                refine (HC.out _).mono ?_
                rintro e w2 ⟨rfl, hb2⟩
                have HB2 : Hid (Below wr.heap.size wr w2) := hide (HWa.out.trans (hb2.mono HWa.out.size))
                clear hb2 hwa ca0 ca1 cd0 cd1 hc0 hc1
                go_wp2_with fail
                go_ret
                rw [HO.out]
                exact ⟨rfl, HBa.out.trans (HB2.out.mono HBa.out.size)⟩
          · have HE : Hid (diskOkB ps ls = true) := hide ((diskOk_all HAll.out (fun i h => HA.out i h (by omega))).trans HT.out)
            clear hbw
            go_wp2_with fail
            go_ret
            rw [HE.out]
            exact ⟨rfl, HBa.out⟩
  · have HO := hide (diskOk_count hcnt)
    by_cases n1 : ps.length < 4
    · have d1 : decide ((ps.length : Int) < 4) = true := by simp; omega
      go_enter Tryd.func80, Tryd.ntmps80
      go_wp2_with fail
      rw [← hw0]
      go_ret
      rw [HO.out]
      exact ⟨rfl, HB0.out⟩
    · have d1 : decide ((ps.length : Int) < 4) = false := by simp; omega
      by_cases n2 : 40 < ps.length
      · have d2 : decide ((40 : Int) < (ps.length : Int)) = true := by simp; omega
        go_enter Tryd.func80, Tryd.ntmps80
        go_wp2_with fail
        rw [← hw0]
        go_ret
        rw [HO.out]
        exact ⟨rfl, HB0.out⟩
      · have d2 : decide ((40 : Int) < (ps.length : Int)) = false := by simp; omega
        have d3 : decide ((200 : Int) < (ls.length : Int)) = true := by simp; omega
        go_enter Tryd.func80, Tryd.ntmps80
        go_wp2_with fail
        rw [← hw0]
        go_ret
        rw [HO.out]
        exact ⟨rfl, HB0.out⟩
end Go.Proofs.YtacmpggigdlmmaaDoor

namespace Go.Proofs.YtacmpggigdlmmaaDoor
open Go.RowKit

/-- what the copy keeps: its argument's box, its answer's variable; nothing that was there is turned -/
structure CopyIn (wr : World) (a0 a1 : Nat) (vp vl : Value) (w : World) : Prop where
  box : wr.heap[a0]? = some (Obj.cells #[vp, vl] 34)
  res : wr.heap[a1]? = some (Obj.cells #[.slice none 0 0, .slice none 0 0] 34)
  low : Below a0 w wr

theorem copyIn_below {wr wr' : World} {a0 a1 : Nat} {vp vl : Value} {w : World} (h : CopyIn wr a0 a1 vp vl w) (hb : Below wr.heap.size wr wr') : CopyIn wr' a0 a1 vp vl w :=
  ⟨(hb.block _ (Array.getElem?_eq_some_iff.1 h.box).1).trans h.box, (hb.block _ (Array.getElem?_eq_some_iff.1 h.res).1).trans h.res, h.low.trans (hb.mono (Nat.le_of_lt (Array.getElem?_eq_some_iff.1 h.box).1))⟩

theorem copyIn_alloc {wr : World} {a0 a1 : Nat} {vp vl : Value} {w : World} (h : CopyIn wr a0 a1 vp vl w) (o : Obj) : CopyIn (wr.alloc o) a0 a1 vp vl w := copyIn_below h ((Below.refl _ _).alloc (Nat.le_refl _) _)

theorem copyIn_grown {wr wr' : World} {a0 a1 g : Nat} {vp vl : Value} {w : World} (h : CopyIn wr a0 a1 vp vl w) (hg : wr.grownBy wr' (some g)) (h0 : a0 < g) (h1 : a1 < g) : CopyIn wr' a0 a1 vp vl w :=
  ⟨(hg.block _ (Array.getElem?_eq_some_iff.1 h.box).1 (by intro e; injection e with e; omega)).trans h.box, (hg.block _ (Array.getElem?_eq_some_iff.1 h.res).1 (by intro e; injection e with e; omega)).trans h.res, h.low.grown hg (Nat.le_of_lt (Array.getElem?_eq_some_iff.1 h.box).1) (fun k hk => by injection hk with hk; omega)⟩

theorem strs_snoc (l : List ByteArray) (k : Nat) (h : k < l.length) : strs (l.take k) ++ [.string l[k]] = strs (l.take (k + 1)) := by
  rw [List.take_succ_eq_append_getElem h, strs, strs, List.map_append]; rfl

theorem puts_take (l : List (Int × ByteArray)) (k : Nat) (h : k < l.length) : puts (l.take k) ++ [.int .i64 l[k].1, .string l[k].2] = puts (l.take (k + 1)) := by
  rw [List.take_succ_eq_append_getElem h, puts, puts, List.flatMap_append]; rfl

theorem new_put (w : World) (q : Int) (t : ByteArray) : ∀ j u, [Value.int .i64 q, .string t][j]? = some u → (w.alloc (Obj.cells #[.int .i64 q, .string t] 96)).cell? ((⟨w.heap.size, 0, none⟩ : Addr).add j) = some u := fun j u hj => by
  rw [Addr.add_lit, Nat.zero_add, (cell_at (heap_alloc_new w _) j).1, ← hj]
  simp

theorem put_oneCell (q : Int) (t : ByteArray) : ∀ y ∈ [Value.int .i64 q, .string t], y.oneCell' = true := fun y hy => by
  simp only [List.mem_cons, List.not_mem_nil, or_false] at hy
  rcases hy with rfl | rfl <;> rfl

set_option maxHeartbeats 4000000 in
set_option maxRecDepth 100000 in
theorem implCopy_any (v : Value) (ps : List ByteArray) (ls : List (Int × ByteArray)) (hp : ps.length ≤ 1048576) (hl : ls.length ≤ 1048576) (hps : ∀ s ∈ ps, s.size ≤ 1048576) (hls : ∀ p ∈ ls, p.2.size ≤ 1048576) (w : World) (hd : DiskAt w v ps ls) :
    Calls Tryd.prog 45 #[v] w fun e w' => ∃ v', e = .returned v' ∧ DiskOwn w' w.heap.size v' ps ls ∧ Below w.heap.size w w' := by
  obtain ⟨i0, hi, hz0, hz1, hz2⟩ := info_parts Tryd.infoStrR
  obtain ⟨i1, hj, hy0, hy1, hy2⟩ := info_parts Tryd.infoPut
  obtain ⟨vp, vl, rfl, h1, h2⟩ := hd
  obtain ⟨x1, c1, rfl⟩ : ∃ a cap, vp = .slice a ps.length cap := by obtain ⟨-, a, cap, e, -⟩ := h1; exact ⟨a, cap, e⟩
  obtain ⟨x2, c2, rfl⟩ : ∃ a cap, vl = .slice a ls.length cap := by obtain ⟨-, a, cap, e, -⟩ := h2; exact ⟨a, cap, e⟩
  have H1 := hide h1
  have H2 := hide h2
  have HPs := hide hps
  have HLs := hide hls
  clear h1 h2 hps hls
  obtain ⟨w0, hw0⟩ : ∃ w0, w0 = (w.alloc (Obj.cells #[.slice x1 ps.length c1, .slice x2 ls.length c2] 34)).alloc (Obj.cells #[.slice none 0 0, .slice none 0 0] 34) := ⟨_, rfl⟩
  obtain ⟨q0, q1, hs0⟩ := two_allocs w (Obj.cells #[.slice x1 ps.length c1, .slice x2 ls.length c2] 34) (Obj.cells #[.slice none 0 0, .slice none 0 0] 34)
  rw [← hw0] at q0 q1 hs0
  have hb0 : Below w.heap.size w w0 := by rw [hw0]; exact ((Below.refl w.heap.size w).alloc (Nat.le_refl _) _).alloc (by simp) _
  go_enter Tryd.func45, Tryd.ntmps45
  go_wp2_with (at_make; rw [← hw0]; refine wpList_make_own _ rfl _ _ 22 rfl w0.heap.size 9 i0 (.string ⟨#[]⟩) 1 Tryd.underlying22 hi hz0 hz1 .i64 .i64 _ ps.length rfl rfl rfl (by rw [hz2]; omega) (by unfold maxLen; omega) (Nat.le_refl _) ?_)
  intro w1 hown1 hg1
  obtain ⟨a0, ha0⟩ : ∃ a, a = w.heap.size := ⟨_, rfl⟩
  obtain ⟨a1, ha1⟩ : ∃ a, a = a0 + 1 := ⟨_, rfl⟩
  obtain ⟨a2, ha2⟩ : ∃ a, a = a1 + 1 := ⟨_, rfl⟩
  rw [← hw0] at hg1
  rw [← ha0, ← ha1, ← ha2] at hown1 ⊢
  rw [← ha0] at q0 q1 hs0
  rw [← ha1] at q1
  have hC1 : CopyIn w1 a0 a1 (.slice x1 ps.length c1) (.slice x2 ls.length c2) w := ⟨(hg1.block a0 (by omega) (by simp)).trans q0, (hg1.block a1 (by omega) (by simp)).trans q1, by rw [ha0]; exact hb0.grown hg1 (by omega) (fun k hk => by cases hk)⟩
  have HA := hide (⟨ha0, ha1, by omega⟩ : a0 = w.heap.size ∧ a1 = a0 + 1 ∧ a2 = a0 + 2)
  have cb0 : w1.cell? ⟨a0, 0, none⟩ = some (.slice x1 ps.length c1) := (cell_at hC1.box 0).1
  have cb1 : w1.cell? ⟨a0, 1, none⟩ = some (.slice x2 ls.length c2) := (cell_at hC1.box 1).1
  have HC1 := hide hC1
  have HO1 := hide hown1
  clear hC1 hown1 hg1 ha0 ha1 ha2 hw0 hb0 q0 q1 hs0
  go_wp2_with fail
  go_loopg [3, 16] ps.length (fun q pv iv wr => ∃ k : Nat, k ≤ ps.length ∧ iv = .int .i64 (k : Int) ∧ q + k = ps.length ∧ pv = .slice (some ⟨a2, 0, none⟩) k ps.length ∧ Hid (CopyIn wr a0 a1 (.slice x1 ps.length c1) (.slice x2 ls.length c2) w) ∧ Hid (wr.ownsRow a2 9 1 (.slice (some ⟨a2, 0, none⟩) k ps.length) k (strs (ps.take k))))
  case atStart => exact ⟨0, Nat.zero_le _, rfl, rfl, rfl, HC1, HO1⟩
  case round =>
    obtain ⟨k, hk, rfl, hg, rfl, HC, HO⟩ := hrel
    have HG := hide hg
    clear hg cb0 cb1 HC1 HO1
    by_cases hlt : k < ps.length
    · rcases H1.out.2 with ⟨a, cap, e, h0 | ⟨b, off, e2, hbl, hc⟩⟩
      · omega
      · injection e with e1 e3 e4
        subst e1 e4
        subst e2
        obtain ⟨x, hx⟩ : ∃ x, x = ps[k] := ⟨_, rfl⟩
        have hba : b < a0 := by have := HA.out; omega
        have hcell : wr.cell? ⟨b, off + k, none⟩ = some (.string x) := by rw [HC.out.low.cell (by exact hba), hc k (by omega), strs_at ps k hlt, hx]
        have hxs : x.size ≤ 1048576 := by rw [hx]; exact HPs.out _ (List.getElem_mem hlt)
        have HCl := hide (clone_any x (by omega))
        have hi0 : (0 : Int) ≤ (k : Int) := by omega
        have hi1 : (k : Int) < (ps.length : Int) := by omega
        have HX := hide hx
        clear hc hx
        go_wp2_with fail
        refine (HCl.out _).mono ?_
        rintro e w2 ⟨rfl, hb2⟩
        have HC2 := hide (copyIn_alloc (copyIn_below HC.out hb2) (Obj.cells #[.string x] 9))
        have hown3 := (own_stays HO.out hb2).alloc (Obj.cells #[.string x] 9)
        have hnew : ∀ j u, [Value.string x][j]? = some u → (w2.alloc (Obj.cells #[.string x] 9)).cell? ((⟨w2.heap.size, 0, none⟩ : Addr).add j) = some u := fun j u hj => by
          obtain rfl : j = 0 := by have := (List.getElem?_eq_some_iff.1 hj).1; simp at this; omega
          rw [Addr.add_lit, ← hj]
          exact (cell_at (heap_alloc_new w2 _) 0).1
        clear hb2 hcell
        go_wp2_with (at_builtin; refine wpList_append_fits _ rfl _ _ 22 rfl a2 9 i0 1 Tryd.underlying22 hi hz1 a2 k ps.length _ rfl hown3 ⟨w2.heap.size, 0, none⟩ 1 1 [.string x] rfl rfl hnew (by simp [Value.oneCell']) (by omega) ?_)
        intro w4 hown4 hg4
        have HC4 := hide (copyIn_grown HC2.out hg4 (by have := HA.out; omega) (by have := HA.out; omega))
        have HO4 : Hid (w4.ownsRow a2 9 1 (.slice (some ⟨a2, 0, none⟩) (k + 1) ps.length) (k + 1) (strs (ps.take (k + 1)))) := hide (by rw [← strs_snoc ps k hlt, ← HX.out]; exact hown4)
        clear hown4 hg4 hown3 hnew
        go_wp2_with fail
        go_roundg (gk - 1)
        case measure => have := HG.out; omega
        case rel => exact ⟨k + 1, by omega, by go_num, by have := HG.out; omega, rfl, HC4, HO4⟩
    · obtain rfl : k = ps.length := by omega
      have HOp : Hid (wr.ownsRow a2 9 1 (.slice (some ⟨a2, 0, none⟩) ps.length ps.length) ps.length (strs ps)) := hide (by have := HO.out; rw [List.take_length] at this; exact this)
      have cb1 : wr.cell? ⟨a0, 1, none⟩ = some (.slice x2 ls.length c2) := (cell_at HC.out.box 1).1
      clear HO
      go_wp2_with (at_make; refine wpList_make_own _ rfl _ _ 32 rfl wr.heap.size 96 i1 (.agg #[.int .i64 0, .string ⟨#[]⟩]) 2 Tryd.underlying32 hj hy0 hy1 .i64 .i64 _ ls.length rfl rfl rfl (by rw [hy2]; omega) (by unfold maxLen; omega) (Nat.le_refl _) ?_)
      intro w5 hown5 hg5
      obtain ⟨a3, ha3⟩ : ∃ a, a = wr.heap.size := ⟨_, rfl⟩
      have hb5 : Below wr.heap.size wr w5 := (Below.refl _ _).grown hg5 (Nat.le_refl _) (fun k hk => by cases hk)
      have hlt2 : a2 < a3 := by rw [ha3]; exact (HOp.out.lt a2 rfl).2
      rw [← ha3] at hown5 ⊢
      have HC5 := hide (copyIn_below HC.out hb5)
      have HP5 := hide (own_stays HOp.out hb5)
      have HO5 := hide hown5
      have HL2 := hide hlt2
      have cb2 : w5.cell? ⟨a0, 1, none⟩ = some (.slice x2 ls.length c2) := (cell_at HC5.out.box 1).1
      clear hown5 hg5 hb5 ha3 HC HOp cb1 hlt2
      go_wp2_with fail
      go_loopg [6, 33] ls.length (fun q pv iv wq => ∃ k : Nat, k ≤ ls.length ∧ iv = .int .i64 (k : Int) ∧ q + k = ls.length ∧ pv = .slice (some ⟨a3, 0, none⟩) k ls.length ∧ Hid (CopyIn wq a0 a1 (.slice x1 ps.length c1) (.slice x2 ls.length c2) w) ∧ Hid (wq.ownsRow a2 9 1 (.slice (some ⟨a2, 0, none⟩) ps.length ps.length) ps.length (strs ps)) ∧ Hid (wq.ownsRow a3 96 2 (.slice (some ⟨a3, 0, none⟩) k ls.length) k (puts (ls.take k))))
      case atStart => exact ⟨0, Nat.zero_le _, rfl, rfl, rfl, HC5, HP5, HO5⟩
      case round =>
        obtain ⟨k, hk, rfl, hg, rfl, HC, HP, HO⟩ := hrel
        have HG := hide hg
        clear hg cb2 HC5 HP5 HO5
        by_cases hlt : k < ls.length
        · rcases H2.out.2 with ⟨a, cap, e, h0 | ⟨b, off, e2, hbl, hc⟩⟩
          · omega
          · injection e with e1 e3 e4
            subst e1 e4
            subst e2
            obtain ⟨q, t, hqt⟩ : ∃ q t, (q, t) = ls[k] := ⟨_, _, rfl⟩
            have hba : b < a0 := by have := HA.out; omega
            have hc0 : wr.cell? ⟨b, off + k * 2, none⟩ = some (.int .i64 q) := by rw [HC.out.low.cell (by exact hba), hc (k * 2) (by omega), (puts_at ls k hlt).1, ← hqt]
            have hc1 : wr.cell? ⟨b, off + k * 2 + 1, none⟩ = some (.string t) := by rw [HC.out.low.cell (by exact hba), Nat.add_assoc, hc (k * 2 + 1) (by omega), (puts_at ls k hlt).2, ← hqt]
            have hts : t.size ≤ 1048576 := by have := HLs.out _ (List.getElem_mem hlt); rw [← hqt] at this; exact this
            have HCl := hide (clone_any t (by omega))
            have hi0 : (0 : Int) ≤ (k : Int) := by omega
            have hi1 : (k : Int) < (ls.length : Int) := by omega
            have HQT := hide hqt
            obtain ⟨wa, hwa⟩ : ∃ wa, wa = wr.alloc (Obj.cells #[.int .i64 q, .string t] 96) := ⟨_, rfl⟩
            obtain ⟨ap, hap⟩ : ∃ ap, ap = wr.heap.size := ⟨_, rfl⟩
            have hva : wa.heap[ap]? = some (Obj.cells #[.int .i64 q, .string t] 96) := by rw [hwa, hap]; exact heap_alloc_new wr _
            have hba2 : Below wr.heap.size wr wa := by rw [hwa]; exact (Below.refl _ _).alloc (Nat.le_refl _) _
            have HVa := hide hva
            have HCa := hide (copyIn_below HC.out hba2)
            have HPa := hide (own_stays HP.out hba2)
            have HOa := hide (own_stays HO.out hba2)
            have cp0 : wa.cell? ⟨ap, 0, none⟩ = some (.int .i64 q) := (cell_at hva 0).1
            have cp1 : wa.cell? ⟨ap, 1, none⟩ = some (.string t) := (cell_at hva 1).1
            clear hc hqt hba2 hva
            go_wp2_with fail
            rw [← hwa, ← hap]
            clear hwa hap hc0 hc1
            go_region_law (first | (refine step_call1 _ ?_ 64 Tryd.f64 Tryd.func64 ?_ ?_ (.tmp 41) #[9] ?_ (.string t) ?_ _ (HCl.out _) ?_; exact rfl; decide; exact Option.some_ne_none _; exact rfl; exact rfl; rintro e w2 ⟨rfl, hb2⟩; refine ⟨_, rfl, ?_⟩; have hb3 : Below wa.heap.size wa w2 := (Below.refl _ _).drew.trans hb2; have cq0 : w2.cell? ⟨ap, 0, none⟩ = some (.int .i64 q) := (cell_at ((hb3.block _ (Array.getElem?_eq_some_iff.1 HVa.out).1).trans HVa.out) 0).1; have HC2 := hide (copyIn_alloc (copyIn_below HCa.out hb3) (Obj.cells #[.int .i64 q, .string t] 96)); have HP2 := hide ((own_stays HPa.out hb3).alloc (Obj.cells #[.int .i64 q, .string t] 96)); have HO2 := hide ((own_stays HOa.out hb3).alloc (Obj.cells #[.int .i64 q, .string t] 96))) | (refine step_append_fits _ ?_ (.tmp 37) (.tmp 44) 32 ?_ a3 96 i1 2 Tryd.underlying32 hj hy1 a3 k ls.length _ ?_ HO2.out ⟨w2.heap.size, 0, none⟩ 1 1 [.int .i64 q, .string t] ?_ ?_ (new_put w2 q t) ?_ ?_ ?_; exact rfl; exact rfl; exact rfl; exact rfl; exact rfl; exact put_oneCell q t; omega; intro w4 hown4 hg4))
            all_goals
              have HC4 := hide (copyIn_grown HC2.out hg4 (by have h1 := HA.out; have h2 := HL2.out; omega) (by have h1 := HA.out; have h2 := HL2.out; omega))
              have HP4 := hide (HP2.out.kept hg4 (Or.inr (by intro e; have e2 : a2 = a3 := Option.some.inj e; have h2 := HL2.out; omega)))
              have HO4 : Hid (w4.ownsRow a3 96 2 (.slice (some ⟨a3, 0, none⟩) (k + 1) ls.length) (k + 1) (puts (ls.take (k + 1)))) := hide (by rw [← puts_take ls k hlt, ← HQT.out]; exact hown4)
              clear hown4 hg4 HC2 HP2 HO2 hb2 hb3 cq0 cp0 cp1
              go_wp2_with fail
              go_roundg (gk - 1)
              case measure => have := HG.out; omega
              case rel => exact ⟨k + 1, by omega, by go_num, by have := HG.out; omega, rfl, HC4, HP4, HO4⟩
        · obtain rfl : k = ls.length := by omega
          have HOl : Hid (wr.ownsRow a3 96 2 (.slice (some ⟨a3, 0, none⟩) ls.length ls.length) ls.length (puts ls)) := hide (by have := HO.out; rw [List.take_length] at this; exact this)
          have cr0 : wr.cell? ⟨a1, 0, none⟩ = some (.slice none 0 0) := (cell_at HC.out.res 0).1
          have cr1 : wr.cell? ⟨a1, 1, none⟩ = some (.slice none 0 0) := (cell_at HC.out.res 1).1
          have fr0 := (cell_at HC.out.res 0).2
          have fr1 := (cell_at HC.out.res 1).2
          go_wp2_with fail
          have hA := HA.out
          have hL := HL2.out
          have hret := ret_disk (w := w) (B := a2) (u0 := .slice (some ⟨a2, 0, none⟩) ps.length ps.length) (u1 := .slice (some ⟨a3, 0, none⟩) ls.length ls.length) (ps := ps) (ls := ls) HC.out.res ⟨_, _, rfl, HP.out, own_down HOl.out (by omega)⟩ (by omega) (by omega) (by have := HC.out.low; rw [hA.1] at this; exact this)
          exact bodyPost_ret (v := .agg #[.slice (some ⟨a2, 0, none⟩) ps.length ps.length, .slice (some ⟨a3, 0, none⟩) ls.length ls.length]) (by simp [results, Tryd.results45, go_sem, hret.1, hret.2.1]) rfl ⟨_, rfl, hret.2.2.1, hret.2.2.2⟩
end Go.Proofs.YtacmpggigdlmmaaDoor

namespace Go.Proofs.YtacmpggigdlmmaaDoor
open Go.RowKit

set_option maxHeartbeats 16000000 in
set_option maxRecDepth 100000 in
theorem implWCopy_any (v : Value) (k : Wk) (hk : k.small) (w : World) (hd : WorkAt w v k) :
    Calls Tryd.prog 24 #[v] w fun e w' => ∃ v', e = .returned v' ∧ WorkNw w' w.heap.size v' k ∧ Below w.heap.size w w' := by
  obtain ⟨s1, s2, s3, s4, s5, s6, s7⟩ := hk
  have HC := hide (fun vp vl wx h => implCopy_any (.agg #[vp, vl]) k.ps k.ls s1 s3 s2 s4 wx h)
  have HS := hide (⟨s1, s3, s5, s6, s7⟩ : k.ps.length ≤ 1048576 ∧ k.ls.length ≤ 1048576 ∧ k.us.length ≤ 2000000 ∧ k.gs.length ≤ 2000000 ∧ k.fs.length ≤ 2000000)
  clear s1 s2 s3 s4 s5 s6 s7
  obtain ⟨vp, vl, vu, vg, vf, rfl, h1, h2, h3, h4, -⟩ := hd
  have HD := hide h1
  have HU := hide h2
  have HG := hide h3
  have HF := hide h4
  clear h1 h2 h3 h4
  obtain ⟨nx, hnx⟩ : ∃ n, n = k.next := ⟨_, rfl⟩
  rw [← hnx]
  have HNx := hide hnx
  clear hnx
  obtain ⟨w0, hw0⟩ : ∃ w0, w0 = (w.alloc (Obj.cells #[vp, vl, .int .i64 nx, vu, vg, vf] 36)).alloc (Obj.cells #[.slice none 0 0, .slice none 0 0, .int .i64 0, .slice none 0 0, .slice none 0 0, .slice none 0 0] 36) := ⟨_, rfl⟩
  have hb0 : Below w.heap.size w w0 := by rw [hw0]; exact ((Below.refl w.heap.size w).alloc (Nat.le_refl _) _).alloc (by simp) _
  obtain ⟨q0, q1, hs0⟩ := two_allocs w (Obj.cells #[vp, vl, .int .i64 nx, vu, vg, vf] 36) (Obj.cells #[.slice none 0 0, .slice none 0 0, .int .i64 0, .slice none 0 0, .slice none 0 0, .slice none 0 0] 36)
  rw [← hw0] at q0 q1 hs0
  obtain ⟨a0, ha0⟩ : ∃ a, a = w.heap.size := ⟨_, rfl⟩
  rw [← ha0] at q0 q1 hs0
  have hcs0 : CS w a0 (Obj.cells #[vp, vl, .int .i64 nx, vu, vg, vf] 36) (Obj.cells #[.slice none 0 0, .slice none 0 0, .int .i64 0, .slice none 0 0, .slice none 0 0, .slice none 0 0] 36) k.ps k.ls w0 (fun y => y < 0) [] [] :=
    ⟨ha0, hb0, q0, q1, fun g hg => absurd hg (by omega), fun r hr => (by cases hr), List.Pairwise.nil, fun v hv => (by cases hv)⟩
  go_enter Tryd.func24, Tryd.ntmps24
  go_wp2_with fail
  rw [← hw0, ← ha0]
  clear ha0 hw0 hs0 hb0 q0 q1
  refine wp_region_held_drew (S := fun wx => wx.cell? ⟨a0, 0, none⟩ = some vp ∧ wx.cell? ⟨a0, 1, none⟩ = some vl ∧ wx.cell? ⟨a0, 2, none⟩ = some (.int .i64 nx) ∧ wx.cell? ⟨a0, 3, none⟩ = some vu ∧ wx.cell? ⟨a0, 4, none⟩ = some vg ∧ wx.cell? ⟨a0, 5, none⟩ = some vf) (by kernel_rfl) (cs_cells (cs_drew hcs0)) (fun hHeld => ?_)
  refine takeW 0 3 ?_ rfl rfl (by kernel_rfl) (by kernel_rfl) (by kernel_rfl) (fun _ _ _ h => h) (Or.inl ⟨by rfl, ?_⟩) hHeld ?_
  rotate_left
  · (intro wx hSw; (try dsimp only at hSw); go_simp; try with_reducible rfl)
  simp only [List.setIfInBounds_toArray, List.set_cons_zero, List.set_cons_succ]
  refine takeW 1 4 ?_ rfl rfl (by kernel_rfl) (by kernel_rfl) (by kernel_rfl) (fun _ _ _ h => h) (Or.inl ⟨by rfl, ?_⟩) hHeld ?_
  rotate_left
  · (intro wx hSw; (try dsimp only at hSw); go_simp; try with_reducible rfl)
  simp only [List.setIfInBounds_toArray, List.set_cons_zero, List.set_cons_succ]
  refine takeW 3 6 ?_ rfl rfl (by kernel_rfl) (by kernel_rfl) (by kernel_rfl) (fun _ _ _ h => h) (Or.inl ⟨by rfl, ?_⟩) hHeld ?_
  rotate_left
  · (intro wx hSw; (try dsimp only at hSw); go_simp; try with_reducible rfl)
  simp only [List.setIfInBounds_toArray, List.set_cons_zero, List.set_cons_succ]
  refine takeW 4 7 ?_ rfl rfl (by kernel_rfl) (by kernel_rfl) (by kernel_rfl) (fun _ _ _ h => h) (Or.inl ⟨by rfl, ?_⟩) hHeld ?_
  rotate_left
  · (intro wx hSw; (try dsimp only at hSw); go_simp; try with_reducible rfl)
  simp only [List.setIfInBounds_toArray, List.set_cons_zero, List.set_cons_succ]
  refine takeW 6 9 ?_ rfl rfl (by kernel_rfl) (by kernel_rfl) (by kernel_rfl) (fun _ _ _ h => h) (Or.inl ⟨by rfl, ?_⟩) hHeld ?_
  rotate_left
  · (intro wx hSw; (try dsimp only at hSw); go_simp; try with_reducible rfl)
  simp only [List.setIfInBounds_toArray, List.set_cons_zero, List.set_cons_succ]
  refine takeW 7 10 ?_ rfl rfl (by kernel_rfl) (by kernel_rfl) (by kernel_rfl) (fun _ _ _ h => h) (Or.inl ⟨by rfl, ?_⟩) hHeld ?_
  rotate_left
  · (intro wx hSw; (try dsimp only at hSw); go_simp; try with_reducible rfl)
  simp only [List.setIfInBounds_toArray, List.set_cons_zero, List.set_cons_succ]
  refine takeW 10 13 ?_ rfl rfl (by kernel_rfl) (by kernel_rfl) (by kernel_rfl) (fun _ _ _ h => h) (Or.inl ⟨by rfl, ?_⟩) hHeld ?_
  rotate_left
  · (intro wx hSw; (try dsimp only at hSw); go_simp; try with_reducible rfl)
  simp only [List.setIfInBounds_toArray, List.set_cons_zero, List.set_cons_succ]
  refine takeW 11 14 ?_ rfl rfl (by kernel_rfl) (by kernel_rfl) (by kernel_rfl) (fun _ _ _ h => h) (Or.inl ⟨by rfl, ?_⟩) hHeld ?_
  rotate_left
  · (intro wx hSw; (try dsimp only at hSw); go_simp; try with_reducible rfl)
  simp only [List.setIfInBounds_toArray, List.set_cons_zero, List.set_cons_succ]
  refine takeW 14 17 ?_ rfl rfl (by kernel_rfl) (by kernel_rfl) (by kernel_rfl) (fun _ _ _ h => h) (Or.inl ⟨by rfl, ?_⟩) hHeld ?_
  rotate_left
  · (intro wx hSw; (try dsimp only at hSw); go_simp; try with_reducible rfl)
  simp only [List.setIfInBounds_toArray, List.set_cons_zero, List.set_cons_succ]
  refine takeW 15 18 ?_ rfl rfl (by kernel_rfl) (by kernel_rfl) (by kernel_rfl) (fun _ _ _ h => h) (Or.inl ⟨by rfl, ?_⟩) hHeld ?_
  rotate_left
  · (intro wx hSw; (try dsimp only at hSw); go_simp; try with_reducible rfl)
  simp only [List.setIfInBounds_toArray, List.set_cons_zero, List.set_cons_succ]
  refine copy_walk (us := k.us) (gs := k.gs) (fs := k.fs) ⟨_, _, _, _, _, _, _, _, _, _, _, _, _, _⟩ HS.out.2.2.1 HS.out.2.2.2.1 HS.out.2.2.2.2 (fun _ _ _ _ h => cs_cells h) 45 Tryd.f45 Tryd.func45 (by decide) (Option.some_ne_none _) #[34] (HC.out vp vl) HD.out HU.out HG.out HF.out rfl rfl rfl rfl rfl rfl rfl rfl rfl rfl rfl rfl rfl rfl rfl rfl rfl rfl rfl rfl rfl rfl rfl rfl rfl rfl rfl rfl (by kernel_rfl) (by kernel_rfl) (by kernel_rfl) (by kernel_rfl) (by kernel_rfl) (by kernel_rfl) (by kernel_rfl) (by kernel_rfl) (by kernel_rfl) (by kernel_rfl) (by kernel_rfl) (by kernel_rfl) (by kernel_rfl) (by kernel_rfl) (by kernel_rfl) (by kernel_rfl) (by kernel_rfl) (by kernel_rfl) (by kernel_rfl) (by kernel_rfl) (by kernel_rfl) (by kernel_rfl) ?_ _ (cs_drew hcs0)
  intro W Em x1 p1 y1 p2 te1 b1 q1 te2 b2 q2 te3 b3 q3 hcs
  have hHeld2 := cs_cells hcs
  refine takeW 17 20 ?_ rfl rfl (by kernel_rfl) (by kernel_rfl) (by kernel_rfl) (fun _ _ _ h => h) (Or.inl ⟨by rfl, ?_⟩) hHeld2 ?_
  rotate_left
  · (intro wx hSw; (try dsimp only at hSw); go_simp; try with_reducible rfl)
  simp only [List.setIfInBounds_toArray, List.set_cons_zero, List.set_cons_succ]
  have hwk := cs_work (k := k) hcs
  rw [← HNx.out] at hwk
  have hret := ret_nw hcs.res hwk (by omega) (by have := hcs.n0e; omega) hcs.low
  obtain ⟨⟨r0, r1, r2, r3, r4, r5⟩, z0, z1, z2, z3, z4, z5⟩ := cs_res hcs
  obtain ⟨f0, f1, f2, f3, f4, f5⟩ := blk6c hret.1
  have HR := hide hret
  have HCs := hide hcs
  clear hret hwk hcs hHeld hcs0
  refine wpAnyH_ready (rs := [18]) (by kernel_rfl) (by simp) ?_
  refine AllReadyH.cons rfl (fun K hK => ?_) AllReadyH.nil
  go_simp
  refine hK.out _ _ (cs_cells6 HCs.out) (fun _ => ?_)
  refine wpAnyH_done (by kernel_rfl) ?_ _
  go_wp2_with fail
  refine bodyPost_ret (v := .agg #[.slice x1 k.ps.length p1, .slice y1 k.ls.length p2, .int .i64 nx, .slice (some ⟨b1, 0, none⟩) k.us.length q1, .slice (some ⟨b2, 0, none⟩) k.gs.length q2, .slice (some ⟨b3, 0, none⟩) k.fs.length q3]) (by simp [results, Tryd.results24, go_sem, f0, f1, f2, f3, f4, f5]) rfl ⟨_, rfl, HR.out.2.1, HR.out.2.2⟩
end Go.Proofs.YtacmpggigdlmmaaDoor

namespace Go.Proofs.YtacmpggigdlmmaaDoor
open Go.RowKit

set_option maxHeartbeats 8000000 in
set_option maxRecDepth 100000 in
theorem implGivePage_any (v : Value) (k : Wk) (hk : k.small) (w : World) (hd : WorkAt w v k) :
    Calls Tryd.prog 74 #[v] w fun e w' => ∃ v', e = .returned (.tuple #[v', .int .i64 (giveP k)]) ∧ WorkOwn w' w.heap.size v' (giveK k) ∧ Below w.heap.size w w' := by
  obtain ⟨i0, hi, hz0, hz1, hz2⟩ := info_parts Tryd.infoIntC
  have hfl := hk.2.2.2.2.2.2
  have hpl := hk.1
  have HC := hide (fun u wx h => implWCopy_any u k hk wx h)
  have HD := hide hd
  obtain ⟨vp, vl, vu, vg, vf, rfl, h1, h2, h3, h4, -⟩ := hd
  obtain ⟨nx, hnx⟩ : ∃ n, n = k.next := ⟨_, rfl⟩
  rw [← hnx] at HD ⊢
  have HNx := hide hnx
  clear hk hnx h1 h2 h3 h4
  obtain ⟨w0, hw0⟩ : ∃ w0, w0 = (w.alloc (Obj.cells #[vp, vl, .int .i64 nx, vu, vg, vf] 36)).alloc (Obj.cells #[.slice none 0 0, .slice none 0 0, .int .i64 0, .slice none 0 0, .slice none 0 0, .slice none 0 0] 36) := ⟨_, rfl⟩
  have hb0 : Below w.heap.size w w0 := by rw [hw0]; exact ((Below.refl w.heap.size w).alloc (Nat.le_refl _) _).alloc (by simp) _
  obtain ⟨q0, q1, hs0⟩ := two_allocs w (Obj.cells #[vp, vl, .int .i64 nx, vu, vg, vf] 36) (Obj.cells #[.slice none 0 0, .slice none 0 0, .int .i64 0, .slice none 0 0, .slice none 0 0, .slice none 0 0] 36)
  rw [← hw0] at q0 q1 hs0
  obtain ⟨a0, ha0⟩ : ∃ a, a = w.heap.size := ⟨_, rfl⟩
  rw [← ha0] at q0 q1 hs0
  have HA : Hid (a0 = w.heap.size ∧ w0.heap.size = a0 + 2) := hide ⟨ha0, hs0⟩
  have HB0 := hide hb0
  have HQ := hide (⟨q0, q1⟩ : _ ∧ _)
  go_enter Tryd.func74, Tryd.ntmps74
  go_wp2_with fail
  rw [← hw0, ← ha0]
  clear hb0 q0 q1 hs0 hw0 ha0
  refine (HC.out _ _ (work_below HD.out HB0.out)).mono ?_
  rintro e w1 ⟨u, rfl, hnw, hb1⟩
  obtain ⟨a1, c1, a2, c2, a3, c3, a4, c4, a5, c5, rfl⟩ := nw_form hnw
  rw [← HNx.out] at hnw ⊢
  obtain ⟨np, hnp⟩ : ∃ n, n = k.ps.length := ⟨_, rfl⟩
  obtain ⟨nl, hnl⟩ : ∃ n, n = k.ls.length := ⟨_, rfl⟩
  obtain ⟨nu, hnu⟩ : ∃ n, n = k.us.length := ⟨_, rfl⟩
  obtain ⟨ng, hng⟩ : ∃ n, n = k.gs.length := ⟨_, rfl⟩
  obtain ⟨nf, hnf⟩ : ∃ n, n = k.fs.length := ⟨_, rfl⟩
  rw [← hnp, ← hnl, ← hnu, ← hng, ← hnf] at hnw ⊢
  rw [← hnp] at hpl
  rw [← hnf] at hfl
  have HLn := hide (⟨hnp, hnl, hnu, hng, hnf⟩ : _ ∧ _ ∧ _ ∧ _ ∧ _)
  obtain ⟨g, hg⟩ : ∃ g, g = w1.heap.size := ⟨_, rfl⟩
  obtain ⟨w2, hw2⟩ : ∃ wx, wx = w1.alloc (Obj.cells #[.slice a1 np c1, .slice a2 nl c2, .int .i64 nx, .slice a3 nu c3, .slice a4 ng c4, .slice a5 nf c5] 36) := ⟨_, rfl⟩
  have hb2 : Below w1.heap.size w1 w2 := by rw [hw2]; exact (Below.refl _ _).alloc (Nat.le_refl _) _
  have hv2 : w2.heap[g]? = some (Obj.cells #[.slice a1 np c1, .slice a2 nl c2, .int .i64 nx, .slice a3 nu c3, .slice a4 ng c4, .slice a5 nf c5] 36) := by rw [hw2, hg]; exact heap_alloc_new w1 _
  have HB2 : Hid (Below w.heap.size w w2) := hide ((HB0.out.trans (hb1.mono HB0.out.size)).trans (hb2.mono (HB0.out.trans (hb1.mono HB0.out.size)).size))
  have hbx : w2.heap[a0]? = _ := staysW (staysW HQ.out.1 hb1) hb2
  have hrs : w2.heap[a0 + 1]? = _ := staysW (staysW HQ.out.2 hb1) hb2
  have HNw := hide (nw_below hnw hb2)
  have HGt : Hid (w0.heap.size ≤ g ∧ g < w2.heap.size ∧ ∀ j, workBlocks (.agg #[.slice a1 np c1, .slice a2 nl c2, .int .i64 nx, .slice a3 nu c3, .slice a4 ng c4, .slice a5 nf c5]) j → w0.heap.size ≤ j ∧ j < g) := hide ⟨by rw [hg]; exact hb1.size, (Array.getElem?_eq_some_iff.1 hv2).1, fun j hj => by rw [hg]; exact workOwn_lt (nw_own hnw) j hj⟩
  have HV2 := hide hv2
  have HRs := hide hrs
  have HBx := hide hbx
  obtain ⟨v0, v1, v2, v3, v4, v5⟩ := blk6c hv2
  obtain ⟨bx0, bx1, bx2, bx3, bx4, bx5⟩ := blk6c hbx
  obtain ⟨r0, r1, r2, r3, r4, r5⟩ := blk6c hrs
  have zr0 := (cell_at hrs 0).2
  have zr1 := (cell_at hrs 1).2
  have zr2 := (cell_at hrs 2).2
  have zr3 := (cell_at hrs 3).2
  have zr4 := (cell_at hrs 4).2
  have zr5 := (cell_at hrs 5).2
  have hng1 : a0 + 1 ≠ g := by have := HA.out; have := HGt.out.1; omega
  have hng0 : a0 ≠ g := by have := HA.out; have := HGt.out.1; omega
  have hgt : ∀ j, g < j → j ≠ g := fun j h => by omega
  have HN1 := hide hnw
  have HB1 : Hid (Below w.heap.size w w1) := hide (HB0.out.trans (hb1.mono HB0.out.size))
  have HR1 := hide (staysW HQ.out.2 hb1)
  have HF1 : Hid (w1.ownsRow w0.heap.size 3 1 (.slice a5 nf c5) nf (ints k.fs)) := hide (by have := (nw_rows hnw).2.2.2.2.1; rw [← hnf] at this; exact this)
  rw [hw2] at r0 r1 r2 r3 r4 r5 zr0 zr1 zr2 zr3 zr4 zr5
  clear v0 v1 v2 v3 v4 v5 bx0 bx1 bx2 bx3 bx4 bx5
  clear hbx hrs hnp hnl hnu hng hnf hnw hb1 hb2
  by_cases hu : k.us = []
  · have hnu0 : nu = 0 := by rw [HLn.out.2.2.1, hu]; rfl
    subst hnu0
    by_cases hn : nx < (np : Int)
    · have hgv := give_next (k := k) hu (by rw [← HNx.out, ← HLn.out.1]; exact hn)
      rw [← HNx.out] at hgv
      have HGv := hide hgv
      clear hgv
      clear r0 r1 r2 r3 r4 r5 zr0 zr1 zr2 zr3 zr4 zr5 hv2
      have HU0 : Hid (IntOwn w1 w0.heap.size (.slice a3 0 c3) k.us) := hide (intOwn_of_own (nw_rows HN1.out).2.2.1)
      rw [HNx.out] at HN1
      have HUs := hide hu
      clear hu
      go_wp2_with (at_builtin; (refine wpList_append_lies _ rfl _ _ 26 rfl w0.heap.size 3 i0 (.int .i64 0) 1 8 Tryd.underlying26 hi hz0 hz1 hz2 rfl (by decide) _ nf (ints k.fs) rfl ((HF1.out.alloc _).alloc _) ⟨w1.heap.size + 1, 0, none⟩ 1 1 [.int .i64 (nx)] rfl rfl ?c0 ?c1 (by decide) ?c3 ?c4 ?c5 _ rfl ?_))
      case c0 => exact one_newC _ _ (by simp) _ _
      case c1 => intro u hu; simp at hu; subst hu; rfl
      case c3 => unfold maxLen; omega
      case c4 => omega
      case c5 => have := HGt.out.1; simp; omega
      intro b5 d5 w5 hown5 hg5 hb5 hl5
      obtain ⟨e5, e6, e7, e8, e9, e10⟩ := give_app (us' := k.us) (n' := wrap64 (nx + 1)) HLn.out.2.2.2.2 HN1.out (HU0.out) (fun j e => e) hg HR1.out (by have := HA.out; omega) HA.out.1 HGt.out.1 HB1.out hown5 hg5 (by rcases hb5 with hb5 | hb5; exact Or.inl hb5; right; (try simp at hb5); omega)
      have s5 : w5.cell? ⟨w1.heap.size, 5, none⟩ = some (.slice a5 nf c5) := by rw [← hg]; exact (cell_at e5 5).1
      have z5 : w5.frozen? ⟨w1.heap.size, 5, none⟩ = false := by rw [← hg]; exact (cell_at e5 5).2
      obtain ⟨w6, hw6⟩ : ∃ w6, w6 = w5.setCell ⟨g, 5, none⟩ (.slice (some ⟨b5, 0, none⟩) (nf + 1) d5) := ⟨_, rfl⟩
      rw [← hw6] at e6 e7 e8 e9 e10
      obtain ⟨v0, v1, v2, v3, v4, v5⟩ := blk6c e6
      obtain ⟨r0, r1, r2, r3, r4, r5⟩ := blk6c e7
      have zr0 := (cell_at e7 0).2
      have zr1 := (cell_at e7 1).2
      have zr2 := (cell_at e7 2).2
      have zr3 := (cell_at e7 3).2
      have zr4 := (cell_at e7 4).2
      have zr5 := (cell_at e7 5).2
      have hret := ret_work (w := w) e7 e8 (by have := HA.out; omega) (by have := HA.out; omega) e9
      have HRet := hide hret
      rw [hw6, hg] at v0 v1 v2 v3 v4 v5 r0 r1 r2 r3 r4 r5 zr0 zr1 zr2 zr3 zr4 zr5
      have HW6 := hide hw6
      have HG := hide hg
      have HE6 := hide (⟨e6, e7, e8, e9, e10⟩ : _ ∧ _ ∧ _ ∧ _ ∧ _)
      clear hown5 hg5 hb5 hl5 e5 e6 e7 e8 e9 e10 hret hw6 hg hw2 hng1 hng0 hgt
      go_wp2_with fail
      rw [← HG.out, ← HW6.out]
      obtain ⟨f0, f1, f2, f3, f4, f5⟩ := blk6c HRet.out.1
      refine bodyPost_ret (v := .tuple #[.agg #[.slice a1 np c1, .slice a2 nl c2, .int .i64 (wrap64 (nx + 1)), .slice a3 0 c3, .slice a4 ng c4, .slice (some ⟨b5, 0, none⟩) (nf + 1) d5], .int .i64 (nx)]) (by simp [results, Tryd.results74, go_sem, f0, f1, f2, f3, f4, f5]) rfl ⟨_, by rw [HGv.out.2], by rw [HGv.out.1]; exact HRet.out.2.1, HRet.out.2.2⟩
    · have HGv := hide (give_none (k := k) hu (by rw [← HNx.out, ← HLn.out.1]; exact hn))
      have hret := ret_work (w := w) HRs.out (nw_own HNw.out) (by have := HA.out; omega) (by have := HA.out; omega) HB2.out
      have HRet := hide hret
      have HUs := hide hu
      have HW2 := hide hw2
      have HGg := hide hg
      clear hu hret hv2 hw2 hg hgt hng1 hng0
      go_wp2_with fail
      rw [← HW2.out]
      obtain ⟨f0, f1, f2, f3, f4, f5⟩ := blk6c HRet.out.1
      refine bodyPost_ret (v := .tuple #[.agg #[.slice a1 np c1, .slice a2 nl c2, .int .i64 nx, .slice a3 0 c3, .slice a4 ng c4, .slice a5 nf c5], .int .i64 0]) (by simp [results, Tryd.results74, go_sem, f0, f1, f2, f3, f4, f5]) rfl ⟨_, by rw [HGv.out.2], by rw [HGv.out.1]; exact HRet.out.2.1, HRet.out.2.2⟩
  · obtain ⟨x, t, hxt⟩ := List.exists_cons_of_ne_nil hu
    have HGv : Hid (giveK k = { k with next := nx, us := t, fs := k.fs ++ [x] } ∧ giveP k = x) := hide (by rw [HNx.out]; exact give_cons (k := k) hxt)
    have hu3 := (nw_rows HN1.out).2.2.1
    rw [← HLn.out.2.2.1] at hu3
    have hnt : nu = t.length + 1 := by rw [HLn.out.2.2.1, hxt]; rfl
    obtain ⟨gu, hgu, hgl, hcx, hnc⟩ : ∃ gu, a3 = some ⟨gu, 0, none⟩ ∧ gu < w1.heap.size ∧ w1.cell? ⟨gu, 0, none⟩ = some (.int .i64 x) ∧ nu ≤ c3 := by
      rcases hu3.2 with ⟨e, h0⟩ | ⟨gu, cap, cur, e, -, -, hnc, -⟩
      · omega
      · injection e with e1 e2 e3
        subst e1 e3
        refine ⟨gu, rfl, (hu3.lt gu rfl).2, ?_, hnc⟩
        have := hu3.cellAt 0 (by omega)
        rw [this, hxt]
        rfl
    subst hgu
    have hcx2 : (w1.alloc (Obj.cells #[.slice a1 np c1, .slice a2 nl c2, .int .i64 nx, .slice (some ⟨gu, 0, none⟩) nu c3, .slice a4 ng c4, .slice a5 nf c5] 36)).cell? ⟨gu, 0, none⟩ = some (.int .i64 x) := (((Below.refl _ _).alloc (Nat.le_refl _) _).cell (by exact hgl)).trans hcx
    have hUt : ∀ y, (c3 = 1 ∧ y = some (⟨gu, 0, none⟩ : Addr) ∨ ¬ c3 = 1 ∧ y = some (⟨gu, 1, none⟩ : Addr)) → IntOwn w1 w0.heap.size (.slice y (nu - 1) (c3 - 1)) t ∧ ∀ j, (Value.slice y (nu - 1) (c3 - 1)).ownBlock = some j → (Value.slice (some ⟨gu, 0, none⟩) nu c3).ownBlock = some j := fun y hy => by
      have h := intOwn_of_own (nw_rows HN1.out).2.2.1
      rw [hxt] at h
      rcases hy with ⟨hc1, rfl⟩ | ⟨hc1, rfl⟩
      · obtain rfl : t = [] := List.eq_nil_of_length_eq_zero (by omega)
        obtain ⟨cs, hcs⟩ := intOwn_typ h rfl
        refine ⟨⟨some ⟨gu, 0, none⟩, c3 - 1, by rw [hnt]; rfl, Nat.zero_le _, Or.inr ⟨gu, 0, cs, rfl, (intOwn_lt h gu rfl).1, hcs, fun i hi => absurd hi (by simp)⟩⟩, fun j e => e⟩
      · have h2 := intOwn_tail (c' := c3 - 1) (n' := nu - 1) hnt (by omega) (by omega) h
        rw [Nat.zero_add] at h2
        exact ⟨h2, fun j e => e⟩
    rw [HNx.out] at HN1
    have hn0 : (0 : Int) < (nu : Int) := by omega
    have hn1 : (1 : Int) ≤ (nu : Int) := by omega
    have hnc2 : (nu : Int) ≤ (c3 : Int) := by omega
    have HNt := hide hnt
    have HXt := hide hxt
    clear hu hu3 hcx hgl hxt hv2 r0 r1 r2 r3 r4 r5 zr0 zr1 zr2 zr3 zr4 zr5
    by_cases hc1 : c3 = 1
    · have HUt := hide (hUt _ (Or.inl ⟨hc1, rfl⟩))
      clear hUt
      subst hc1
      obtain rfl : nu = 1 := by omega
      clear hnt hn0 hn1 hnc2 hnc
      go_wp2_with (at_builtin; (refine wpList_append_lies _ rfl _ _ 26 rfl w0.heap.size 3 i0 (.int .i64 0) 1 8 Tryd.underlying26 hi hz0 hz1 hz2 rfl (by decide) _ nf (ints k.fs) rfl ((HF1.out.alloc _).alloc _) ⟨w1.heap.size + 1, 0, none⟩ 1 1 [.int .i64 (x)] rfl rfl ?c0 ?c1 (by decide) ?c3 ?c4 ?c5 _ rfl ?_))
      case c0 => exact one_newC _ _ (by simp) _ _
      case c1 => intro u hu; simp at hu; subst hu; rfl
      case c3 => unfold maxLen; omega
      case c4 => omega
      case c5 => have := HGt.out.1; simp; omega
      intro b5 d5 w5 hown5 hg5 hb5 hl5
      obtain ⟨e5, e6, e7, e8, e9, e10⟩ := give_app (us' := t) (n' := nx) HLn.out.2.2.2.2 HN1.out (HUt.out.1) (HUt.out.2) hg HR1.out (by have := HA.out; omega) HA.out.1 HGt.out.1 HB1.out hown5 hg5 (by rcases hb5 with hb5 | hb5; exact Or.inl hb5; right; (try simp at hb5); omega)
      have s5 : w5.cell? ⟨w1.heap.size, 5, none⟩ = some (.slice a5 nf c5) := by rw [← hg]; exact (cell_at e5 5).1
      have z5 : w5.frozen? ⟨w1.heap.size, 5, none⟩ = false := by rw [← hg]; exact (cell_at e5 5).2
      obtain ⟨w6, hw6⟩ : ∃ w6, w6 = w5.setCell ⟨g, 5, none⟩ (.slice (some ⟨b5, 0, none⟩) (nf + 1) d5) := ⟨_, rfl⟩
      rw [← hw6] at e6 e7 e8 e9 e10
      obtain ⟨v0, v1, v2, v3, v4, v5⟩ := blk6c e6
      obtain ⟨r0, r1, r2, r3, r4, r5⟩ := blk6c e7
      have zr0 := (cell_at e7 0).2
      have zr1 := (cell_at e7 1).2
      have zr2 := (cell_at e7 2).2
      have zr3 := (cell_at e7 3).2
      have zr4 := (cell_at e7 4).2
      have zr5 := (cell_at e7 5).2
      have hret := ret_work (w := w) e7 e8 (by have := HA.out; omega) (by have := HA.out; omega) e9
      have HRet := hide hret
      rw [hw6, hg] at v0 v1 v2 v3 v4 v5 r0 r1 r2 r3 r4 r5 zr0 zr1 zr2 zr3 zr4 zr5
      have HW6 := hide hw6
      have HG := hide hg
      have HE6 := hide (⟨e6, e7, e8, e9, e10⟩ : _ ∧ _ ∧ _ ∧ _ ∧ _)
      clear hown5 hg5 hb5 hl5 e5 e6 e7 e8 e9 e10 hret hw6 hg hw2 hng1 hng0 hgt
      go_wp2_with fail
      rw [← HG.out, ← HW6.out]
      obtain ⟨f0, f1, f2, f3, f4, f5⟩ := blk6c HRet.out.1
      refine bodyPost_ret (v := .tuple #[.agg #[.slice a1 np c1, .slice a2 nl c2, .int .i64 nx, .slice (some ⟨gu, 0, none⟩) 0 0, .slice a4 ng c4, .slice (some ⟨b5, 0, none⟩) (nf + 1) d5], .int .i64 (x)]) (by simp [results, Tryd.results74, go_sem, f0, f1, f2, f3, f4, f5]) rfl ⟨_, by rw [HGv.out.2], by rw [HGv.out.1]; exact HRet.out.2.1, HRet.out.2.2⟩
    · have HUt := hide (hUt _ (Or.inr ⟨hc1, rfl⟩))
      clear hUt hnt
      go_wp2_with (at_builtin; (refine wpList_append_lies _ rfl _ _ 26 rfl w0.heap.size 3 i0 (.int .i64 0) 1 8 Tryd.underlying26 hi hz0 hz1 hz2 rfl (by decide) _ nf (ints k.fs) rfl ((HF1.out.alloc _).alloc _) ⟨w1.heap.size + 1, 0, none⟩ 1 1 [.int .i64 (x)] rfl rfl ?c0 ?c1 (by decide) ?c3 ?c4 ?c5 _ rfl ?_))
      case c0 => exact one_newC _ _ (by simp) _ _
      case c1 => intro u hu; simp at hu; subst hu; rfl
      case c3 => unfold maxLen; omega
      case c4 => omega
      case c5 => have := HGt.out.1; simp; omega
      intro b5 d5 w5 hown5 hg5 hb5 hl5
      obtain ⟨e5, e6, e7, e8, e9, e10⟩ := give_app (us' := t) (n' := nx) HLn.out.2.2.2.2 HN1.out (HUt.out.1) (HUt.out.2) hg HR1.out (by have := HA.out; omega) HA.out.1 HGt.out.1 HB1.out hown5 hg5 (by rcases hb5 with hb5 | hb5; exact Or.inl hb5; right; (try simp at hb5); omega)
      have s5 : w5.cell? ⟨w1.heap.size, 5, none⟩ = some (.slice a5 nf c5) := by rw [← hg]; exact (cell_at e5 5).1
      have z5 : w5.frozen? ⟨w1.heap.size, 5, none⟩ = false := by rw [← hg]; exact (cell_at e5 5).2
      obtain ⟨w6, hw6⟩ : ∃ w6, w6 = w5.setCell ⟨g, 5, none⟩ (.slice (some ⟨b5, 0, none⟩) (nf + 1) d5) := ⟨_, rfl⟩
      rw [← hw6] at e6 e7 e8 e9 e10
      obtain ⟨v0, v1, v2, v3, v4, v5⟩ := blk6c e6
      obtain ⟨r0, r1, r2, r3, r4, r5⟩ := blk6c e7
      have zr0 := (cell_at e7 0).2
      have zr1 := (cell_at e7 1).2
      have zr2 := (cell_at e7 2).2
      have zr3 := (cell_at e7 3).2
      have zr4 := (cell_at e7 4).2
      have zr5 := (cell_at e7 5).2
      have hret := ret_work (w := w) e7 e8 (by have := HA.out; omega) (by have := HA.out; omega) e9
      have HRet := hide hret
      rw [hw6, hg] at v0 v1 v2 v3 v4 v5 r0 r1 r2 r3 r4 r5 zr0 zr1 zr2 zr3 zr4 zr5
      have HW6 := hide hw6
      have HG := hide hg
      have HE6 := hide (⟨e6, e7, e8, e9, e10⟩ : _ ∧ _ ∧ _ ∧ _ ∧ _)
      clear hown5 hg5 hb5 hl5 e5 e6 e7 e8 e9 e10 hret hw6 hg hw2 hng1 hng0 hgt
      go_wp2_with fail
      rw [← HG.out, ← HW6.out]
      obtain ⟨f0, f1, f2, f3, f4, f5⟩ := blk6c HRet.out.1
      refine bodyPost_ret (v := .tuple #[.agg #[.slice a1 np c1, .slice a2 nl c2, .int .i64 nx, .slice (some ⟨gu, 1, none⟩) (nu - 1) (c3 - 1), .slice a4 ng c4, .slice (some ⟨b5, 0, none⟩) (nf + 1) d5], .int .i64 (x)]) (by simp [results, Tryd.results74, go_sem, f0, f1, f2, f3, f4, f5]) rfl ⟨_, by rw [HGv.out.2], by rw [HGv.out.1]; exact HRet.out.2.1, HRet.out.2.2⟩
end Go.Proofs.YtacmpggigdlmmaaDoor
