/-
  Facts and contracts that the law's own text rests on, by their texts' names: CpWalk.
-/
import Derived.Deep.RegionHeld
import Derived.Test.YtcbogiebfbbmbaaGreatDoorDa7
import Derived.Test.YtcbogiebfbbmbaaGreatDoorDa2
set_option maxHeartbeats 16000000
set_option maxRecDepth 100000
namespace Go.Proofs.YtcbogiebfbbmbaaGreatDoor
open Go.RowKit
structure CpC where
 (c0 c1 c2 c3 c4 c6 c7 c9 c10 c13 c14 c17 c18 c20:Value)
abbrev cpTm (c:CpC) (t5 e1 a1 e2 a2 e3 a3:Value):Array Value:= #[c.c0,c.c1,c.c2,c.c3,c.c4,t5,c.c6,c.c7,e1,c.c9,c.c10,a1,e2,c.c13,c.c14,a2,e3,c.c17,c.c18,a3,c.c20]
theorem zab {ops:Array Oper} {o:Oper} {a:Act} {K:Act->World->Prop} {Q:Exit->Act->World->Prop} {E:Prop} {W:World} (hgd:o.guard=none) (ho:o.op= .buildSlice 32 0 #[]) (h:K (a.put o.dst (.slice (some ⟨W.heap.size,0,none⟩) 0 0)) (W.alloc (.cells #[] 3 (0,0)))):
  if Region.wanted o (yielded ops a.tmps)=true then Oper.wp Tryz.prog o a W K Q else E:=by
 have hw:Region.wanted o (yielded ops a.tmps)=true:=by simp [Region.wanted,hgd]
 rw [if_pos hw];unfold Oper.wp execOp
 simp only [ho]
 simp [go_sem]
 exact h
theorem zir {ops:Array Oper} {Q:Exit→Act→World→Prop} {S:World→Prop} {w:World} {n0:Nat} {bx rs:Obj} {ps:List ByteArray} {ls:List (Int×ByteArray)} {us gs fs:List Int} (c:CpC)
  (lu:us.length≤2000000) (lg:gs.length≤2000000) (lf:fs.length≤2000000) (hS:∀W Em R D,CS w n0 bx rs ps ls W Em R D→S W)
  (f : FuncId) (fn : Func) (hfn : Tryz.prog.funcs[f]? = some fn) (hname : ¬ fn.name = "runtime.NumGoroutine") (hbody : ¬ fn.body = none) (ts : Array TypeId)
  (hc:∀wx,DiskAt wx c.c4 ps ls→Calls Tryz.prog f #[c.c4] wx fun e w'=>∃v',e= .returned v'∧DiskOwn w' wx.heap.size v' ps ls∧Below wx.heap.size wx w') (hd:DiskAt w c.c4 ps ls)
  (ru:RowAt w 1 c.c10 us.length (ints us)) (rg:RowAt w 1 c.c14 gs.length (ints gs)) (rf:RowAt w 1 c.c18 fs.length (ints fs))
  {oC:Oper} (iC:ops[2]?=some oC) (jC:oC.guard=none) (dC:oC.dst=some 5) (pC:oC.op= .call {callee:= .value (.func f),args:= #[.tmp 4],argTypes:=ts})
  {oE1:Oper} (iE1:ops[5]?=some oE1) (jE1:oE1.guard=none) (dE1:oE1.dst=some 8) (pE1:oE1.op= .buildSlice 32 0 #[])
  {oA1:Oper} (iA1:ops[8]?=some oA1) (jA1:oA1.guard=none) (dA1:oA1.dst=some 11) (pA1:oA1.op= .call {callee:= .builtin .append,args:= #[.tmp 8,.tmp 10],argTypes:= #[32,32]})
  {oE2:Oper} (iE2:ops[9]?=some oE2) (jE2:oE2.guard=none) (dE2:oE2.dst=some 12) (pE2:oE2.op= .buildSlice 32 0 #[])
  {oA2:Oper} (iA2:ops[12]?=some oA2) (jA2:oA2.guard=none) (dA2:oA2.dst=some 15) (pA2:oA2.op= .call {callee:= .builtin .append,args:= #[.tmp 12,.tmp 14],argTypes:= #[32,32]})
  {oE3:Oper} (iE3:ops[13]?=some oE3) (jE3:oE3.guard=none) (dE3:oE3.dst=some 16) (pE3:oE3.op= .buildSlice 32 0 #[])
  {oA3:Oper} (iA3:ops[16]?=some oA3) (jA3:oA3.guard=none) (dA3:oA3.dst=some 19) (pA3:oA3.op= .call {callee:= .builtin .append,args:= #[.tmp 16,.tmp 18],argTypes:= #[32,32]})
  (r0_000:Region.ready .any ops #[true,true,false,true,true,false,true,true,false,false,true,true,false,false,true,true,false,false,false]= [2,5,9,13])
  (r1_000:Region.ready .any ops #[true,true,true,true,true,false,true,true,false,false,true,true,false,false,true,true,false,false,false]= [5,9,13])
  (r0_100:Region.ready .any ops #[true,true,false,true,true,true,true,true,false,false,true,true,false,false,true,true,false,false,false]= [2,9,13])
  (r0_010:Region.ready .any ops #[true,true,false,true,true,false,true,true,false,true,true,true,false,false,true,true,false,false,false]= [2,5,13])
  (r0_001:Region.ready .any ops #[true,true,false,true,true,false,true,true,false,false,true,true,false,true,true,true,false,false,false]= [2,5,9])
  (r1_100:Region.ready .any ops #[true,true,true,true,true,true,true,true,false,false,true,true,false,false,true,true,false,false,false]= [8,9,13])
  (r1_010:Region.ready .any ops #[true,true,true,true,true,false,true,true,false,true,true,true,false,false,true,true,false,false,false]= [5,13])
  (r1_001:Region.ready .any ops #[true,true,true,true,true,false,true,true,false,false,true,true,false,true,true,true,false,false,false]= [5,9])
  (r0_110:Region.ready .any ops #[true,true,false,true,true,true,true,true,false,true,true,true,false,false,true,true,false,false,false]= [2,13])
  (r0_101:Region.ready .any ops #[true,true,false,true,true,true,true,true,false,false,true,true,false,true,true,true,false,false,false]= [2,9])
  (r0_011:Region.ready .any ops #[true,true,false,true,true,false,true,true,false,true,true,true,false,true,true,true,false,false,false]= [2,5])
  (r1_200:Region.ready .any ops #[true,true,true,true,true,true,true,true,true,false,true,true,false,false,true,true,false,false,false]= [9,13])
  (r1_110:Region.ready .any ops #[true,true,true,true,true,true,true,true,false,true,true,true,false,false,true,true,false,false,false]= [8,13])
  (r1_101:Region.ready .any ops #[true,true,true,true,true,true,true,true,false,false,true,true,false,true,true,true,false,false,false]= [8,9])
  (r1_011:Region.ready .any ops #[true,true,true,true,true,false,true,true,false,true,true,true,false,true,true,true,false,false,false]= [5])
  (r0_111:Region.ready .any ops #[true,true,false,true,true,true,true,true,false,true,true,true,false,true,true,true,false,false,false]= [2])
  (r1_210:Region.ready .any ops #[true,true,true,true,true,true,true,true,true,true,true,true,false,false,true,true,false,false,false]= [12,13])
  (r1_201:Region.ready .any ops #[true,true,true,true,true,true,true,true,true,false,true,true,false,true,true,true,false,false,false]= [9])
  (r1_111:Region.ready .any ops #[true,true,true,true,true,true,true,true,false,true,true,true,false,true,true,true,false,false,false]= [8])
  (r1_220:Region.ready .any ops #[true,true,true,true,true,true,true,true,true,true,true,true,true,false,true,true,false,false,false]= [13])
  (r1_211:Region.ready .any ops #[true,true,true,true,true,true,true,true,true,true,true,true,false,true,true,true,false,false,false]= [12])
  (r1_221:Region.ready .any ops #[true,true,true,true,true,true,true,true,true,true,true,true,true,true,true,true,false,false,false]= [16])
  (hfin:∀(W:World) (Em:Nat→Prop) (x1:Option Addr) (p1:Nat) (y1:Option Addr) (p2:Nat) (te1:Value) (b1 q1:Nat) (te2:Value) (b2 q2:Nat) (te3:Value) (b3 q3:Nat) (_:CS w n0 bx rs ps ls W Em [(.slice (some ⟨b3,0,none⟩) fs.length q3,fs),(.slice (some ⟨b2,0,none⟩) gs.length q2,gs),(.slice (some ⟨b1,0,none⟩) us.length q1,us)] [.agg #[.slice x1 ps.length p1,.slice y1 ls.length p2]]),wpAnyH Tryz.prog .any ops Q S 2 #[true,true,true,true,true,true,true,true,true,true,true,true,true,true,true,true,true,false,false] ⟨(cpTm c (.agg #[.slice x1 ps.length p1,.slice y1 ls.length p2]) te1 (.slice (some ⟨b1,0,none⟩) us.length q1) te2 (.slice (some ⟨b2,0,none⟩) gs.length q2) te3 (.slice (some ⟨b3,0,none⟩) fs.length q3)),[]⟩ W):
  ∀W,CS w n0 bx rs ps ls W (fun y=>y<0) [] []→wpAnyH Tryz.prog .any ops Q S 9 #[true,true,false,true,true,false,true,true,false,false,true,true,false,false,true,true,false,false,false] ⟨cpTm c undef undef undef undef undef undef undef,[]⟩ W:=by
 have hlt:∀{W Em R D},CS w n0 bx rs ps ls W Em R D→∀y,Em y→y≠W.heap.size:=fun h y hy=>Nat.ne_of_lt (Array.getElem?_eq_some_iff.1 (h.emp y hy).2).1
 have G1_221:∀(W:World) (Em:Nat→Prop) (x1:Option Addr) (p1:Nat) (y1:Option Addr) (p2:Nat) (te1:Value) (b1 q1:Nat) (te2:Value) (b2 q2:Nat) (g3:Nat) (ta3:Value) (_:CS w n0 bx rs ps ls W Em [(.slice (some ⟨b2,0,none⟩) gs.length q2,gs),(.slice (some ⟨b1,0,none⟩) us.length q1,us)] [.agg #[.slice x1 ps.length p1,.slice y1 ls.length p2]]) (h3:Em g3),wpAnyH Tryz.prog .any ops Q S 3 #[true,true,true,true,true,true,true,true,true,true,true,true,true,true,true,true,false,false,false] ⟨(cpTm c (.agg #[.slice x1 ps.length p1,.slice y1 ls.length p2]) te1 (.slice (some ⟨b1,0,none⟩) us.length q1) te2 (.slice (some ⟨b2,0,none⟩) gs.length q2) (.slice (some ⟨g3,0,none⟩) 0 0) ta3),[]⟩ W:=by
  intro W Em x1 p1 y1 p2 te1 b1 q1 te2 b2 q2 g3 ta3 hcs h3
  refine wpAnyH_ready r1_221 (by simp) ?_
  refine AllReadyH.cons iA3 (fun K hK=> ?_) ?_
  ·refine zcf hcs jA3 (.tmp 16) (.tmp 18) pA3 rfl rfl fs lf rf h3 (fun b3 q3 W' _ hcs'=> ?_)
   rw [dA3]
   exact hK.out _ _ (hS _ _ _ _ hcs') (fun _=>hfin W' _ x1 p1 y1 p2 te1 b1 q1 te2 b2 q2 _ b3 q3 hcs')
  exact AllReadyH.nil
 have G1_220:∀(W:World) (Em:Nat→Prop) (x1:Option Addr) (p1:Nat) (y1:Option Addr) (p2:Nat) (te1:Value) (b1 q1:Nat) (te2:Value) (b2 q2:Nat) (te3:Value) (ta3:Value) (_:CS w n0 bx rs ps ls W Em [(.slice (some ⟨b2,0,none⟩) gs.length q2,gs),(.slice (some ⟨b1,0,none⟩) us.length q1,us)] [.agg #[.slice x1 ps.length p1,.slice y1 ls.length p2]]),wpAnyH Tryz.prog .any ops Q S 4 #[true,true,true,true,true,true,true,true,true,true,true,true,true,false,true,true,false,false,false] ⟨(cpTm c (.agg #[.slice x1 ps.length p1,.slice y1 ls.length p2]) te1 (.slice (some ⟨b1,0,none⟩) us.length q1) te2 (.slice (some ⟨b2,0,none⟩) gs.length q2) te3 ta3),[]⟩ W:=by
  intro W Em x1 p1 y1 p2 te1 b1 q1 te2 b2 q2 te3 ta3 hcs
  refine wpAnyH_ready r1_220 (by simp) ?_
  refine AllReadyH.cons iE3 (fun K hK=> ?_) ?_
  ·refine zab jE3 pE3 ?_
   rw [dE3]
   exact hK.out _ _ (hS _ _ _ _ (za5 hcs)) (fun _=>G1_221 _ _ x1 p1 y1 p2 te1 b1 q1 te2 b2 q2 W.heap.size ta3 (za5 hcs) (Or.inl rfl))
  exact AllReadyH.nil
 have G1_211:∀(W:World) (Em:Nat→Prop) (x1:Option Addr) (p1:Nat) (y1:Option Addr) (p2:Nat) (te1:Value) (b1 q1:Nat) (g2:Nat) (ta2:Value) (g3:Nat) (ta3:Value) (_:CS w n0 bx rs ps ls W Em [(.slice (some ⟨b1,0,none⟩) us.length q1,us)] [.agg #[.slice x1 ps.length p1,.slice y1 ls.length p2]]) (h2:Em g2) (h3:Em g3) (n23:g2≠g3),wpAnyH Tryz.prog .any ops Q S 4 #[true,true,true,true,true,true,true,true,true,true,true,true,false,true,true,true,false,false,false] ⟨(cpTm c (.agg #[.slice x1 ps.length p1,.slice y1 ls.length p2]) te1 (.slice (some ⟨b1,0,none⟩) us.length q1) (.slice (some ⟨g2,0,none⟩) 0 0) ta2 (.slice (some ⟨g3,0,none⟩) 0 0) ta3),[]⟩ W:=by
  intro W Em x1 p1 y1 p2 te1 b1 q1 g2 ta2 g3 ta3 hcs h2 h3 n23
  refine wpAnyH_ready r1_211 (by simp) ?_
  refine AllReadyH.cons iA2 (fun K hK=> ?_) ?_
  ·refine zcf hcs jA2 (.tmp 12) (.tmp 14) pA2 rfl rfl gs lg rg h2 (fun b2 q2 W' _ hcs'=> ?_)
   rw [dA2]
   exact hK.out _ _ (hS _ _ _ _ hcs') (fun _=>G1_221 W' _ x1 p1 y1 p2 te1 b1 q1 _ b2 q2 g3 ta3 hcs' (⟨h3,n23.symm⟩))
  exact AllReadyH.nil
 have G1_210:∀(W:World) (Em:Nat→Prop) (x1:Option Addr) (p1:Nat) (y1:Option Addr) (p2:Nat) (te1:Value) (b1 q1:Nat) (g2:Nat) (ta2:Value) (te3:Value) (ta3:Value) (_:CS w n0 bx rs ps ls W Em [(.slice (some ⟨b1,0,none⟩) us.length q1,us)] [.agg #[.slice x1 ps.length p1,.slice y1 ls.length p2]]) (h2:Em g2),wpAnyH Tryz.prog .any ops Q S 5 #[true,true,true,true,true,true,true,true,true,true,true,true,false,false,true,true,false,false,false] ⟨(cpTm c (.agg #[.slice x1 ps.length p1,.slice y1 ls.length p2]) te1 (.slice (some ⟨b1,0,none⟩) us.length q1) (.slice (some ⟨g2,0,none⟩) 0 0) ta2 te3 ta3),[]⟩ W:=by
  intro W Em x1 p1 y1 p2 te1 b1 q1 g2 ta2 te3 ta3 hcs h2
  refine wpAnyH_ready r1_210 (by simp) ?_
  refine AllReadyH.cons iA2 (fun K hK=> ?_) ?_
  ·refine zcf hcs jA2 (.tmp 12) (.tmp 14) pA2 rfl rfl gs lg rg h2 (fun b2 q2 W' _ hcs'=> ?_)
   rw [dA2]
   exact hK.out _ _ (hS _ _ _ _ hcs') (fun _=>G1_220 W' _ x1 p1 y1 p2 te1 b1 q1 _ b2 q2 te3 ta3 hcs')
  refine AllReadyH.cons iE3 (fun K hK=> ?_) ?_
  ·refine zab jE3 pE3 ?_
   rw [dE3]
   exact hK.out _ _ (hS _ _ _ _ (za5 hcs)) (fun _=>G1_211 _ _ x1 p1 y1 p2 te1 b1 q1 g2 ta2 W.heap.size ta3 (za5 hcs) (Or.inr h2) (Or.inl rfl) (hlt hcs g2 h2))
  exact AllReadyH.nil
 have G1_201:∀(W:World) (Em:Nat→Prop) (x1:Option Addr) (p1:Nat) (y1:Option Addr) (p2:Nat) (te1:Value) (b1 q1:Nat) (te2:Value) (ta2:Value) (g3:Nat) (ta3:Value) (_:CS w n0 bx rs ps ls W Em [(.slice (some ⟨b1,0,none⟩) us.length q1,us)] [.agg #[.slice x1 ps.length p1,.slice y1 ls.length p2]]) (h3:Em g3),wpAnyH Tryz.prog .any ops Q S 5 #[true,true,true,true,true,true,true,true,true,false,true,true,false,true,true,true,false,false,false] ⟨(cpTm c (.agg #[.slice x1 ps.length p1,.slice y1 ls.length p2]) te1 (.slice (some ⟨b1,0,none⟩) us.length q1) te2 ta2 (.slice (some ⟨g3,0,none⟩) 0 0) ta3),[]⟩ W:=by
  intro W Em x1 p1 y1 p2 te1 b1 q1 te2 ta2 g3 ta3 hcs h3
  refine wpAnyH_ready r1_201 (by simp) ?_
  refine AllReadyH.cons iE2 (fun K hK=> ?_) ?_
  ·refine zab jE2 pE2 ?_
   rw [dE2]
   exact hK.out _ _ (hS _ _ _ _ (za5 hcs)) (fun _=>G1_211 _ _ x1 p1 y1 p2 te1 b1 q1 W.heap.size ta2 g3 ta3 (za5 hcs) (Or.inl rfl) (Or.inr h3) ((hlt hcs g3 h3).symm))
  exact AllReadyH.nil
 have G1_111:∀(W:World) (Em:Nat→Prop) (x1:Option Addr) (p1:Nat) (y1:Option Addr) (p2:Nat) (g1:Nat) (ta1:Value) (g2:Nat) (ta2:Value) (g3:Nat) (ta3:Value) (_:CS w n0 bx rs ps ls W Em [] [.agg #[.slice x1 ps.length p1,.slice y1 ls.length p2]]) (h1:Em g1) (h2:Em g2) (h3:Em g3) (n12:g1≠g2) (n13:g1≠g3) (n23:g2≠g3),wpAnyH Tryz.prog .any ops Q S 5 #[true,true,true,true,true,true,true,true,false,true,true,true,false,true,true,true,false,false,false] ⟨(cpTm c (.agg #[.slice x1 ps.length p1,.slice y1 ls.length p2]) (.slice (some ⟨g1,0,none⟩) 0 0) ta1 (.slice (some ⟨g2,0,none⟩) 0 0) ta2 (.slice (some ⟨g3,0,none⟩) 0 0) ta3),[]⟩ W:=by
  intro W Em x1 p1 y1 p2 g1 ta1 g2 ta2 g3 ta3 hcs h1 h2 h3 n12 n13 n23
  refine wpAnyH_ready r1_111 (by simp) ?_
  refine AllReadyH.cons iA1 (fun K hK=> ?_) ?_
  ·refine zcf hcs jA1 (.tmp 8) (.tmp 10) pA1 rfl rfl us lu ru h1 (fun b1 q1 W' _ hcs'=> ?_)
   rw [dA1]
   exact hK.out _ _ (hS _ _ _ _ hcs') (fun _=>G1_211 W' _ x1 p1 y1 p2 _ b1 q1 g2 ta2 g3 ta3 hcs' (⟨h2,n12.symm⟩) (⟨h3,n13.symm⟩) (n23))
  exact AllReadyH.nil
 have G1_200:∀(W:World) (Em:Nat→Prop) (x1:Option Addr) (p1:Nat) (y1:Option Addr) (p2:Nat) (te1:Value) (b1 q1:Nat) (te2:Value) (ta2:Value) (te3:Value) (ta3:Value) (_:CS w n0 bx rs ps ls W Em [(.slice (some ⟨b1,0,none⟩) us.length q1,us)] [.agg #[.slice x1 ps.length p1,.slice y1 ls.length p2]]),wpAnyH Tryz.prog .any ops Q S 6 #[true,true,true,true,true,true,true,true,true,false,true,true,false,false,true,true,false,false,false] ⟨(cpTm c (.agg #[.slice x1 ps.length p1,.slice y1 ls.length p2]) te1 (.slice (some ⟨b1,0,none⟩) us.length q1) te2 ta2 te3 ta3),[]⟩ W:=by
  intro W Em x1 p1 y1 p2 te1 b1 q1 te2 ta2 te3 ta3 hcs
  refine wpAnyH_ready r1_200 (by simp) ?_
  refine AllReadyH.cons iE2 (fun K hK=> ?_) ?_
  ·refine zab jE2 pE2 ?_
   rw [dE2]
   exact hK.out _ _ (hS _ _ _ _ (za5 hcs)) (fun _=>G1_210 _ _ x1 p1 y1 p2 te1 b1 q1 W.heap.size ta2 te3 ta3 (za5 hcs) (Or.inl rfl))
  refine AllReadyH.cons iE3 (fun K hK=> ?_) ?_
  ·refine zab jE3 pE3 ?_
   rw [dE3]
   exact hK.out _ _ (hS _ _ _ _ (za5 hcs)) (fun _=>G1_201 _ _ x1 p1 y1 p2 te1 b1 q1 te2 ta2 W.heap.size ta3 (za5 hcs) (Or.inl rfl))
  exact AllReadyH.nil
 have G1_110:∀(W:World) (Em:Nat→Prop) (x1:Option Addr) (p1:Nat) (y1:Option Addr) (p2:Nat) (g1:Nat) (ta1:Value) (g2:Nat) (ta2:Value) (te3:Value) (ta3:Value) (_:CS w n0 bx rs ps ls W Em [] [.agg #[.slice x1 ps.length p1,.slice y1 ls.length p2]]) (h1:Em g1) (h2:Em g2) (n12:g1≠g2),wpAnyH Tryz.prog .any ops Q S 6 #[true,true,true,true,true,true,true,true,false,true,true,true,false,false,true,true,false,false,false] ⟨(cpTm c (.agg #[.slice x1 ps.length p1,.slice y1 ls.length p2]) (.slice (some ⟨g1,0,none⟩) 0 0) ta1 (.slice (some ⟨g2,0,none⟩) 0 0) ta2 te3 ta3),[]⟩ W:=by
  intro W Em x1 p1 y1 p2 g1 ta1 g2 ta2 te3 ta3 hcs h1 h2 n12
  refine wpAnyH_ready r1_110 (by simp) ?_
  refine AllReadyH.cons iA1 (fun K hK=> ?_) ?_
  ·refine zcf hcs jA1 (.tmp 8) (.tmp 10) pA1 rfl rfl us lu ru h1 (fun b1 q1 W' _ hcs'=> ?_)
   rw [dA1]
   exact hK.out _ _ (hS _ _ _ _ hcs') (fun _=>G1_210 W' _ x1 p1 y1 p2 _ b1 q1 g2 ta2 te3 ta3 hcs' (⟨h2,n12.symm⟩))
  refine AllReadyH.cons iE3 (fun K hK=> ?_) ?_
  ·refine zab jE3 pE3 ?_
   rw [dE3]
   exact hK.out _ _ (hS _ _ _ _ (za5 hcs)) (fun _=>G1_111 _ _ x1 p1 y1 p2 g1 ta1 g2 ta2 W.heap.size ta3 (za5 hcs) (Or.inr h1) (Or.inr h2) (Or.inl rfl) (n12) (hlt hcs g1 h1) (hlt hcs g2 h2))
  exact AllReadyH.nil
 have G1_101:∀(W:World) (Em:Nat→Prop) (x1:Option Addr) (p1:Nat) (y1:Option Addr) (p2:Nat) (g1:Nat) (ta1:Value) (te2:Value) (ta2:Value) (g3:Nat) (ta3:Value) (_:CS w n0 bx rs ps ls W Em [] [.agg #[.slice x1 ps.length p1,.slice y1 ls.length p2]]) (h1:Em g1) (h3:Em g3) (n13:g1≠g3),wpAnyH Tryz.prog .any ops Q S 6 #[true,true,true,true,true,true,true,true,false,false,true,true,false,true,true,true,false,false,false] ⟨(cpTm c (.agg #[.slice x1 ps.length p1,.slice y1 ls.length p2]) (.slice (some ⟨g1,0,none⟩) 0 0) ta1 te2 ta2 (.slice (some ⟨g3,0,none⟩) 0 0) ta3),[]⟩ W:=by
  intro W Em x1 p1 y1 p2 g1 ta1 te2 ta2 g3 ta3 hcs h1 h3 n13
  refine wpAnyH_ready r1_101 (by simp) ?_
  refine AllReadyH.cons iA1 (fun K hK=> ?_) ?_
  ·refine zcf hcs jA1 (.tmp 8) (.tmp 10) pA1 rfl rfl us lu ru h1 (fun b1 q1 W' _ hcs'=> ?_)
   rw [dA1]
   exact hK.out _ _ (hS _ _ _ _ hcs') (fun _=>G1_201 W' _ x1 p1 y1 p2 _ b1 q1 te2 ta2 g3 ta3 hcs' (⟨h3,n13.symm⟩))
  refine AllReadyH.cons iE2 (fun K hK=> ?_) ?_
  ·refine zab jE2 pE2 ?_
   rw [dE2]
   exact hK.out _ _ (hS _ _ _ _ (za5 hcs)) (fun _=>G1_111 _ _ x1 p1 y1 p2 g1 ta1 W.heap.size ta2 g3 ta3 (za5 hcs) (Or.inr h1) (Or.inl rfl) (Or.inr h3) (hlt hcs g1 h1) (n13) ((hlt hcs g3 h3).symm))
  exact AllReadyH.nil
 have G1_011:∀(W:World) (Em:Nat→Prop) (x1:Option Addr) (p1:Nat) (y1:Option Addr) (p2:Nat) (te1:Value) (ta1:Value) (g2:Nat) (ta2:Value) (g3:Nat) (ta3:Value) (_:CS w n0 bx rs ps ls W Em [] [.agg #[.slice x1 ps.length p1,.slice y1 ls.length p2]]) (h2:Em g2) (h3:Em g3) (n23:g2≠g3),wpAnyH Tryz.prog .any ops Q S 6 #[true,true,true,true,true,false,true,true,false,true,true,true,false,true,true,true,false,false,false] ⟨(cpTm c (.agg #[.slice x1 ps.length p1,.slice y1 ls.length p2]) te1 ta1 (.slice (some ⟨g2,0,none⟩) 0 0) ta2 (.slice (some ⟨g3,0,none⟩) 0 0) ta3),[]⟩ W:=by
  intro W Em x1 p1 y1 p2 te1 ta1 g2 ta2 g3 ta3 hcs h2 h3 n23
  refine wpAnyH_ready r1_011 (by simp) ?_
  refine AllReadyH.cons iE1 (fun K hK=> ?_) ?_
  ·refine zab jE1 pE1 ?_
   rw [dE1]
   exact hK.out _ _ (hS _ _ _ _ (za5 hcs)) (fun _=>G1_111 _ _ x1 p1 y1 p2 W.heap.size ta1 g2 ta2 g3 ta3 (za5 hcs) (Or.inl rfl) (Or.inr h2) (Or.inr h3) ((hlt hcs g2 h2).symm) ((hlt hcs g3 h3).symm) (n23))
  exact AllReadyH.nil
 have G0_111:∀(W:World) (Em:Nat→Prop) (t5:Value) (g1:Nat) (ta1:Value) (g2:Nat) (ta2:Value) (g3:Nat) (ta3:Value) (_:CS w n0 bx rs ps ls W Em [] []) (h1:Em g1) (h2:Em g2) (h3:Em g3) (n12:g1≠g2) (n13:g1≠g3) (n23:g2≠g3),wpAnyH Tryz.prog .any ops Q S 6 #[true,true,false,true,true,true,true,true,false,true,true,true,false,true,true,true,false,false,false] ⟨(cpTm c t5 (.slice (some ⟨g1,0,none⟩) 0 0) ta1 (.slice (some ⟨g2,0,none⟩) 0 0) ta2 (.slice (some ⟨g3,0,none⟩) 0 0) ta3),[]⟩ W:=by
  intro W Em t5 g1 ta1 g2 ta2 g3 ta3 hcs h1 h2 h3 n12 n13 n23
  refine wpAnyH_ready r0_111 (by simp) ?_
  refine AllReadyH.cons iC (fun K hK=> ?_) ?_
  ·refine zb4 hcs jC f fn hfn hname hbody (.tmp 4) ts pC c.c4 rfl hc hd (fun x1 p1 y1 p2 W' _ hcs'=> ?_)
   rw [dC]
   exact hK.out _ _ (hS _ _ _ _ hcs') (fun _=>G1_111 W' _ x1 p1 y1 p2 g1 ta1 g2 ta2 g3 ta3 hcs' (h1) (h2) (h3) (n12) (n13) (n23))
  exact AllReadyH.nil
 have G1_100:∀(W:World) (Em:Nat→Prop) (x1:Option Addr) (p1:Nat) (y1:Option Addr) (p2:Nat) (g1:Nat) (ta1:Value) (te2:Value) (ta2:Value) (te3:Value) (ta3:Value) (_:CS w n0 bx rs ps ls W Em [] [.agg #[.slice x1 ps.length p1,.slice y1 ls.length p2]]) (h1:Em g1),wpAnyH Tryz.prog .any ops Q S 7 #[true,true,true,true,true,true,true,true,false,false,true,true,false,false,true,true,false,false,false] ⟨(cpTm c (.agg #[.slice x1 ps.length p1,.slice y1 ls.length p2]) (.slice (some ⟨g1,0,none⟩) 0 0) ta1 te2 ta2 te3 ta3),[]⟩ W:=by
  intro W Em x1 p1 y1 p2 g1 ta1 te2 ta2 te3 ta3 hcs h1
  refine wpAnyH_ready r1_100 (by simp) ?_
  refine AllReadyH.cons iA1 (fun K hK=> ?_) ?_
  ·refine zcf hcs jA1 (.tmp 8) (.tmp 10) pA1 rfl rfl us lu ru h1 (fun b1 q1 W' _ hcs'=> ?_)
   rw [dA1]
   exact hK.out _ _ (hS _ _ _ _ hcs') (fun _=>G1_200 W' _ x1 p1 y1 p2 _ b1 q1 te2 ta2 te3 ta3 hcs')
  refine AllReadyH.cons iE2 (fun K hK=> ?_) ?_
  ·refine zab jE2 pE2 ?_
   rw [dE2]
   exact hK.out _ _ (hS _ _ _ _ (za5 hcs)) (fun _=>G1_110 _ _ x1 p1 y1 p2 g1 ta1 W.heap.size ta2 te3 ta3 (za5 hcs) (Or.inr h1) (Or.inl rfl) (hlt hcs g1 h1))
  refine AllReadyH.cons iE3 (fun K hK=> ?_) ?_
  ·refine zab jE3 pE3 ?_
   rw [dE3]
   exact hK.out _ _ (hS _ _ _ _ (za5 hcs)) (fun _=>G1_101 _ _ x1 p1 y1 p2 g1 ta1 te2 ta2 W.heap.size ta3 (za5 hcs) (Or.inr h1) (Or.inl rfl) (hlt hcs g1 h1))
  exact AllReadyH.nil
 have G1_010:∀(W:World) (Em:Nat→Prop) (x1:Option Addr) (p1:Nat) (y1:Option Addr) (p2:Nat) (te1:Value) (ta1:Value) (g2:Nat) (ta2:Value) (te3:Value) (ta3:Value) (_:CS w n0 bx rs ps ls W Em [] [.agg #[.slice x1 ps.length p1,.slice y1 ls.length p2]]) (h2:Em g2),wpAnyH Tryz.prog .any ops Q S 7 #[true,true,true,true,true,false,true,true,false,true,true,true,false,false,true,true,false,false,false] ⟨(cpTm c (.agg #[.slice x1 ps.length p1,.slice y1 ls.length p2]) te1 ta1 (.slice (some ⟨g2,0,none⟩) 0 0) ta2 te3 ta3),[]⟩ W:=by
  intro W Em x1 p1 y1 p2 te1 ta1 g2 ta2 te3 ta3 hcs h2
  refine wpAnyH_ready r1_010 (by simp) ?_
  refine AllReadyH.cons iE1 (fun K hK=> ?_) ?_
  ·refine zab jE1 pE1 ?_
   rw [dE1]
   exact hK.out _ _ (hS _ _ _ _ (za5 hcs)) (fun _=>G1_110 _ _ x1 p1 y1 p2 W.heap.size ta1 g2 ta2 te3 ta3 (za5 hcs) (Or.inl rfl) (Or.inr h2) ((hlt hcs g2 h2).symm))
  refine AllReadyH.cons iE3 (fun K hK=> ?_) ?_
  ·refine zab jE3 pE3 ?_
   rw [dE3]
   exact hK.out _ _ (hS _ _ _ _ (za5 hcs)) (fun _=>G1_011 _ _ x1 p1 y1 p2 te1 ta1 g2 ta2 W.heap.size ta3 (za5 hcs) (Or.inr h2) (Or.inl rfl) (hlt hcs g2 h2))
  exact AllReadyH.nil
 have G1_001:∀(W:World) (Em:Nat→Prop) (x1:Option Addr) (p1:Nat) (y1:Option Addr) (p2:Nat) (te1:Value) (ta1:Value) (te2:Value) (ta2:Value) (g3:Nat) (ta3:Value) (_:CS w n0 bx rs ps ls W Em [] [.agg #[.slice x1 ps.length p1,.slice y1 ls.length p2]]) (h3:Em g3),wpAnyH Tryz.prog .any ops Q S 7 #[true,true,true,true,true,false,true,true,false,false,true,true,false,true,true,true,false,false,false] ⟨(cpTm c (.agg #[.slice x1 ps.length p1,.slice y1 ls.length p2]) te1 ta1 te2 ta2 (.slice (some ⟨g3,0,none⟩) 0 0) ta3),[]⟩ W:=by
  intro W Em x1 p1 y1 p2 te1 ta1 te2 ta2 g3 ta3 hcs h3
  refine wpAnyH_ready r1_001 (by simp) ?_
  refine AllReadyH.cons iE1 (fun K hK=> ?_) ?_
  ·refine zab jE1 pE1 ?_
   rw [dE1]
   exact hK.out _ _ (hS _ _ _ _ (za5 hcs)) (fun _=>G1_101 _ _ x1 p1 y1 p2 W.heap.size ta1 te2 ta2 g3 ta3 (za5 hcs) (Or.inl rfl) (Or.inr h3) ((hlt hcs g3 h3).symm))
  refine AllReadyH.cons iE2 (fun K hK=> ?_) ?_
  ·refine zab jE2 pE2 ?_
   rw [dE2]
   exact hK.out _ _ (hS _ _ _ _ (za5 hcs)) (fun _=>G1_011 _ _ x1 p1 y1 p2 te1 ta1 W.heap.size ta2 g3 ta3 (za5 hcs) (Or.inl rfl) (Or.inr h3) ((hlt hcs g3 h3).symm))
  exact AllReadyH.nil
 have G0_110:∀(W:World) (Em:Nat→Prop) (t5:Value) (g1:Nat) (ta1:Value) (g2:Nat) (ta2:Value) (te3:Value) (ta3:Value) (_:CS w n0 bx rs ps ls W Em [] []) (h1:Em g1) (h2:Em g2) (n12:g1≠g2),wpAnyH Tryz.prog .any ops Q S 7 #[true,true,false,true,true,true,true,true,false,true,true,true,false,false,true,true,false,false,false] ⟨(cpTm c t5 (.slice (some ⟨g1,0,none⟩) 0 0) ta1 (.slice (some ⟨g2,0,none⟩) 0 0) ta2 te3 ta3),[]⟩ W:=by
  intro W Em t5 g1 ta1 g2 ta2 te3 ta3 hcs h1 h2 n12
  refine wpAnyH_ready r0_110 (by simp) ?_
  refine AllReadyH.cons iC (fun K hK=> ?_) ?_
  ·refine zb4 hcs jC f fn hfn hname hbody (.tmp 4) ts pC c.c4 rfl hc hd (fun x1 p1 y1 p2 W' _ hcs'=> ?_)
   rw [dC]
   exact hK.out _ _ (hS _ _ _ _ hcs') (fun _=>G1_110 W' _ x1 p1 y1 p2 g1 ta1 g2 ta2 te3 ta3 hcs' (h1) (h2) (n12))
  refine AllReadyH.cons iE3 (fun K hK=> ?_) ?_
  ·refine zab jE3 pE3 ?_
   rw [dE3]
   exact hK.out _ _ (hS _ _ _ _ (za5 hcs)) (fun _=>G0_111 _ _ t5 g1 ta1 g2 ta2 W.heap.size ta3 (za5 hcs) (Or.inr h1) (Or.inr h2) (Or.inl rfl) (n12) (hlt hcs g1 h1) (hlt hcs g2 h2))
  exact AllReadyH.nil
 have G0_101:∀(W:World) (Em:Nat→Prop) (t5:Value) (g1:Nat) (ta1:Value) (te2:Value) (ta2:Value) (g3:Nat) (ta3:Value) (_:CS w n0 bx rs ps ls W Em [] []) (h1:Em g1) (h3:Em g3) (n13:g1≠g3),wpAnyH Tryz.prog .any ops Q S 7 #[true,true,false,true,true,true,true,true,false,false,true,true,false,true,true,true,false,false,false] ⟨(cpTm c t5 (.slice (some ⟨g1,0,none⟩) 0 0) ta1 te2 ta2 (.slice (some ⟨g3,0,none⟩) 0 0) ta3),[]⟩ W:=by
  intro W Em t5 g1 ta1 te2 ta2 g3 ta3 hcs h1 h3 n13
  refine wpAnyH_ready r0_101 (by simp) ?_
  refine AllReadyH.cons iC (fun K hK=> ?_) ?_
  ·refine zb4 hcs jC f fn hfn hname hbody (.tmp 4) ts pC c.c4 rfl hc hd (fun x1 p1 y1 p2 W' _ hcs'=> ?_)
   rw [dC]
   exact hK.out _ _ (hS _ _ _ _ hcs') (fun _=>G1_101 W' _ x1 p1 y1 p2 g1 ta1 te2 ta2 g3 ta3 hcs' (h1) (h3) (n13))
  refine AllReadyH.cons iE2 (fun K hK=> ?_) ?_
  ·refine zab jE2 pE2 ?_
   rw [dE2]
   exact hK.out _ _ (hS _ _ _ _ (za5 hcs)) (fun _=>G0_111 _ _ t5 g1 ta1 W.heap.size ta2 g3 ta3 (za5 hcs) (Or.inr h1) (Or.inl rfl) (Or.inr h3) (hlt hcs g1 h1) (n13) ((hlt hcs g3 h3).symm))
  exact AllReadyH.nil
 have G0_011:∀(W:World) (Em:Nat→Prop) (t5:Value) (te1:Value) (ta1:Value) (g2:Nat) (ta2:Value) (g3:Nat) (ta3:Value) (_:CS w n0 bx rs ps ls W Em [] []) (h2:Em g2) (h3:Em g3) (n23:g2≠g3),wpAnyH Tryz.prog .any ops Q S 7 #[true,true,false,true,true,false,true,true,false,true,true,true,false,true,true,true,false,false,false] ⟨(cpTm c t5 te1 ta1 (.slice (some ⟨g2,0,none⟩) 0 0) ta2 (.slice (some ⟨g3,0,none⟩) 0 0) ta3),[]⟩ W:=by
  intro W Em t5 te1 ta1 g2 ta2 g3 ta3 hcs h2 h3 n23
  refine wpAnyH_ready r0_011 (by simp) ?_
  refine AllReadyH.cons iC (fun K hK=> ?_) ?_
  ·refine zb4 hcs jC f fn hfn hname hbody (.tmp 4) ts pC c.c4 rfl hc hd (fun x1 p1 y1 p2 W' _ hcs'=> ?_)
   rw [dC]
   exact hK.out _ _ (hS _ _ _ _ hcs') (fun _=>G1_011 W' _ x1 p1 y1 p2 te1 ta1 g2 ta2 g3 ta3 hcs' (h2) (h3) (n23))
  refine AllReadyH.cons iE1 (fun K hK=> ?_) ?_
  ·refine zab jE1 pE1 ?_
   rw [dE1]
   exact hK.out _ _ (hS _ _ _ _ (za5 hcs)) (fun _=>G0_111 _ _ t5 W.heap.size ta1 g2 ta2 g3 ta3 (za5 hcs) (Or.inl rfl) (Or.inr h2) (Or.inr h3) ((hlt hcs g2 h2).symm) ((hlt hcs g3 h3).symm) (n23))
  exact AllReadyH.nil
 have G1_000:∀(W:World) (Em:Nat→Prop) (x1:Option Addr) (p1:Nat) (y1:Option Addr) (p2:Nat) (te1:Value) (ta1:Value) (te2:Value) (ta2:Value) (te3:Value) (ta3:Value) (_:CS w n0 bx rs ps ls W Em [] [.agg #[.slice x1 ps.length p1,.slice y1 ls.length p2]]),wpAnyH Tryz.prog .any ops Q S 8 #[true,true,true,true,true,false,true,true,false,false,true,true,false,false,true,true,false,false,false] ⟨(cpTm c (.agg #[.slice x1 ps.length p1,.slice y1 ls.length p2]) te1 ta1 te2 ta2 te3 ta3),[]⟩ W:=by
  intro W Em x1 p1 y1 p2 te1 ta1 te2 ta2 te3 ta3 hcs
  refine wpAnyH_ready r1_000 (by simp) ?_
  refine AllReadyH.cons iE1 (fun K hK=> ?_) ?_
  ·refine zab jE1 pE1 ?_
   rw [dE1]
   exact hK.out _ _ (hS _ _ _ _ (za5 hcs)) (fun _=>G1_100 _ _ x1 p1 y1 p2 W.heap.size ta1 te2 ta2 te3 ta3 (za5 hcs) (Or.inl rfl))
  refine AllReadyH.cons iE2 (fun K hK=> ?_) ?_
  ·refine zab jE2 pE2 ?_
   rw [dE2]
   exact hK.out _ _ (hS _ _ _ _ (za5 hcs)) (fun _=>G1_010 _ _ x1 p1 y1 p2 te1 ta1 W.heap.size ta2 te3 ta3 (za5 hcs) (Or.inl rfl))
  refine AllReadyH.cons iE3 (fun K hK=> ?_) ?_
  ·refine zab jE3 pE3 ?_
   rw [dE3]
   exact hK.out _ _ (hS _ _ _ _ (za5 hcs)) (fun _=>G1_001 _ _ x1 p1 y1 p2 te1 ta1 te2 ta2 W.heap.size ta3 (za5 hcs) (Or.inl rfl))
  exact AllReadyH.nil
 have G0_100:∀(W:World) (Em:Nat→Prop) (t5:Value) (g1:Nat) (ta1:Value) (te2:Value) (ta2:Value) (te3:Value) (ta3:Value) (_:CS w n0 bx rs ps ls W Em [] []) (h1:Em g1),wpAnyH Tryz.prog .any ops Q S 8 #[true,true,false,true,true,true,true,true,false,false,true,true,false,false,true,true,false,false,false] ⟨(cpTm c t5 (.slice (some ⟨g1,0,none⟩) 0 0) ta1 te2 ta2 te3 ta3),[]⟩ W:=by
  intro W Em t5 g1 ta1 te2 ta2 te3 ta3 hcs h1
  refine wpAnyH_ready r0_100 (by simp) ?_
  refine AllReadyH.cons iC (fun K hK=> ?_) ?_
  ·refine zb4 hcs jC f fn hfn hname hbody (.tmp 4) ts pC c.c4 rfl hc hd (fun x1 p1 y1 p2 W' _ hcs'=> ?_)
   rw [dC]
   exact hK.out _ _ (hS _ _ _ _ hcs') (fun _=>G1_100 W' _ x1 p1 y1 p2 g1 ta1 te2 ta2 te3 ta3 hcs' (h1))
  refine AllReadyH.cons iE2 (fun K hK=> ?_) ?_
  ·refine zab jE2 pE2 ?_
   rw [dE2]
   exact hK.out _ _ (hS _ _ _ _ (za5 hcs)) (fun _=>G0_110 _ _ t5 g1 ta1 W.heap.size ta2 te3 ta3 (za5 hcs) (Or.inr h1) (Or.inl rfl) (hlt hcs g1 h1))
  refine AllReadyH.cons iE3 (fun K hK=> ?_) ?_
  ·refine zab jE3 pE3 ?_
   rw [dE3]
   exact hK.out _ _ (hS _ _ _ _ (za5 hcs)) (fun _=>G0_101 _ _ t5 g1 ta1 te2 ta2 W.heap.size ta3 (za5 hcs) (Or.inr h1) (Or.inl rfl) (hlt hcs g1 h1))
  exact AllReadyH.nil
 have G0_010:∀(W:World) (Em:Nat→Prop) (t5:Value) (te1:Value) (ta1:Value) (g2:Nat) (ta2:Value) (te3:Value) (ta3:Value) (_:CS w n0 bx rs ps ls W Em [] []) (h2:Em g2),wpAnyH Tryz.prog .any ops Q S 8 #[true,true,false,true,true,false,true,true,false,true,true,true,false,false,true,true,false,false,false] ⟨(cpTm c t5 te1 ta1 (.slice (some ⟨g2,0,none⟩) 0 0) ta2 te3 ta3),[]⟩ W:=by
  intro W Em t5 te1 ta1 g2 ta2 te3 ta3 hcs h2
  refine wpAnyH_ready r0_010 (by simp) ?_
  refine AllReadyH.cons iC (fun K hK=> ?_) ?_
  ·refine zb4 hcs jC f fn hfn hname hbody (.tmp 4) ts pC c.c4 rfl hc hd (fun x1 p1 y1 p2 W' _ hcs'=> ?_)
   rw [dC]
   exact hK.out _ _ (hS _ _ _ _ hcs') (fun _=>G1_010 W' _ x1 p1 y1 p2 te1 ta1 g2 ta2 te3 ta3 hcs' (h2))
  refine AllReadyH.cons iE1 (fun K hK=> ?_) ?_
  ·refine zab jE1 pE1 ?_
   rw [dE1]
   exact hK.out _ _ (hS _ _ _ _ (za5 hcs)) (fun _=>G0_110 _ _ t5 W.heap.size ta1 g2 ta2 te3 ta3 (za5 hcs) (Or.inl rfl) (Or.inr h2) ((hlt hcs g2 h2).symm))
  refine AllReadyH.cons iE3 (fun K hK=> ?_) ?_
  ·refine zab jE3 pE3 ?_
   rw [dE3]
   exact hK.out _ _ (hS _ _ _ _ (za5 hcs)) (fun _=>G0_011 _ _ t5 te1 ta1 g2 ta2 W.heap.size ta3 (za5 hcs) (Or.inr h2) (Or.inl rfl) (hlt hcs g2 h2))
  exact AllReadyH.nil
 have G0_001:∀(W:World) (Em:Nat→Prop) (t5:Value) (te1:Value) (ta1:Value) (te2:Value) (ta2:Value) (g3:Nat) (ta3:Value) (_:CS w n0 bx rs ps ls W Em [] []) (h3:Em g3),wpAnyH Tryz.prog .any ops Q S 8 #[true,true,false,true,true,false,true,true,false,false,true,true,false,true,true,true,false,false,false] ⟨(cpTm c t5 te1 ta1 te2 ta2 (.slice (some ⟨g3,0,none⟩) 0 0) ta3),[]⟩ W:=by
  intro W Em t5 te1 ta1 te2 ta2 g3 ta3 hcs h3
  refine wpAnyH_ready r0_001 (by simp) ?_
  refine AllReadyH.cons iC (fun K hK=> ?_) ?_
  ·refine zb4 hcs jC f fn hfn hname hbody (.tmp 4) ts pC c.c4 rfl hc hd (fun x1 p1 y1 p2 W' _ hcs'=> ?_)
   rw [dC]
   exact hK.out _ _ (hS _ _ _ _ hcs') (fun _=>G1_001 W' _ x1 p1 y1 p2 te1 ta1 te2 ta2 g3 ta3 hcs' (h3))
  refine AllReadyH.cons iE1 (fun K hK=> ?_) ?_
  ·refine zab jE1 pE1 ?_
   rw [dE1]
   exact hK.out _ _ (hS _ _ _ _ (za5 hcs)) (fun _=>G0_101 _ _ t5 W.heap.size ta1 te2 ta2 g3 ta3 (za5 hcs) (Or.inl rfl) (Or.inr h3) ((hlt hcs g3 h3).symm))
  refine AllReadyH.cons iE2 (fun K hK=> ?_) ?_
  ·refine zab jE2 pE2 ?_
   rw [dE2]
   exact hK.out _ _ (hS _ _ _ _ (za5 hcs)) (fun _=>G0_011 _ _ t5 te1 ta1 W.heap.size ta2 g3 ta3 (za5 hcs) (Or.inl rfl) (Or.inr h3) ((hlt hcs g3 h3).symm))
  exact AllReadyH.nil
 have G0_000:∀(W:World) (Em:Nat→Prop) (t5:Value) (te1:Value) (ta1:Value) (te2:Value) (ta2:Value) (te3:Value) (ta3:Value) (_:CS w n0 bx rs ps ls W Em [] []),wpAnyH Tryz.prog .any ops Q S 9 #[true,true,false,true,true,false,true,true,false,false,true,true,false,false,true,true,false,false,false] ⟨(cpTm c t5 te1 ta1 te2 ta2 te3 ta3),[]⟩ W:=by
  intro W Em t5 te1 ta1 te2 ta2 te3 ta3 hcs
  refine wpAnyH_ready r0_000 (by simp) ?_
  refine AllReadyH.cons iC (fun K hK=> ?_) ?_
  ·refine zb4 hcs jC f fn hfn hname hbody (.tmp 4) ts pC c.c4 rfl hc hd (fun x1 p1 y1 p2 W' _ hcs'=> ?_)
   rw [dC]
   exact hK.out _ _ (hS _ _ _ _ hcs') (fun _=>G1_000 W' _ x1 p1 y1 p2 te1 ta1 te2 ta2 te3 ta3 hcs')
  refine AllReadyH.cons iE1 (fun K hK=> ?_) ?_
  ·refine zab jE1 pE1 ?_
   rw [dE1]
   exact hK.out _ _ (hS _ _ _ _ (za5 hcs)) (fun _=>G0_100 _ _ t5 W.heap.size ta1 te2 ta2 te3 ta3 (za5 hcs) (Or.inl rfl))
  refine AllReadyH.cons iE2 (fun K hK=> ?_) ?_
  ·refine zab jE2 pE2 ?_
   rw [dE2]
   exact hK.out _ _ (hS _ _ _ _ (za5 hcs)) (fun _=>G0_010 _ _ t5 te1 ta1 W.heap.size ta2 te3 ta3 (za5 hcs) (Or.inl rfl))
  refine AllReadyH.cons iE3 (fun K hK=> ?_) ?_
  ·refine zab jE3 pE3 ?_
   rw [dE3]
   exact hK.out _ _ (hS _ _ _ _ (za5 hcs)) (fun _=>G0_001 _ _ t5 te1 ta1 te2 ta2 W.heap.size ta3 (za5 hcs) (Or.inl rfl))
  exact AllReadyH.nil
 exact fun W h=>G0_000 W _ undef undef undef undef undef undef undef h
end Go.Proofs.YtcbogiebfbbmbaaGreatDoor
