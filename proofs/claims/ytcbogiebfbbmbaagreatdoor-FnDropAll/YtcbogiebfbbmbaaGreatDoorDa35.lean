/-
  Facts and contracts that the law's own text rests on, by their texts' names: PutAnew, SpecDeep, SpecPutKey, TreePl6, PutOk, UpPl, HeldZs, PutPairI, FreeRow, Meta.
-/
import Derived.ControlIn
import Derived.Orders
import Derived.OrdersHeld
import Derived.OrdersIn
import Derived.OwnWalkIn
import Derived.Stop.RegionWithIn
import Derived.Test.YtcbogiebfbbmbaaGreatDoorDa31
import Derived.Test.YtcbogiebfbbmbaaGreatDoorDa34
import Derived.Test.YtcbogiebfbbmbaaGreatDoorDa18
import Derived.Test.YtcbogiebfbbmbaaGreatDoorDa21
import Derived.Test.YtcbogiebfbbmbaaGreatDoorDa7
import Derived.Test.YtcbogiebfbbmbaaGreatDoorDa27
import Derived.Test.YtcbogiebfbbmbaaGreatDoorDa19
import Derived.Deep.RegionHeld
import Derived.BigQuiet
import Derived.Shelf.Lays
import Derived.Shelf.Lays2
import Derived.Shelf.Slices.CompactI
import Derived.Shelf.Slices.In.SortNone
import Derived.Shelf.Sort.Plain
import Derived.Sort.OwnSortedInts
import Derived.Test.YtcbogiebfbbmbaaGreatDoorDa32
import Derived.Test.YtcbogiebfbbmbaaGreatDoorDa29
import Derived.Test.YtcbogiebfbbmbaaGreatDoorDa11
import Derived.Test.YtcbogiebfbbmbaaGreatDoorDa24
import Derived.Test.YtcbogiebfbbmbaaGreatDoorDa1
import Derived.Test.YtcbogiebfbbmbaaGreatDoorProg
set_option maxHeartbeats 16000000
set_option maxRecDepth 100000
namespace Go.Proofs.YtcbogiebfbbmbaaGreatDoor
open Go.RowKit Go.Shelf
attribute [local go_sem] Oper.semAt_some
theorem zbn {w:World} {v:Value} {k:Wk} (h:WorkAt w v k):∃a1 c1 a2 c2 a3 c3 a4 c4 a5 c5,v= .agg #[.slice a1 k.ps.length c1,.slice a2 k.ls.length c2,.int .i64 k.next,.slice a3 k.us.length c3,.slice a4 k.gs.length c4,.slice a5 k.fs.length c5]:=by
 obtain ⟨vp,vl,vu,vg,vf,rfl,h1,h2,h3,h4,-⟩:=h;obtain ⟨up,ul,e,h5,h6⟩:=h1
 injection e with e
 have e:=congrArg Array.toList e
 simp at e
 obtain ⟨rfl,rfl⟩:=e;obtain ⟨ap,cp,rfl⟩:=zdo h5;obtain ⟨al,cl,rfl⟩:=zdo h6;obtain ⟨au,cu,rfl⟩:=zdo h2;obtain ⟨ag,cg,rfl⟩:=zdo h3;obtain ⟨af,cf,rfl⟩:=zdo h4;exact ⟨_,_,_,_,_,_,_,_,_,_,rfl⟩
open Go.RowKit
noncomputable def deepL (R:Int->Nd×Bool):Nat->Int->Nat->Nat
 | 0,_,_=>8
 | q+1,p,d=>if (R p).2=false\/(R p).1.lf=true then d else deepL R q ((R p).1.cs.getD 0 0) (d+1)
noncomputable def deepD (R:Int->Nd×Bool) (root:Int):Nat:=deepL R 8 root 1
open Go.RowKit
noncomputable def putS (k:Wk) (root:Int) (key val:ByteArray):Wk×Int×Bool:=
 if 24<key.size\/24<val.size then (k,root,false)
 else if root=0 then (if putP k true [key] [val] []=0 then (k,root,false) else (putK k true [key] [val] [],putP k true [key] [val] [],true))
 else if (goPut key val 8 k root).2.2.2=false then (k,root,false)
 else if (goPut key val 8 k root).2.2.1.length=1 then ((goPut key val 8 k root).1,(goPut key val 8 k root).2.2.1.getD 0 0,true)
 else if 8<=deepD (fun q=>rdN (readD (goPut key val 8 k root).1.ps (goPut key val 8 k root).1.ls q)) ((goPut key val 8 k root).2.2.1.getD 0 0) then (k,root,false)
 else if putP (goPut key val 8 k root).1 false (goPut key val 8 k root).2.1 [] (goPut key val 8 k root).2.2.1=0 then (k,root,false)
 else (putK (goPut key val 8 k root).1 false (goPut key val 8 k root).2.1 [] (goPut key val 8 k root).2.2.1,putP (goPut key val 8 k root).1 false (goPut key val 8 k root).2.1 [] (goPut key val 8 k root).2.2.1,true)
open Go.RowKit
def IsRoot (R:Int->Nd×Bool) (root:Int) (L:Prs) (P:List Int):Prop:=(root=0/\L= []/\P= [])\/∃h f,h<=8/\root≠0/\IsTree R h root f L P
structure RootRes (k:Wk) (k':Wk) (root':Int) (L:Prs) (X O A:List Int):Prop where
 root:∃P',IsRoot k'.rd root' L P'/\Live k' O P'/\P'.Nodup/\(∀x∈P',x∉X)/\Acc k k' A P'
 wok:WOk k' O
 live:Live k' O X
 same:∀x∈X,k'.rd x=k.rd x
 old:∀x∈O,k'.rd x=k.rd x
open Go.RowKit
theorem zki {R:Int->Nd×Bool} {h:Nat}:∀{ks:List ByteArray} {cs:List Int} {L:Prs} {P:List Int},KidsOf (IsTree R h) ks cs L P->AscK ks
 | [],_,_,_,_=>List.Pairwise.nil
 | x :: ks,[],_,_,h=>h.elim
 | x :: ks,c :: cs,_,_,⟨f,L1,P1,L2,P2,h1,h2,h3,h4,_,_⟩=>by
  refine List.pairwise_cons.2 ⟨fun y hy=> ?_,zki h4⟩
  cases hL:L1 with
  | nil=>exact absurd hL (zjj h h1)
  | cons q M=>
   have hq:q∈L1:=by rw [hL];exact List.mem_cons_self ..
   have e1:=h3 y hy q hq;have e2:lessB q.1 x=false:=le_trans h2 (zfb h h1 q hq)
   cases e3:lessB x y with
   | true=>rfl
   | false=>rw [le_trans e3 e2] at e1;cases e1
theorem zfi {R:Int->Nd×Bool} {h:Nat}:∀{ks:List ByteArray} {cs:List Int} {L:Prs} {P:List Int},KidsOf (IsTree R h) ks cs L P->P.Nodup->cs.Nodup/\∀c∈cs,c∈P
 | [],[],_,_,_,_=>⟨List.nodup_nil,fun c hc=>by cases hc⟩
 | [],_ :: _,_,_,h,_=>h.elim
 | _ :: _,[],_,_,h,_=>h.elim
 | x :: ks,c :: cs,_,_,⟨f,L1,P1,L2,P2,h1,h2,h3,h4,_,e2⟩,hn=>by
  subst e2;rw [List.nodup_append] at hn;obtain ⟨i1,i2⟩:=zfi h4 hn.2.1;obtain ⟨Q,hQ⟩:=zgw h1
  have hc:c∈P1:=by rw [hQ];exact List.mem_cons_self ..
  refine ⟨List.nodup_cons.2 ⟨fun e=>hn.2.2 c hc c (i2 c e) rfl,i1⟩,fun y hy=> ?_⟩
  rcases List.mem_cons.1 hy with e | e
  ·rw [e];exact List.mem_append_left _ hc
  ·exact List.mem_append_right _ (i2 y e)
theorem zjp {ks:List ByteArray} (ha:AscK ks) (hs:∀s∈ks,s.size<=24) (i:Nat) (hi:i<ks.length):keyB ks i=true:=by
 unfold keyB;rw [getD_lt ks i hi,decide_eq_true (hs _ (List.getElem_mem hi))]
 by_cases h0:i=0
 ·subst h0;rfl
 ·have:=List.pairwise_iff_getElem.1 ha (i - 1) i (by omega) hi (by omega)
  rw [getD_lt ks (i - 1) (by omega),show Op.bytesLess (ks[i - 1]'(by omega)).toList ks[i].toList=true from this]
  simp
theorem zme {R:Int->Nd×Bool} {h:Nat} {ks:List ByteArray} {cs:List Int} {L:Prs} {P:List Int} (hk:KidsOf (IsTree R h) ks cs L P) (hn:P.Nodup) (hp:∀c∈cs,2<=c/\c<=39) (hs:∀s∈ks,s.size<=24) (h1:1<=ks.length) (h4:ks.length<=4):nodeOkB false ks [] cs=true:=by
 have hl:=zbx hk;obtain ⟨c1,-⟩:=zfi hk hn
 refine zfL ?_ (zjp (zki hk) hs) (fun i hi=>by simp at hi) (fun i hi=> ?_)
 ·unfold cntB
  rw [decide_eq_true (show 1<=ks.length/\ks.length<=4 from ⟨h1,h4⟩),if_neg (by decide),decide_eq_true (show cs.length=ks.length/\([]:List ByteArray).length=0 from ⟨hl.symm,rfl⟩)]
  rfl
 ·unfold kidB
  rw [getD_lt cs i hi,decide_eq_true (hp _ (List.getElem_mem hi)),Bool.true_and,decide_eq_true_eq];intro j hj e
  rw [getD_lt cs j (by omega)] at e
  exact List.pairwise_iff_getElem.1 c1 j i (by omega) hi hj e
theorem ziL {M:Prs} (ha:Asc M) (h1:1<=M.length) (h4:M.length<=4) (hs:∀q∈M,q.1.size<=24/\q.2.size<=24):nodeOkB true (M.map Prod.fst) (M.map Prod.snd) []=true:=by
 refine zfL ?_ (zjp ?_ (fun s hm=> ?_)) (fun i hi=> ?_) (fun i hi=>by simp at hi)
 ·unfold cntB
  rw [List.length_map,List.length_map,decide_eq_true (show 1<=M.length/\M.length<=4 from ⟨h1,h4⟩),if_pos rfl,decide_eq_true (show M.length=M.length/\([]:List Int).length=0 from ⟨rfl,rfl⟩)]
  rfl
 ·unfold AscK
  rw [List.pairwise_map];exact ha
 ·obtain ⟨q,hq,e⟩:=List.mem_map.1 hm
  rw [<-e];exact (hs q hq).1
 ·rw [getD_lt _ _ hi,List.getElem_map]
  exact (hs _ (List.getElem_mem _)).2
theorem zjq {n:Nd} (h:n.ok=true):(∀s∈n.ks,s.size<=24)/\(∀s∈n.vs,s.size<=24)/\(∀c∈n.cs,2<=c/\c<=39)/\n.ks.length<=4:=by
 obtain ⟨h1,h2,h3,h4⟩:=zam h
 refine ⟨fun s hs=> ?_,fun s hs=> ?_,fun c hc=> ?_,(zaX h1).2.1⟩
 ·obtain ⟨i,hi,e⟩:=List.getElem_of_mem hs
  have:=h2 i hi;unfold keyB at this;rw [Bool.and_eq_true,decide_eq_true_eq,getD_lt _ _ hi,e] at this;exact this.1
 ·obtain ⟨i,hi,e⟩:=List.getElem_of_mem hs
  have:=h3 i hi
  rwa [getD_lt _ _ hi,e] at this
 ·obtain ⟨i,hi,e⟩:=List.getElem_of_mem hc
  have:=h4 i hi;unfold kidB at this;rw [Bool.and_eq_true,decide_eq_true_eq,getD_lt _ _ hi,e] at this;exact this.1
theorem zjr {a:Int}:∀(n:Nat) (l:List Int),(∀x,l.count x=newC a (a+n) x)->l.length=n
 | 0,l,h=>by
  cases l with
  | nil=>rfl
  | cons x t=>
   have:=h x;rw [List.count_cons_self] at this;unfold newC at this
   rw [if_neg (by omega)] at this
   omega
 | n+1,l,h=>by
  have hm:(a+n:Int)∈l:=by
   rw [<-List.count_pos_iff,h];unfold newC
   rw [if_pos (by omega)]
   decide
  have:=zjr n (l.erase (a+n)) (fun x=>by
   rw [List.count_erase,h];unfold newC
   by_cases e:x=a+n
   ·subst e
    rw [if_pos (show a<=a+(n:Int)/\a+(n:Int)<a+((n+1:Nat):Int) by omega),if_neg (show ¬(a<=a+(n:Int)/\a+(n:Int)<a+(n:Int)) by omega)]
    simp
   ·rw [show ((a+(n:Int) ==x)=false) from by simpa using fun e2=>e e2.symm]
    by_cases e1:a<=x/\x<a+n
    ·rw [if_pos (show a<=x/\x<a+((n+1:Nat):Int) by omega),if_pos e1];rfl
    ·rw [if_neg (show ¬(a<=x/\x<a+((n+1:Nat):Int)) by omega),if_neg e1];rfl)
  rw [List.length_erase_of_mem hm] at this;have:=List.length_pos_of_mem hm
  omega
structure PutSt (k:Wk) (root:Int) (L:Prs) (P:List Int) (M:Nat):Prop where
 wok:WOk k [0,1]
 jok:JOk k
 live:Live k [0,1] P
 nd:P.Nodup
 tree:(root=0/\L= []/\P= [])\/∃h f,root≠0/\IsTree k.rd h root f L P/\(h=1\/FatT k.rd h root)
 cnt:∀x,P.count x+k.us.count x=newC 2 k.next x
 dk:diskOkB k.ps k.ls=true
 ps:k.ps.length=40
 gn:k.gs= []
 nx:2<=k.next
 sm:k.sm (70000+25 * M)
 lt:k.ls.length+9 * M<=200
 len:L.length+M<=20
 asc:Asc L
theorem zkT {k:Wk} {root:Int} {L:Prs} {P:List Int} {M:Nat} (h:PutSt k root L P M):k.room=38 - (P.length:Int):=by
 have h1:=zjr (a:=2) (k.next - 2).toNat (P++k.us) (fun x=>by
  rw [List.count_append,h.cnt,Int.toNat_of_nonneg (by have:=h.nx;omega)]
  congr 1
  omega)
 rw [List.length_append] at h1;have:=h.nx;unfold Wk.room;rw [h.ps]
 omega
theorem put_ps (k:Wk) (lf:Bool) (ks vs:List ByteArray) (cs:List Int):(putK k lf ks vs cs).ps=k.ps:=by
 unfold putK
 split
 ·exact (zcD k).1
 ·rfl
theorem zhU {k k':Wk} {P P':List Int} (ha:Acc k k' P P') (hc:∀x,P.count x+k.us.count x=newC 2 k.next x) (hn:2<=k.next) (h1:k.gs= []) (h2:k'.gs= []):(∀x,P'.count x+k'.us.count x=newC 2 k'.next x)/\2<=k'.next:=by
 refine ⟨fun x=> ?_,by have:=ha.1;omega⟩
 have e1:=ha.2 x;have e2:=hc x;rw [h1,h2,List.count_nil] at e1;rw [zfV hn ha.1]
 omega
open Go.RowKit
def WGood:List WLvl->Prop
 | []=>False
 | [x]=>x.2.1.ok=true/\x.2.1.lf=true/\ -1<=x.2.2/\x.2.2<(x.2.1.ks.length:Int)
 | x :: y :: r=>(x.2.1.ok=true/\x.2.1.lf=false/\0<=x.2.2/\x.2.2<(x.2.1.ks.length:Int))/\WGood (y :: r)
theorem zkj:∀{ws:List WLvl} {i:Nat} (h:i<ws.length),WGood ws->ws[i].2.1.ok=true/\ws[i].2.2<(ws[i].2.1.ks.length:Int)/\((i+1<ws.length/\ws[i].2.1.lf=false/\0<=ws[i].2.2)\/(i+1=ws.length/\ws[i].2.1.lf=true/\ -1<=ws[i].2.2))
 | [],_,_,h=>h.elim
 | [x],0,_,h=>⟨h.1,h.2.2.2,Or.inr ⟨rfl,h.2.1,h.2.2.1⟩⟩
 | [x],i+1,hi,_=>by simp at hi
 | x :: y :: r,0,_,h=>⟨h.1.1,h.1.2.2.2,Or.inl ⟨by simp,h.1.2.1,h.1.2.2.1⟩⟩
 | x :: y :: r,i+1,hi,h=>by
  obtain ⟨a,b,c⟩:=zkj (ws:=y :: r) (i:=i) (by simpa using hi) h.2
  refine ⟨a,b,?_⟩
  rcases c with ⟨c1,c2⟩ | ⟨c1,c2⟩
  ·exact Or.inl ⟨by simp at c1⊢;omega,c2⟩
  ·exact Or.inr ⟨by simp at c1⊢;omega,c2⟩
open Go
def wpAnyZs (P:Program) (md:Region.Mode) (ops:Array Oper) (Q:Exit->Act->World->Prop) (S:World->Prop) (zs:List Nat):Nat->Array Bool->Act->World->Prop
 | 0,listed,a,w=>Region.ready md ops listed= []/\Q .normal a w
 | fuel+1,listed,a,w=>
  (Region.ready md ops listed= []->Q .normal a w)/\
  ∀i∈Region.ready md ops listed,wpOp P ops Q i (fun a' w'=>(i∈zs\/S w')/\wpAnyZs P md ops Q S zs fuel (listed.setIfInBounds i true) a' w') a w
section
variable {P:Program} {ops:Array Oper} {Q:Exit->Act->World->Prop} {md:Region.Mode} {S:World->Prop} {zs:List Nat}
theorem zdw:∀(fuel:Nat) (listed:Array Bool) (a:Act) (w:World),wpAnyZs P md ops Q S zs fuel listed a w->wpAny P md ops Q fuel listed a w
 | 0,_,_,_,h=>h
 | fuel+1,_,_,_,h=>⟨h.1,fun i hi=>wpOp_mono (fun a' w' h'=>zdw fuel _ a' w' h'.2) (h.2 i hi)⟩
def waitsBs (md:Region.Mode) (ops:Array Oper) (zs:List Nat) (i:Nat):Bool:=zs.all fun z=>match ops[z]? with | some o=>o.after.any (fun e=>Region.binds md e && e.on ==i) | none=>false
theorem zhV {i:Nat} {oi:Oper} {v:Value} (hi:ops[i]?=some oi) (hz:waitsBs md ops zs i=true) (hsel:∀(j:Nat) (o:Oper) cs b,ops[j]?=some o->o.op≠ .select cs b)
  (hQ:∀c a w,Q (.panic c) (a.put oi.dst v) w->Q (.panic c) a w):
  ∀(fuel:Nat) (listed:Array Bool) (a:Act) (w:World),
   (∀j oj,ops[j]?=some oj->j≠i->listed.getD j true=false->(∀e∈oj.after,Region.binds md e=true->e.on≠i)->oi.apart ops oj=true)->
   i∈Region.ready md ops listed->YieldsIf P ops S oi v a->S w->
   wpAnyZs P md ops Q S zs fuel (listed.setIfInBounds i true) (a.put oi.dst v) w->wpAnyZs P md ops Q S zs (fuel+1) listed a w:=by
 intro fuel
 induction fuel with
 | zero=>
  intro listed a w _ hr hy hS H
  refine ⟨fun h=>(by rw [h] at hr;cases hr),fun j hj=> ?_⟩
  by_cases hji:j=i
  ·subst hji;exact hy.wpOp hi hS ⟨Or.inr hS,H⟩
  ·have:=ready_mono hj hji
   rw [H.1] at this
   cases this
 | succ fuel ih=>
  intro listed a w hfree hr hy hS H
  refine ⟨fun h=>(by rw [h] at hr;cases hr),fun j hj=> ?_⟩
  by_cases hji:j=i
  ·subst hji;exact hy.wpOp hi hS ⟨Or.inr hS,H⟩
  ·have h1:=H.2 j (ready_mono hj hji)
   obtain ⟨hjun,oj,hoj,hall⟩:=mem_ready.1 hj
   have hnot:∀e∈oj.after,Region.binds md e=true->e.on≠i:=fun e he hb heq=>by
    have h1:=hall e he hb;have h0:=(mem_ready.1 hr).1;rw [heq] at h1
    rcases Nat.lt_or_ge i listed.size with h' | h'
    ·simp [h'] at h0 h1;rw [h0] at h1;cases h1
    ·simp [Array.getElem?_eq_none h'] at h1
   have hjz:j∉zs:=fun e=>by
    have hz:=List.all_eq_true.1 hz j e;rw [hoj] at hz;obtain ⟨e,he,hb⟩:=Array.any_eq_true'.1 hz;rw [Bool.and_eq_true,beq_iff_eq] at hb;exact hnot e he hb.1 hb.2
   have h2:=wpOp_putIf hoj (hfree j oj hoj hji hjun hnot) (fun cs b=>hsel i oi cs b hi) (fun cs b=>hsel j oj cs b hoj) hQ hy h1
   have hfree':∀k ok,ops[k]?=some ok->k≠i->(listed.setIfInBounds j true).getD k true=false->
     (∀e∈ok.after,Region.binds md e=true->e.on≠i)->oi.apart ops ok=true:=fun k ok hk hki hun hno=>by
    refine hfree k ok hk hki ?_ hno
    by_cases hjk:j=k
    ·subst hjk;exact hjun
    ·rw [getD_set_ne true hjk] at hun;exact hun
   refine wpOp_mono (fun a' w' h3=>⟨h3.2.1,ih (listed.setIfInBounds j true) a' w' hfree' (ready_mono hr (Ne.symm hji)) h3.1 (h3.2.1.resolve_left hjz) ?_⟩) h2
   rw [Array.setIfInBounds_comm _ _ hji];exact h3.2.2
theorem zdx (i d:Nat) {oi:Oper} (v:Value) {fuel:Nat} {listed:Array Bool} {a:Act} {w:World} (hi:ops[i]?=some oi) (hd:oi.dst=some d)
  (hs:Region.noSelect ops=true) (hf:Region.free md ops listed i=true) (hr:(Region.ready md ops listed).contains i=true) (hz:waitsBs md ops zs i=true)
  (hQ:∀c a w,Q (.panic c) (a.put oi.dst v) w->Q (.panic c) a w) (hy:YieldsIf P ops S oi v a) (hS:S w)
  (h:wpAnyZs P md ops Q S zs fuel (listed.setIfInBounds i true) ⟨a.tmps.setIfInBounds d v,a.defers⟩ w):wpAnyZs P md ops Q S zs (fuel+1) listed a w:=
 zhV hi hz (Region.noSelect_spec hs) hQ fuel listed a w (Region.free_spec hi hf) (by simpa using hr) hy hS (by rw [hd];exact h)
def GoZs (P:Program) (md:Region.Mode) (ops:Array Oper) (Q:Exit->Act->World->Prop) (S:World->Prop) (zs:List Nat) (fuel:Nat) (listed:Array Bool) (a:Act) (w:World) (i:Nat) (o:Oper):Prop:=
 ∀K':Act->World->Prop,Shut (∀a w,(i∈zs\/S w)->wpAnyZs P md ops Q S zs fuel (listed.setIfInBounds i true) a w->K' a w)->if Region.wanted o (yielded ops a.tmps)=true then Oper.wp P o a w K' Q else K' (a.put o.dst undef) w
theorem goZs_op {i:Nat} {o:Oper} {fuel:Nat} {listed:Array Bool} {a:Act} {w:World} (ho:ops[i]?=some o) (h:GoZs P md ops Q S zs fuel listed a w i o):wpOp P ops Q i (fun a' w'=>(i∈zs\/S w')/\wpAnyZs P md ops Q S zs fuel (listed.setIfInBounds i true) a' w') a w:=by
 unfold wpOp
 simp only [ho]
 have h1:=h (fun a' w'=>(i∈zs\/S w')/\wpAnyZs P md ops Q S zs fuel (listed.setIfInBounds i true) a' w') (fun a w hS hk=>⟨hS,hk⟩)
 split
 ·rename_i hw
  rw [if_pos hw] at h1;exact Or.inl h1
 ·rename_i hw
  rw [if_neg hw] at h1;exact h1
theorem zgG {i:Nat} {o:Oper} {fuel:Nat} {listed:Array Bool} {a:Act} {w:World} (hr:Region.ready md ops listed= [i]) (ho:ops[i]?=some o) (h:GoZs P md ops Q S zs fuel listed a w i o):wpAnyZs P md ops Q S zs (fuel+1) listed a w:=by
 refine ⟨fun h0=>absurd (hr▸h0) (by simp),fun j hj=> ?_⟩
 rw [hr,List.mem_singleton] at hj;subst hj;exact goZs_op ho h
theorem doneZs {listed:Array Bool} {a:Act} {w:World} (hr:Region.ready md ops listed= []) (h:Q .normal a w):
  ∀fuel,wpAnyZs P md ops Q S zs fuel listed a w
 | 0=>⟨hr,h⟩
 | _+1=>⟨fun _=>h,by rw [hr];simp⟩
theorem zgH {id:Nat} {a:Act} {w:World} (zs:List Nat) (hm:P.follows .mixedOrders=true)
  (h:wpAnyZs P .any ops Q S zs ops.size (Array.replicate ops.size false) a w.drew):(Code.region id ops true).wp P Q a w:=
 wp_region_any hm (zdw _ _ _ _ h)
end
open Go.RowKit
theorem zn8 {w:World} {a b c d e f:Value} {k:Wk} (h:WorkAt w (.agg #[a,b,c,d,e,f]) k):DiskAt w (.agg #[a,b]) k.ps k.ls:=by
 obtain ⟨vp,vl,vu,vg,vf,h1,h2,-⟩:=h;obtain ⟨rfl,rfl,-⟩:=agg6 h1;exact h2
open Go.RowKit
def frs (l:List (Int×Value)):List Value:=l.flatMap fun p=> [.int .i64 p.1,p.2]
theorem zn9 (p:Int×Value) (l:List (Int×Value)):frs (p :: l)=Value.int .i64 p.1 :: p.2 :: frs l:=rfl
theorem frs_at (l:List (Int×Value)):∀k p,l[k]?=some p->(frs l)[k * 2]?=some (.int .i64 p.1)/\(frs l)[k * 2+1]?=some p.2:=by
 induction l with
 | nil=>intro k p h;simp at h
 | cons q l ih=>
  intro k p h;rw [zn9]
  cases k with
  | zero=>simp at h;subst h;exact ⟨rfl,rfl⟩
  | succ k=>
   have:=ih k p (by simpa using h)
   rw [show (k+1) * 2=k * 2+1+1 from by omega]
   simpa using this
def FreesAt (w:World) (v:Value) (fs:List (Int×List Int)):Prop:=
 ∃l:List (Int×Value),l.length=fs.length/\RowAt w 2 v fs.length (frs l)/\∀(k:Nat) (p:Int×Value) (f:Int×List Int),l[k]?=some p->fs[k]?=some f->p.1=f.1/\RowAt w 1 p.2 f.2.length (ints f.2)
theorem zjs {w:World} {v:Value} {fs:List (Int×List Int)} (h:FreesAt w v fs):∃a cap,v= .slice a fs.length cap:=by
 obtain ⟨l,h1,h2,h3⟩:=h;obtain ⟨-,a,cap,e,-⟩:=h2;exact ⟨a,cap,e⟩
theorem zkk {w:World} {a:Option Addr} {n cap:Nat} {fs:List (Int×List Int)} (h:FreesAt w (.slice a n cap) fs) {k:Nat} {tx:Int} {ps:List Int} (hk:fs[k]?=some (tx,ps)):
  ∃b off x c,a=some ⟨b,off,none⟩/\b<w.heap.size/\w.cell? ⟨b,off+k * 2,none⟩=some (.int .i64 tx)/\w.cell? ⟨b,off+k * 2+1,none⟩=some (.slice x ps.length c)/\RowAt w 1 (.slice x ps.length c) ps.length (ints ps):=by
 obtain ⟨l,h1,h2,h3⟩:=h;have hlt:k<fs.length:=(List.getElem?_eq_some_iff.1 hk).1
 obtain ⟨p,hp⟩:∃p,l[k]?=some p:=⟨_,List.getElem?_eq_getElem (by omega)⟩
 obtain ⟨e1,e2⟩:=h3 k p _ hp hk;obtain ⟨-,a',cap',e,hr⟩:=h2
 injection e with e _ _
 subst e
 rcases hr with h0 | ⟨b,off,rfl,hb,hc⟩
 ·omega
 ·obtain ⟨x,c,hx⟩:∃x c,p.2= .slice x ps.length c:=by obtain ⟨-,x,c,e,-⟩:=e2;exact ⟨x,c,e⟩
  rw [hx] at e2;refine ⟨b,off,x,c,rfl,hb,?_,?_,e2⟩
  ·rw [hc (k * 2) (by omega),(frs_at l k p hp).1,e1]
  ·rw [Nat.add_assoc,hc (k * 2+1) (by omega),(frs_at l k p hp).2,hx]
open Go.RowKit
def MetaAt (w:World) (v:Value) (m:Mt):Prop:=∃vf,v= .agg #[.int .i64 m.tx,.int .i64 m.root,.int .i64 m.next,vf]/\FreesAt w vf m.fs
end Go.Proofs.YtcbogiebfbbmbaaGreatDoor
