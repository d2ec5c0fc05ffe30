/-
  Facts and contracts that the law's own text rests on, by their texts' names: WayI, WithPair, WithHalves, Plain27, Down0.
-/
import Derived.Deep.Cut
import Derived.Test.YtcbogiebfbbmbaaGreatDoorDa27
import Derived.Test.YtcbogiebfbbmbaaGreatDoorDa21
import Derived.Test.YtcbogiebfbbmbaaGreatDoorDa28
import Derived.Deep.Upon
import Derived.Test.YtcbogiebfbbmbaaGreatDoorDa19
import Derived.Test.YtcbogiebfbbmbaaGreatDoorDa1
import Derived.Test.YtcbogiebfbbmbaaGreatDoorDa7
import Derived.BigQuiet
import Derived.Lib.MinMaxS
import Derived.LoopIn
import Derived.LoopNIn
import Derived.OwnWalkIn
import Derived.Shelf.Abstract
import Derived.Shelf.RegionOpen
import Derived.TacticsInMore
import Derived.WalkKit
import Derived.Test.YtcbogiebfbbmbaaGreatDoorDa15
set_option maxHeartbeats 16000000
set_option maxRecDepth 100000
namespace Go.Proofs.YtcbogiebfbbmbaaGreatDoor
open Go.RowKit
abbrev LvV:=WLvl×Value×Value×Value
def lv6 (e:LvV):List Value:= [.int .i64 e.1.1,.bool e.1.2.1.lf,e.2.1,e.2.2.1,e.2.2.2,.int .i64 e.1.2.2]
theorem zc7 {w:World} {B e sz n cap:Nat} {a:Option Addr} {xs:List Value} (h:w.ownsRow B e sz (.slice a n cap) n xs):n<=cap:=by
 rcases h.2 with ⟨e,h0⟩ | ⟨g,c,cur,e,-,-,h1,-⟩
 ·omega
 ·injection e with e1 e2 e3
  omega
theorem zjl {w:World} {B e sz n g:Nat} {v:Value} {xs:List Value} {cs:Array Value} {T:TypeId} {fz:Nat×Nat} (h:w.ownsRow B e sz v n xs) (hne:e≠T) (hg:w.heap[g]?=some (.cells cs T fz)):v.ownBlock≠some g:=by
 rcases h.2 with ⟨rfl,_⟩ | ⟨g',cap,cur,rfl,_,hgg,_⟩
 ·simp [Value.ownBlock]
 ·simp [Value.ownBlock]
  rintro rfl;rw [hgg] at hg
  injection hg with hg
  injection hg with h1 h2
  exact hne h2
def LvN (w:World) (B:Nat) (e:LvV):Prop:=w.ownsRow B 9 1 e.2.1 e.1.2.1.ks.length (strs e.1.2.1.ks)/\w.ownsRow B 9 1 e.2.2.1 e.1.2.1.vs.length (strs e.1.2.1.vs)/\w.ownsRow B 3 1 e.2.2.2 e.1.2.1.cs.length (ints e.1.2.1.cs)
theorem LvN.below {w w':World} {B:Nat} {e:LvV} (h:LvN w B e) (hb:Below w.heap.size w w'):LvN w' B e:=⟨zaf h.1 hb,zaf h.2.1 hb,zaf h.2.2 hb⟩
theorem lvN_own {w:World} {B B':Nat} (hB:B'<=B) {n:Nd} {p at_:Int} {a1 a2 a3:Option Addr} {c1 c2 c3:Nat} (h:NodeOwn w B (.agg #[.bool n.lf,.slice a1 n.ks.length c1,.slice a2 n.vs.length c2,.slice a3 n.cs.length c3]) n.lf n.ks n.vs n.cs):LvN w B' ((p,n,at_),.slice a1 n.ks.length c1,.slice a2 n.vs.length c2,.slice a3 n.cs.length c3):=by
 obtain ⟨vk,vv,vc,e,h1,h2,h3,-⟩:=h;obtain ⟨-,rfl,rfl,rfl⟩:=agg4 e;exact ⟨zad h1 hB,zad h2 hB,zad h3 hB⟩
open Go.RowKit
def NdOwn (w:World) (B:Nat) (v:Value) (lf:Bool) (ks vs:List ByteArray) (cs:List Int):Prop:=
 ∃vk vv vc,v= .agg #[.bool lf,vk,vv,vc]/\w.ownsRow B 9 1 vk ks.length (strs ks)/\w.ownsRow B 9 1 vv vs.length (strs vs)/\w.ownsRow B 3 1 vc cs.length (ints cs)
theorem Tryz.sizeNodeP:(Tryz.prog.info? 71).map (·.size)=some 4:=by kernel_rfl
theorem zcJ {P : Program} (w : World) {ops : Array Oper} {o : Oper} {a : Act} {K : Act → World → Prop} {Q : Exit → Act → World → Prop} {E : Prop} (hgd : o.guard = none) (f : FuncId) (fn : Func) (hfn : P.funcs[f]? = some fn) (hname : ¬ fn.name = "runtime.NumGoroutine") (hbody : ¬ fn.body = none) (s x y z : Operand) (ts : Array TypeId)
  (ho:o.op= .call {callee:= .value (.func f),args:= #[s,x,y,z],argTypes:=ts}) (u v q r:Value) (hs:a.eval s=u) (hx:a.eval x=v) (hy:a.eval y=q) (hz:a.eval z=r)
  (R:Ending→World→Prop) (hc:Calls P f #[u,v,q,r] w R) (hR:∀e w',R e w'→∃r',e= .returned r'∧K (a.put o.dst r') w'):
  if Region.wanted o (yielded ops a.tmps)=true then Oper.wp P o a w K Q else E:=by
 have hw:Region.wanted o (yielded ops a.tmps)=true:=by simp [Region.wanted,hgd]
 rw [if_pos hw];unfold Oper.wp execOp;have hf:a.eval (.func f)= .func (.func f) #[] #[]:=rfl
 simp only [ho,resolve,invoke,hf,Deferred.ofValue,callFunc,Sem.run_bind,Sem.run_pure,Result.andThen_ok,List.map_toArray,List.map_cons,List.map_nil,hs,hx,hy,hz]
 simp [go_sem,hfn,hname,hbody]
 refine hc.mono ?_;intro e w' h;obtain ⟨r,rfl,hk⟩:=hR e w' h;exact hk
theorem zbs {W:World} {g:Nat} {cs:Array Value} {T:TypeId} (h:W.heap[g]?=some (.cells cs T (0,0))) (cs':Array Value) (hn:cs'.size=cs.size):(W.setCells g 0 cs'.toList).heap[g]?=some (.cells cs' T (0,0)):=by
 have hs:Sep 0 W [cellA g (.cells cs T (0,0))]:=zaY.2 ⟨⟨h,fun k hk=>by have hk:k=g:=hk;subst hk;exact ⟨Nat.zero_le _,(Array.getElem?_eq_some_iff.1 h).1⟩⟩,fun A hA=>by (cases hA),zcV 0 W⟩
 exact za2 (zaq hs 0 rfl cs' hn) 0 rfl
theorem row_one (w:World) (x:Value) (T:TypeId):RowAt (w.alloc (.cells #[x] T)) 1 (.slice (some ⟨w.heap.size,0,none⟩) 1 1) 1 [x]:=by
 refine ⟨rfl,_,_,rfl,Or.inr ⟨w.heap.size,0,rfl,by simp,fun j hj=> ?_⟩⟩
 have e:j=0:=by omega
 subst e;exact Lib.cell_of_heap (heap_alloc_new w _) 0
theorem zgD (l:List ByteArray):∀u∈strs l,u.oneCell'=true:=fun u hu=>by
 simp only [strs,List.mem_map] at hu
 obtain ⟨x,-,rfl⟩:=hu
 rfl
open Go.RowKit
theorem ziE (l:List Int):∀u∈ints l,u.oneCell'=true:=fun u hu=>by
 simp only [ints,List.mem_map] at hu
 obtain ⟨x,-,rfl⟩:=hu
 rfl
def cntK:Nat->Nat
 | 0=>0
 | k+1=>1+4 * cntK k
theorem ziF (R:Int->Nd×Bool) (hR:Right R):∀(k:Nat) (p:Int) (deep:Nat) (low high:ByteArray) (has:Bool) (a:Al),
  (walkS R k p deep low high has a).pages.length<=a.pages.length+cntK k/\(walkS R k p deep low high has a).pairs.length<=a.pairs.length+4 * cntK k/\(walkS R k p deep low high has a).depths.length<=a.depths.length+cntK k
 | 0,p,deep,low,high,has,a=>by rw [walkS,cntK];exact ⟨Nat.le_refl _,Nat.le_refl _,Nat.le_refl _⟩
 | k+1,p,deep,low,high,has,a=>by
  rw [walkS,cntK]
  split
  ·exact ⟨Nat.le_add_right _ _,Nat.le_add_right _ _,Nat.le_add_right _ _⟩
  ·rename_i hb
   have hok:(R p).1.ok=true:=hR p (by cases hc:(R p).2;exact absurd (Or.inl hc) hb;rfl)
   obtain ⟨c1,c2,-,-⟩:=zaX (zam hok).1;obtain ⟨n,hn⟩:∃n,n=(R p).1:=⟨_,rfl⟩;rw [<-hn] at c1 c2⊢
   cases hlf:n.lf with
   | true=>
    rw [if_pos rfl]
    obtain ⟨h1,h2,h3,h4⟩:=zf6 (walkS R k) n hlf deep low high has {a with pages:=a.pages++ [p]} n.ks.length
    simp only
    rw [h2,h3,h4]
    simp only [List.length_append,List.length_singleton,List.length_map,List.length_range]
    omega
   | false=>
    rw [if_neg (by decide)]
    have key:∀i,(loopS (walkS R k) n deep low high has {a with pages:=a.pages++ [p]} i).pages.length<=a.pages.length+1+i * cntK k/\(loopS (walkS R k) n deep low high has {a with pages:=a.pages++ [p]} i).pairs.length<=a.pairs.length+4 * (i * cntK k)/\(loopS (walkS R k) n deep low high has {a with pages:=a.pages++ [p]} i).depths.length<=a.depths.length+i * cntK k:=by
     intro i
     induction i with
     | zero=>simp [loopS]
     | succ i ih=>
      rw [loopS,stepS,if_neg (by rw [hlf];decide)]
      obtain ⟨r1,r2,r3⟩:=ziF R hR k (n.cs.getD i 0) (deep+1) (leastB n i low) (nextB n i high has) (moreB n i high has) (loopS (walkS R k) n deep low high has {a with pages:=a.pages++ [p]} i)
      rw [Nat.succ_mul]
      omega
    obtain ⟨k1,k2,k3⟩:=key n.ks.length;have hm:n.ks.length * cntK k<=4 * cntK k:=Nat.mul_le_mul_right _ c2
    omega
theorem ziG (R:Int->Nd×Bool) (hR:Right R) (k:Nat) (n:Nd) (hlf:n.lf=false) (deep:Nat) (low high:ByteArray) (has:Bool) (a:Al):∀i,
  (loopS (walkS R k) n deep low high has a i).pages.length<=a.pages.length+i * cntK k/\(loopS (walkS R k) n deep low high has a i).pairs.length<=a.pairs.length+4 * (i * cntK k)/\(loopS (walkS R k) n deep low high has a i).depths.length<=a.depths.length+i * cntK k
 | 0=>by simp [loopS]
 | i+1=>by
  have ih:=ziG R hR k n hlf deep low high has a i
  rw [loopS,stepS,if_neg (by rw [hlf];decide)]
  obtain ⟨r1,r2,r3⟩:=ziF R hR k (n.cs.getD i 0) (deep+1) (leastB n i low) (nextB n i high has) (moreB n i high has) (loopS (walkS R k) n deep low high has a i);rw [Nat.succ_mul]
  omega
open Go.RowKit Go.Shelf
theorem ziH (cs:List Int) (hc:cs.length<=1048576) (x:Int) (v:Value) (w:World) (h:RowAt w 1 v cs.length (ints cs)):
  Calls Tryz.prog 128 #[v,.int .i64 x] w fun e w'=>e= .returned (.bool (decide (x∈cs)))/\w=w':=by
 have HR:=hide h;obtain ⟨a,cap,rfl⟩:=zaA h;clear h;go_enter Tryz.func128,Tryz.ntmps128;go_wp2_with fail;refine (zdl cs hc x _ _ HR.out).mono ?_;rintro e w1 ⟨r,rfl,rfl,hi⟩
 have hd:decide (0<=r)=decide (x∈cs):=by
  rcases hi with ⟨j,hj,rfl,hx,-⟩ | ⟨rfl,hx⟩
  ·have hm:x∈cs:=by
    rw [<-hx,List.getD_eq_getElem?_getD,List.getElem?_eq_getElem hj];exact List.getElem_mem hj
   simp [hm]
  ·have hm:¬x∈cs:=fun hm=>by
    obtain ⟨j,hj,e⟩:=List.getElem_of_mem hm
    apply hx j hj
    rw [List.getD_eq_getElem?_getD,List.getElem?_eq_getElem hj];exact e
   simp [hm]
 go_wp2_with fail;go_ret;exact ⟨rfl,rfl⟩
end Go.Proofs.YtcbogiebfbbmbaaGreatDoor
