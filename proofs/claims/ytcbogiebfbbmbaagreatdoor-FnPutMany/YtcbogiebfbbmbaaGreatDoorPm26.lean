/-
  Facts and contracts that the law's own text rests on, by their texts' names: WithPair.
-/
import Derived.Deep.Upon
import Derived.Test.YtcbogiebfbbmbaaGreatDoorPm25
import Derived.Test.YtcbogiebfbbmbaaGreatDoorPm1
import Derived.Test.YtcbogiebfbbmbaaGreatDoorPm7
import Derived.Test.YtcbogiebfbbmbaaGreatDoorPm24
set_option maxHeartbeats 16000000
set_option maxRecDepth 100000
namespace Go.Proofs.YtcbogiebfbbmbaaGreatDoor
open Go.RowKit
def NdOwn (w:World) (B:Nat) (v:Value) (lf:Bool) (ks vs:List ByteArray) (cs:List Int):Prop:=
 ∃vk vv vc,v= .agg #[.bool lf,vk,vv,vc]/\w.ownsRow B 9 1 vk ks.length (strs ks)/\w.ownsRow B 9 1 vv vs.length (strs vs)/\w.ownsRow B 3 1 vc cs.length (ints cs)
theorem Tryz.sizeNodeP:(Tryz.prog.info? 71).map (·.size)=some 4:=by kernel_rfl
theorem zaB {P : Program} (w : World) {ops : Array Oper} {o : Oper} {a : Act} {K : Act → World → Prop} {Q : Exit → Act → World → Prop} {E : Prop} (hgd : o.guard = none) (f : FuncId) (fn : Func) (hfn : P.funcs[f]? = some fn) (hname : ¬ fn.name = "runtime.NumGoroutine") (hbody : ¬ fn.body = none) (s x y z : Operand) (ts : Array TypeId)
  (ho:o.op= .call {callee:= .value (.func f),args:= #[s,x,y,z],argTypes:=ts}) (u v q r:Value) (hs:a.eval s=u) (hx:a.eval x=v) (hy:a.eval y=q) (hz:a.eval z=r)
  (R:Ending→World→Prop) (hc:Calls P f #[u,v,q,r] w R) (hR:∀e w',R e w'→∃r',e= .returned r'∧K (a.put o.dst r') w'):
  if Region.wanted o (yielded ops a.tmps)=true then Oper.wp P o a w K Q else E:=by
 have hw:Region.wanted o (yielded ops a.tmps)=true:=by simp [Region.wanted,hgd]
 rw [if_pos hw];unfold Oper.wp execOp;have hf:a.eval (.func f)= .func (.func f) #[] #[]:=rfl
 simp only [ho,resolve,invoke,hf,Deferred.ofValue,callFunc,Sem.run_bind,Sem.run_pure,Result.andThen_ok,List.map_toArray,List.map_cons,List.map_nil,hs,hx,hy,hz]
 simp [go_sem,hfn,hname,hbody]
 refine hc.mono ?_;intro e w' h;obtain ⟨r,rfl,hk⟩:=hR e w' h;exact hk
theorem zbp {W:World} {g:Nat} {cs:Array Value} {T:TypeId} (h:W.heap[g]?=some (.cells cs T (0,0))) (cs':Array Value) (hn:cs'.size=cs.size):(W.setCells g 0 cs'.toList).heap[g]?=some (.cells cs' T (0,0)):=by
 have hs:Sep 0 W [cellA g (.cells cs T (0,0))]:=zb5.2 ⟨⟨h,fun k hk=>by have hk:k=g:=hk;subst hk;exact ⟨Nat.zero_le _,(Array.getElem?_eq_some_iff.1 h).1⟩⟩,fun A hA=>by (cases hA),zeJ 0 W⟩
 exact za5 (ziE hs 0 rfl cs' hn) 0 rfl
theorem row_one (w:World) (x:Value) (T:TypeId):RowAt (w.alloc (.cells #[x] T)) 1 (.slice (some ⟨w.heap.size,0,none⟩) 1 1) 1 [x]:=by
 refine ⟨rfl,_,_,rfl,Or.inr ⟨w.heap.size,0,rfl,by simp,fun j hj=> ?_⟩⟩
 have e:j=0:=by omega
 subst e;exact Lib.cell_of_heap (heap_alloc_new w _) 0
theorem zdj (l:List ByteArray):∀u∈strs l,u.oneCell'=true:=fun u hu=>by
 simp only [strs,List.mem_map] at hu
 obtain ⟨x,-,rfl⟩:=hu
 rfl
theorem ziF (p at_:Int) (n:Nd) (hlf:n.lf=true) (hev:n.vs.length=n.ks.length) (hsm:n.ks.length<=1000) (h0: -1<=at_) (h1:at_<n.ks.length) (vk vv vc:Value) (B:Nat) (key val:ByteArray) (w:World) (hB:B<=w.heap.size) (h:LvN w B ((p,n,at_),vk,vv,vc)):
  Calls Tryz.prog 59 #[.agg #[.int .i64 p,.bool n.lf,vk,vv,vc,.int .i64 at_],.string key,.string val] w fun e w'=>∃v,e= .returned v/\NdOwn w' B v true (wpK n at_ key) (wpV n at_ key val) []/\Below w.heap.size w w':=by
 obtain ⟨o1,o2,o3⟩:=h;dsimp only at o1 o2 o3;obtain ⟨ak,ck,rfl⟩:=za4 o1;obtain ⟨av,cv,rfl⟩:=za4 o2;obtain ⟨ac,cc,rfl⟩:=za4 o3;have hck:=zfu o1;have hcv:=zfu o2;obtain ⟨lk,hlk⟩:∃m,m=n.ks.length:=⟨_,rfl⟩;rw [hev] at o2 hcv⊢;rw [<-hlk] at o1 o2 hck hcv h1 hsm⊢;rw [hlf];obtain ⟨nc,hnc⟩:∃m,m=n.cs.length:=⟨_,rfl⟩;rw [<-hnc];have HO1:=hide o1;have HO2:=hide o2;have HLk:=hide hlk;have HEv:=hide hev;obtain ⟨g3,hg3⟩:∃g,g=w.heap.size:=⟨_,rfl⟩;obtain ⟨w0,hw0⟩:∃x,x=((w.alloc (.cells #[.int .i64 p,.bool true,.slice ak lk ck,.slice av lk cv,.slice ac nc cc,.int .i64 at_] 97)).alloc (.cells #[.bool false,.slice none 0 0,.slice none 0 0,.slice none 0 0] 71)).alloc (.cells #[.bool true,.slice ak lk ck,.slice av lk cv,.slice ac nc cc] 71):=⟨_,rfl⟩
 have HB0:Hid (Below w.heap.size w w0):=hide (by rw [hw0];exact (((Below.refl _ _).alloc (Nat.le_refl _) _).alloc (by simp) _).alloc (by simp;omega) _)
 have HL0:Hid (w0.heap[w.heap.size]?=some (.cells #[.int .i64 p,.bool true,.slice ak lk ck,.slice av lk cv,.slice ac nc cc,.int .i64 at_] 97 (0,0))):=hide (by rw [hw0,heap_alloc_old _ _ (by simp;omega),heap_alloc_old _ _ (by simp)];exact heap_alloc_new w _)
 have HR0:Hid (w0.heap[w.heap.size+1]?=some (.cells #[.bool false,.slice none 0 0,.slice none 0 0,.slice none 0 0] 71 (0,0))):=hide (by
  rw [hw0,heap_alloc_old _ _ (by simp)]
  have h:=heap_alloc_new (w.alloc (.cells #[.int .i64 p,.bool true,.slice ak lk ck,.slice av lk cv,.slice ac nc cc,.int .i64 at_] 97)) (.cells #[.bool false,.slice none 0 0,.slice none 0 0,.slice none 0 0] 71)
  rw [show (w.alloc (Obj.cells #[.int .i64 p,.bool true,.slice ak lk ck,.slice av lk cv,.slice ac nc cc,.int .i64 at_] 97)).heap.size=w.heap.size+1 from by simp] at h
  exact h)
 have HN0:Hid (w0.heap[w.heap.size+1+1]?=some (.cells #[.bool true,.slice ak lk ck,.slice av lk cv,.slice ac nc cc] 71 (0,0))):=hide (by
  rw [hw0];have h:=heap_alloc_new ((w.alloc (.cells #[.int .i64 p,.bool true,.slice ak lk ck,.slice av lk cv,.slice ac nc cc,.int .i64 at_] 97)).alloc (.cells #[.bool false,.slice none 0 0,.slice none 0 0,.slice none 0 0] 71)) (.cells #[.bool true,.slice ak lk ck,.slice av lk cv,.slice ac nc cc] 71)
  rw [show ((w.alloc (Obj.cells #[.int .i64 p,.bool true,.slice ak lk ck,.slice av lk cv,.slice ac nc cc,.int .i64 at_] 97)).alloc (Obj.cells #[.bool false,.slice none 0 0,.slice none 0 0,.slice none 0 0] 71)).heap.size=w.heap.size+1+1 from by simp] at h
  exact h)
 clear o1 o2 o3 hlk hev hg3 hnc;go_enter Tryz.func59,Tryz.ntmps59
 go_upto_region 2 with fail
 rw [<-hw0];clear hw0;have l5:=(za0 HL0.out 5).1;have m1:=(za0 HN0.out 1).1
 by_cases hsame:0<=at_/\n.ks.getD at_.toNat ⟨#[]⟩=key
 ·obtain ⟨hp,hk⟩:=hsame
  obtain ⟨a,rfl⟩:∃a:Nat,at_=(a:Int):=⟨at_.toNat,by omega⟩
  rw [Int.toNat_natCast] at hk
  have hal:a<lk:=by omega
  obtain ⟨gk,rfl,hcx⟩:=zco (i:=a) HO1.out (by rw [<-HLk.out];exact hal) HLk.out
  rw [hk] at hcx
  have hcx0:w0.cell? ⟨gk,a,none⟩=some (.string key):=by rw [HB0.out.cell (by have:=(HO1.out.lt gk rfl).2;exact this)];exact hcx
  have hbq:(key.toList ==key.toList)=true:=by simp
  have HWp:Hid (∀wx (v:Value),Below w.heap.size w wx->RowAt wx 1 v 1 [.string val]->∀a1 c1,v= .slice a1 1 c1->Calls Tryz.prog 85 #[.slice av lk cv,.int .i64 (a:Int),.int .i64 ((a:Int)+1),v] wx fun e w'=>∃u,e= .returned u/\w'.ownsRow wx.heap.size 9 1 u (a+1+(lk - (a+1))) ((strs n.vs).take a++ [.string val]++(strs n.vs).drop (a+1))/\Below wx.heap.size wx w'):=hide (by
   rintro wx v hb hr a1 c1 rfl
   have h:=zbX (strs n.vs) [.string val] (zdj _) (fun u hu=>by simp at hu;subst hu;rfl) av a1 lk cv 1 c1 a (a+1) (by omega) (by omega) hcv (by omega) wx (za1 (zac HO2.out) (hb.mono (Nat.le_refl _))) hr
   rw [Int.natCast_add] at h
   exact h)
  have HKv:Hid (wpK n (a:Int) key=n.ks/\strs (wpV n (a:Int) key val)=(strs n.vs).take a++ [.string val]++(strs n.vs).drop (a+1)/\(wpV n (a:Int) key val).length=a+1+(lk - (a+1))):=hide (by
   unfold wpK wpV
   rw [if_pos ⟨hp,by rw [Int.toNat_natCast];exact hk⟩,if_pos ⟨hp,by rw [Int.toNat_natCast];exact hk⟩,Int.toNat_natCast]
   refine ⟨rfl,by simp [strs],?_⟩
   have:=HEv.out;have:=HLk.out
   simp
   omega)
  clear hk hp
  go_upto_region 3 with fail
  have hwr:IntKind.i64.wrap ((a:Int)+1)=(a:Int)+1:=by rw [IntKind.wrap_i64];omega
  have hSd:(fun wx=>wx.heap[w.heap.size]?=some (Obj.cells #[.int .i64 p,.bool true,.slice (some ⟨gk,0,none⟩) lk ck,.slice av lk cv,.slice ac nc cc,.int .i64 (a:Int)] 97 (0,0))/\wx.heap[w.heap.size+1+1]?=some (Obj.cells #[.bool true,.slice (some ⟨gk,0,none⟩) lk ck,.slice av lk cv,.slice ac nc cc] 71 (0,0))) w0.drew:=⟨HL0.out,HN0.out⟩
  refine wp_region_held_drew (S:=(fun wx=>wx.heap[w.heap.size]?=some (Obj.cells #[.int .i64 p,.bool true,.slice (some ⟨gk,0,none⟩) lk ck,.slice av lk cv,.slice ac nc cc,.int .i64 (a:Int)] 97 (0,0))/\wx.heap[w.heap.size+1+1]?=some (Obj.cells #[.bool true,.slice (some ⟨gk,0,none⟩) lk ck,.slice av lk cv,.slice ac nc cc] 71 (0,0)))) (by kernel_rfl) (hSd) (fun _=> ?_)
  refine tK 0 24 ?_ rfl rfl (by kernel_rfl) (fun _ _ _ h=>h) ⟨by rfl,?_⟩ hSd ?_
  rotate_left
  ·(intro wx hSw;(try dsimp only at hSw);have s5:=(za0 hSw.1 5).1;have m1:=(za0 hSw.2 1).1;have m2:=(za0 hSw.2 2).1;go_simp;try with_reducible rfl)
  (try simp only [yA,yB,yC])
  refine tK 1 25 ?_ rfl rfl (by kernel_rfl) (fun _ _ _ h=>h) ⟨by rfl,?_⟩ hSd ?_
  rotate_left
  ·(intro wx hSw;(try dsimp only at hSw);have s5:=(za0 hSw.1 5).1;have m1:=(za0 hSw.2 1).1;have m2:=(za0 hSw.2 2).1;go_simp;try with_reducible rfl)
  (try simp only [yA,yB,yC])
  refine tK 2 26 ?_ rfl rfl (by kernel_rfl) (fun _ _ _ h=>h) ⟨by rfl,?_⟩ hSd ?_
  rotate_left
  ·(intro wx hSw;(try dsimp only at hSw);have s5:=(za0 hSw.1 5).1;have m1:=(za0 hSw.2 1).1;have m2:=(za0 hSw.2 2).1;go_simp;try with_reducible rfl)
  (try simp only [yA,yB,yC])
  refine tK 3 27 ?_ rfl rfl (by kernel_rfl) (fun _ _ _ h=>h) ⟨by rfl,?_⟩ hSd ?_
  rotate_left
  ·(intro wx hSw;(try dsimp only at hSw);have s5:=(za0 hSw.1 5).1;have m1:=(za0 hSw.2 1).1;have m2:=(za0 hSw.2 2).1;go_simp;try with_reducible rfl)
  (try simp only [yA,yB,yC])
  refine tK 4 28 ?_ rfl rfl (by kernel_rfl) (fun _ _ _ h=>h) ⟨by rfl,?_⟩ hSd ?_
  rotate_left
  ·(intro wx hSw;(try dsimp only at hSw);have s5:=(za0 hSw.1 5).1;have m1:=(za0 hSw.2 1).1;have m2:=(za0 hSw.2 2).1;go_simp;try with_reducible rfl)
  (try simp only [yA,yB,yC])
  refine tK 5 29 ?_ rfl rfl (by kernel_rfl) (fun _ _ _ h=>h) ⟨by rfl,?_⟩ hSd ?_
  rotate_left
  ·(intro wx hSw;(try dsimp only at hSw);have s5:=(za0 hSw.1 5).1;have m1:=(za0 hSw.2 1).1;have m2:=(za0 hSw.2 2).1;go_simp;try with_reducible rfl)
  (try simp only [yA,yB,yC])
  refine tK 6 30 ?_ rfl rfl (by kernel_rfl) (fun _ _ _ h=>h) ⟨by rfl,?_⟩ hSd ?_
  rotate_left
  ·(intro wx hSw;(try dsimp only at hSw);have s5:=(za0 hSw.1 5).1;have m1:=(za0 hSw.2 1).1;have m2:=(za0 hSw.2 2).1;go_simp;try with_reducible rfl)
  (try simp only [yA,yB,yC])
  refine tK 7 31 ?_ rfl rfl (by kernel_rfl) (fun _ _ _ h=>h) ⟨by rfl,?_⟩ hSd ?_
  rotate_left
  ·(intro wx hSw;(try dsimp only at hSw);have s5:=(za0 hSw.1 5).1;have m1:=(za0 hSw.2 1).1;have m2:=(za0 hSw.2 2).1;go_simp;try with_reducible rfl)
  (try simp only [yA,yB,yC])
  refine tK 8 32 ?_ rfl rfl (by kernel_rfl) (fun _ _ _ h=>h) ⟨by rfl,?_⟩ hSd ?_
  rotate_left
  ·(intro wx hSw;(try dsimp only at hSw);have s5:=(za0 hSw.1 5).1;have m1:=(za0 hSw.2 1).1;have m2:=(za0 hSw.2 2).1;go_simp;try with_reducible rfl)
  (try simp only [yA,yB,yC])
  refine tK 9 33 ?_ rfl rfl (by kernel_rfl) (fun _ _ _ h=>h) ⟨by rfl,?_⟩ hSd ?_
  rotate_left
  ·(intro wx hSw;(try dsimp only at hSw);have s5:=(za0 hSw.1 5).1;have m1:=(za0 hSw.2 1).1;have m2:=(za0 hSw.2 2).1;go_simp;try with_reducible rfl)
  (try simp only [yA,yB,yC])
  have hz0:w.heap.size+1+1<w0.heap.size:=(Array.getElem?_eq_some_iff.1 HN0.out).1
  have hSa:(fun wx=>wx.heap[w.heap.size]?=some (Obj.cells #[.int .i64 p,.bool true,.slice (some ⟨gk,0,none⟩) lk ck,.slice av lk cv,.slice ac nc cc,.int .i64 (a:Int)] 97 (0,0))/\wx.heap[w.heap.size+1+1]?=some (Obj.cells #[.bool true,.slice (some ⟨gk,0,none⟩) lk ck,.slice av lk cv,.slice ac nc cc] 71 (0,0))) ((w0.alloc (Obj.cells #[.string val] 9)).drew):=⟨(heap_alloc_old _ _ (by omega)).trans HL0.out,(heap_alloc_old _ _ hz0).trans HN0.out⟩
  have HB1:Hid (Below w.heap.size w ((w0.alloc (Obj.cells #[.string val] 9)).drew)):=hide ((HB0.out.alloc HB0.out.size _).drew)
  have HR1:Hid ((w0.alloc (Obj.cells #[.string val] 9)).drew.heap[w.heap.size+1]?=some (.cells #[.bool false,.slice none 0 0,.slice none 0 0,.slice none 0 0] 71 (0,0))):=hide ((heap_alloc_old _ _ (by omega)).trans HR0.out)
  refine wpAnyH_ready (rs:= [10]) (by kernel_rfl) (by simp) ?_
  refine AllReadyH.cons rfl (fun K hK=> ?_) AllReadyH.nil
  go_simp
  refine hK.out _ _ hSa (fun _=> ?_)
  clear hK K;have hr1:RowAt ((w0.alloc (Obj.cells #[.string val] 9)).drew) 1 (.slice (some ⟨w0.heap.size,0,none⟩) 1 1) 1 [.string val]:=row_one w0 (.string val) 9;have hz1:w.heap.size+1<(w0.alloc (Obj.cells #[.string val] 9)).drew.heap.size:=(Array.getElem?_eq_some_iff.1 HR1.out).1;obtain ⟨w1,hw1⟩:∃x,x=(w0.alloc (Obj.cells #[.string val] 9)).drew:=⟨_,rfl⟩;obtain ⟨g1,hg1⟩:∃x,x=w0.heap.size:=⟨_,rfl⟩;rw [<-hw1] at HB1 HR1 hr1 hSa hz1⊢;rw [<-hg1] at hr1
  try rw [<-hg1]
  have HG1:=hide hg1;clear hw1
  refine wpAnyH_ready (rs:= [11]) (by kernel_rfl) (by simp) ?_
  refine AllReadyH.cons rfl (fun K hK=> ?_) AllReadyH.nil
  refine zaB w1 ?_ 85 Tryz.f85 Tryz.func85 ?_ ?_ (.tmp 27) (.tmp 29) (.tmp 32) (.tmp 34) #[26,3,3,26] ?_ (.slice av lk cv) (.int .i64 (a:Int)) (.int .i64 ((a:Int)+1)) (.slice (some ⟨g1,0,none⟩) 1 1) ?_ ?_ ?_ ?_ _ (HWp.out w1 _ HB1.out hr1 _ _ rfl) ?_
  ·exact rfl
  ·decide
  ·exact Option.some_ne_none _
  ·exact rfl
  ·exact rfl
  ·exact rfl
  ·exact rfl
  ·first | exact rfl | (rw [HG1.out];exact rfl)
  rintro e w2 ⟨u,rfl,ho2,hb2⟩;obtain ⟨au,cu,rfl⟩:=za4 ho2
  have hS2:(fun wx=>wx.heap[w.heap.size]?=some (Obj.cells #[.int .i64 p,.bool true,.slice (some ⟨gk,0,none⟩) lk ck,.slice av lk cv,.slice ac nc cc,.int .i64 (a:Int)] 97 (0,0))/\wx.heap[w.heap.size+1+1]?=some (Obj.cells #[.bool true,.slice (some ⟨gk,0,none⟩) lk ck,.slice av lk cv,.slice ac nc cc] 71 (0,0))) w2:=⟨(hb2.block _ (by omega)).trans hSa.1,(hb2.block _ (Array.getElem?_eq_some_iff.1 hSa.2).1).trans hSa.2⟩
  have HR2:Hid (w2.heap[w.heap.size+1]?=some (.cells #[.bool false,.slice none 0 0,.slice none 0 0,.slice none 0 0] 71 (0,0))):=hide ((hb2.block _ hz1).trans HR1.out);have HB2:Hid (Below w.heap.size w w2):=hide (HB1.out.trans (hb2.mono HB1.out.size));have HO3:=hide ho2;have HZ1:=hide hz1;clear hb2;refine ⟨_,rfl,?_⟩
  refine hK.out (Act.put _ (some 35) _) w2 hS2 (fun _=> ?_)
  clear hK K
  simp only [Act.put,yA,yB,yC]
  refine tK 12 36 ?_ rfl rfl (by kernel_rfl) (fun _ _ _ h=>h) ⟨by rfl,?_⟩ hS2 ?_
  rotate_left
  ·(intro wx hSw;(try dsimp only at hSw);go_simp;try with_reducible rfl)
  (try simp only [yA,yB,yC])
  have hth:Hid (w2.there (w.heap.size+1) 0 (#[.bool true,.slice (some ⟨gk,0,none⟩) lk ck,.slice au (a+1+(lk - (a+1))) cu,.slice none 0 0]:Array Value).size):=hide (zcp HR2.out 0 4 (show 0+4<=4 by decide))
  have HSt:=hide (zbp HR2.out #[.bool true,.slice (some ⟨gk,0,none⟩) lk ck,.slice au (a+1+(lk - (a+1))) cu,.slice none 0 0] rfl)
  have HBs:=hide (zag (show w.heap.size<=w.heap.size+1 by omega) (#[.bool true,.slice (some ⟨gk,0,none⟩) lk ck,.slice au (a+1+(lk - (a+1))) cu,.slice none 0 0]:Array Value).toList 0 w2 HB2.out)
  have hS3a:∀k,k≠w.heap.size+1->k<w2.heap.size->(w2.setCells (w.heap.size+1) 0 (#[.bool true,.slice (some ⟨gk,0,none⟩) lk ck,.slice au (a+1+(lk - (a+1))) cu,.slice none 0 0]:Array Value).toList).heap[k]?=w2.heap[k]?:=fun k h1 h2=>World.heap_setCells_other w2 (w.heap.size+1) 0 _ h2 h1
  have HO4:Hid ((w2.setCells (w.heap.size+1) 0 (#[.bool true,.slice (some ⟨gk,0,none⟩) lk ck,.slice au (a+1+(lk - (a+1))) cu,.slice none 0 0]:Array Value).toList).ownsRow B 9 1 (.slice au (a+1+(lk - (a+1))) cu) (a+1+(lk - (a+1))) ((strs n.vs).take a++ [.string val]++(strs n.vs).drop (a+1))):=hide (zaa (za7 (S:=fun k=>k=w.heap.size+1) HO3.out ⟨World.os_setCells _ _ _ _,(zag (B:=w.heap.size+1) (W0:=w2) (Nat.le_refl _) (#[.bool true,.slice (some ⟨gk,0,none⟩) lk ck,.slice au (a+1+(lk - (a+1))) cu,.slice none 0 0]:Array Value).toList 0 w2 (Below.refl _ _)).tape,World.output_setCells _ _ _ _,by rw [zaA];exact Nat.le_refl _,fun k h1 h2=>hS3a k h2 h1⟩ (fun k hk e=>by have:=(HO3.out.lt k hk).1;have:=HZ1.out;omega)) (Nat.le_trans hB (HB1.out.size)))
  obtain ⟨w3,hw3⟩:∃y,y=w2.setCells (w.heap.size+1) 0 (#[.bool true,.slice (some ⟨gk,0,none⟩) lk ck,.slice au (a+1+(lk - (a+1))) cu,.slice none 0 0]:Array Value).toList:=⟨_,rfl⟩;rw [<-hw3] at HSt HBs HO4 hS3a
  have hS3:(fun wx=>wx.heap[w.heap.size]?=some (Obj.cells #[.int .i64 p,.bool true,.slice (some ⟨gk,0,none⟩) lk ck,.slice av lk cv,.slice ac nc cc,.int .i64 (a:Int)] 97 (0,0))/\wx.heap[w.heap.size+1+1]?=some (Obj.cells #[.bool true,.slice (some ⟨gk,0,none⟩) lk ck,.slice av lk cv,.slice ac nc cc] 71 (0,0))) w3:=⟨(hS3a _ (by omega) (Array.getElem?_eq_some_iff.1 hS2.1).1).trans hS2.1,(hS3a _ (by omega) (Array.getElem?_eq_some_iff.1 hS2.2).1).trans hS2.2⟩
  have HW3:=hide hw3.symm;clear hw3 hS3a
  refine wpAnyH_ready (rs:= [13]) (by kernel_rfl) (by simp) ?_
  refine AllReadyH.cons rfl (fun K hK=> ?_) AllReadyH.nil
  refine zb8 ?_ 71 (.tmp 6) (.tmp 36) ?_ (w.heap.size+1) 0 #[.bool true,.slice (some ⟨gk,0,none⟩) lk ck,.slice au (a+1+(lk - (a+1))) cu,.slice none 0 0] ?_ ?_ hth.out ?_ ?_ HW3.out ?_
  ·exact rfl
  ·exact rfl
  ·exact rfl
  ·exact rfl
  ·exact Tryz.sizeNodeP
  ·exact rfl
  refine hK.out (Act.put _ none _) w3 hS3 (fun _=> ?_)
  clear hK K
  simp only [Act.put]
  refine wpAnyH_done (by kernel_rfl) ?_ _
  go_wp2_with fail;refine bodyPost_ret (v:= .agg #[.bool true,.slice (some ⟨gk,0,none⟩) lk ck,.slice au (a+1+(lk - (a+1))) cu,.slice none 0 0]) (zbe Tryz.results59 rfl (zcr (zb0 HSt.out) Tryz.underlying71 rfl Tryz.sizeNodeP)) rfl ?_;refine ⟨_,rfl,⟨_,_,_,rfl,?_,?_,World.ownsRow_nil _ _ _ _⟩,HBs.out⟩
  ·rw [HKv.out.1,<-HLk.out];exact za6 HO1.out HBs.out
  ·rw [HKv.out.2.1,HKv.out.2.2];exact HO4.out
 ·have hneg:¬(0<=at_/\n.ks.getD at_.toNat ⟨#[]⟩=key):=hsame
  obtain ⟨t,ht⟩:∃t,t=(at_+1).toNat:=⟨_,rfl⟩
  have hti:at_+1=(t:Int):=by omega
  have htl:t<=lk:=by omega
  have hwr:IntKind.i64.wrap (at_+1)=(t:Int):=by rw [IntKind.wrap_i64];omega
  have HWk:Hid (∀wx (v:Value) (x:ByteArray),Below w.heap.size w wx->RowAt wx 1 v 1 [.string x]->∀a1 c1,v= .slice a1 1 c1->Calls Tryz.prog 85 #[.slice ak lk ck,.int .i64 (t:Int),.int .i64 (t:Int),v] wx fun e w'=>∃u,e= .returned u/\w'.ownsRow wx.heap.size 9 1 u (t+1+(lk - t)) ((strs n.ks).take t++ [.string x]++(strs n.ks).drop t)/\Below wx.heap.size wx w'):=hide (by
   rintro wx v x hb hr a1 c1 rfl
   exact zbX (strs n.ks) [.string x] (zdj _) (fun u hu=>by simp at hu;subst hu;rfl) ak a1 lk ck 1 c1 t t (by omega) htl hck (by omega) wx (za1 (zac HO1.out) (hb.mono (Nat.le_refl _))) hr)
  have HWv:Hid (∀wx (v:Value) (x:ByteArray),Below w.heap.size w wx->RowAt wx 1 v 1 [.string x]->∀a1 c1,v= .slice a1 1 c1->Calls Tryz.prog 85 #[.slice av lk cv,.int .i64 (t:Int),.int .i64 (t:Int),v] wx fun e w'=>∃u,e= .returned u/\w'.ownsRow wx.heap.size 9 1 u (t+1+(lk - t)) ((strs n.vs).take t++ [.string x]++(strs n.vs).drop t)/\Below wx.heap.size wx w'):=hide (by
   rintro wx v x hb hr a1 c1 rfl
   exact zbX (strs n.vs) [.string x] (zdj _) (fun u hu=>by simp at hu;subst hu;rfl) av a1 lk cv 1 c1 t t (by omega) htl hcv (by omega) wx (za1 (zac HO2.out) (hb.mono (Nat.le_refl _))) hr)
  have HKv:Hid ((wpK n at_ key).length=t+1+(lk - t)/\strs (wpK n at_ key)=(strs n.ks).take t++ [.string key]++(strs n.ks).drop t/\(wpV n at_ key val).length=t+1+(lk - t)/\strs (wpV n at_ key val)=(strs n.vs).take t++ [.string val]++(strs n.vs).drop t):=hide (by
   unfold wpK wpV;rw [if_neg hneg,if_neg hneg,<-ht];have:=HEv.out;have:=HLk.out
   refine ⟨by simp;omega,by simp [strs],by simp;omega,by simp [strs]⟩)
  have hreg2:∀(K:Prop),K->K:=fun _ h=>h
  clear hreg2 ht
  by_cases hat:0<=at_
  ·have hk:n.ks.getD at_.toNat ⟨#[]⟩≠key:=fun e=>hsame ⟨hat,e⟩
   obtain ⟨a,rfl⟩:∃a:Nat,at_=(a:Int):=⟨at_.toNat,by omega⟩
   rw [Int.toNat_natCast] at hk
   have hal:a<lk:=by omega
   obtain ⟨gk,hak,hcx⟩:=zco (i:=a) HO1.out (by rw [<-HLk.out];exact hal) HLk.out
   obtain ⟨kx,hkx⟩:∃z,z=n.ks.getD a ⟨#[]⟩:=⟨_,rfl⟩;rw [<-hkx] at hcx hk
   have hcx0:w0.cell? ⟨gk,a,none⟩=some (.string kx):=by rw [HB0.out.cell (by have:=(HO1.out.lt gk (by rw [hak];rfl)).2;exact this)];exact hcx
   have hbq:(kx.toList ==key.toList)=false:=by rw [zi1];simp [hk]
   clear hk hkx hsame hneg;subst hak
   go_upto_region 5 with fail
   obtain ⟨wd,hwd⟩:∃z,z=w0.drew:=⟨_,rfl⟩
   have hS_wd:(fun wx=>wx.heap[w.heap.size]?=some (Obj.cells #[.int .i64 p,.bool true,.slice (some ⟨gk,0,none⟩) lk ck,.slice av lk cv,.slice ac nc cc,.int .i64 (a:Int)] 97 (0,0))/\wx.heap[w.heap.size+1+1]?=some (Obj.cells #[.bool true,.slice (some ⟨gk,0,none⟩) lk ck,.slice av lk cv,.slice ac nc cc] 71 (0,0))) wd:=by rw [hwd];exact ⟨HL0.out,HN0.out⟩
   have HR_wd:Hid (wd.heap[w.heap.size+1]?=some (.cells #[.bool false,.slice none 0 0,.slice none 0 0,.slice none 0 0] 71 (0,0))):=hide (by rw [hwd];exact HR0.out)
   have HB_wd:Hid (Below w.heap.size w wd):=hide (by rw [hwd];exact HB0.out.drew)
   refine wp_region_held_drew (S:=(fun wx=>wx.heap[w.heap.size]?=some (Obj.cells #[.int .i64 p,.bool true,.slice (some ⟨gk,0,none⟩) lk ck,.slice av lk cv,.slice ac nc cc,.int .i64 (a:Int)] 97 (0,0))/\wx.heap[w.heap.size+1+1]?=some (Obj.cells #[.bool true,.slice (some ⟨gk,0,none⟩) lk ck,.slice av lk cv,.slice ac nc cc] 71 (0,0)))) (by kernel_rfl) (by rw [<-hwd];exact hS_wd) (fun _=> ?_)
   rw [<-hwd];clear hwd
   refine tK 0 40 ?_ rfl rfl (by kernel_rfl) (fun _ _ _ h=>h) ⟨by rfl,?_⟩ hS_wd ?_
   rotate_left
   ·(intro wx hSw;(try dsimp only at hSw);have m1:=(za0 hSw.2 1).1;have m2:=(za0 hSw.2 2).1;go_simp;try with_reducible rfl)
   (try simp only [yA,yB,yC])
   refine tK 1 41 ?_ rfl rfl (by kernel_rfl) (fun _ _ _ h=>h) ⟨by rfl,?_⟩ hS_wd ?_
   rotate_left
   ·(intro wx hSw;(try dsimp only at hSw);have m1:=(za0 hSw.2 1).1;have m2:=(za0 hSw.2 2).1;go_simp;try with_reducible rfl)
   (try simp only [yA,yB,yC])
   refine tK 2 42 ?_ rfl rfl (by kernel_rfl) (fun _ _ _ h=>h) ⟨by rfl,?_⟩ hS_wd ?_
   rotate_left
   ·(intro wx hSw;(try dsimp only at hSw);have m1:=(za0 hSw.2 1).1;have m2:=(za0 hSw.2 2).1;go_simp;try with_reducible rfl)
   (try simp only [yA,yB,yC])
   refine tK 3 43 ?_ rfl rfl (by kernel_rfl) (fun _ _ _ h=>h) ⟨by rfl,?_⟩ hS_wd ?_
   rotate_left
   ·(intro wx hSw;(try dsimp only at hSw);have m1:=(za0 hSw.2 1).1;have m2:=(za0 hSw.2 2).1;go_simp;try with_reducible rfl)
   (try simp only [yA,yB,yC])
   refine tK 4 44 ?_ rfl rfl (by kernel_rfl) (fun _ _ _ h=>h) ⟨by rfl,?_⟩ hS_wd ?_
   rotate_left
   ·(intro wx hSw;(try dsimp only at hSw);have m1:=(za0 hSw.2 1).1;have m2:=(za0 hSw.2 2).1;go_simp;try with_reducible rfl)
   (try simp only [yA,yB,yC])
   refine tK 7 47 ?_ rfl rfl (by kernel_rfl) (fun _ _ _ h=>h) ⟨by rfl,?_⟩ hS_wd ?_
   rotate_left
   ·(intro wx hSw;(try dsimp only at hSw);have m1:=(za0 hSw.2 1).1;have m2:=(za0 hSw.2 2).1;go_simp;try with_reducible rfl)
   (try simp only [yA,yB,yC])
   refine tK 8 48 ?_ rfl rfl (by kernel_rfl) (fun _ _ _ h=>h) ⟨by rfl,?_⟩ hS_wd ?_
   rotate_left
   ·(intro wx hSw;(try dsimp only at hSw);have m1:=(za0 hSw.2 1).1;have m2:=(za0 hSw.2 2).1;go_simp;try with_reducible rfl)
   (try simp only [yA,yB,yC])
   refine tK 9 49 ?_ rfl rfl (by kernel_rfl) (fun _ _ _ h=>h) ⟨by rfl,?_⟩ hS_wd ?_
   rotate_left
   ·(intro wx hSw;(try dsimp only at hSw);have m1:=(za0 hSw.2 1).1;have m2:=(za0 hSw.2 2).1;go_simp;try with_reducible rfl)
   (try simp only [yA,yB,yC])
   refine tK 10 50 ?_ rfl rfl (by kernel_rfl) (fun _ _ _ h=>h) ⟨by rfl,?_⟩ hS_wd ?_
   rotate_left
   ·(intro wx hSw;(try dsimp only at hSw);have m1:=(za0 hSw.2 1).1;have m2:=(za0 hSw.2 2).1;go_simp;try with_reducible rfl)
   (try simp only [yA,yB,yC])
   refine tK 11 51 ?_ rfl rfl (by kernel_rfl) (fun _ _ _ h=>h) ⟨by rfl,?_⟩ hS_wd ?_
   rotate_left
   ·(intro wx hSw;(try dsimp only at hSw);have m1:=(za0 hSw.2 1).1;have m2:=(za0 hSw.2 2).1;go_simp;try with_reducible rfl)
   (try simp only [yA,yB,yC])
   refine wpAnyH_ready (rs:= [5,12]) (by kernel_rfl) (by simp) ?_
   refine AllReadyH.cons rfl (fun K hK=> ?_) (AllReadyH.cons rfl (fun K hK=> ?_) AllReadyH.nil)
   ·have hb_y1:Below wd.heap.size wd (wd.alloc (Obj.cells #[.string key] 9)):=(Below.refl _ _).alloc (Nat.le_refl _) _
    have ha_y1:=row_one wd (.string key) 9
    go_simp
    obtain ⟨y1,hw_y1⟩:∃z,z=wd.alloc (Obj.cells #[.string key] 9):=⟨_,rfl⟩;obtain ⟨gk_y1,hg_y1⟩:∃z,z=wd.heap.size:=⟨_,rfl⟩;rw [<-hw_y1] at hb_y1 ha_y1⊢;rw [<-hg_y1] at ha_y1⊢
    have hS_y1:(fun wx=>wx.heap[w.heap.size]?=some (Obj.cells #[.int .i64 p,.bool true,.slice (some ⟨gk,0,none⟩) lk ck,.slice av lk cv,.slice ac nc cc,.int .i64 (a:Int)] 97 (0,0))/\wx.heap[w.heap.size+1+1]?=some (Obj.cells #[.bool true,.slice (some ⟨gk,0,none⟩) lk ck,.slice av lk cv,.slice ac nc cc] 71 (0,0))) y1:=⟨(hb_y1.block _ (Array.getElem?_eq_some_iff.1 hS_wd.1).1).trans hS_wd.1,(hb_y1.block _ (Array.getElem?_eq_some_iff.1 hS_wd.2).1).trans hS_wd.2⟩
    have HR_y1:Hid (y1.heap[w.heap.size+1]?=some (.cells #[.bool false,.slice none 0 0,.slice none 0 0,.slice none 0 0] 71 (0,0))):=hide ((hb_y1.block _ (Array.getElem?_eq_some_iff.1 HR_wd.out).1).trans HR_wd.out);have HB_y1:Hid (Below w.heap.size w y1):=hide (HB_wd.out.trans (hb_y1.mono HB_wd.out.size));have HAk_y1:=hide ha_y1;clear hw_y1 ha_y1 hg_y1 hb_y1
    refine hK.out _ y1 hS_y1 (fun _=> ?_)
    clear hK K
    refine wpAnyH_ready (rs:= [6,12]) (by kernel_rfl) (by simp) ?_
    refine AllReadyH.cons rfl (fun K hK=> ?_) (AllReadyH.cons rfl (fun K hK=> ?_) AllReadyH.nil)
    ·refine zaB y1 ?_ 85 Tryz.f85 Tryz.func85 ?_ ?_ (.tmp 41) (.tmp 42) (.tmp 43) (.tmp 45) #[26,3,3,26] ?_ (.slice (some ⟨gk,0,none⟩) lk ck) (.int .i64 (t:Int)) (.int .i64 (t:Int)) (.slice (some ⟨gk_y1,0,none⟩) 1 1) ?_ ?_ ?_ ?_ _ (HWk.out y1 _ _ HB_y1.out HAk_y1.out _ _ rfl) ?_
     ·exact rfl
     ·decide
     ·exact Option.some_ne_none _
     ·exact rfl
     ·exact rfl
     ·exact rfl
     ·exact rfl
     ·exact rfl
     rintro e y2 ⟨uy2,rfl,ho,hb_y2⟩;obtain ⟨ak_y2,ck_y2,rfl⟩:=za4 ho
     have hS_y2:(fun wx=>wx.heap[w.heap.size]?=some (Obj.cells #[.int .i64 p,.bool true,.slice (some ⟨gk,0,none⟩) lk ck,.slice av lk cv,.slice ac nc cc,.int .i64 (a:Int)] 97 (0,0))/\wx.heap[w.heap.size+1+1]?=some (Obj.cells #[.bool true,.slice (some ⟨gk,0,none⟩) lk ck,.slice av lk cv,.slice ac nc cc] 71 (0,0))) y2:=⟨(hb_y2.block _ (Array.getElem?_eq_some_iff.1 hS_y1.1).1).trans hS_y1.1,(hb_y2.block _ (Array.getElem?_eq_some_iff.1 hS_y1.2).1).trans hS_y1.2⟩
     have HR_y2:Hid (y2.heap[w.heap.size+1]?=some (.cells #[.bool false,.slice none 0 0,.slice none 0 0,.slice none 0 0] 71 (0,0))):=hide ((hb_y2.block _ (Array.getElem?_eq_some_iff.1 HR_y1.out).1).trans HR_y1.out);have HB_y2:Hid (Below w.heap.size w y2):=hide (HB_y1.out.trans (hb_y2.mono HB_y1.out.size));have HAk_y2:=hide (za1 HAk_y1.out hb_y2);have HVk_y2:=hide (zaa ho (Nat.le_trans hB HB_y1.out.size));have HZk_y2:Hid (w.heap.size+1<y1.heap.size):=hide (Array.getElem?_eq_some_iff.1 HR_y1.out).1
     have HLk_y2:=hide (fun k h=>(ho.lt k h).1)
     clear ho hb_y2;refine ⟨_,rfl,?_⟩
     refine hK.out (Act.put _ (some 46) _) y2 hS_y2 (fun _=> ?_)
     clear hK K
     simp only [Act.put,yA,yB,yC]
     refine wpAnyH_ready (rs:= [12]) (by kernel_rfl) (by simp) ?_
     refine AllReadyH.cons rfl (fun K hK=> ?_) AllReadyH.nil
     have hb_y3:Below y2.heap.size y2 (y2.alloc (Obj.cells #[.string val] 9)):=(Below.refl _ _).alloc (Nat.le_refl _) _;have ha_y3:=row_one y2 (.string val) 9
     go_simp
     obtain ⟨y3,hw_y3⟩:∃z,z=y2.alloc (Obj.cells #[.string val] 9):=⟨_,rfl⟩;obtain ⟨gv_y3,hg_y3⟩:∃z,z=y2.heap.size:=⟨_,rfl⟩;rw [<-hw_y3] at hb_y3 ha_y3⊢;rw [<-hg_y3] at ha_y3⊢
     have hS_y3:(fun wx=>wx.heap[w.heap.size]?=some (Obj.cells #[.int .i64 p,.bool true,.slice (some ⟨gk,0,none⟩) lk ck,.slice av lk cv,.slice ac nc cc,.int .i64 (a:Int)] 97 (0,0))/\wx.heap[w.heap.size+1+1]?=some (Obj.cells #[.bool true,.slice (some ⟨gk,0,none⟩) lk ck,.slice av lk cv,.slice ac nc cc] 71 (0,0))) y3:=⟨(hb_y3.block _ (Array.getElem?_eq_some_iff.1 hS_y2.1).1).trans hS_y2.1,(hb_y3.block _ (Array.getElem?_eq_some_iff.1 hS_y2.2).1).trans hS_y2.2⟩
     have HR_y3:Hid (y3.heap[w.heap.size+1]?=some (.cells #[.bool false,.slice none 0 0,.slice none 0 0,.slice none 0 0] 71 (0,0))):=hide ((hb_y3.block _ (Array.getElem?_eq_some_iff.1 HR_y2.out).1).trans HR_y2.out);have HB_y3:Hid (Below w.heap.size w y3):=hide (HB_y2.out.trans (hb_y3.mono HB_y2.out.size));have HAk_y3:=hide (za1 HAk_y2.out hb_y3);have HVk_y3:=hide (za6 HVk_y2.out hb_y3);have HAv_y3:=hide ha_y3;clear hw_y3 ha_y3 hg_y3 hb_y3
     refine hK.out _ y3 hS_y3 (fun _=> ?_)
     clear hK K
     refine wpAnyH_ready (rs:= [13]) (by kernel_rfl) (by simp) ?_
     refine AllReadyH.cons rfl (fun K hK=> ?_) AllReadyH.nil
     refine zaB y3 ?_ 85 Tryz.f85 Tryz.func85 ?_ ?_ (.tmp 48) (.tmp 49) (.tmp 50) (.tmp 52) #[26,3,3,26] ?_ (.slice av lk cv) (.int .i64 (t:Int)) (.int .i64 (t:Int)) (.slice (some ⟨gv_y3,0,none⟩) 1 1) ?_ ?_ ?_ ?_ _ (HWv.out y3 _ _ HB_y3.out HAv_y3.out _ _ rfl) ?_
     ·exact rfl
     ·decide
     ·exact Option.some_ne_none _
     ·exact rfl
     ·exact rfl
     ·exact rfl
     ·exact rfl
     ·exact rfl
     rintro e y4 ⟨uy4,rfl,ho,hb_y4⟩;obtain ⟨av_y4,cv_y4,rfl⟩:=za4 ho
     have hS_y4:(fun wx=>wx.heap[w.heap.size]?=some (Obj.cells #[.int .i64 p,.bool true,.slice (some ⟨gk,0,none⟩) lk ck,.slice av lk cv,.slice ac nc cc,.int .i64 (a:Int)] 97 (0,0))/\wx.heap[w.heap.size+1+1]?=some (Obj.cells #[.bool true,.slice (some ⟨gk,0,none⟩) lk ck,.slice av lk cv,.slice ac nc cc] 71 (0,0))) y4:=⟨(hb_y4.block _ (Array.getElem?_eq_some_iff.1 hS_y3.1).1).trans hS_y3.1,(hb_y4.block _ (Array.getElem?_eq_some_iff.1 hS_y3.2).1).trans hS_y3.2⟩
     have HR_y4:Hid (y4.heap[w.heap.size+1]?=some (.cells #[.bool false,.slice none 0 0,.slice none 0 0,.slice none 0 0] 71 (0,0))):=hide ((hb_y4.block _ (Array.getElem?_eq_some_iff.1 HR_y3.out).1).trans HR_y3.out);have HB_y4:Hid (Below w.heap.size w y4):=hide (HB_y3.out.trans (hb_y4.mono HB_y3.out.size));have HAk_y4:=hide (za1 HAk_y3.out hb_y4);have HAv_y4:=hide (za1 HAv_y3.out hb_y4);have HVk_y4:=hide (za6 HVk_y3.out hb_y4);have HVv_y4:=hide (zaa ho (Nat.le_trans hB HB_y3.out.size));have HZv_y4:Hid (w.heap.size+1<y3.heap.size):=hide (Array.getElem?_eq_some_iff.1 HR_y3.out).1
     have HLv_y4:=hide (fun k h=>(ho.lt k h).1)
     clear ho hb_y4;refine ⟨_,rfl,?_⟩
     refine hK.out (Act.put _ (some 53) _) y4 hS_y4 (fun _=> ?_)
     clear hK K
     simp only [Act.put,yA,yB,yC]
     refine tK 14 54 ?_ rfl rfl (by kernel_rfl) (fun _ _ _ h=>h) ⟨by rfl,?_⟩ hS_y4 ?_
     rotate_left
     ·(intro wx hSw;(try dsimp only at hSw);go_simp;try with_reducible rfl)
     (try simp only [yA,yB,yC])
     have hth:Hid (y4.there (w.heap.size+1) 0 (#[.bool true,.slice ak_y2 (t+1+(lk - t)) ck_y2,.slice av_y4 (t+1+(lk - t)) cv_y4,.slice none 0 0]:Array Value).size):=hide (zcp HR_y4.out 0 4 (show 0+4<=4 by decide))
     have HSt:=hide (zbp HR_y4.out #[.bool true,.slice ak_y2 (t+1+(lk - t)) ck_y2,.slice av_y4 (t+1+(lk - t)) cv_y4,.slice none 0 0] rfl)
     have HBs:=hide (zag (show w.heap.size<=w.heap.size+1 by omega) (#[.bool true,.slice ak_y2 (t+1+(lk - t)) ck_y2,.slice av_y4 (t+1+(lk - t)) cv_y4,.slice none 0 0]:Array Value).toList 0 y4 HB_y4.out)
     have hS3a:∀k,k≠w.heap.size+1->k<y4.heap.size->(y4.setCells (w.heap.size+1) 0 (#[.bool true,.slice ak_y2 (t+1+(lk - t)) ck_y2,.slice av_y4 (t+1+(lk - t)) cv_y4,.slice none 0 0]:Array Value).toList).heap[k]?=y4.heap[k]?:=fun k h1 h2=>World.heap_setCells_other y4 (w.heap.size+1) 0 _ h2 h1
     have HOk:=hide (za7 (w':=y4.setCells (w.heap.size+1) 0 (#[.bool true,.slice ak_y2 (t+1+(lk - t)) ck_y2,.slice av_y4 (t+1+(lk - t)) cv_y4,.slice none 0 0]:Array Value).toList) (S:=fun k=>k=w.heap.size+1) HVk_y4.out ⟨World.os_setCells _ _ _ _,(zag (B:=w.heap.size+1) (W0:=y4) (Nat.le_refl _) (#[.bool true,.slice ak_y2 (t+1+(lk - t)) ck_y2,.slice av_y4 (t+1+(lk - t)) cv_y4,.slice none 0 0]:Array Value).toList 0 y4 (Below.refl _ _)).tape,World.output_setCells _ _ _ _,by rw [zaA];exact Nat.le_refl _,fun k h1 h2=>hS3a k h2 h1⟩ (fun k hk e=>by have:=HLk_y2.out k hk;have:=HZk_y2.out;omega))
     have HOv:=hide (za7 (w':=y4.setCells (w.heap.size+1) 0 (#[.bool true,.slice ak_y2 (t+1+(lk - t)) ck_y2,.slice av_y4 (t+1+(lk - t)) cv_y4,.slice none 0 0]:Array Value).toList) (S:=fun k=>k=w.heap.size+1) HVv_y4.out ⟨World.os_setCells _ _ _ _,(zag (B:=w.heap.size+1) (W0:=y4) (Nat.le_refl _) (#[.bool true,.slice ak_y2 (t+1+(lk - t)) ck_y2,.slice av_y4 (t+1+(lk - t)) cv_y4,.slice none 0 0]:Array Value).toList 0 y4 (Below.refl _ _)).tape,World.output_setCells _ _ _ _,by rw [zaA];exact Nat.le_refl _,fun k h1 h2=>hS3a k h2 h1⟩ (fun k hk e=>by have:=HLv_y4.out k hk;have:=HZv_y4.out;omega))
     obtain ⟨w9,hw9⟩:∃y,y=y4.setCells (w.heap.size+1) 0 (#[.bool true,.slice ak_y2 (t+1+(lk - t)) ck_y2,.slice av_y4 (t+1+(lk - t)) cv_y4,.slice none 0 0]:Array Value).toList:=⟨_,rfl⟩;rw [<-hw9] at HSt HBs HOk HOv hS3a
     have hS9:(fun wx=>wx.heap[w.heap.size]?=some (Obj.cells #[.int .i64 p,.bool true,.slice (some ⟨gk,0,none⟩) lk ck,.slice av lk cv,.slice ac nc cc,.int .i64 (a:Int)] 97 (0,0))/\wx.heap[w.heap.size+1+1]?=some (Obj.cells #[.bool true,.slice (some ⟨gk,0,none⟩) lk ck,.slice av lk cv,.slice ac nc cc] 71 (0,0))) w9:=⟨(hS3a _ (by omega) (Array.getElem?_eq_some_iff.1 hS_y4.1).1).trans hS_y4.1,(hS3a _ (by omega) (Array.getElem?_eq_some_iff.1 hS_y4.2).1).trans hS_y4.2⟩
     have HW9:=hide hw9.symm;clear hw9 hS3a
     refine wpAnyH_ready (rs:= [15]) (by kernel_rfl) (by simp) ?_
     refine AllReadyH.cons rfl (fun K hK=> ?_) AllReadyH.nil
     refine zb8 ?_ 71 (.tmp 6) (.tmp 54) ?_ (w.heap.size+1) 0 #[.bool true,.slice ak_y2 (t+1+(lk - t)) ck_y2,.slice av_y4 (t+1+(lk - t)) cv_y4,.slice none 0 0] ?_ ?_ hth.out ?_ ?_ HW9.out ?_
     ·exact rfl
     ·exact rfl
     ·exact rfl
     ·exact rfl
     ·exact Tryz.sizeNodeP
     ·exact rfl
     refine hK.out (Act.put _ none _) w9 hS9 (fun _=> ?_)
     clear hK K
     simp only [Act.put]
     refine wpAnyH_done (by kernel_rfl) ?_ _
     go_wp2_with fail;refine bodyPost_ret (v:= .agg #[.bool true,.slice ak_y2 (t+1+(lk - t)) ck_y2,.slice av_y4 (t+1+(lk - t)) cv_y4,.slice none 0 0]) (zbe Tryz.results59 rfl (zcr (zb0 HSt.out) Tryz.underlying71 rfl Tryz.sizeNodeP)) rfl ?_;refine ⟨_,rfl,⟨_,_,_,rfl,?_,?_,World.ownsRow_nil _ _ _ _⟩,HBs.out⟩
     ·rw [HKv.out.1,HKv.out.2.1];exact HOk.out
     ·rw [HKv.out.2.2.1,HKv.out.2.2.2];exact HOv.out
    ·have hb_y5:Below y1.heap.size y1 (y1.alloc (Obj.cells #[.string val] 9)):=(Below.refl _ _).alloc (Nat.le_refl _) _
     have ha_y5:=row_one y1 (.string val) 9
     go_simp
     obtain ⟨y5,hw_y5⟩:∃z,z=y1.alloc (Obj.cells #[.string val] 9):=⟨_,rfl⟩;obtain ⟨gv_y5,hg_y5⟩:∃z,z=y1.heap.size:=⟨_,rfl⟩;rw [<-hw_y5] at hb_y5 ha_y5⊢;rw [<-hg_y5] at ha_y5⊢
     have hS_y5:(fun wx=>wx.heap[w.heap.size]?=some (Obj.cells #[.int .i64 p,.bool true,.slice (some ⟨gk,0,none⟩) lk ck,.slice av lk cv,.slice ac nc cc,.int .i64 (a:Int)] 97 (0,0))/\wx.heap[w.heap.size+1+1]?=some (Obj.cells #[.bool true,.slice (some ⟨gk,0,none⟩) lk ck,.slice av lk cv,.slice ac nc cc] 71 (0,0))) y5:=⟨(hb_y5.block _ (Array.getElem?_eq_some_iff.1 hS_y1.1).1).trans hS_y1.1,(hb_y5.block _ (Array.getElem?_eq_some_iff.1 hS_y1.2).1).trans hS_y1.2⟩
     have HR_y5:Hid (y5.heap[w.heap.size+1]?=some (.cells #[.bool false,.slice none 0 0,.slice none 0 0,.slice none 0 0] 71 (0,0))):=hide ((hb_y5.block _ (Array.getElem?_eq_some_iff.1 HR_y1.out).1).trans HR_y1.out);have HB_y5:Hid (Below w.heap.size w y5):=hide (HB_y1.out.trans (hb_y5.mono HB_y1.out.size));have HAk_y5:=hide (za1 HAk_y1.out hb_y5);have HAv_y5:=hide ha_y5;clear hw_y5 ha_y5 hg_y5 hb_y5
     refine hK.out _ y5 hS_y5 (fun _=> ?_)
     clear hK K
     refine wpAnyH_ready (rs:= [6]) (by kernel_rfl) (by simp) ?_
     refine AllReadyH.cons rfl (fun K hK=> ?_) AllReadyH.nil
     refine zaB y5 ?_ 85 Tryz.f85 Tryz.func85 ?_ ?_ (.tmp 41) (.tmp 42) (.tmp 43) (.tmp 45) #[26,3,3,26] ?_ (.slice (some ⟨gk,0,none⟩) lk ck) (.int .i64 (t:Int)) (.int .i64 (t:Int)) (.slice (some ⟨gk_y1,0,none⟩) 1 1) ?_ ?_ ?_ ?_ _ (HWk.out y5 _ _ HB_y5.out HAk_y5.out _ _ rfl) ?_
     ·exact rfl
     ·decide
     ·exact Option.some_ne_none _
     ·exact rfl
     ·exact rfl
     ·exact rfl
     ·exact rfl
     ·exact rfl
     rintro e y6 ⟨uy6,rfl,ho,hb_y6⟩;obtain ⟨ak_y6,ck_y6,rfl⟩:=za4 ho
     have hS_y6:(fun wx=>wx.heap[w.heap.size]?=some (Obj.cells #[.int .i64 p,.bool true,.slice (some ⟨gk,0,none⟩) lk ck,.slice av lk cv,.slice ac nc cc,.int .i64 (a:Int)] 97 (0,0))/\wx.heap[w.heap.size+1+1]?=some (Obj.cells #[.bool true,.slice (some ⟨gk,0,none⟩) lk ck,.slice av lk cv,.slice ac nc cc] 71 (0,0))) y6:=⟨(hb_y6.block _ (Array.getElem?_eq_some_iff.1 hS_y5.1).1).trans hS_y5.1,(hb_y6.block _ (Array.getElem?_eq_some_iff.1 hS_y5.2).1).trans hS_y5.2⟩
     have HR_y6:Hid (y6.heap[w.heap.size+1]?=some (.cells #[.bool false,.slice none 0 0,.slice none 0 0,.slice none 0 0] 71 (0,0))):=hide ((hb_y6.block _ (Array.getElem?_eq_some_iff.1 HR_y5.out).1).trans HR_y5.out);have HB_y6:Hid (Below w.heap.size w y6):=hide (HB_y5.out.trans (hb_y6.mono HB_y5.out.size));have HAk_y6:=hide (za1 HAk_y5.out hb_y6);have HAv_y6:=hide (za1 HAv_y5.out hb_y6);have HVk_y6:=hide (zaa ho (Nat.le_trans hB HB_y5.out.size));have HZk_y6:Hid (w.heap.size+1<y5.heap.size):=hide (Array.getElem?_eq_some_iff.1 HR_y5.out).1
     have HLk_y6:=hide (fun k h=>(ho.lt k h).1)
     clear ho hb_y6;refine ⟨_,rfl,?_⟩
     refine hK.out (Act.put _ (some 46) _) y6 hS_y6 (fun _=> ?_)
     clear hK K
     simp only [Act.put,yA,yB,yC]
     refine wpAnyH_ready (rs:= [13]) (by kernel_rfl) (by simp) ?_
     refine AllReadyH.cons rfl (fun K hK=> ?_) AllReadyH.nil
     refine zaB y6 ?_ 85 Tryz.f85 Tryz.func85 ?_ ?_ (.tmp 48) (.tmp 49) (.tmp 50) (.tmp 52) #[26,3,3,26] ?_ (.slice av lk cv) (.int .i64 (t:Int)) (.int .i64 (t:Int)) (.slice (some ⟨gv_y5,0,none⟩) 1 1) ?_ ?_ ?_ ?_ _ (HWv.out y6 _ _ HB_y6.out HAv_y6.out _ _ rfl) ?_
     ·exact rfl
     ·decide
     ·exact Option.some_ne_none _
     ·exact rfl
     ·exact rfl
     ·exact rfl
     ·exact rfl
     ·exact rfl
     rintro e y7 ⟨uy7,rfl,ho,hb_y7⟩;obtain ⟨av_y7,cv_y7,rfl⟩:=za4 ho
     have hS_y7:(fun wx=>wx.heap[w.heap.size]?=some (Obj.cells #[.int .i64 p,.bool true,.slice (some ⟨gk,0,none⟩) lk ck,.slice av lk cv,.slice ac nc cc,.int .i64 (a:Int)] 97 (0,0))/\wx.heap[w.heap.size+1+1]?=some (Obj.cells #[.bool true,.slice (some ⟨gk,0,none⟩) lk ck,.slice av lk cv,.slice ac nc cc] 71 (0,0))) y7:=⟨(hb_y7.block _ (Array.getElem?_eq_some_iff.1 hS_y6.1).1).trans hS_y6.1,(hb_y7.block _ (Array.getElem?_eq_some_iff.1 hS_y6.2).1).trans hS_y6.2⟩
     have HR_y7:Hid (y7.heap[w.heap.size+1]?=some (.cells #[.bool false,.slice none 0 0,.slice none 0 0,.slice none 0 0] 71 (0,0))):=hide ((hb_y7.block _ (Array.getElem?_eq_some_iff.1 HR_y6.out).1).trans HR_y6.out);have HB_y7:Hid (Below w.heap.size w y7):=hide (HB_y6.out.trans (hb_y7.mono HB_y6.out.size));have HAk_y7:=hide (za1 HAk_y6.out hb_y7);have HAv_y7:=hide (za1 HAv_y6.out hb_y7);have HVk_y7:=hide (za6 HVk_y6.out hb_y7);have HVv_y7:=hide (zaa ho (Nat.le_trans hB HB_y6.out.size));have HZv_y7:Hid (w.heap.size+1<y6.heap.size):=hide (Array.getElem?_eq_some_iff.1 HR_y6.out).1
     have HLv_y7:=hide (fun k h=>(ho.lt k h).1)
     clear ho hb_y7;refine ⟨_,rfl,?_⟩
     refine hK.out (Act.put _ (some 53) _) y7 hS_y7 (fun _=> ?_)
     clear hK K
     simp only [Act.put,yA,yB,yC]
     refine tK 14 54 ?_ rfl rfl (by kernel_rfl) (fun _ _ _ h=>h) ⟨by rfl,?_⟩ hS_y7 ?_
     rotate_left
     ·(intro wx hSw;(try dsimp only at hSw);go_simp;try with_reducible rfl)
     (try simp only [yA,yB,yC])
     have hth:Hid (y7.there (w.heap.size+1) 0 (#[.bool true,.slice ak_y6 (t+1+(lk - t)) ck_y6,.slice av_y7 (t+1+(lk - t)) cv_y7,.slice none 0 0]:Array Value).size):=hide (zcp HR_y7.out 0 4 (show 0+4<=4 by decide))
     have HSt:=hide (zbp HR_y7.out #[.bool true,.slice ak_y6 (t+1+(lk - t)) ck_y6,.slice av_y7 (t+1+(lk - t)) cv_y7,.slice none 0 0] rfl)
     have HBs:=hide (zag (show w.heap.size<=w.heap.size+1 by omega) (#[.bool true,.slice ak_y6 (t+1+(lk - t)) ck_y6,.slice av_y7 (t+1+(lk - t)) cv_y7,.slice none 0 0]:Array Value).toList 0 y7 HB_y7.out)
     have hS3a:∀k,k≠w.heap.size+1->k<y7.heap.size->(y7.setCells (w.heap.size+1) 0 (#[.bool true,.slice ak_y6 (t+1+(lk - t)) ck_y6,.slice av_y7 (t+1+(lk - t)) cv_y7,.slice none 0 0]:Array Value).toList).heap[k]?=y7.heap[k]?:=fun k h1 h2=>World.heap_setCells_other y7 (w.heap.size+1) 0 _ h2 h1
     have HOk:=hide (za7 (w':=y7.setCells (w.heap.size+1) 0 (#[.bool true,.slice ak_y6 (t+1+(lk - t)) ck_y6,.slice av_y7 (t+1+(lk - t)) cv_y7,.slice none 0 0]:Array Value).toList) (S:=fun k=>k=w.heap.size+1) HVk_y7.out ⟨World.os_setCells _ _ _ _,(zag (B:=w.heap.size+1) (W0:=y7) (Nat.le_refl _) (#[.bool true,.slice ak_y6 (t+1+(lk - t)) ck_y6,.slice av_y7 (t+1+(lk - t)) cv_y7,.slice none 0 0]:Array Value).toList 0 y7 (Below.refl _ _)).tape,World.output_setCells _ _ _ _,by rw [zaA];exact Nat.le_refl _,fun k h1 h2=>hS3a k h2 h1⟩ (fun k hk e=>by have:=HLk_y6.out k hk;have:=HZk_y6.out;omega))
     have HOv:=hide (za7 (w':=y7.setCells (w.heap.size+1) 0 (#[.bool true,.slice ak_y6 (t+1+(lk - t)) ck_y6,.slice av_y7 (t+1+(lk - t)) cv_y7,.slice none 0 0]:Array Value).toList) (S:=fun k=>k=w.heap.size+1) HVv_y7.out ⟨World.os_setCells _ _ _ _,(zag (B:=w.heap.size+1) (W0:=y7) (Nat.le_refl _) (#[.bool true,.slice ak_y6 (t+1+(lk - t)) ck_y6,.slice av_y7 (t+1+(lk - t)) cv_y7,.slice none 0 0]:Array Value).toList 0 y7 (Below.refl _ _)).tape,World.output_setCells _ _ _ _,by rw [zaA];exact Nat.le_refl _,fun k h1 h2=>hS3a k h2 h1⟩ (fun k hk e=>by have:=HLv_y7.out k hk;have:=HZv_y7.out;omega))
     obtain ⟨w9,hw9⟩:∃y,y=y7.setCells (w.heap.size+1) 0 (#[.bool true,.slice ak_y6 (t+1+(lk - t)) ck_y6,.slice av_y7 (t+1+(lk - t)) cv_y7,.slice none 0 0]:Array Value).toList:=⟨_,rfl⟩;rw [<-hw9] at HSt HBs HOk HOv hS3a
     have hS9:(fun wx=>wx.heap[w.heap.size]?=some (Obj.cells #[.int .i64 p,.bool true,.slice (some ⟨gk,0,none⟩) lk ck,.slice av lk cv,.slice ac nc cc,.int .i64 (a:Int)] 97 (0,0))/\wx.heap[w.heap.size+1+1]?=some (Obj.cells #[.bool true,.slice (some ⟨gk,0,none⟩) lk ck,.slice av lk cv,.slice ac nc cc] 71 (0,0))) w9:=⟨(hS3a _ (by omega) (Array.getElem?_eq_some_iff.1 hS_y7.1).1).trans hS_y7.1,(hS3a _ (by omega) (Array.getElem?_eq_some_iff.1 hS_y7.2).1).trans hS_y7.2⟩
     have HW9:=hide hw9.symm;clear hw9 hS3a
     refine wpAnyH_ready (rs:= [15]) (by kernel_rfl) (by simp) ?_
     refine AllReadyH.cons rfl (fun K hK=> ?_) AllReadyH.nil
     refine zb8 ?_ 71 (.tmp 6) (.tmp 54) ?_ (w.heap.size+1) 0 #[.bool true,.slice ak_y6 (t+1+(lk - t)) ck_y6,.slice av_y7 (t+1+(lk - t)) cv_y7,.slice none 0 0] ?_ ?_ hth.out ?_ ?_ HW9.out ?_
     ·exact rfl
     ·exact rfl
     ·exact rfl
     ·exact rfl
     ·exact Tryz.sizeNodeP
     ·exact rfl
     refine hK.out (Act.put _ none _) w9 hS9 (fun _=> ?_)
     clear hK K
     simp only [Act.put]
     refine wpAnyH_done (by kernel_rfl) ?_ _
     go_wp2_with fail;refine bodyPost_ret (v:= .agg #[.bool true,.slice ak_y6 (t+1+(lk - t)) ck_y6,.slice av_y7 (t+1+(lk - t)) cv_y7,.slice none 0 0]) (zbe Tryz.results59 rfl (zcr (zb0 HSt.out) Tryz.underlying71 rfl Tryz.sizeNodeP)) rfl ?_;refine ⟨_,rfl,⟨_,_,_,rfl,?_,?_,World.ownsRow_nil _ _ _ _⟩,HBs.out⟩
     ·rw [HKv.out.1,HKv.out.2.1];exact HOk.out
     ·rw [HKv.out.2.2.1,HKv.out.2.2.2];exact HOv.out
   ·have hb_y8:Below wd.heap.size wd (wd.alloc (Obj.cells #[.string val] 9)):=(Below.refl _ _).alloc (Nat.le_refl _) _
    have ha_y8:=row_one wd (.string val) 9
    go_simp
    obtain ⟨y8,hw_y8⟩:∃z,z=wd.alloc (Obj.cells #[.string val] 9):=⟨_,rfl⟩;obtain ⟨gv_y8,hg_y8⟩:∃z,z=wd.heap.size:=⟨_,rfl⟩;rw [<-hw_y8] at hb_y8 ha_y8⊢;rw [<-hg_y8] at ha_y8⊢
    have hS_y8:(fun wx=>wx.heap[w.heap.size]?=some (Obj.cells #[.int .i64 p,.bool true,.slice (some ⟨gk,0,none⟩) lk ck,.slice av lk cv,.slice ac nc cc,.int .i64 (a:Int)] 97 (0,0))/\wx.heap[w.heap.size+1+1]?=some (Obj.cells #[.bool true,.slice (some ⟨gk,0,none⟩) lk ck,.slice av lk cv,.slice ac nc cc] 71 (0,0))) y8:=⟨(hb_y8.block _ (Array.getElem?_eq_some_iff.1 hS_wd.1).1).trans hS_wd.1,(hb_y8.block _ (Array.getElem?_eq_some_iff.1 hS_wd.2).1).trans hS_wd.2⟩
    have HR_y8:Hid (y8.heap[w.heap.size+1]?=some (.cells #[.bool false,.slice none 0 0,.slice none 0 0,.slice none 0 0] 71 (0,0))):=hide ((hb_y8.block _ (Array.getElem?_eq_some_iff.1 HR_wd.out).1).trans HR_wd.out);have HB_y8:Hid (Below w.heap.size w y8):=hide (HB_wd.out.trans (hb_y8.mono HB_wd.out.size));have HAv_y8:=hide ha_y8;clear hw_y8 ha_y8 hg_y8 hb_y8
    refine hK.out _ y8 hS_y8 (fun _=> ?_)
    clear hK K
    refine wpAnyH_ready (rs:= [5]) (by kernel_rfl) (by simp) ?_
    refine AllReadyH.cons rfl (fun K hK=> ?_) AllReadyH.nil
    have hb_y9:Below y8.heap.size y8 (y8.alloc (Obj.cells #[.string key] 9)):=(Below.refl _ _).alloc (Nat.le_refl _) _;have ha_y9:=row_one y8 (.string key) 9
    go_simp
    obtain ⟨y9,hw_y9⟩:∃z,z=y8.alloc (Obj.cells #[.string key] 9):=⟨_,rfl⟩;obtain ⟨gk_y9,hg_y9⟩:∃z,z=y8.heap.size:=⟨_,rfl⟩;rw [<-hw_y9] at hb_y9 ha_y9⊢;rw [<-hg_y9] at ha_y9⊢
    have hS_y9:(fun wx=>wx.heap[w.heap.size]?=some (Obj.cells #[.int .i64 p,.bool true,.slice (some ⟨gk,0,none⟩) lk ck,.slice av lk cv,.slice ac nc cc,.int .i64 (a:Int)] 97 (0,0))/\wx.heap[w.heap.size+1+1]?=some (Obj.cells #[.bool true,.slice (some ⟨gk,0,none⟩) lk ck,.slice av lk cv,.slice ac nc cc] 71 (0,0))) y9:=⟨(hb_y9.block _ (Array.getElem?_eq_some_iff.1 hS_y8.1).1).trans hS_y8.1,(hb_y9.block _ (Array.getElem?_eq_some_iff.1 hS_y8.2).1).trans hS_y8.2⟩
    have HR_y9:Hid (y9.heap[w.heap.size+1]?=some (.cells #[.bool false,.slice none 0 0,.slice none 0 0,.slice none 0 0] 71 (0,0))):=hide ((hb_y9.block _ (Array.getElem?_eq_some_iff.1 HR_y8.out).1).trans HR_y8.out);have HB_y9:Hid (Below w.heap.size w y9):=hide (HB_y8.out.trans (hb_y9.mono HB_y8.out.size));have HAv_y9:=hide (za1 HAv_y8.out hb_y9);have HAk_y9:=hide ha_y9;clear hw_y9 ha_y9 hg_y9 hb_y9
    refine hK.out _ y9 hS_y9 (fun _=> ?_)
    clear hK K
    refine wpAnyH_ready (rs:= [6]) (by kernel_rfl) (by simp) ?_
    refine AllReadyH.cons rfl (fun K hK=> ?_) AllReadyH.nil
    refine zaB y9 ?_ 85 Tryz.f85 Tryz.func85 ?_ ?_ (.tmp 41) (.tmp 42) (.tmp 43) (.tmp 45) #[26,3,3,26] ?_ (.slice (some ⟨gk,0,none⟩) lk ck) (.int .i64 (t:Int)) (.int .i64 (t:Int)) (.slice (some ⟨gk_y9,0,none⟩) 1 1) ?_ ?_ ?_ ?_ _ (HWk.out y9 _ _ HB_y9.out HAk_y9.out _ _ rfl) ?_
    ·exact rfl
    ·decide
    ·exact Option.some_ne_none _
    ·exact rfl
    ·exact rfl
    ·exact rfl
    ·exact rfl
    ·exact rfl
    rintro e y10 ⟨uy10,rfl,ho,hb_y10⟩;obtain ⟨ak_y10,ck_y10,rfl⟩:=za4 ho
    have hS_y10:(fun wx=>wx.heap[w.heap.size]?=some (Obj.cells #[.int .i64 p,.bool true,.slice (some ⟨gk,0,none⟩) lk ck,.slice av lk cv,.slice ac nc cc,.int .i64 (a:Int)] 97 (0,0))/\wx.heap[w.heap.size+1+1]?=some (Obj.cells #[.bool true,.slice (some ⟨gk,0,none⟩) lk ck,.slice av lk cv,.slice ac nc cc] 71 (0,0))) y10:=⟨(hb_y10.block _ (Array.getElem?_eq_some_iff.1 hS_y9.1).1).trans hS_y9.1,(hb_y10.block _ (Array.getElem?_eq_some_iff.1 hS_y9.2).1).trans hS_y9.2⟩
    have HR_y10:Hid (y10.heap[w.heap.size+1]?=some (.cells #[.bool false,.slice none 0 0,.slice none 0 0,.slice none 0 0] 71 (0,0))):=hide ((hb_y10.block _ (Array.getElem?_eq_some_iff.1 HR_y9.out).1).trans HR_y9.out);have HB_y10:Hid (Below w.heap.size w y10):=hide (HB_y9.out.trans (hb_y10.mono HB_y9.out.size));have HAv_y10:=hide (za1 HAv_y9.out hb_y10);have HAk_y10:=hide (za1 HAk_y9.out hb_y10);have HVk_y10:=hide (zaa ho (Nat.le_trans hB HB_y9.out.size));have HZk_y10:Hid (w.heap.size+1<y9.heap.size):=hide (Array.getElem?_eq_some_iff.1 HR_y9.out).1
    have HLk_y10:=hide (fun k h=>(ho.lt k h).1)
    clear ho hb_y10;refine ⟨_,rfl,?_⟩
    refine hK.out (Act.put _ (some 46) _) y10 hS_y10 (fun _=> ?_)
    clear hK K
    simp only [Act.put,yA,yB,yC]
    refine wpAnyH_ready (rs:= [13]) (by kernel_rfl) (by simp) ?_
    refine AllReadyH.cons rfl (fun K hK=> ?_) AllReadyH.nil
    refine zaB y10 ?_ 85 Tryz.f85 Tryz.func85 ?_ ?_ (.tmp 48) (.tmp 49) (.tmp 50) (.tmp 52) #[26,3,3,26] ?_ (.slice av lk cv) (.int .i64 (t:Int)) (.int .i64 (t:Int)) (.slice (some ⟨gv_y8,0,none⟩) 1 1) ?_ ?_ ?_ ?_ _ (HWv.out y10 _ _ HB_y10.out HAv_y10.out _ _ rfl) ?_
    ·exact rfl
    ·decide
    ·exact Option.some_ne_none _
    ·exact rfl
    ·exact rfl
    ·exact rfl
    ·exact rfl
    ·exact rfl
    rintro e y11 ⟨uy11,rfl,ho,hb_y11⟩;obtain ⟨av_y11,cv_y11,rfl⟩:=za4 ho
    have hS_y11:(fun wx=>wx.heap[w.heap.size]?=some (Obj.cells #[.int .i64 p,.bool true,.slice (some ⟨gk,0,none⟩) lk ck,.slice av lk cv,.slice ac nc cc,.int .i64 (a:Int)] 97 (0,0))/\wx.heap[w.heap.size+1+1]?=some (Obj.cells #[.bool true,.slice (some ⟨gk,0,none⟩) lk ck,.slice av lk cv,.slice ac nc cc] 71 (0,0))) y11:=⟨(hb_y11.block _ (Array.getElem?_eq_some_iff.1 hS_y10.1).1).trans hS_y10.1,(hb_y11.block _ (Array.getElem?_eq_some_iff.1 hS_y10.2).1).trans hS_y10.2⟩
    have HR_y11:Hid (y11.heap[w.heap.size+1]?=some (.cells #[.bool false,.slice none 0 0,.slice none 0 0,.slice none 0 0] 71 (0,0))):=hide ((hb_y11.block _ (Array.getElem?_eq_some_iff.1 HR_y10.out).1).trans HR_y10.out);have HB_y11:Hid (Below w.heap.size w y11):=hide (HB_y10.out.trans (hb_y11.mono HB_y10.out.size));have HAv_y11:=hide (za1 HAv_y10.out hb_y11);have HAk_y11:=hide (za1 HAk_y10.out hb_y11);have HVk_y11:=hide (za6 HVk_y10.out hb_y11);have HVv_y11:=hide (zaa ho (Nat.le_trans hB HB_y10.out.size));have HZv_y11:Hid (w.heap.size+1<y10.heap.size):=hide (Array.getElem?_eq_some_iff.1 HR_y10.out).1
    have HLv_y11:=hide (fun k h=>(ho.lt k h).1)
    clear ho hb_y11;refine ⟨_,rfl,?_⟩
    refine hK.out (Act.put _ (some 53) _) y11 hS_y11 (fun _=> ?_)
    clear hK K
    simp only [Act.put,yA,yB,yC]
    refine tK 14 54 ?_ rfl rfl (by kernel_rfl) (fun _ _ _ h=>h) ⟨by rfl,?_⟩ hS_y11 ?_
    rotate_left
    ·(intro wx hSw;(try dsimp only at hSw);go_simp;try with_reducible rfl)
    (try simp only [yA,yB,yC])
    have hth:Hid (y11.there (w.heap.size+1) 0 (#[.bool true,.slice ak_y10 (t+1+(lk - t)) ck_y10,.slice av_y11 (t+1+(lk - t)) cv_y11,.slice none 0 0]:Array Value).size):=hide (zcp HR_y11.out 0 4 (show 0+4<=4 by decide))
    have HSt:=hide (zbp HR_y11.out #[.bool true,.slice ak_y10 (t+1+(lk - t)) ck_y10,.slice av_y11 (t+1+(lk - t)) cv_y11,.slice none 0 0] rfl)
    have HBs:=hide (zag (show w.heap.size<=w.heap.size+1 by omega) (#[.bool true,.slice ak_y10 (t+1+(lk - t)) ck_y10,.slice av_y11 (t+1+(lk - t)) cv_y11,.slice none 0 0]:Array Value).toList 0 y11 HB_y11.out)
    have hS3a:∀k,k≠w.heap.size+1->k<y11.heap.size->(y11.setCells (w.heap.size+1) 0 (#[.bool true,.slice ak_y10 (t+1+(lk - t)) ck_y10,.slice av_y11 (t+1+(lk - t)) cv_y11,.slice none 0 0]:Array Value).toList).heap[k]?=y11.heap[k]?:=fun k h1 h2=>World.heap_setCells_other y11 (w.heap.size+1) 0 _ h2 h1
    have HOk:=hide (za7 (w':=y11.setCells (w.heap.size+1) 0 (#[.bool true,.slice ak_y10 (t+1+(lk - t)) ck_y10,.slice av_y11 (t+1+(lk - t)) cv_y11,.slice none 0 0]:Array Value).toList) (S:=fun k=>k=w.heap.size+1) HVk_y11.out ⟨World.os_setCells _ _ _ _,(zag (B:=w.heap.size+1) (W0:=y11) (Nat.le_refl _) (#[.bool true,.slice ak_y10 (t+1+(lk - t)) ck_y10,.slice av_y11 (t+1+(lk - t)) cv_y11,.slice none 0 0]:Array Value).toList 0 y11 (Below.refl _ _)).tape,World.output_setCells _ _ _ _,by rw [zaA];exact Nat.le_refl _,fun k h1 h2=>hS3a k h2 h1⟩ (fun k hk e=>by have:=HLk_y10.out k hk;have:=HZk_y10.out;omega))
    have HOv:=hide (za7 (w':=y11.setCells (w.heap.size+1) 0 (#[.bool true,.slice ak_y10 (t+1+(lk - t)) ck_y10,.slice av_y11 (t+1+(lk - t)) cv_y11,.slice none 0 0]:Array Value).toList) (S:=fun k=>k=w.heap.size+1) HVv_y11.out ⟨World.os_setCells _ _ _ _,(zag (B:=w.heap.size+1) (W0:=y11) (Nat.le_refl _) (#[.bool true,.slice ak_y10 (t+1+(lk - t)) ck_y10,.slice av_y11 (t+1+(lk - t)) cv_y11,.slice none 0 0]:Array Value).toList 0 y11 (Below.refl _ _)).tape,World.output_setCells _ _ _ _,by rw [zaA];exact Nat.le_refl _,fun k h1 h2=>hS3a k h2 h1⟩ (fun k hk e=>by have:=HLv_y11.out k hk;have:=HZv_y11.out;omega))
    obtain ⟨w9,hw9⟩:∃y,y=y11.setCells (w.heap.size+1) 0 (#[.bool true,.slice ak_y10 (t+1+(lk - t)) ck_y10,.slice av_y11 (t+1+(lk - t)) cv_y11,.slice none 0 0]:Array Value).toList:=⟨_,rfl⟩;rw [<-hw9] at HSt HBs HOk HOv hS3a
    have hS9:(fun wx=>wx.heap[w.heap.size]?=some (Obj.cells #[.int .i64 p,.bool true,.slice (some ⟨gk,0,none⟩) lk ck,.slice av lk cv,.slice ac nc cc,.int .i64 (a:Int)] 97 (0,0))/\wx.heap[w.heap.size+1+1]?=some (Obj.cells #[.bool true,.slice (some ⟨gk,0,none⟩) lk ck,.slice av lk cv,.slice ac nc cc] 71 (0,0))) w9:=⟨(hS3a _ (by omega) (Array.getElem?_eq_some_iff.1 hS_y11.1).1).trans hS_y11.1,(hS3a _ (by omega) (Array.getElem?_eq_some_iff.1 hS_y11.2).1).trans hS_y11.2⟩
    have HW9:=hide hw9.symm;clear hw9 hS3a
    refine wpAnyH_ready (rs:= [15]) (by kernel_rfl) (by simp) ?_
    refine AllReadyH.cons rfl (fun K hK=> ?_) AllReadyH.nil
    refine zb8 ?_ 71 (.tmp 6) (.tmp 54) ?_ (w.heap.size+1) 0 #[.bool true,.slice ak_y10 (t+1+(lk - t)) ck_y10,.slice av_y11 (t+1+(lk - t)) cv_y11,.slice none 0 0] ?_ ?_ hth.out ?_ ?_ HW9.out ?_
    ·exact rfl
    ·exact rfl
    ·exact rfl
    ·exact rfl
    ·exact Tryz.sizeNodeP
    ·exact rfl
    refine hK.out (Act.put _ none _) w9 hS9 (fun _=> ?_)
    clear hK K
    simp only [Act.put]
    refine wpAnyH_done (by kernel_rfl) ?_ _
    go_wp2_with fail;refine bodyPost_ret (v:= .agg #[.bool true,.slice ak_y10 (t+1+(lk - t)) ck_y10,.slice av_y11 (t+1+(lk - t)) cv_y11,.slice none 0 0]) (zbe Tryz.results59 rfl (zcr (zb0 HSt.out) Tryz.underlying71 rfl Tryz.sizeNodeP)) rfl ?_;refine ⟨_,rfl,⟨_,_,_,rfl,?_,?_,World.ownsRow_nil _ _ _ _⟩,HBs.out⟩
    ·rw [HKv.out.1,HKv.out.2.1];exact HOk.out
    ·rw [HKv.out.2.2.1,HKv.out.2.2.2];exact HOv.out
  ·have hlt:¬(0<=at_):=hat
   clear hsame hneg
   go_upto_region 5 with fail
   obtain ⟨wd,hwd⟩:∃z,z=w0.drew:=⟨_,rfl⟩
   have hS_wd:(fun wx=>wx.heap[w.heap.size]?=some (Obj.cells #[.int .i64 p,.bool true,.slice ak lk ck,.slice av lk cv,.slice ac nc cc,.int .i64 at_] 97 (0,0))/\wx.heap[w.heap.size+1+1]?=some (Obj.cells #[.bool true,.slice ak lk ck,.slice av lk cv,.slice ac nc cc] 71 (0,0))) wd:=by rw [hwd];exact ⟨HL0.out,HN0.out⟩
   have HR_wd:Hid (wd.heap[w.heap.size+1]?=some (.cells #[.bool false,.slice none 0 0,.slice none 0 0,.slice none 0 0] 71 (0,0))):=hide (by rw [hwd];exact HR0.out)
   have HB_wd:Hid (Below w.heap.size w wd):=hide (by rw [hwd];exact HB0.out.drew)
   refine wp_region_held_drew (S:=(fun wx=>wx.heap[w.heap.size]?=some (Obj.cells #[.int .i64 p,.bool true,.slice ak lk ck,.slice av lk cv,.slice ac nc cc,.int .i64 at_] 97 (0,0))/\wx.heap[w.heap.size+1+1]?=some (Obj.cells #[.bool true,.slice ak lk ck,.slice av lk cv,.slice ac nc cc] 71 (0,0)))) (by kernel_rfl) (by rw [<-hwd];exact hS_wd) (fun _=> ?_)
   rw [<-hwd];clear hwd
   refine tK 0 40 ?_ rfl rfl (by kernel_rfl) (fun _ _ _ h=>h) ⟨by rfl,?_⟩ hS_wd ?_
   rotate_left
   ·(intro wx hSw;(try dsimp only at hSw);have m1:=(za0 hSw.2 1).1;have m2:=(za0 hSw.2 2).1;go_simp;try with_reducible rfl)
   (try simp only [yA,yB,yC])
   refine tK 1 41 ?_ rfl rfl (by kernel_rfl) (fun _ _ _ h=>h) ⟨by rfl,?_⟩ hS_wd ?_
   rotate_left
   ·(intro wx hSw;(try dsimp only at hSw);have m1:=(za0 hSw.2 1).1;have m2:=(za0 hSw.2 2).1;go_simp;try with_reducible rfl)
   (try simp only [yA,yB,yC])
   refine tK 2 42 ?_ rfl rfl (by kernel_rfl) (fun _ _ _ h=>h) ⟨by rfl,?_⟩ hS_wd ?_
   rotate_left
   ·(intro wx hSw;(try dsimp only at hSw);have m1:=(za0 hSw.2 1).1;have m2:=(za0 hSw.2 2).1;go_simp;try with_reducible rfl)
   (try simp only [yA,yB,yC])
   refine tK 3 43 ?_ rfl rfl (by kernel_rfl) (fun _ _ _ h=>h) ⟨by rfl,?_⟩ hS_wd ?_
   rotate_left
   ·(intro wx hSw;(try dsimp only at hSw);have m1:=(za0 hSw.2 1).1;have m2:=(za0 hSw.2 2).1;go_simp;try with_reducible rfl)
   (try simp only [yA,yB,yC])
   refine tK 4 44 ?_ rfl rfl (by kernel_rfl) (fun _ _ _ h=>h) ⟨by rfl,?_⟩ hS_wd ?_
   rotate_left
   ·(intro wx hSw;(try dsimp only at hSw);have m1:=(za0 hSw.2 1).1;have m2:=(za0 hSw.2 2).1;go_simp;try with_reducible rfl)
   (try simp only [yA,yB,yC])
   refine tK 7 47 ?_ rfl rfl (by kernel_rfl) (fun _ _ _ h=>h) ⟨by rfl,?_⟩ hS_wd ?_
   rotate_left
   ·(intro wx hSw;(try dsimp only at hSw);have m1:=(za0 hSw.2 1).1;have m2:=(za0 hSw.2 2).1;go_simp;try with_reducible rfl)
   (try simp only [yA,yB,yC])
   refine tK 8 48 ?_ rfl rfl (by kernel_rfl) (fun _ _ _ h=>h) ⟨by rfl,?_⟩ hS_wd ?_
   rotate_left
   ·(intro wx hSw;(try dsimp only at hSw);have m1:=(za0 hSw.2 1).1;have m2:=(za0 hSw.2 2).1;go_simp;try with_reducible rfl)
   (try simp only [yA,yB,yC])
   refine tK 9 49 ?_ rfl rfl (by kernel_rfl) (fun _ _ _ h=>h) ⟨by rfl,?_⟩ hS_wd ?_
   rotate_left
   ·(intro wx hSw;(try dsimp only at hSw);have m1:=(za0 hSw.2 1).1;have m2:=(za0 hSw.2 2).1;go_simp;try with_reducible rfl)
   (try simp only [yA,yB,yC])
   refine tK 10 50 ?_ rfl rfl (by kernel_rfl) (fun _ _ _ h=>h) ⟨by rfl,?_⟩ hS_wd ?_
   rotate_left
   ·(intro wx hSw;(try dsimp only at hSw);have m1:=(za0 hSw.2 1).1;have m2:=(za0 hSw.2 2).1;go_simp;try with_reducible rfl)
   (try simp only [yA,yB,yC])
   refine tK 11 51 ?_ rfl rfl (by kernel_rfl) (fun _ _ _ h=>h) ⟨by rfl,?_⟩ hS_wd ?_
   rotate_left
   ·(intro wx hSw;(try dsimp only at hSw);have m1:=(za0 hSw.2 1).1;have m2:=(za0 hSw.2 2).1;go_simp;try with_reducible rfl)
   (try simp only [yA,yB,yC])
   refine wpAnyH_ready (rs:= [5,12]) (by kernel_rfl) (by simp) ?_
   refine AllReadyH.cons rfl (fun K hK=> ?_) (AllReadyH.cons rfl (fun K hK=> ?_) AllReadyH.nil)
   ·have hb_y1:Below wd.heap.size wd (wd.alloc (Obj.cells #[.string key] 9)):=(Below.refl _ _).alloc (Nat.le_refl _) _
    have ha_y1:=row_one wd (.string key) 9
    go_simp
    obtain ⟨y1,hw_y1⟩:∃z,z=wd.alloc (Obj.cells #[.string key] 9):=⟨_,rfl⟩;obtain ⟨gk_y1,hg_y1⟩:∃z,z=wd.heap.size:=⟨_,rfl⟩;rw [<-hw_y1] at hb_y1 ha_y1⊢;rw [<-hg_y1] at ha_y1⊢
    have hS_y1:(fun wx=>wx.heap[w.heap.size]?=some (Obj.cells #[.int .i64 p,.bool true,.slice ak lk ck,.slice av lk cv,.slice ac nc cc,.int .i64 at_] 97 (0,0))/\wx.heap[w.heap.size+1+1]?=some (Obj.cells #[.bool true,.slice ak lk ck,.slice av lk cv,.slice ac nc cc] 71 (0,0))) y1:=⟨(hb_y1.block _ (Array.getElem?_eq_some_iff.1 hS_wd.1).1).trans hS_wd.1,(hb_y1.block _ (Array.getElem?_eq_some_iff.1 hS_wd.2).1).trans hS_wd.2⟩
    have HR_y1:Hid (y1.heap[w.heap.size+1]?=some (.cells #[.bool false,.slice none 0 0,.slice none 0 0,.slice none 0 0] 71 (0,0))):=hide ((hb_y1.block _ (Array.getElem?_eq_some_iff.1 HR_wd.out).1).trans HR_wd.out);have HB_y1:Hid (Below w.heap.size w y1):=hide (HB_wd.out.trans (hb_y1.mono HB_wd.out.size));have HAk_y1:=hide ha_y1;clear hw_y1 ha_y1 hg_y1 hb_y1
    refine hK.out _ y1 hS_y1 (fun _=> ?_)
    clear hK K
    refine wpAnyH_ready (rs:= [6,12]) (by kernel_rfl) (by simp) ?_
    refine AllReadyH.cons rfl (fun K hK=> ?_) (AllReadyH.cons rfl (fun K hK=> ?_) AllReadyH.nil)
    ·refine zaB y1 ?_ 85 Tryz.f85 Tryz.func85 ?_ ?_ (.tmp 41) (.tmp 42) (.tmp 43) (.tmp 45) #[26,3,3,26] ?_ (.slice ak lk ck) (.int .i64 (t:Int)) (.int .i64 (t:Int)) (.slice (some ⟨gk_y1,0,none⟩) 1 1) ?_ ?_ ?_ ?_ _ (HWk.out y1 _ _ HB_y1.out HAk_y1.out _ _ rfl) ?_
     ·exact rfl
     ·decide
     ·exact Option.some_ne_none _
     ·exact rfl
     ·exact rfl
     ·exact rfl
     ·exact rfl
     ·exact rfl
     rintro e y2 ⟨uy2,rfl,ho,hb_y2⟩;obtain ⟨ak_y2,ck_y2,rfl⟩:=za4 ho
     have hS_y2:(fun wx=>wx.heap[w.heap.size]?=some (Obj.cells #[.int .i64 p,.bool true,.slice ak lk ck,.slice av lk cv,.slice ac nc cc,.int .i64 at_] 97 (0,0))/\wx.heap[w.heap.size+1+1]?=some (Obj.cells #[.bool true,.slice ak lk ck,.slice av lk cv,.slice ac nc cc] 71 (0,0))) y2:=⟨(hb_y2.block _ (Array.getElem?_eq_some_iff.1 hS_y1.1).1).trans hS_y1.1,(hb_y2.block _ (Array.getElem?_eq_some_iff.1 hS_y1.2).1).trans hS_y1.2⟩
     have HR_y2:Hid (y2.heap[w.heap.size+1]?=some (.cells #[.bool false,.slice none 0 0,.slice none 0 0,.slice none 0 0] 71 (0,0))):=hide ((hb_y2.block _ (Array.getElem?_eq_some_iff.1 HR_y1.out).1).trans HR_y1.out);have HB_y2:Hid (Below w.heap.size w y2):=hide (HB_y1.out.trans (hb_y2.mono HB_y1.out.size));have HAk_y2:=hide (za1 HAk_y1.out hb_y2);have HVk_y2:=hide (zaa ho (Nat.le_trans hB HB_y1.out.size));have HZk_y2:Hid (w.heap.size+1<y1.heap.size):=hide (Array.getElem?_eq_some_iff.1 HR_y1.out).1
     have HLk_y2:=hide (fun k h=>(ho.lt k h).1)
     clear ho hb_y2;refine ⟨_,rfl,?_⟩
     refine hK.out (Act.put _ (some 46) _) y2 hS_y2 (fun _=> ?_)
     clear hK K
     simp only [Act.put,yA,yB,yC]
     refine wpAnyH_ready (rs:= [12]) (by kernel_rfl) (by simp) ?_
     refine AllReadyH.cons rfl (fun K hK=> ?_) AllReadyH.nil
     have hb_y3:Below y2.heap.size y2 (y2.alloc (Obj.cells #[.string val] 9)):=(Below.refl _ _).alloc (Nat.le_refl _) _;have ha_y3:=row_one y2 (.string val) 9
     go_simp
     obtain ⟨y3,hw_y3⟩:∃z,z=y2.alloc (Obj.cells #[.string val] 9):=⟨_,rfl⟩;obtain ⟨gv_y3,hg_y3⟩:∃z,z=y2.heap.size:=⟨_,rfl⟩;rw [<-hw_y3] at hb_y3 ha_y3⊢;rw [<-hg_y3] at ha_y3⊢
     have hS_y3:(fun wx=>wx.heap[w.heap.size]?=some (Obj.cells #[.int .i64 p,.bool true,.slice ak lk ck,.slice av lk cv,.slice ac nc cc,.int .i64 at_] 97 (0,0))/\wx.heap[w.heap.size+1+1]?=some (Obj.cells #[.bool true,.slice ak lk ck,.slice av lk cv,.slice ac nc cc] 71 (0,0))) y3:=⟨(hb_y3.block _ (Array.getElem?_eq_some_iff.1 hS_y2.1).1).trans hS_y2.1,(hb_y3.block _ (Array.getElem?_eq_some_iff.1 hS_y2.2).1).trans hS_y2.2⟩
     have HR_y3:Hid (y3.heap[w.heap.size+1]?=some (.cells #[.bool false,.slice none 0 0,.slice none 0 0,.slice none 0 0] 71 (0,0))):=hide ((hb_y3.block _ (Array.getElem?_eq_some_iff.1 HR_y2.out).1).trans HR_y2.out);have HB_y3:Hid (Below w.heap.size w y3):=hide (HB_y2.out.trans (hb_y3.mono HB_y2.out.size));have HAk_y3:=hide (za1 HAk_y2.out hb_y3);have HVk_y3:=hide (za6 HVk_y2.out hb_y3);have HAv_y3:=hide ha_y3;clear hw_y3 ha_y3 hg_y3 hb_y3
     refine hK.out _ y3 hS_y3 (fun _=> ?_)
     clear hK K
     refine wpAnyH_ready (rs:= [13]) (by kernel_rfl) (by simp) ?_
     refine AllReadyH.cons rfl (fun K hK=> ?_) AllReadyH.nil
     refine zaB y3 ?_ 85 Tryz.f85 Tryz.func85 ?_ ?_ (.tmp 48) (.tmp 49) (.tmp 50) (.tmp 52) #[26,3,3,26] ?_ (.slice av lk cv) (.int .i64 (t:Int)) (.int .i64 (t:Int)) (.slice (some ⟨gv_y3,0,none⟩) 1 1) ?_ ?_ ?_ ?_ _ (HWv.out y3 _ _ HB_y3.out HAv_y3.out _ _ rfl) ?_
     ·exact rfl
     ·decide
     ·exact Option.some_ne_none _
     ·exact rfl
     ·exact rfl
     ·exact rfl
     ·exact rfl
     ·exact rfl
     rintro e y4 ⟨uy4,rfl,ho,hb_y4⟩;obtain ⟨av_y4,cv_y4,rfl⟩:=za4 ho
     have hS_y4:(fun wx=>wx.heap[w.heap.size]?=some (Obj.cells #[.int .i64 p,.bool true,.slice ak lk ck,.slice av lk cv,.slice ac nc cc,.int .i64 at_] 97 (0,0))/\wx.heap[w.heap.size+1+1]?=some (Obj.cells #[.bool true,.slice ak lk ck,.slice av lk cv,.slice ac nc cc] 71 (0,0))) y4:=⟨(hb_y4.block _ (Array.getElem?_eq_some_iff.1 hS_y3.1).1).trans hS_y3.1,(hb_y4.block _ (Array.getElem?_eq_some_iff.1 hS_y3.2).1).trans hS_y3.2⟩
     have HR_y4:Hid (y4.heap[w.heap.size+1]?=some (.cells #[.bool false,.slice none 0 0,.slice none 0 0,.slice none 0 0] 71 (0,0))):=hide ((hb_y4.block _ (Array.getElem?_eq_some_iff.1 HR_y3.out).1).trans HR_y3.out);have HB_y4:Hid (Below w.heap.size w y4):=hide (HB_y3.out.trans (hb_y4.mono HB_y3.out.size));have HAk_y4:=hide (za1 HAk_y3.out hb_y4);have HAv_y4:=hide (za1 HAv_y3.out hb_y4);have HVk_y4:=hide (za6 HVk_y3.out hb_y4);have HVv_y4:=hide (zaa ho (Nat.le_trans hB HB_y3.out.size));have HZv_y4:Hid (w.heap.size+1<y3.heap.size):=hide (Array.getElem?_eq_some_iff.1 HR_y3.out).1
     have HLv_y4:=hide (fun k h=>(ho.lt k h).1)
     clear ho hb_y4;refine ⟨_,rfl,?_⟩
     refine hK.out (Act.put _ (some 53) _) y4 hS_y4 (fun _=> ?_)
     clear hK K
     simp only [Act.put,yA,yB,yC]
     refine tK 14 54 ?_ rfl rfl (by kernel_rfl) (fun _ _ _ h=>h) ⟨by rfl,?_⟩ hS_y4 ?_
     rotate_left
     ·(intro wx hSw;(try dsimp only at hSw);go_simp;try with_reducible rfl)
     (try simp only [yA,yB,yC])
     have hth:Hid (y4.there (w.heap.size+1) 0 (#[.bool true,.slice ak_y2 (t+1+(lk - t)) ck_y2,.slice av_y4 (t+1+(lk - t)) cv_y4,.slice none 0 0]:Array Value).size):=hide (zcp HR_y4.out 0 4 (show 0+4<=4 by decide))
     have HSt:=hide (zbp HR_y4.out #[.bool true,.slice ak_y2 (t+1+(lk - t)) ck_y2,.slice av_y4 (t+1+(lk - t)) cv_y4,.slice none 0 0] rfl)
     have HBs:=hide (zag (show w.heap.size<=w.heap.size+1 by omega) (#[.bool true,.slice ak_y2 (t+1+(lk - t)) ck_y2,.slice av_y4 (t+1+(lk - t)) cv_y4,.slice none 0 0]:Array Value).toList 0 y4 HB_y4.out)
     have hS3a:∀k,k≠w.heap.size+1->k<y4.heap.size->(y4.setCells (w.heap.size+1) 0 (#[.bool true,.slice ak_y2 (t+1+(lk - t)) ck_y2,.slice av_y4 (t+1+(lk - t)) cv_y4,.slice none 0 0]:Array Value).toList).heap[k]?=y4.heap[k]?:=fun k h1 h2=>World.heap_setCells_other y4 (w.heap.size+1) 0 _ h2 h1
     have HOk:=hide (za7 (w':=y4.setCells (w.heap.size+1) 0 (#[.bool true,.slice ak_y2 (t+1+(lk - t)) ck_y2,.slice av_y4 (t+1+(lk - t)) cv_y4,.slice none 0 0]:Array Value).toList) (S:=fun k=>k=w.heap.size+1) HVk_y4.out ⟨World.os_setCells _ _ _ _,(zag (B:=w.heap.size+1) (W0:=y4) (Nat.le_refl _) (#[.bool true,.slice ak_y2 (t+1+(lk - t)) ck_y2,.slice av_y4 (t+1+(lk - t)) cv_y4,.slice none 0 0]:Array Value).toList 0 y4 (Below.refl _ _)).tape,World.output_setCells _ _ _ _,by rw [zaA];exact Nat.le_refl _,fun k h1 h2=>hS3a k h2 h1⟩ (fun k hk e=>by have:=HLk_y2.out k hk;have:=HZk_y2.out;omega))
     have HOv:=hide (za7 (w':=y4.setCells (w.heap.size+1) 0 (#[.bool true,.slice ak_y2 (t+1+(lk - t)) ck_y2,.slice av_y4 (t+1+(lk - t)) cv_y4,.slice none 0 0]:Array Value).toList) (S:=fun k=>k=w.heap.size+1) HVv_y4.out ⟨World.os_setCells _ _ _ _,(zag (B:=w.heap.size+1) (W0:=y4) (Nat.le_refl _) (#[.bool true,.slice ak_y2 (t+1+(lk - t)) ck_y2,.slice av_y4 (t+1+(lk - t)) cv_y4,.slice none 0 0]:Array Value).toList 0 y4 (Below.refl _ _)).tape,World.output_setCells _ _ _ _,by rw [zaA];exact Nat.le_refl _,fun k h1 h2=>hS3a k h2 h1⟩ (fun k hk e=>by have:=HLv_y4.out k hk;have:=HZv_y4.out;omega))
     obtain ⟨w9,hw9⟩:∃y,y=y4.setCells (w.heap.size+1) 0 (#[.bool true,.slice ak_y2 (t+1+(lk - t)) ck_y2,.slice av_y4 (t+1+(lk - t)) cv_y4,.slice none 0 0]:Array Value).toList:=⟨_,rfl⟩;rw [<-hw9] at HSt HBs HOk HOv hS3a
     have hS9:(fun wx=>wx.heap[w.heap.size]?=some (Obj.cells #[.int .i64 p,.bool true,.slice ak lk ck,.slice av lk cv,.slice ac nc cc,.int .i64 at_] 97 (0,0))/\wx.heap[w.heap.size+1+1]?=some (Obj.cells #[.bool true,.slice ak lk ck,.slice av lk cv,.slice ac nc cc] 71 (0,0))) w9:=⟨(hS3a _ (by omega) (Array.getElem?_eq_some_iff.1 hS_y4.1).1).trans hS_y4.1,(hS3a _ (by omega) (Array.getElem?_eq_some_iff.1 hS_y4.2).1).trans hS_y4.2⟩
     have HW9:=hide hw9.symm;clear hw9 hS3a
     refine wpAnyH_ready (rs:= [15]) (by kernel_rfl) (by simp) ?_
     refine AllReadyH.cons rfl (fun K hK=> ?_) AllReadyH.nil
     refine zb8 ?_ 71 (.tmp 6) (.tmp 54) ?_ (w.heap.size+1) 0 #[.bool true,.slice ak_y2 (t+1+(lk - t)) ck_y2,.slice av_y4 (t+1+(lk - t)) cv_y4,.slice none 0 0] ?_ ?_ hth.out ?_ ?_ HW9.out ?_
     ·exact rfl
     ·exact rfl
     ·exact rfl
     ·exact rfl
     ·exact Tryz.sizeNodeP
     ·exact rfl
     refine hK.out (Act.put _ none _) w9 hS9 (fun _=> ?_)
     clear hK K
     simp only [Act.put]
     refine wpAnyH_done (by kernel_rfl) ?_ _
     go_wp2_with fail;refine bodyPost_ret (v:= .agg #[.bool true,.slice ak_y2 (t+1+(lk - t)) ck_y2,.slice av_y4 (t+1+(lk - t)) cv_y4,.slice none 0 0]) (zbe Tryz.results59 rfl (zcr (zb0 HSt.out) Tryz.underlying71 rfl Tryz.sizeNodeP)) rfl ?_;refine ⟨_,rfl,⟨_,_,_,rfl,?_,?_,World.ownsRow_nil _ _ _ _⟩,HBs.out⟩
     ·rw [HKv.out.1,HKv.out.2.1];exact HOk.out
     ·rw [HKv.out.2.2.1,HKv.out.2.2.2];exact HOv.out
    ·have hb_y5:Below y1.heap.size y1 (y1.alloc (Obj.cells #[.string val] 9)):=(Below.refl _ _).alloc (Nat.le_refl _) _
     have ha_y5:=row_one y1 (.string val) 9
     go_simp
     obtain ⟨y5,hw_y5⟩:∃z,z=y1.alloc (Obj.cells #[.string val] 9):=⟨_,rfl⟩;obtain ⟨gv_y5,hg_y5⟩:∃z,z=y1.heap.size:=⟨_,rfl⟩;rw [<-hw_y5] at hb_y5 ha_y5⊢;rw [<-hg_y5] at ha_y5⊢
     have hS_y5:(fun wx=>wx.heap[w.heap.size]?=some (Obj.cells #[.int .i64 p,.bool true,.slice ak lk ck,.slice av lk cv,.slice ac nc cc,.int .i64 at_] 97 (0,0))/\wx.heap[w.heap.size+1+1]?=some (Obj.cells #[.bool true,.slice ak lk ck,.slice av lk cv,.slice ac nc cc] 71 (0,0))) y5:=⟨(hb_y5.block _ (Array.getElem?_eq_some_iff.1 hS_y1.1).1).trans hS_y1.1,(hb_y5.block _ (Array.getElem?_eq_some_iff.1 hS_y1.2).1).trans hS_y1.2⟩
     have HR_y5:Hid (y5.heap[w.heap.size+1]?=some (.cells #[.bool false,.slice none 0 0,.slice none 0 0,.slice none 0 0] 71 (0,0))):=hide ((hb_y5.block _ (Array.getElem?_eq_some_iff.1 HR_y1.out).1).trans HR_y1.out);have HB_y5:Hid (Below w.heap.size w y5):=hide (HB_y1.out.trans (hb_y5.mono HB_y1.out.size));have HAk_y5:=hide (za1 HAk_y1.out hb_y5);have HAv_y5:=hide ha_y5;clear hw_y5 ha_y5 hg_y5 hb_y5
     refine hK.out _ y5 hS_y5 (fun _=> ?_)
     clear hK K
     refine wpAnyH_ready (rs:= [6]) (by kernel_rfl) (by simp) ?_
     refine AllReadyH.cons rfl (fun K hK=> ?_) AllReadyH.nil
     refine zaB y5 ?_ 85 Tryz.f85 Tryz.func85 ?_ ?_ (.tmp 41) (.tmp 42) (.tmp 43) (.tmp 45) #[26,3,3,26] ?_ (.slice ak lk ck) (.int .i64 (t:Int)) (.int .i64 (t:Int)) (.slice (some ⟨gk_y1,0,none⟩) 1 1) ?_ ?_ ?_ ?_ _ (HWk.out y5 _ _ HB_y5.out HAk_y5.out _ _ rfl) ?_
     ·exact rfl
     ·decide
     ·exact Option.some_ne_none _
     ·exact rfl
     ·exact rfl
     ·exact rfl
     ·exact rfl
     ·exact rfl
     rintro e y6 ⟨uy6,rfl,ho,hb_y6⟩;obtain ⟨ak_y6,ck_y6,rfl⟩:=za4 ho
     have hS_y6:(fun wx=>wx.heap[w.heap.size]?=some (Obj.cells #[.int .i64 p,.bool true,.slice ak lk ck,.slice av lk cv,.slice ac nc cc,.int .i64 at_] 97 (0,0))/\wx.heap[w.heap.size+1+1]?=some (Obj.cells #[.bool true,.slice ak lk ck,.slice av lk cv,.slice ac nc cc] 71 (0,0))) y6:=⟨(hb_y6.block _ (Array.getElem?_eq_some_iff.1 hS_y5.1).1).trans hS_y5.1,(hb_y6.block _ (Array.getElem?_eq_some_iff.1 hS_y5.2).1).trans hS_y5.2⟩
     have HR_y6:Hid (y6.heap[w.heap.size+1]?=some (.cells #[.bool false,.slice none 0 0,.slice none 0 0,.slice none 0 0] 71 (0,0))):=hide ((hb_y6.block _ (Array.getElem?_eq_some_iff.1 HR_y5.out).1).trans HR_y5.out);have HB_y6:Hid (Below w.heap.size w y6):=hide (HB_y5.out.trans (hb_y6.mono HB_y5.out.size));have HAk_y6:=hide (za1 HAk_y5.out hb_y6);have HAv_y6:=hide (za1 HAv_y5.out hb_y6);have HVk_y6:=hide (zaa ho (Nat.le_trans hB HB_y5.out.size));have HZk_y6:Hid (w.heap.size+1<y5.heap.size):=hide (Array.getElem?_eq_some_iff.1 HR_y5.out).1
     have HLk_y6:=hide (fun k h=>(ho.lt k h).1)
     clear ho hb_y6;refine ⟨_,rfl,?_⟩
     refine hK.out (Act.put _ (some 46) _) y6 hS_y6 (fun _=> ?_)
     clear hK K
     simp only [Act.put,yA,yB,yC]
     refine wpAnyH_ready (rs:= [13]) (by kernel_rfl) (by simp) ?_
     refine AllReadyH.cons rfl (fun K hK=> ?_) AllReadyH.nil
     refine zaB y6 ?_ 85 Tryz.f85 Tryz.func85 ?_ ?_ (.tmp 48) (.tmp 49) (.tmp 50) (.tmp 52) #[26,3,3,26] ?_ (.slice av lk cv) (.int .i64 (t:Int)) (.int .i64 (t:Int)) (.slice (some ⟨gv_y5,0,none⟩) 1 1) ?_ ?_ ?_ ?_ _ (HWv.out y6 _ _ HB_y6.out HAv_y6.out _ _ rfl) ?_
     ·exact rfl
     ·decide
     ·exact Option.some_ne_none _
     ·exact rfl
     ·exact rfl
     ·exact rfl
     ·exact rfl
     ·exact rfl
     rintro e y7 ⟨uy7,rfl,ho,hb_y7⟩;obtain ⟨av_y7,cv_y7,rfl⟩:=za4 ho
     have hS_y7:(fun wx=>wx.heap[w.heap.size]?=some (Obj.cells #[.int .i64 p,.bool true,.slice ak lk ck,.slice av lk cv,.slice ac nc cc,.int .i64 at_] 97 (0,0))/\wx.heap[w.heap.size+1+1]?=some (Obj.cells #[.bool true,.slice ak lk ck,.slice av lk cv,.slice ac nc cc] 71 (0,0))) y7:=⟨(hb_y7.block _ (Array.getElem?_eq_some_iff.1 hS_y6.1).1).trans hS_y6.1,(hb_y7.block _ (Array.getElem?_eq_some_iff.1 hS_y6.2).1).trans hS_y6.2⟩
     have HR_y7:Hid (y7.heap[w.heap.size+1]?=some (.cells #[.bool false,.slice none 0 0,.slice none 0 0,.slice none 0 0] 71 (0,0))):=hide ((hb_y7.block _ (Array.getElem?_eq_some_iff.1 HR_y6.out).1).trans HR_y6.out);have HB_y7:Hid (Below w.heap.size w y7):=hide (HB_y6.out.trans (hb_y7.mono HB_y6.out.size));have HAk_y7:=hide (za1 HAk_y6.out hb_y7);have HAv_y7:=hide (za1 HAv_y6.out hb_y7);have HVk_y7:=hide (za6 HVk_y6.out hb_y7);have HVv_y7:=hide (zaa ho (Nat.le_trans hB HB_y6.out.size));have HZv_y7:Hid (w.heap.size+1<y6.heap.size):=hide (Array.getElem?_eq_some_iff.1 HR_y6.out).1
     have HLv_y7:=hide (fun k h=>(ho.lt k h).1)
     clear ho hb_y7;refine ⟨_,rfl,?_⟩
     refine hK.out (Act.put _ (some 53) _) y7 hS_y7 (fun _=> ?_)
     clear hK K
     simp only [Act.put,yA,yB,yC]
     refine tK 14 54 ?_ rfl rfl (by kernel_rfl) (fun _ _ _ h=>h) ⟨by rfl,?_⟩ hS_y7 ?_
     rotate_left
     ·(intro wx hSw;(try dsimp only at hSw);go_simp;try with_reducible rfl)
     (try simp only [yA,yB,yC])
     have hth:Hid (y7.there (w.heap.size+1) 0 (#[.bool true,.slice ak_y6 (t+1+(lk - t)) ck_y6,.slice av_y7 (t+1+(lk - t)) cv_y7,.slice none 0 0]:Array Value).size):=hide (zcp HR_y7.out 0 4 (show 0+4<=4 by decide))
     have HSt:=hide (zbp HR_y7.out #[.bool true,.slice ak_y6 (t+1+(lk - t)) ck_y6,.slice av_y7 (t+1+(lk - t)) cv_y7,.slice none 0 0] rfl)
     have HBs:=hide (zag (show w.heap.size<=w.heap.size+1 by omega) (#[.bool true,.slice ak_y6 (t+1+(lk - t)) ck_y6,.slice av_y7 (t+1+(lk - t)) cv_y7,.slice none 0 0]:Array Value).toList 0 y7 HB_y7.out)
     have hS3a:∀k,k≠w.heap.size+1->k<y7.heap.size->(y7.setCells (w.heap.size+1) 0 (#[.bool true,.slice ak_y6 (t+1+(lk - t)) ck_y6,.slice av_y7 (t+1+(lk - t)) cv_y7,.slice none 0 0]:Array Value).toList).heap[k]?=y7.heap[k]?:=fun k h1 h2=>World.heap_setCells_other y7 (w.heap.size+1) 0 _ h2 h1
     have HOk:=hide (za7 (w':=y7.setCells (w.heap.size+1) 0 (#[.bool true,.slice ak_y6 (t+1+(lk - t)) ck_y6,.slice av_y7 (t+1+(lk - t)) cv_y7,.slice none 0 0]:Array Value).toList) (S:=fun k=>k=w.heap.size+1) HVk_y7.out ⟨World.os_setCells _ _ _ _,(zag (B:=w.heap.size+1) (W0:=y7) (Nat.le_refl _) (#[.bool true,.slice ak_y6 (t+1+(lk - t)) ck_y6,.slice av_y7 (t+1+(lk - t)) cv_y7,.slice none 0 0]:Array Value).toList 0 y7 (Below.refl _ _)).tape,World.output_setCells _ _ _ _,by rw [zaA];exact Nat.le_refl _,fun k h1 h2=>hS3a k h2 h1⟩ (fun k hk e=>by have:=HLk_y6.out k hk;have:=HZk_y6.out;omega))
     have HOv:=hide (za7 (w':=y7.setCells (w.heap.size+1) 0 (#[.bool true,.slice ak_y6 (t+1+(lk - t)) ck_y6,.slice av_y7 (t+1+(lk - t)) cv_y7,.slice none 0 0]:Array Value).toList) (S:=fun k=>k=w.heap.size+1) HVv_y7.out ⟨World.os_setCells _ _ _ _,(zag (B:=w.heap.size+1) (W0:=y7) (Nat.le_refl _) (#[.bool true,.slice ak_y6 (t+1+(lk - t)) ck_y6,.slice av_y7 (t+1+(lk - t)) cv_y7,.slice none 0 0]:Array Value).toList 0 y7 (Below.refl _ _)).tape,World.output_setCells _ _ _ _,by rw [zaA];exact Nat.le_refl _,fun k h1 h2=>hS3a k h2 h1⟩ (fun k hk e=>by have:=HLv_y7.out k hk;have:=HZv_y7.out;omega))
     obtain ⟨w9,hw9⟩:∃y,y=y7.setCells (w.heap.size+1) 0 (#[.bool true,.slice ak_y6 (t+1+(lk - t)) ck_y6,.slice av_y7 (t+1+(lk - t)) cv_y7,.slice none 0 0]:Array Value).toList:=⟨_,rfl⟩;rw [<-hw9] at HSt HBs HOk HOv hS3a
     have hS9:(fun wx=>wx.heap[w.heap.size]?=some (Obj.cells #[.int .i64 p,.bool true,.slice ak lk ck,.slice av lk cv,.slice ac nc cc,.int .i64 at_] 97 (0,0))/\wx.heap[w.heap.size+1+1]?=some (Obj.cells #[.bool true,.slice ak lk ck,.slice av lk cv,.slice ac nc cc] 71 (0,0))) w9:=⟨(hS3a _ (by omega) (Array.getElem?_eq_some_iff.1 hS_y7.1).1).trans hS_y7.1,(hS3a _ (by omega) (Array.getElem?_eq_some_iff.1 hS_y7.2).1).trans hS_y7.2⟩
     have HW9:=hide hw9.symm;clear hw9 hS3a
     refine wpAnyH_ready (rs:= [15]) (by kernel_rfl) (by simp) ?_
     refine AllReadyH.cons rfl (fun K hK=> ?_) AllReadyH.nil
     refine zb8 ?_ 71 (.tmp 6) (.tmp 54) ?_ (w.heap.size+1) 0 #[.bool true,.slice ak_y6 (t+1+(lk - t)) ck_y6,.slice av_y7 (t+1+(lk - t)) cv_y7,.slice none 0 0] ?_ ?_ hth.out ?_ ?_ HW9.out ?_
     ·exact rfl
     ·exact rfl
     ·exact rfl
     ·exact rfl
     ·exact Tryz.sizeNodeP
     ·exact rfl
     refine hK.out (Act.put _ none _) w9 hS9 (fun _=> ?_)
     clear hK K
     simp only [Act.put]
     refine wpAnyH_done (by kernel_rfl) ?_ _
     go_wp2_with fail;refine bodyPost_ret (v:= .agg #[.bool true,.slice ak_y6 (t+1+(lk - t)) ck_y6,.slice av_y7 (t+1+(lk - t)) cv_y7,.slice none 0 0]) (zbe Tryz.results59 rfl (zcr (zb0 HSt.out) Tryz.underlying71 rfl Tryz.sizeNodeP)) rfl ?_;refine ⟨_,rfl,⟨_,_,_,rfl,?_,?_,World.ownsRow_nil _ _ _ _⟩,HBs.out⟩
     ·rw [HKv.out.1,HKv.out.2.1];exact HOk.out
     ·rw [HKv.out.2.2.1,HKv.out.2.2.2];exact HOv.out
   ·have hb_y8:Below wd.heap.size wd (wd.alloc (Obj.cells #[.string val] 9)):=(Below.refl _ _).alloc (Nat.le_refl _) _
    have ha_y8:=row_one wd (.string val) 9
    go_simp
    obtain ⟨y8,hw_y8⟩:∃z,z=wd.alloc (Obj.cells #[.string val] 9):=⟨_,rfl⟩;obtain ⟨gv_y8,hg_y8⟩:∃z,z=wd.heap.size:=⟨_,rfl⟩;rw [<-hw_y8] at hb_y8 ha_y8⊢;rw [<-hg_y8] at ha_y8⊢
    have hS_y8:(fun wx=>wx.heap[w.heap.size]?=some (Obj.cells #[.int .i64 p,.bool true,.slice ak lk ck,.slice av lk cv,.slice ac nc cc,.int .i64 at_] 97 (0,0))/\wx.heap[w.heap.size+1+1]?=some (Obj.cells #[.bool true,.slice ak lk ck,.slice av lk cv,.slice ac nc cc] 71 (0,0))) y8:=⟨(hb_y8.block _ (Array.getElem?_eq_some_iff.1 hS_wd.1).1).trans hS_wd.1,(hb_y8.block _ (Array.getElem?_eq_some_iff.1 hS_wd.2).1).trans hS_wd.2⟩
    have HR_y8:Hid (y8.heap[w.heap.size+1]?=some (.cells #[.bool false,.slice none 0 0,.slice none 0 0,.slice none 0 0] 71 (0,0))):=hide ((hb_y8.block _ (Array.getElem?_eq_some_iff.1 HR_wd.out).1).trans HR_wd.out);have HB_y8:Hid (Below w.heap.size w y8):=hide (HB_wd.out.trans (hb_y8.mono HB_wd.out.size));have HAv_y8:=hide ha_y8;clear hw_y8 ha_y8 hg_y8 hb_y8
    refine hK.out _ y8 hS_y8 (fun _=> ?_)
    clear hK K
    refine wpAnyH_ready (rs:= [5]) (by kernel_rfl) (by simp) ?_
    refine AllReadyH.cons rfl (fun K hK=> ?_) AllReadyH.nil
    have hb_y9:Below y8.heap.size y8 (y8.alloc (Obj.cells #[.string key] 9)):=(Below.refl _ _).alloc (Nat.le_refl _) _;have ha_y9:=row_one y8 (.string key) 9
    go_simp
    obtain ⟨y9,hw_y9⟩:∃z,z=y8.alloc (Obj.cells #[.string key] 9):=⟨_,rfl⟩;obtain ⟨gk_y9,hg_y9⟩:∃z,z=y8.heap.size:=⟨_,rfl⟩;rw [<-hw_y9] at hb_y9 ha_y9⊢;rw [<-hg_y9] at ha_y9⊢
    have hS_y9:(fun wx=>wx.heap[w.heap.size]?=some (Obj.cells #[.int .i64 p,.bool true,.slice ak lk ck,.slice av lk cv,.slice ac nc cc,.int .i64 at_] 97 (0,0))/\wx.heap[w.heap.size+1+1]?=some (Obj.cells #[.bool true,.slice ak lk ck,.slice av lk cv,.slice ac nc cc] 71 (0,0))) y9:=⟨(hb_y9.block _ (Array.getElem?_eq_some_iff.1 hS_y8.1).1).trans hS_y8.1,(hb_y9.block _ (Array.getElem?_eq_some_iff.1 hS_y8.2).1).trans hS_y8.2⟩
    have HR_y9:Hid (y9.heap[w.heap.size+1]?=some (.cells #[.bool false,.slice none 0 0,.slice none 0 0,.slice none 0 0] 71 (0,0))):=hide ((hb_y9.block _ (Array.getElem?_eq_some_iff.1 HR_y8.out).1).trans HR_y8.out);have HB_y9:Hid (Below w.heap.size w y9):=hide (HB_y8.out.trans (hb_y9.mono HB_y8.out.size));have HAv_y9:=hide (za1 HAv_y8.out hb_y9);have HAk_y9:=hide ha_y9;clear hw_y9 ha_y9 hg_y9 hb_y9
    refine hK.out _ y9 hS_y9 (fun _=> ?_)
    clear hK K
    refine wpAnyH_ready (rs:= [6]) (by kernel_rfl) (by simp) ?_
    refine AllReadyH.cons rfl (fun K hK=> ?_) AllReadyH.nil
    refine zaB y9 ?_ 85 Tryz.f85 Tryz.func85 ?_ ?_ (.tmp 41) (.tmp 42) (.tmp 43) (.tmp 45) #[26,3,3,26] ?_ (.slice ak lk ck) (.int .i64 (t:Int)) (.int .i64 (t:Int)) (.slice (some ⟨gk_y9,0,none⟩) 1 1) ?_ ?_ ?_ ?_ _ (HWk.out y9 _ _ HB_y9.out HAk_y9.out _ _ rfl) ?_
    ·exact rfl
    ·decide
    ·exact Option.some_ne_none _
    ·exact rfl
    ·exact rfl
    ·exact rfl
    ·exact rfl
    ·exact rfl
    rintro e y10 ⟨uy10,rfl,ho,hb_y10⟩;obtain ⟨ak_y10,ck_y10,rfl⟩:=za4 ho
    have hS_y10:(fun wx=>wx.heap[w.heap.size]?=some (Obj.cells #[.int .i64 p,.bool true,.slice ak lk ck,.slice av lk cv,.slice ac nc cc,.int .i64 at_] 97 (0,0))/\wx.heap[w.heap.size+1+1]?=some (Obj.cells #[.bool true,.slice ak lk ck,.slice av lk cv,.slice ac nc cc] 71 (0,0))) y10:=⟨(hb_y10.block _ (Array.getElem?_eq_some_iff.1 hS_y9.1).1).trans hS_y9.1,(hb_y10.block _ (Array.getElem?_eq_some_iff.1 hS_y9.2).1).trans hS_y9.2⟩
    have HR_y10:Hid (y10.heap[w.heap.size+1]?=some (.cells #[.bool false,.slice none 0 0,.slice none 0 0,.slice none 0 0] 71 (0,0))):=hide ((hb_y10.block _ (Array.getElem?_eq_some_iff.1 HR_y9.out).1).trans HR_y9.out);have HB_y10:Hid (Below w.heap.size w y10):=hide (HB_y9.out.trans (hb_y10.mono HB_y9.out.size));have HAv_y10:=hide (za1 HAv_y9.out hb_y10);have HAk_y10:=hide (za1 HAk_y9.out hb_y10);have HVk_y10:=hide (zaa ho (Nat.le_trans hB HB_y9.out.size));have HZk_y10:Hid (w.heap.size+1<y9.heap.size):=hide (Array.getElem?_eq_some_iff.1 HR_y9.out).1
    have HLk_y10:=hide (fun k h=>(ho.lt k h).1)
    clear ho hb_y10;refine ⟨_,rfl,?_⟩
    refine hK.out (Act.put _ (some 46) _) y10 hS_y10 (fun _=> ?_)
    clear hK K
    simp only [Act.put,yA,yB,yC]
    refine wpAnyH_ready (rs:= [13]) (by kernel_rfl) (by simp) ?_
    refine AllReadyH.cons rfl (fun K hK=> ?_) AllReadyH.nil
    refine zaB y10 ?_ 85 Tryz.f85 Tryz.func85 ?_ ?_ (.tmp 48) (.tmp 49) (.tmp 50) (.tmp 52) #[26,3,3,26] ?_ (.slice av lk cv) (.int .i64 (t:Int)) (.int .i64 (t:Int)) (.slice (some ⟨gv_y8,0,none⟩) 1 1) ?_ ?_ ?_ ?_ _ (HWv.out y10 _ _ HB_y10.out HAv_y10.out _ _ rfl) ?_
    ·exact rfl
    ·decide
    ·exact Option.some_ne_none _
    ·exact rfl
    ·exact rfl
    ·exact rfl
    ·exact rfl
    ·exact rfl
    rintro e y11 ⟨uy11,rfl,ho,hb_y11⟩;obtain ⟨av_y11,cv_y11,rfl⟩:=za4 ho
    have hS_y11:(fun wx=>wx.heap[w.heap.size]?=some (Obj.cells #[.int .i64 p,.bool true,.slice ak lk ck,.slice av lk cv,.slice ac nc cc,.int .i64 at_] 97 (0,0))/\wx.heap[w.heap.size+1+1]?=some (Obj.cells #[.bool true,.slice ak lk ck,.slice av lk cv,.slice ac nc cc] 71 (0,0))) y11:=⟨(hb_y11.block _ (Array.getElem?_eq_some_iff.1 hS_y10.1).1).trans hS_y10.1,(hb_y11.block _ (Array.getElem?_eq_some_iff.1 hS_y10.2).1).trans hS_y10.2⟩
    have HR_y11:Hid (y11.heap[w.heap.size+1]?=some (.cells #[.bool false,.slice none 0 0,.slice none 0 0,.slice none 0 0] 71 (0,0))):=hide ((hb_y11.block _ (Array.getElem?_eq_some_iff.1 HR_y10.out).1).trans HR_y10.out);have HB_y11:Hid (Below w.heap.size w y11):=hide (HB_y10.out.trans (hb_y11.mono HB_y10.out.size));have HAv_y11:=hide (za1 HAv_y10.out hb_y11);have HAk_y11:=hide (za1 HAk_y10.out hb_y11);have HVk_y11:=hide (za6 HVk_y10.out hb_y11);have HVv_y11:=hide (zaa ho (Nat.le_trans hB HB_y10.out.size));have HZv_y11:Hid (w.heap.size+1<y10.heap.size):=hide (Array.getElem?_eq_some_iff.1 HR_y10.out).1
    have HLv_y11:=hide (fun k h=>(ho.lt k h).1)
    clear ho hb_y11;refine ⟨_,rfl,?_⟩
    refine hK.out (Act.put _ (some 53) _) y11 hS_y11 (fun _=> ?_)
    clear hK K
    simp only [Act.put,yA,yB,yC]
    refine tK 14 54 ?_ rfl rfl (by kernel_rfl) (fun _ _ _ h=>h) ⟨by rfl,?_⟩ hS_y11 ?_
    rotate_left
    ·(intro wx hSw;(try dsimp only at hSw);go_simp;try with_reducible rfl)
    (try simp only [yA,yB,yC])
    have hth:Hid (y11.there (w.heap.size+1) 0 (#[.bool true,.slice ak_y10 (t+1+(lk - t)) ck_y10,.slice av_y11 (t+1+(lk - t)) cv_y11,.slice none 0 0]:Array Value).size):=hide (zcp HR_y11.out 0 4 (show 0+4<=4 by decide))
    have HSt:=hide (zbp HR_y11.out #[.bool true,.slice ak_y10 (t+1+(lk - t)) ck_y10,.slice av_y11 (t+1+(lk - t)) cv_y11,.slice none 0 0] rfl)
    have HBs:=hide (zag (show w.heap.size<=w.heap.size+1 by omega) (#[.bool true,.slice ak_y10 (t+1+(lk - t)) ck_y10,.slice av_y11 (t+1+(lk - t)) cv_y11,.slice none 0 0]:Array Value).toList 0 y11 HB_y11.out)
    have hS3a:∀k,k≠w.heap.size+1->k<y11.heap.size->(y11.setCells (w.heap.size+1) 0 (#[.bool true,.slice ak_y10 (t+1+(lk - t)) ck_y10,.slice av_y11 (t+1+(lk - t)) cv_y11,.slice none 0 0]:Array Value).toList).heap[k]?=y11.heap[k]?:=fun k h1 h2=>World.heap_setCells_other y11 (w.heap.size+1) 0 _ h2 h1
    have HOk:=hide (za7 (w':=y11.setCells (w.heap.size+1) 0 (#[.bool true,.slice ak_y10 (t+1+(lk - t)) ck_y10,.slice av_y11 (t+1+(lk - t)) cv_y11,.slice none 0 0]:Array Value).toList) (S:=fun k=>k=w.heap.size+1) HVk_y11.out ⟨World.os_setCells _ _ _ _,(zag (B:=w.heap.size+1) (W0:=y11) (Nat.le_refl _) (#[.bool true,.slice ak_y10 (t+1+(lk - t)) ck_y10,.slice av_y11 (t+1+(lk - t)) cv_y11,.slice none 0 0]:Array Value).toList 0 y11 (Below.refl _ _)).tape,World.output_setCells _ _ _ _,by rw [zaA];exact Nat.le_refl _,fun k h1 h2=>hS3a k h2 h1⟩ (fun k hk e=>by have:=HLk_y10.out k hk;have:=HZk_y10.out;omega))
    have HOv:=hide (za7 (w':=y11.setCells (w.heap.size+1) 0 (#[.bool true,.slice ak_y10 (t+1+(lk - t)) ck_y10,.slice av_y11 (t+1+(lk - t)) cv_y11,.slice none 0 0]:Array Value).toList) (S:=fun k=>k=w.heap.size+1) HVv_y11.out ⟨World.os_setCells _ _ _ _,(zag (B:=w.heap.size+1) (W0:=y11) (Nat.le_refl _) (#[.bool true,.slice ak_y10 (t+1+(lk - t)) ck_y10,.slice av_y11 (t+1+(lk - t)) cv_y11,.slice none 0 0]:Array Value).toList 0 y11 (Below.refl _ _)).tape,World.output_setCells _ _ _ _,by rw [zaA];exact Nat.le_refl _,fun k h1 h2=>hS3a k h2 h1⟩ (fun k hk e=>by have:=HLv_y11.out k hk;have:=HZv_y11.out;omega))
    obtain ⟨w9,hw9⟩:∃y,y=y11.setCells (w.heap.size+1) 0 (#[.bool true,.slice ak_y10 (t+1+(lk - t)) ck_y10,.slice av_y11 (t+1+(lk - t)) cv_y11,.slice none 0 0]:Array Value).toList:=⟨_,rfl⟩;rw [<-hw9] at HSt HBs HOk HOv hS3a
    have hS9:(fun wx=>wx.heap[w.heap.size]?=some (Obj.cells #[.int .i64 p,.bool true,.slice ak lk ck,.slice av lk cv,.slice ac nc cc,.int .i64 at_] 97 (0,0))/\wx.heap[w.heap.size+1+1]?=some (Obj.cells #[.bool true,.slice ak lk ck,.slice av lk cv,.slice ac nc cc] 71 (0,0))) w9:=⟨(hS3a _ (by omega) (Array.getElem?_eq_some_iff.1 hS_y11.1).1).trans hS_y11.1,(hS3a _ (by omega) (Array.getElem?_eq_some_iff.1 hS_y11.2).1).trans hS_y11.2⟩
    have HW9:=hide hw9.symm;clear hw9 hS3a
    refine wpAnyH_ready (rs:= [15]) (by kernel_rfl) (by simp) ?_
    refine AllReadyH.cons rfl (fun K hK=> ?_) AllReadyH.nil
    refine zb8 ?_ 71 (.tmp 6) (.tmp 54) ?_ (w.heap.size+1) 0 #[.bool true,.slice ak_y10 (t+1+(lk - t)) ck_y10,.slice av_y11 (t+1+(lk - t)) cv_y11,.slice none 0 0] ?_ ?_ hth.out ?_ ?_ HW9.out ?_
    ·exact rfl
    ·exact rfl
    ·exact rfl
    ·exact rfl
    ·exact Tryz.sizeNodeP
    ·exact rfl
    refine hK.out (Act.put _ none _) w9 hS9 (fun _=> ?_)
    clear hK K
    simp only [Act.put]
    refine wpAnyH_done (by kernel_rfl) ?_ _
    go_wp2_with fail;refine bodyPost_ret (v:= .agg #[.bool true,.slice ak_y10 (t+1+(lk - t)) ck_y10,.slice av_y11 (t+1+(lk - t)) cv_y11,.slice none 0 0]) (zbe Tryz.results59 rfl (zcr (zb0 HSt.out) Tryz.underlying71 rfl Tryz.sizeNodeP)) rfl ?_;refine ⟨_,rfl,⟨_,_,_,rfl,?_,?_,World.ownsRow_nil _ _ _ _⟩,HBs.out⟩
    ·rw [HKv.out.1,HKv.out.2.1];exact HOk.out
    ·rw [HKv.out.2.2.1,HKv.out.2.2.2];exact HOv.out
end Go.Proofs.YtcbogiebfbbmbaaGreatDoor
