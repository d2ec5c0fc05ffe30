/-
  Facts and contracts that the law's own text rests on, by their texts' names: SpecWork.
-/
import Derived.Test.YtcbogiebfbbmbaaGreatDoorDa1
import Derived.Test.YtcbogiebfbbmbaaGreatDoorDa35
import Derived.Test.YtcbogiebfbbmbaaGreatDoorDa19
import Derived.Test.YtcbogiebfbbmbaaGreatDoorDa21
set_option maxHeartbeats 16000000
set_option maxRecDepth 100000
namespace Go.Proofs.YtcbogiebfbbmbaaGreatDoor
open Go.RowKit
def upF (fs:List (Int×List Int)) (oldest:Int) (i:Nat):List Int:=(fs.take i).flatMap fun f=>if f.1<=oldest then f.2 else []
theorem zkl {fs:List (Int×List Int)} {oldest:Int} {i:Nat} {tx:Int} {pgs:List Int} (h:fs[i]?=some (tx,pgs)):upF fs oldest (i+1)=upF fs oldest i++if tx<=oldest then pgs else []:=by
 obtain ⟨hi,e⟩:=List.getElem?_eq_some_iff.1 h;rw [upF,upF,List.take_succ_eq_append_getElem hi,e,List.flatMap_append]
 simp
theorem zfZ (fs:List (Int×List Int)) (oldest:Int) (i:Nat):(upF fs oldest i).length<=(upF fs oldest fs.length).length:=by
 have e:upF fs oldest fs.length=upF fs oldest i++(fs.drop i).flatMap fun f=>if f.1<=oldest then f.2 else []:=by
  rw [upF,upF,List.take_length,<-List.flatMap_append,List.take_append_drop]
 rw [e,List.length_append]
 omega
def newS (ps:List ByteArray) (ls:List (Int×ByteArray)) (m:Mt) (oldest:Int):Wk:=⟨ps,ls,m.next,srtL (upF m.fs oldest m.fs.length),[],[]⟩
theorem zhm {w:World} {B B':Nat} {v:Value} {ps:List ByteArray} {ls:List (Int×ByteArray)} (h:DiskOwn w B v ps ls) (hB:B'<=B):DiskOwn w B' v ps ls:=by
 obtain ⟨vp,vl,e,h1,h2⟩:=h;exact ⟨vp,vl,e,zad h1 hB,zad h2 hB⟩
theorem zmf {w wr:World} {b0 a1 B:Nat} {r0 r1 r2 r3 r4 r5 u0 u1 u3 u4 u5:Value} {t:TypeId} {k:Wk} {l:List Ast} (h:Sep b0 wr l) (r:Nat) (hr:l[r]?=some (cellA a1 (Obj.cells #[r0,r1,r2,r3,r4,r5] t))) (hd:WorkNw wr B (.agg #[u0,u1,.int .i64 k.next,u3,u4,u5]) k) (hap:∀j,workBlocks (.agg #[u0,u1,.int .i64 k.next,u3,u4,u5]) j->j≠a1) (hw:w.heap.size<=a1) (hB:w.heap.size<=B) (hb:Below w.heap.size w wr):
  (set6 wr a1 u0 u1 (.int .i64 k.next) u3 u4 u5).heap[a1]?=some (Obj.cells #[u0,u1,.int .i64 k.next,u3,u4,u5] t)/\WorkNw (set6 wr a1 u0 u1 (.int .i64 k.next) u3 u4 u5) w.heap.size (.agg #[u0,u1,.int .i64 k.next,u3,u4,u5]) k/\Below w.heap.size w (set6 wr a1 u0 u1 (.int .i64 k.next) u3 u4 u5):=by
 have hk:=zaQ wr a1 u0 u1 (.int .i64 k.next) u3 u4 u5
 exact ⟨zcq (za2 h r hr),zeZ (ze4 hd hk (fun j hj e=>hap j hj e)) hB,hb.trans (zac hk hb.size (fun j e=>by omega))⟩
theorem ziM {ops:Array Oper} {o:Oper} {a:Act} {K:Act->World->Prop} {Q:Exit->Act->World->Prop} {E:Prop} {B:Nat} {W:World} {l:List Ast} (h:Sep B W l) (i:Nat) {B' n:Nat} {v:Value} {xs:List Int} (hi:l[i]?=some (rowA B' 3 1 v n (ints xs))) (hBB:B<=B') (hBW:B<=W.heap.size) (hBW':B'<=W.heap.size)
  (hgd:o.guard=none) (s x:Operand) (ho:o.op= .call {callee:= .builtin .append,args:= #[s,x],argTypes:= #[32,32]}) (hs:a.eval s=v) (u:Value) (m:Nat) (ys:List Int) (hx:a.eval x=u) (hrow:RowAt W 1 u m (ints ys)) (hn:n+m<=3000000)
  (hK:∀y c w',Sep B w' (l.set i (rowA B' 3 1 (.slice y (n+m) c) (n+m) (ints (xs++ys))))->Below B W w'->K (a.put o.dst (.slice y (n+m) c)) w'):
  if Region.wanted o (yielded ops a.tmps)=true then Oper.wp Tryz.prog o a W K Q else E:=by
 have hw:Region.wanted o (yielded ops a.tmps)=true:=by simp [Region.wanted,hgd]
 rw [if_pos hw];obtain ⟨i0,hinf,hz0,hz1,hz2⟩:=info_parts Tryz.infoIntC
 obtain ⟨y,c,w',hr,h2,h3,h4⟩:=zdU (P:=Tryz.prog) W 32 o.type B' 3 i0 (.int .i64 0) 1 8 Tryz.underlying32 hinf hz0 hz1 hz2 rfl (by decide) v n (ints xs) (za2 h i hi) u m (ints ys) hrow (zei ys) (by unfold maxLen;omega) (by omega) hBW'
 obtain ⟨k1,k2⟩:=zlH h i hi hBB hBW h3 h2 h4;unfold Oper.wp execOp
 simp only [ho,resolve,invoke,builtin,Sem.run_bind,Sem.run_pure,Result.andThen_ok,List.map_toArray,List.map_cons,List.map_nil,hs,hx,hr]
 refine hK y c w' ?_ k2
 rw [show ints (xs++ys)=ints xs++ints ys from by simp [ints]]
 exact k1
theorem zgI (vd vm:Value) (ps:List ByteArray) (ls:List (Int×ByteArray)) (m:Mt) (oldest:Int) (hp:ps.length<=1048576) (hl:ls.length<=1048576) (hub:(upF m.fs oldest m.fs.length).length<=1048576) (hfl:m.fs.length<=1048576) (w:World) (hd:DiskAt w vd ps ls) (hm:MetaAt w vm m):
  Calls Tryz.prog 8 #[vd,vm,.int .i64 oldest] w fun e w'=>∃v',e= .returned v'/\WorkNw w' w.heap.size v' (newS ps ls m oldest)/\Below w.heap.size w w':=by
 have HC:=hide (fun wx h=>zdc vd ps ls hp hl wx h)
 have HD:=hide hd;obtain ⟨vp,vl,rfl,r1,r2⟩:=hd;obtain ⟨x0,d0,rfl⟩:=zdo r1;obtain ⟨x1,d1,rfl⟩:=zdo r2;obtain ⟨vf,rfl,hf⟩:=hm;obtain ⟨xf,cf,rfl⟩:=zjs hf;obtain ⟨mt,mr,nx,fs⟩:=m;obtain ⟨np,hnp⟩:∃n,n=ps.length:=⟨_,rfl⟩;obtain ⟨nl,hnl⟩:∃n,n=ls.length:=⟨_,rfl⟩;obtain ⟨nf,hnf⟩:∃n,n=fs.length:=⟨_,rfl⟩;have HF:Hid (FreesAt w (.slice xf fs.length cf) fs):=hide hf;have HUb:Hid ((upF fs oldest fs.length).length<=1048576):=hide hub
 have hnf6:nf<=1048576:=by rw [hnf];exact hfl
 show Calls Tryz.prog _ #[_,.agg #[.int .i64 mt,.int .i64 mr,.int .i64 nx,.slice xf fs.length cf],_] _ _
 rw [<-hnp,<-hnl] at HC HD⊢;rw [<-hnf] at HF⊢;have HL:=hide (⟨hnp,hnl,hnf⟩:_/\_/\_);clear r1 r2 hf hnp hnl hnf hp hl hub hfl;obtain ⟨a0,ha0⟩:∃a,a=w.heap.size:=⟨_,rfl⟩
 have hS0:=zaB (zaB (zaB (zcV w.heap.size w) (Obj.cells #[.slice x0 np d0,.slice x1 nl d1] 29) (Nat.le_refl _)) (Obj.cells #[.int .i64 mt,.int .i64 mr,.int .i64 nx,.slice xf nf cf] 38) (by simp)) (Obj.cells #[.slice none 0 0,.slice none 0 0,.int .i64 0,.slice none 0 0,.slice none 0 0,.slice none 0 0] 34) (by simp;omega)
 obtain ⟨w0,hw0⟩:∃w0,w0=((w.alloc (Obj.cells #[.slice x0 np d0,.slice x1 nl d1] 29)).alloc (Obj.cells #[.int .i64 mt,.int .i64 mr,.int .i64 nx,.slice xf nf cf] 38)).alloc (Obj.cells #[.slice none 0 0,.slice none 0 0,.int .i64 0,.slice none 0 0,.slice none 0 0,.slice none 0 0] 34):=⟨_,rfl⟩
 simp only [World.size_alloc] at hS0
 rw [<-hw0,<-ha0] at hS0
 have HB0:Hid (Below w.heap.size w w0):=hide (by rw [hw0];exact (((Below.refl w.heap.size w).alloc (Nat.le_refl _) _).alloc (by simp) _).alloc (by simp;omega) _)
 have HZ0:Hid (a0<=w0.heap.size):=hide (by rw [hw0,ha0];simp;omega)
 have HS0:Hid (Sep a0 w0 [cellA (a0+2) (Obj.cells #[.slice none 0 0,.slice none 0 0,.int .i64 0,.slice none 0 0,.slice none 0 0,.slice none 0 0] 34),cellA (a0+1) (Obj.cells #[.int .i64 mt,.int .i64 mr,.int .i64 nx,.slice xf nf cf] 38),cellA a0 (Obj.cells #[.slice x0 np d0,.slice x1 nl d1] 29)]):=hide hS0;have HA:=hide ha0;have HW0:=hide hw0;clear hS0 ha0 hw0;go_enter Tryz.func8,Tryz.ntmps8;go_wp2_with fail;rw [<-HW0.out,<-HA.out];obtain ⟨wd,hwd⟩:∃wd,wd=w0.drew:=⟨_,rfl⟩;have HSd:=hide (zcw HS0.out);have HBd:=hide (HB0.out).drew;have HZd:Hid (a0<=w0.drew.heap.size):=HZ0;rw [<-hwd] at HSd HBd HZd
 have HSw:Hid (∀wx:World,wx.heap[a0]?=some (Obj.cells #[.slice x0 np d0,.slice x1 nl d1] 29)->wx.heap[a0+1]?=some (Obj.cells #[.int .i64 mt,.int .i64 mr,.int .i64 nx,.slice xf nf cf] 38)->(fun wx=>wx.cell? ⟨a0,0,none⟩=some (.slice x0 np d0)/\wx.cell? ⟨a0,1,none⟩=some (.slice x1 nl d1)/\wx.cell? ⟨a0+1,2,none⟩=some (.int .i64 nx)) wx):=hide (fun wx h1 h2=>⟨(za0 h1 0).1,(za0 h1 1).1,(za0 h2 2).1⟩)
 have hHeld:=HSw.out wd (za2 HSd.out 2 rfl) (za2 HSd.out 1 rfl)
 refine wp_region_held_drew (S:=fun wx=>wx.cell? ⟨a0,0,none⟩=some (.slice x0 np d0)/\wx.cell? ⟨a0,1,none⟩=some (.slice x1 nl d1)/\wx.cell? ⟨a0+1,2,none⟩=some (.int .i64 nx)) (by kernel_rfl) (by rw [<-hwd];exact hHeld) (fun _=> ?_)
 rw [<-hwd];clear hwd
 refine tK 0 9 ?_ rfl rfl (by kernel_rfl) (fun _ _ _ h=>h) ⟨by rfl,?_⟩ hHeld ?_
 rotate_left
 ·(intro wx hSw;(try dsimp only at hSw);go_simp;try with_reducible rfl)
 simp only [yA,yB,yC]
 refine tK 2 11 ?_ rfl rfl (by kernel_rfl) (fun _ _ _ h=>h) ⟨by rfl,?_⟩ hHeld ?_
 rotate_left
 ·(intro wx hSw;(try dsimp only at hSw);go_simp;try with_reducible rfl)
 simp only [yA,yB,yC]
 refine tK 3 12 ?_ rfl rfl (by kernel_rfl) (fun _ _ _ h=>h) ⟨by rfl,?_⟩ hHeld ?_
 rotate_left
 ·(intro wx hSw;(try dsimp only at hSw);go_simp;try with_reducible rfl)
 simp only [yA,yB,yC]
 refine wpAnyH_ready (rs:= [1,5]) (by kernel_rfl) (by simp) ?_
 refine AllReadyH.cons rfl (fun K hK=> ?_) (AllReadyH.cons rfl (fun K hK=> ?_) AllReadyH.nil)
 ·refine zaG wd ?_ 21 Tryz.f21 Tryz.func21 ?_ ?_ (.tmp 9) #[29] ?_ (.agg #[.slice x0 np d0,.slice x1 nl d1]) ?_ _ (HC.out wd (zak HD.out HBd.out)) ?_
  ·exact rfl
  ·decide
  ·exact Option.some_ne_none _
  ·exact rfl
  ·exact rfl
  rintro e w5 ⟨v5,rfl,hown5,hb5⟩;obtain ⟨u0,q0,u1,q1,rfl⟩:=zbb hown5;rw [<-HL.out.1,<-HL.out.2.1] at hown5⊢;refine ⟨_,rfl,?_⟩
  have hx5:=zdf HSd.out hb5 (diskA a0 (.agg #[.slice u0 np q0,.slice u1 nl q1]) ps ls) (zhm hown5 HZd.out) (fun j hj=>zby hown5 j hj) HZd.out
  have hS5:=HSw.out w5 (za2 hx5 3 rfl) (za2 hx5 2 rfl);have HX5:=hide hx5;have HB5:Hid (Below w.heap.size w w5):=hide (HBd.out.trans (hb5.mono HBd.out.size));have HZ5:Hid (a0<=w5.heap.size):=hide (Nat.le_trans HZd.out hb5.size)
  refine hK.out (Act.put _ (some 10) _) _ hS5 (fun _=> ?_)
  clear hK K hown5 hb5 hx5
  simp only [Act.put,yA,yB,yC]
  refine tK 4 13 ?_ rfl rfl (by kernel_rfl) (fun _ _ _ h=>h) ⟨by rfl,?_⟩ hS5 ?_
  rotate_left
  ·(intro wx hSw;(try dsimp only at hSw);go_simp;try with_reducible rfl)
  simp only [yA,yB,yC]
  have hx6:=zaB HX5.out (Obj.cells #[.slice none 0 0,.slice none 0 0,.int .i64 0,.slice none 0 0,.slice none 0 0,.slice none 0 0] 34) HZ5.out;have hS6:=HSw.out _ (za2 hx6 4 rfl) (za2 hx6 3 rfl)
  refine wpAnyH_ready (rs:= [5]) (by kernel_rfl) (by simp) ?_
  refine AllReadyH.cons rfl (fun K hK=> ?_) AllReadyH.nil
  go_simp
  refine hK.out _ _ hS6 (fun _=> ?_)
  clear hK K;have HX6:=hide hx6;have HB6:=hide (HB5.out.alloc HB5.out.size (Obj.cells #[.slice none 0 0,.slice none 0 0,.int .i64 0,.slice none 0 0,.slice none 0 0,.slice none 0 0] 34))
  have HZ6:Hid (a0<=(w5.alloc (Obj.cells #[.slice none 0 0,.slice none 0 0,.int .i64 0,.slice none 0 0,.slice none 0 0,.slice none 0 0] 34)).heap.size):=hide (by have:=HZ5.out;simp;omega)
  obtain ⟨W6,hW6⟩:∃wx,wx=w5.alloc (Obj.cells #[.slice none 0 0,.slice none 0 0,.int .i64 0,.slice none 0 0,.slice none 0 0,.slice none 0 0] 34):=⟨_,rfl⟩;obtain ⟨g7,hg7⟩:∃g,g=w5.heap.size:=⟨_,rfl⟩;rw [<-hW6] at HX6 HB6 HZ6 hS6⊢;rw [<-hg7] at HX6⊢;clear hW6 hg7 hx6 HX5 HB5 HZ5 hS5;have hgb:a0<=g7:=(zcv HX6.out 0 rfl g7 rfl).1
  have hgw:w.heap.size<=g7:=by have:=HA.out;omega
  have hx7:=zhd HX6.out 0 rfl (.slice u0 np q0) (.slice u1 nl q1) (.int .i64 nx) (.slice none 0 0) (.slice none 0 0) (.slice none 0 0);have hS7:=HSw.out _ (za2 hx7 4 rfl) (za2 hx7 3 rfl);obtain ⟨c0,c1,c2,c3,c4,c5⟩:=blk6c (za2 HX6.out 0 rfl:W6.heap[g7]?=some (Obj.cells #[.slice none 0 0,.slice none 0 0,.int .i64 0,.slice none 0 0,.slice none 0 0,.slice none 0 0] 34));obtain ⟨z0,z1,z2,z3,z4,z5⟩:=blk6z (za2 HX6.out 0 rfl:W6.heap[g7]?=some (Obj.cells #[.slice none 0 0,.slice none 0 0,.int .i64 0,.slice none 0 0,.slice none 0 0,.slice none 0 0] 34))
  have HX7:=hide (zb3 (pre:= [_,_,_,_,_,_]) (rest:= []) (zc6 hx7 a0 3) [1,2,0,3,4,5] (by decide) [_,_,_,_,_,_] rfl)
  have HB7:Hid (Below w.heap.size w ((((((W6.setCell ⟨g7,0,none⟩ (.slice u0 np q0)).setCell ⟨g7,1,none⟩ (.slice u1 nl q1)).setCell ⟨g7,2,none⟩ (.int .i64 nx)).setCell ⟨g7,3,none⟩ (.slice none 0 0)).setCell ⟨g7,4,none⟩ (.slice none 0 0)).setCell ⟨g7,5,none⟩ (.slice none 0 0))):=hide ((((((HB6.out.setCell (p:=⟨g7,0,none⟩) hgw _).setCell (p:=⟨g7,1,none⟩) hgw _).setCell (p:=⟨g7,2,none⟩) hgw _).setCell (p:=⟨g7,3,none⟩) hgw _).setCell (p:=⟨g7,4,none⟩) hgw _).setCell (p:=⟨g7,5,none⟩) hgw _)
  have HZ7:Hid (a0<=(((((((W6.setCell ⟨g7,0,none⟩ (.slice u0 np q0)).setCell ⟨g7,1,none⟩ (.slice u1 nl q1)).setCell ⟨g7,2,none⟩ (.int .i64 nx)).setCell ⟨g7,3,none⟩ (.slice none 0 0)).setCell ⟨g7,4,none⟩ (.slice none 0 0)).setCell ⟨g7,5,none⟩ (.slice none 0 0))).heap.size):=hide (by have:=HZ6.out;simp;omega)
  refine wpAnyH_ready (rs:= [6]) (by kernel_rfl) (by simp) ?_
  refine AllReadyH.cons rfl (fun K hK=> ?_) AllReadyH.nil
  go_simp
  refine hK.out _ _ hS7 (fun _=> ?_)
  clear hK K c0 c1 c2 c3 c4 c5 z0 z1 z2 z3 z4 z5 hx7 hS7
  refine wpAnyH_done (by kernel_rfl) ?_ _
  obtain ⟨W7,hW7⟩:∃wx,wx=((((((W6.setCell ⟨g7,0,none⟩ (.slice u0 np q0)).setCell ⟨g7,1,none⟩ (.slice u1 nl q1)).setCell ⟨g7,2,none⟩ (.int .i64 nx)).setCell ⟨g7,3,none⟩ (.slice none 0 0)).setCell ⟨g7,4,none⟩ (.slice none 0 0)).setCell ⟨g7,5,none⟩ (.slice none 0 0)):=⟨_,rfl⟩
  replace HX7:Hid (Sep a0 W7 [cellA g7 (Obj.cells #[.slice u0 np q0,.slice u1 nl q1,.int .i64 nx,.slice none 0 0,.slice none 0 0,.slice none 0 0] 34),diskA a0 (.agg #[.slice u0 np q0,.slice u1 nl q1]) ps ls,rowA a0 3 1 (.slice none 0 0) (0) (ints (upF fs oldest 0)),cellA (a0+2) (Obj.cells #[.slice none 0 0,.slice none 0 0,.int .i64 0,.slice none 0 0,.slice none 0 0,.slice none 0 0] 34),cellA (a0+1) (Obj.cells #[.int .i64 mt,.int .i64 mr,.int .i64 nx,.slice xf nf cf] 38),cellA a0 (Obj.cells #[.slice x0 np d0,.slice x1 nl d1] 29)]):=hide (by rw [hW7];exact HX7.out)
  rw [<-hW7] at HB7 HZ7⊢;clear hW7 HX6 HB6 HZ6 hS6 hHeld HSd HBd HZd HSw;go_wp2_with fail
  go_loopg [8] nf (fun q iv wr=>∃(i nr:Nat) (vr:Value),i<=nf/\q+i=nf/\iv= .int .i64 (i:Int)/\Hid (Sep a0 wr [cellA g7 (Obj.cells #[.slice u0 np q0,.slice u1 nl q1,.int .i64 nx,vr,.slice none 0 0,.slice none 0 0] 34),diskA a0 (.agg #[.slice u0 np q0,.slice u1 nl q1]) ps ls,rowA a0 3 1 (vr) (nr) (ints (upF fs oldest i)),cellA (a0+2) (Obj.cells #[.slice none 0 0,.slice none 0 0,.int .i64 0,.slice none 0 0,.slice none 0 0,.slice none 0 0] 34),cellA (a0+1) (Obj.cells #[.int .i64 mt,.int .i64 mr,.int .i64 nx,.slice xf nf cf] 38),cellA a0 (Obj.cells #[.slice x0 np d0,.slice x1 nl d1] 29)])/\Hid (Below w.heap.size w wr)/\Hid (a0<=wr.heap.size))
  case atStart=>exact ⟨0,0,_,Nat.zero_le _,by omega,rfl,HX7,HB7,HZ7⟩
  case round=>
   clear HX7 HB7 HZ7;obtain ⟨i,nr,vr,hin,hq,rfl,HS,HB,HZ⟩:=hrel;have HQ:=hide hq;clear hq;obtain ⟨xr,cr,rfl⟩:=za4 (za2 HS.out 2 rfl:wr.ownsRow a0 3 1 vr nr _);have hnr:=row_n (za2 HS.out 2 rfl:wr.ownsRow a0 3 1 (.slice xr nr cr) nr (ints (upF fs oldest i)));have hup:=zfZ fs oldest i;have HNr:=hide (⟨hnr,hup⟩:_/\_);clear hnr hup;have bx3:wr.cell? ⟨a0+1,3,none⟩=some (.slice xf nf cf):=(za0 (za2 HS.out 4 rfl:wr.heap[a0+1]?=some (Obj.cells #[.int .i64 mt,.int .i64 mr,.int .i64 nx,.slice xf nf cf] 38)) 3).1
   by_cases hlt:i<nf
   ·obtain ⟨⟨tx,pgs⟩,hfi⟩:∃f,fs[i]?=some f:=⟨fs[i]'(by rw [<-HL.out.2.2];exact hlt),List.getElem?_eq_getElem _⟩
    obtain ⟨bf,off,xp,cp,rfl,hbf,hc1,hc2,hrp⟩:=zkk HF.out hfi
    have HCf:Hid (∀wx,Below w.heap.size w wx->wx.cell? ⟨bf,off+i * 2,none⟩=some (.int .i64 tx)/\wx.cell? ⟨bf,off+i * 2+1,none⟩=some (.slice xp pgs.length cp)/\RowAt wx 1 (.slice xp pgs.length cp) pgs.length (ints pgs)):=hide (fun wx hb=>⟨(hb.cell (by exact hbf)).trans hc1,(hb.cell (by exact hbf)).trans hc2,za8 hrp hb⟩)
    have HUp:Hid (upF fs oldest (i+1)=upF fs oldest i++if tx<=oldest then pgs else []):=hide (zkl hfi)
    have hcx:=(HCf.out wr HB.out).1
    have hi0:(0:Int)<=(i:Int):=by omega
    have hi1:(i:Int)<(nf:Int):=by omega
    obtain ⟨lp,hlp⟩:∃m,m=pgs.length:=⟨_,rfl⟩;rw [<-hlp] at HCf;have HLp:=hide hlp;clear hfi hbf hc1 hc2 hrp hlp
    by_cases hle:tx<=oldest
    ·have hbd:nr+lp<=1048576:=by
      have h1:=zfZ fs oldest (i+1);rw [HUp.out,if_pos hle,List.length_append] at h1;have h2:=HNr.out.1;have h3:=HLp.out;have h4:=HUb.out
      omega
     have HUp2:Hid (upF fs oldest (i+1)=upF fs oldest i++pgs):=hide (by rw [HUp.out,if_pos hle])
     go_wp2_with fail;obtain ⟨wd,hwd⟩:∃wd,wd=wr.drew:=⟨_,rfl⟩;have HSd:=hide (zcw HS.out);have HBd:=hide (HB.out).drew;have HZd:Hid (a0<=wr.drew.heap.size):=HZ;rw [<-hwd] at HSd HBd HZd
     have HSw:Hid (∀wx:World,wx.heap[a0+1]?=some (Obj.cells #[.int .i64 mt,.int .i64 mr,.int .i64 nx,.slice (some ⟨bf,off,none⟩) nf cf] 38)->Below w.heap.size w wx->(fun wx=>wx.cell? ⟨a0+1,3,none⟩=some (.slice (some ⟨bf,off,none⟩) nf cf)/\wx.cell? ⟨bf,off+i * 2+1,none⟩=some (.slice xp lp cp)) wx):=hide (fun wx h hb=>⟨(za0 h 3).1,(HCf.out wx hb).2.1⟩)
     have hHeld:=HSw.out wd (za2 HSd.out 4 rfl) HBd.out
     refine wp_region_held_drew (S:=fun wx=>wx.cell? ⟨a0+1,3,none⟩=some (.slice (some ⟨bf,off,none⟩) nf cf)/\wx.cell? ⟨bf,off+i * 2+1,none⟩=some (.slice xp lp cp)) (by kernel_rfl) (by rw [<-hwd];exact hHeld) (fun _=> ?_)
     rw [<-hwd];clear hwd
     refine tK 0 29 ?_ rfl rfl (by kernel_rfl) (fun _ _ _ h=>h) ⟨by rfl,?_⟩ hHeld ?_
     rotate_left
     ·(intro wx hSw;(try dsimp only at hSw);go_simp;try with_reducible rfl)
     simp only [yA,yB,yC]
     refine tK 2 31 ?_ rfl rfl (by kernel_rfl) (fun _ _ _ h=>h) ⟨by rfl,?_⟩ hHeld ?_
     rotate_left
     ·(intro wx hSw;(try dsimp only at hSw);go_simp;try with_reducible rfl)
     simp only [yA,yB,yC]
     refine tK 3 32 ?_ rfl rfl (by kernel_rfl) (fun _ _ _ h=>h) ⟨by rfl,?_⟩ hHeld ?_
     rotate_left
     ·(intro wx hSw;(try dsimp only at hSw);go_simp;try with_reducible rfl)
     simp only [yA,yB,yC]
     refine tK 4 33 ?_ rfl rfl (by kernel_rfl) (fun _ _ _ h=>h) ⟨by rfl,?_⟩ hHeld ?_
     rotate_left
     ·(intro wx hSw;(try dsimp only at hSw);go_simp;try with_reducible rfl)
     simp only [yA,yB,yC]
     refine tK 5 34 ?_ rfl rfl (by kernel_rfl) (fun _ _ _ h=>h) ⟨by rfl,?_⟩ hHeld ?_
     rotate_left
     ·(intro wx hSw;(try dsimp only at hSw);go_simp;try with_reducible rfl)
     simp only [yA,yB,yC]
     refine tK 6 35 ?_ rfl rfl (by kernel_rfl) (fun _ _ _ h=>h) ⟨by rfl,?_⟩ hHeld ?_
     rotate_left
     ·(intro wx hSw;(try dsimp only at hSw);go_simp;try with_reducible rfl)
     simp only [yA,yB,yC]
     refine tK 7 36 ?_ rfl rfl (by kernel_rfl) (fun _ _ _ h=>h) ⟨by rfl,?_⟩ hHeld ?_
     rotate_left
     ·(intro wx hSw;(try dsimp only at hSw);go_simp;try with_reducible rfl)
     simp only [yA,yB,yC]
     have m0:=(za0 (za2 HSd.out 0 rfl:wd.heap[g7]?=some (Obj.cells #[.slice u0 np q0,.slice u1 nl q1,.int .i64 nx,.slice xr nr cr,.slice none 0 0,.slice none 0 0] 34)) 3).1
     refine wpAnyH_ready (rs:= [1]) (by kernel_rfl) (by simp) ?_
     refine AllReadyH.cons rfl (fun K hK=> ?_) AllReadyH.nil
     go_simp
     refine hK.out _ _ hHeld (fun _=> ?_)
     clear hK K m0
     refine wpAnyH_ready (rs:= [8]) (by kernel_rfl) (by simp) ?_
     refine AllReadyH.cons rfl (fun K hK=> ?_) AllReadyH.nil
     refine ziM HSd.out 2 rfl (Nat.le_refl a0) HZd.out HZd.out rfl (.tmp 30) (.tmp 36) rfl rfl (.slice xp lp cp) lp pgs rfl (HCf.out wd HBd.out).2.2 (by omega) ?_
     intro y8 c8 w8 hs8 hb8
     have HB8:Hid (Below w.heap.size w w8):=hide (HBd.out.trans (by rw [<-HA.out];exact hb8))
     have hS8:=HSw.out w8 (za2 hs8 4 rfl) HB8.out;have v5:=(za0 (za2 hs8 0 rfl:w8.heap[g7]?=some (Obj.cells #[.slice u0 np q0,.slice u1 nl q1,.int .i64 nx,.slice xr nr cr,.slice none 0 0,.slice none 0 0] 34)) 3).1;have z5:=(za0 (za2 hs8 0 rfl:w8.heap[g7]?=some (Obj.cells #[.slice u0 np q0,.slice u1 nl q1,.int .i64 nx,.slice xr nr cr,.slice none 0 0,.slice none 0 0] 34)) 3).2;have hs9:=zb6 hs8 0 rfl 3 (.slice y8 (nr+lp) c8);have HB9:Hid (Below w.heap.size w (w8.setCell ⟨g7,3,none⟩ (.slice y8 (nr+lp) c8))):=hide (HB8.out.setCell hgw _);have hSF:=HSw.out _ (za2 hs9 4 rfl) HB9.out;have HS9:=hide hs9
     have HZ9:Hid (a0<=(w8.setCell ⟨g7,3,none⟩ (.slice y8 (nr+lp) c8)).heap.size):=hide (by have h1:=HZd.out;have h2:=hb8.size;simp;omega)
     clear hs8 hb8 hs9
     refine hK.out (Act.put _ (some 37) _) _ hS8 (fun _=> ?_)
     clear hK K
     simp only [Act.put,yA,yB,yC]
     refine tK 9 38 ?_ rfl rfl (by kernel_rfl) (fun _ _ _ h=>h) ⟨by rfl,?_⟩ hS8 ?_
     rotate_left
     ·(intro wx hSw;(try dsimp only at hSw);go_simp;try with_reducible rfl)
     simp only [yA,yB,yC]
     refine wpAnyH_ready (rs:= [10]) (by kernel_rfl) (by simp) ?_
     refine AllReadyH.cons rfl (fun K hK=> ?_) AllReadyH.nil
     go_simp
     refine hK.out _ _ hSF (fun _=> ?_)
     clear hK K v5 z5 hS8 hSF hHeld HSd HBd HZd HSw
     refine wpAnyH_done (by kernel_rfl) ?_ _
     go_wp2_with fail
     go_roundg (gk - 1)
     case measure=>have:=HQ.out;omega
     case rel=>exact ⟨i+1,nr+lp,_,by omega,by have:=HQ.out;omega,by go_num,hide (by rw [HUp2.out];exact HS9.out),HB9,HZ9⟩
    ·have HUp2:Hid (upF fs oldest (i+1)=upF fs oldest i):=hide (by rw [HUp.out,if_neg hle,List.append_nil])
     have hgt:oldest<tx:=by omega
     go_wp2_with fail
     go_roundg (gk - 1)
     case measure=>have:=HQ.out;omega
     case rel=>exact ⟨i+1,nr,_,by omega,by have:=HQ.out;omega,by go_num,hide (by rw [HUp2.out];exact HS.out),HB,HZ⟩
   ·obtain rfl:nf=i:=by omega
    obtain ⟨v0,v1,v2,v3,v4,v5⟩:=blk6c (za2 HS.out 0 rfl:wr.heap[g7]?=some (Obj.cells #[.slice u0 np q0,.slice u1 nl q1,.int .i64 nx,.slice xr nr cr,.slice none 0 0,.slice none 0 0] 34));have hrw:=zaa (za2 HS.out 2 rfl:wr.ownsRow a0 3 1 (.slice xr nr cr) nr (ints (upF fs oldest nf)));rw [HNr.out.1] at hrw
    have HSo:=hide (zeC (upF fs oldest nf) (by have:=HNr.out.2;have:=HUb.out;omega) _ wr hrw)
    rw [<-HNr.out.1] at HSo;clear hrw
    go_wp2_with (refine HSo.out.mono ?_)
    rintro e w5 ⟨u5,m,rfl,hown5,hpm,hsm,hb5⟩;obtain rfl:=zjg hpm hsm;obtain ⟨x5,e5,rfl⟩:=za4 hown5;obtain ⟨n5,hn5⟩:∃n,n=(srtL (upF fs oldest nf)).length:=⟨_,rfl⟩;rw [<-hn5] at hown5⊢
    have hs5:=zjY HS.out hb5 2 rfl (rowA a0 3 1 (.slice x5 n5 e5) n5 (ints (srtL (upF fs oldest nf)))) (zad hown5 HZ.out) (fun j hj=>hown5.lt j hj) HZ.out
    have HB5:Hid (Below w.heap.size w w5):=hide (HB.out.trans (hb5.mono HB.out.size));clear v0 v1 v2 v3 v4 v5;obtain ⟨v0,v1,v2,v3,v4,v5⟩:=blk6c (za2 hs5 0 rfl:w5.heap[g7]?=some (Obj.cells #[.slice u0 np q0,.slice u1 nl q1,.int .i64 nx,.slice xr nr cr,.slice none 0 0,.slice none 0 0] 34));have z3:=(za0 (za2 hs5 0 rfl:w5.heap[g7]?=some (Obj.cells #[.slice u0 np q0,.slice u1 nl q1,.int .i64 nx,.slice xr nr cr,.slice none 0 0,.slice none 0 0] 34)) 3).2;obtain ⟨r0,r1,r2,r3,r4,r5⟩:=blk6c (za2 hs5 3 rfl:w5.heap[a0+2]?=some (Obj.cells #[.slice none 0 0,.slice none 0 0,.int .i64 0,.slice none 0 0,.slice none 0 0,.slice none 0 0] 34));obtain ⟨y0,y1,y2,y3,y4,y5⟩:=blk6z (za2 hs5 3 rfl:w5.heap[a0+2]?=some (Obj.cells #[.slice none 0 0,.slice none 0 0,.int .i64 0,.slice none 0 0,.slice none 0 0,.slice none 0 0] 34))
    have hne:a0+2≠g7:=fun e=>zaw hs5 3 0 rfl rfl (by decide) (a0+2) rfl e
    have HS6:=hide (zb6 hs5 0 rfl 3 (.slice x5 n5 e5));clear hs5 hown5 hpm hsm hb5 hn5;go_wp2_with fail
    have hs7:=zb3 (pre:= [_,_,_,_,_,_,_,_]) (rest:= []) (zc6 (zc6 HS6.out a0 3) a0 3) [3,4,0,1,5] (by decide) [_,_,_,_,_] rfl
    have hfin:=zmf (w:=w) (k:=⟨ps,ls,nx,srtL (upF fs oldest nf),[],[]⟩) (u0:= .slice u0 np q0) (u1:= .slice u1 nl q1) (u3:= .slice x5 n5 e5) (u4:= .slice none 0 0) (u5:= .slice none 0 0) hs7 4 rfl (zhJ (nu:=n5) (ng:=0) (nf:=0) (zfS hs7 _ (List.sublist_append_left _ [_]))) (fun j hj e=>by obtain ⟨vp,vl,n',vu,vg,vf,e2,hj⟩:=hj;obtain ⟨rfl,rfl,-,rfl,rfl,rfl⟩:=agg6 e2;rcases hj with hj | hj | hj | hj;exact zaw hs7 0 4 rfl rfl (by decide) j hj e;exact zaw hs7 1 4 rfl rfl (by decide) j hj e;cases hj;cases hj) (by have:=HA.out;omega) (by have:=HA.out;omega) (HB5.out.setCell hgw _)
    obtain ⟨f1,f2,f3⟩:=hfin;obtain ⟨t0,t1,t2,t3,t4,t5⟩:=blk6c f1
    refine bodyPost_ret (v:= .agg #[.slice u0 np q0,.slice u1 nl q1,.int .i64 nx,.slice x5 n5 e5,.slice none 0 0,.slice none 0 0]) (by simp [results,Tryz.results8,go_sem,t0,t1,t2,t3,t4,t5]) rfl ⟨_,rfl,?_,f3⟩
    rw [HL.out.2.2] at f2;exact f2
 ·have hxa:=zaB HSd.out (Obj.cells #[.slice none 0 0,.slice none 0 0,.int .i64 0,.slice none 0 0,.slice none 0 0,.slice none 0 0] 34) HZd.out
  have hSa:=HSw.out _ (za2 hxa 3 rfl) (za2 hxa 2 rfl);have HXa:=hide hxa;have HBa:=hide (HBd.out.alloc HBd.out.size (Obj.cells #[.slice none 0 0,.slice none 0 0,.int .i64 0,.slice none 0 0,.slice none 0 0,.slice none 0 0] 34))
  have HZa:Hid (a0<=(wd.alloc (Obj.cells #[.slice none 0 0,.slice none 0 0,.int .i64 0,.slice none 0 0,.slice none 0 0,.slice none 0 0] 34)).heap.size):=hide (by have:=HZd.out;simp;omega)
  go_simp
  refine hK.out _ _ hSa (fun _=> ?_)
  clear hK K hxa;obtain ⟨wa,hwa⟩:∃wx,wx=wd.alloc (Obj.cells #[.slice none 0 0,.slice none 0 0,.int .i64 0,.slice none 0 0,.slice none 0 0,.slice none 0 0] 34):=⟨_,rfl⟩;obtain ⟨g7,hg7⟩:∃g,g=wd.heap.size:=⟨_,rfl⟩;rw [<-hwa] at HXa HBa HZa hSa⊢;rw [<-hg7] at HXa⊢;clear hwa hg7
  refine wpAnyH_ready (rs:= [1]) (by kernel_rfl) (by simp) ?_
  refine AllReadyH.cons rfl (fun K hK=> ?_) AllReadyH.nil
  refine zaG wa ?_ 21 Tryz.f21 Tryz.func21 ?_ ?_ (.tmp 9) #[29] ?_ (.agg #[.slice x0 np d0,.slice x1 nl d1]) ?_ _ (HC.out wa (zak HD.out HBa.out)) ?_
  ·exact rfl
  ·decide
  ·exact Option.some_ne_none _
  ·exact rfl
  ·exact rfl
  rintro e w5 ⟨v5,rfl,hown5,hb5⟩;obtain ⟨u0,q0,u1,q1,rfl⟩:=zbb hown5;rw [<-HL.out.1,<-HL.out.2.1] at hown5⊢;refine ⟨_,rfl,?_⟩
  have hx6:=zk2 (zdf HXa.out hb5 (diskA a0 (.agg #[.slice u0 np q0,.slice u1 nl q1]) ps ls) (zhm hown5 HZa.out) (fun j hj=>zby hown5 j hj) HZa.out)
  have hS6:=HSw.out w5 (za2 hx6 4 rfl) (za2 hx6 3 rfl);have HX6:=hide hx6;have HB6:Hid (Below w.heap.size w w5):=hide (HBa.out.trans (hb5.mono HBa.out.size));have HZ6:Hid (a0<=w5.heap.size):=hide (Nat.le_trans HZa.out hb5.size)
  refine hK.out (Act.put _ (some 10) _) _ hS6 (fun _=> ?_)
  clear hK K hown5 hb5 hx6 HXa HBa HZa hSa
  simp only [Act.put,yA,yB,yC]
  refine tK 4 13 ?_ rfl rfl (by kernel_rfl) (fun _ _ _ h=>h) ⟨by rfl,?_⟩ hS6 ?_
  rotate_left
  ·(intro wx hSw;(try dsimp only at hSw);go_simp;try with_reducible rfl)
  simp only [yA,yB,yC]
  obtain ⟨W6,hW6⟩:∃wx,wx=w5:=⟨_,rfl⟩;rw [<-hW6] at HX6 HB6 HZ6 hS6⊢;clear hW6;have hgb:a0<=g7:=(zcv HX6.out 0 rfl g7 rfl).1
  have hgw:w.heap.size<=g7:=by have:=HA.out;omega
  have hx7:=zhd HX6.out 0 rfl (.slice u0 np q0) (.slice u1 nl q1) (.int .i64 nx) (.slice none 0 0) (.slice none 0 0) (.slice none 0 0);have hS7:=HSw.out _ (za2 hx7 4 rfl) (za2 hx7 3 rfl);obtain ⟨c0,c1,c2,c3,c4,c5⟩:=blk6c (za2 HX6.out 0 rfl:W6.heap[g7]?=some (Obj.cells #[.slice none 0 0,.slice none 0 0,.int .i64 0,.slice none 0 0,.slice none 0 0,.slice none 0 0] 34));obtain ⟨z0,z1,z2,z3,z4,z5⟩:=blk6z (za2 HX6.out 0 rfl:W6.heap[g7]?=some (Obj.cells #[.slice none 0 0,.slice none 0 0,.int .i64 0,.slice none 0 0,.slice none 0 0,.slice none 0 0] 34))
  have HX7:=hide (zb3 (pre:= [_,_,_,_,_,_]) (rest:= []) (zc6 hx7 a0 3) [1,2,0,3,4,5] (by decide) [_,_,_,_,_,_] rfl)
  have HB7:Hid (Below w.heap.size w ((((((W6.setCell ⟨g7,0,none⟩ (.slice u0 np q0)).setCell ⟨g7,1,none⟩ (.slice u1 nl q1)).setCell ⟨g7,2,none⟩ (.int .i64 nx)).setCell ⟨g7,3,none⟩ (.slice none 0 0)).setCell ⟨g7,4,none⟩ (.slice none 0 0)).setCell ⟨g7,5,none⟩ (.slice none 0 0))):=hide ((((((HB6.out.setCell (p:=⟨g7,0,none⟩) hgw _).setCell (p:=⟨g7,1,none⟩) hgw _).setCell (p:=⟨g7,2,none⟩) hgw _).setCell (p:=⟨g7,3,none⟩) hgw _).setCell (p:=⟨g7,4,none⟩) hgw _).setCell (p:=⟨g7,5,none⟩) hgw _)
  have HZ7:Hid (a0<=(((((((W6.setCell ⟨g7,0,none⟩ (.slice u0 np q0)).setCell ⟨g7,1,none⟩ (.slice u1 nl q1)).setCell ⟨g7,2,none⟩ (.int .i64 nx)).setCell ⟨g7,3,none⟩ (.slice none 0 0)).setCell ⟨g7,4,none⟩ (.slice none 0 0)).setCell ⟨g7,5,none⟩ (.slice none 0 0))).heap.size):=hide (by have:=HZ6.out;simp;omega)
  refine wpAnyH_ready (rs:= [6]) (by kernel_rfl) (by simp) ?_
  refine AllReadyH.cons rfl (fun K hK=> ?_) AllReadyH.nil
  go_simp
  refine hK.out _ _ hS7 (fun _=> ?_)
  clear hK K c0 c1 c2 c3 c4 c5 z0 z1 z2 z3 z4 z5 hx7 hS7
  refine wpAnyH_done (by kernel_rfl) ?_ _
  obtain ⟨W7,hW7⟩:∃wx,wx=((((((W6.setCell ⟨g7,0,none⟩ (.slice u0 np q0)).setCell ⟨g7,1,none⟩ (.slice u1 nl q1)).setCell ⟨g7,2,none⟩ (.int .i64 nx)).setCell ⟨g7,3,none⟩ (.slice none 0 0)).setCell ⟨g7,4,none⟩ (.slice none 0 0)).setCell ⟨g7,5,none⟩ (.slice none 0 0)):=⟨_,rfl⟩
  replace HX7:Hid (Sep a0 W7 [cellA g7 (Obj.cells #[.slice u0 np q0,.slice u1 nl q1,.int .i64 nx,.slice none 0 0,.slice none 0 0,.slice none 0 0] 34),diskA a0 (.agg #[.slice u0 np q0,.slice u1 nl q1]) ps ls,rowA a0 3 1 (.slice none 0 0) (0) (ints (upF fs oldest 0)),cellA (a0+2) (Obj.cells #[.slice none 0 0,.slice none 0 0,.int .i64 0,.slice none 0 0,.slice none 0 0,.slice none 0 0] 34),cellA (a0+1) (Obj.cells #[.int .i64 mt,.int .i64 mr,.int .i64 nx,.slice xf nf cf] 38),cellA a0 (Obj.cells #[.slice x0 np d0,.slice x1 nl d1] 29)]):=hide (by rw [hW7];exact HX7.out)
  rw [<-hW7] at HB7 HZ7⊢;clear hW7 HX6 HB6 HZ6 hS6 hHeld HSd HBd HZd HSw;go_wp2_with fail
  go_loopg [8] nf (fun q iv wr=>∃(i nr:Nat) (vr:Value),i<=nf/\q+i=nf/\iv= .int .i64 (i:Int)/\Hid (Sep a0 wr [cellA g7 (Obj.cells #[.slice u0 np q0,.slice u1 nl q1,.int .i64 nx,vr,.slice none 0 0,.slice none 0 0] 34),diskA a0 (.agg #[.slice u0 np q0,.slice u1 nl q1]) ps ls,rowA a0 3 1 (vr) (nr) (ints (upF fs oldest i)),cellA (a0+2) (Obj.cells #[.slice none 0 0,.slice none 0 0,.int .i64 0,.slice none 0 0,.slice none 0 0,.slice none 0 0] 34),cellA (a0+1) (Obj.cells #[.int .i64 mt,.int .i64 mr,.int .i64 nx,.slice xf nf cf] 38),cellA a0 (Obj.cells #[.slice x0 np d0,.slice x1 nl d1] 29)])/\Hid (Below w.heap.size w wr)/\Hid (a0<=wr.heap.size))
  case atStart=>exact ⟨0,0,_,Nat.zero_le _,by omega,rfl,HX7,HB7,HZ7⟩
  case round=>
   clear HX7 HB7 HZ7;obtain ⟨i,nr,vr,hin,hq,rfl,HS,HB,HZ⟩:=hrel;have HQ:=hide hq;clear hq;obtain ⟨xr,cr,rfl⟩:=za4 (za2 HS.out 2 rfl:wr.ownsRow a0 3 1 vr nr _);have hnr:=row_n (za2 HS.out 2 rfl:wr.ownsRow a0 3 1 (.slice xr nr cr) nr (ints (upF fs oldest i)));have hup:=zfZ fs oldest i;have HNr:=hide (⟨hnr,hup⟩:_/\_);clear hnr hup;have bx3:wr.cell? ⟨a0+1,3,none⟩=some (.slice xf nf cf):=(za0 (za2 HS.out 4 rfl:wr.heap[a0+1]?=some (Obj.cells #[.int .i64 mt,.int .i64 mr,.int .i64 nx,.slice xf nf cf] 38)) 3).1
   by_cases hlt:i<nf
   ·obtain ⟨⟨tx,pgs⟩,hfi⟩:∃f,fs[i]?=some f:=⟨fs[i]'(by rw [<-HL.out.2.2];exact hlt),List.getElem?_eq_getElem _⟩
    obtain ⟨bf,off,xp,cp,rfl,hbf,hc1,hc2,hrp⟩:=zkk HF.out hfi
    have HCf:Hid (∀wx,Below w.heap.size w wx->wx.cell? ⟨bf,off+i * 2,none⟩=some (.int .i64 tx)/\wx.cell? ⟨bf,off+i * 2+1,none⟩=some (.slice xp pgs.length cp)/\RowAt wx 1 (.slice xp pgs.length cp) pgs.length (ints pgs)):=hide (fun wx hb=>⟨(hb.cell (by exact hbf)).trans hc1,(hb.cell (by exact hbf)).trans hc2,za8 hrp hb⟩)
    have HUp:Hid (upF fs oldest (i+1)=upF fs oldest i++if tx<=oldest then pgs else []):=hide (zkl hfi)
    have hcx:=(HCf.out wr HB.out).1
    have hi0:(0:Int)<=(i:Int):=by omega
    have hi1:(i:Int)<(nf:Int):=by omega
    obtain ⟨lp,hlp⟩:∃m,m=pgs.length:=⟨_,rfl⟩;rw [<-hlp] at HCf;have HLp:=hide hlp;clear hfi hbf hc1 hc2 hrp hlp
    by_cases hle:tx<=oldest
    ·have hbd:nr+lp<=1048576:=by
      have h1:=zfZ fs oldest (i+1);rw [HUp.out,if_pos hle,List.length_append] at h1;have h2:=HNr.out.1;have h3:=HLp.out;have h4:=HUb.out
      omega
     have HUp2:Hid (upF fs oldest (i+1)=upF fs oldest i++pgs):=hide (by rw [HUp.out,if_pos hle])
     go_wp2_with fail;obtain ⟨wd,hwd⟩:∃wd,wd=wr.drew:=⟨_,rfl⟩;have HSd:=hide (zcw HS.out);have HBd:=hide (HB.out).drew;have HZd:Hid (a0<=wr.drew.heap.size):=HZ;rw [<-hwd] at HSd HBd HZd
     have HSw:Hid (∀wx:World,wx.heap[a0+1]?=some (Obj.cells #[.int .i64 mt,.int .i64 mr,.int .i64 nx,.slice (some ⟨bf,off,none⟩) nf cf] 38)->Below w.heap.size w wx->(fun wx=>wx.cell? ⟨a0+1,3,none⟩=some (.slice (some ⟨bf,off,none⟩) nf cf)/\wx.cell? ⟨bf,off+i * 2+1,none⟩=some (.slice xp lp cp)) wx):=hide (fun wx h hb=>⟨(za0 h 3).1,(HCf.out wx hb).2.1⟩)
     have hHeld:=HSw.out wd (za2 HSd.out 4 rfl) HBd.out
     refine wp_region_held_drew (S:=fun wx=>wx.cell? ⟨a0+1,3,none⟩=some (.slice (some ⟨bf,off,none⟩) nf cf)/\wx.cell? ⟨bf,off+i * 2+1,none⟩=some (.slice xp lp cp)) (by kernel_rfl) (by rw [<-hwd];exact hHeld) (fun _=> ?_)
     rw [<-hwd];clear hwd
     refine tK 0 29 ?_ rfl rfl (by kernel_rfl) (fun _ _ _ h=>h) ⟨by rfl,?_⟩ hHeld ?_
     rotate_left
     ·(intro wx hSw;(try dsimp only at hSw);go_simp;try with_reducible rfl)
     simp only [yA,yB,yC]
     refine tK 2 31 ?_ rfl rfl (by kernel_rfl) (fun _ _ _ h=>h) ⟨by rfl,?_⟩ hHeld ?_
     rotate_left
     ·(intro wx hSw;(try dsimp only at hSw);go_simp;try with_reducible rfl)
     simp only [yA,yB,yC]
     refine tK 3 32 ?_ rfl rfl (by kernel_rfl) (fun _ _ _ h=>h) ⟨by rfl,?_⟩ hHeld ?_
     rotate_left
     ·(intro wx hSw;(try dsimp only at hSw);go_simp;try with_reducible rfl)
     simp only [yA,yB,yC]
     refine tK 4 33 ?_ rfl rfl (by kernel_rfl) (fun _ _ _ h=>h) ⟨by rfl,?_⟩ hHeld ?_
     rotate_left
     ·(intro wx hSw;(try dsimp only at hSw);go_simp;try with_reducible rfl)
     simp only [yA,yB,yC]
     refine tK 5 34 ?_ rfl rfl (by kernel_rfl) (fun _ _ _ h=>h) ⟨by rfl,?_⟩ hHeld ?_
     rotate_left
     ·(intro wx hSw;(try dsimp only at hSw);go_simp;try with_reducible rfl)
     simp only [yA,yB,yC]
     refine tK 6 35 ?_ rfl rfl (by kernel_rfl) (fun _ _ _ h=>h) ⟨by rfl,?_⟩ hHeld ?_
     rotate_left
     ·(intro wx hSw;(try dsimp only at hSw);go_simp;try with_reducible rfl)
     simp only [yA,yB,yC]
     refine tK 7 36 ?_ rfl rfl (by kernel_rfl) (fun _ _ _ h=>h) ⟨by rfl,?_⟩ hHeld ?_
     rotate_left
     ·(intro wx hSw;(try dsimp only at hSw);go_simp;try with_reducible rfl)
     simp only [yA,yB,yC]
     have m0:=(za0 (za2 HSd.out 0 rfl:wd.heap[g7]?=some (Obj.cells #[.slice u0 np q0,.slice u1 nl q1,.int .i64 nx,.slice xr nr cr,.slice none 0 0,.slice none 0 0] 34)) 3).1
     refine wpAnyH_ready (rs:= [1]) (by kernel_rfl) (by simp) ?_
     refine AllReadyH.cons rfl (fun K hK=> ?_) AllReadyH.nil
     go_simp
     refine hK.out _ _ hHeld (fun _=> ?_)
     clear hK K m0
     refine wpAnyH_ready (rs:= [8]) (by kernel_rfl) (by simp) ?_
     refine AllReadyH.cons rfl (fun K hK=> ?_) AllReadyH.nil
     refine ziM HSd.out 2 rfl (Nat.le_refl a0) HZd.out HZd.out rfl (.tmp 30) (.tmp 36) rfl rfl (.slice xp lp cp) lp pgs rfl (HCf.out wd HBd.out).2.2 (by omega) ?_
     intro y8 c8 w8 hs8 hb8
     have HB8:Hid (Below w.heap.size w w8):=hide (HBd.out.trans (by rw [<-HA.out];exact hb8))
     have hS8:=HSw.out w8 (za2 hs8 4 rfl) HB8.out;have v5:=(za0 (za2 hs8 0 rfl:w8.heap[g7]?=some (Obj.cells #[.slice u0 np q0,.slice u1 nl q1,.int .i64 nx,.slice xr nr cr,.slice none 0 0,.slice none 0 0] 34)) 3).1;have z5:=(za0 (za2 hs8 0 rfl:w8.heap[g7]?=some (Obj.cells #[.slice u0 np q0,.slice u1 nl q1,.int .i64 nx,.slice xr nr cr,.slice none 0 0,.slice none 0 0] 34)) 3).2;have hs9:=zb6 hs8 0 rfl 3 (.slice y8 (nr+lp) c8);have HB9:Hid (Below w.heap.size w (w8.setCell ⟨g7,3,none⟩ (.slice y8 (nr+lp) c8))):=hide (HB8.out.setCell hgw _);have hSF:=HSw.out _ (za2 hs9 4 rfl) HB9.out;have HS9:=hide hs9
     have HZ9:Hid (a0<=(w8.setCell ⟨g7,3,none⟩ (.slice y8 (nr+lp) c8)).heap.size):=hide (by have h1:=HZd.out;have h2:=hb8.size;simp;omega)
     clear hs8 hb8 hs9
     refine hK.out (Act.put _ (some 37) _) _ hS8 (fun _=> ?_)
     clear hK K
     simp only [Act.put,yA,yB,yC]
     refine tK 9 38 ?_ rfl rfl (by kernel_rfl) (fun _ _ _ h=>h) ⟨by rfl,?_⟩ hS8 ?_
     rotate_left
     ·(intro wx hSw;(try dsimp only at hSw);go_simp;try with_reducible rfl)
     simp only [yA,yB,yC]
     refine wpAnyH_ready (rs:= [10]) (by kernel_rfl) (by simp) ?_
     refine AllReadyH.cons rfl (fun K hK=> ?_) AllReadyH.nil
     go_simp
     refine hK.out _ _ hSF (fun _=> ?_)
     clear hK K v5 z5 hS8 hSF hHeld HSd HBd HZd HSw
     refine wpAnyH_done (by kernel_rfl) ?_ _
     go_wp2_with fail
     go_roundg (gk - 1)
     case measure=>have:=HQ.out;omega
     case rel=>exact ⟨i+1,nr+lp,_,by omega,by have:=HQ.out;omega,by go_num,hide (by rw [HUp2.out];exact HS9.out),HB9,HZ9⟩
    ·have HUp2:Hid (upF fs oldest (i+1)=upF fs oldest i):=hide (by rw [HUp.out,if_neg hle,List.append_nil])
     have hgt:oldest<tx:=by omega
     go_wp2_with fail
     go_roundg (gk - 1)
     case measure=>have:=HQ.out;omega
     case rel=>exact ⟨i+1,nr,_,by omega,by have:=HQ.out;omega,by go_num,hide (by rw [HUp2.out];exact HS.out),HB,HZ⟩
   ·obtain rfl:nf=i:=by omega
    obtain ⟨v0,v1,v2,v3,v4,v5⟩:=blk6c (za2 HS.out 0 rfl:wr.heap[g7]?=some (Obj.cells #[.slice u0 np q0,.slice u1 nl q1,.int .i64 nx,.slice xr nr cr,.slice none 0 0,.slice none 0 0] 34));have hrw:=zaa (za2 HS.out 2 rfl:wr.ownsRow a0 3 1 (.slice xr nr cr) nr (ints (upF fs oldest nf)));rw [HNr.out.1] at hrw
    have HSo:=hide (zeC (upF fs oldest nf) (by have:=HNr.out.2;have:=HUb.out;omega) _ wr hrw)
    rw [<-HNr.out.1] at HSo;clear hrw
    go_wp2_with (refine HSo.out.mono ?_)
    rintro e w5 ⟨u5,m,rfl,hown5,hpm,hsm,hb5⟩;obtain rfl:=zjg hpm hsm;obtain ⟨x5,e5,rfl⟩:=za4 hown5;obtain ⟨n5,hn5⟩:∃n,n=(srtL (upF fs oldest nf)).length:=⟨_,rfl⟩;rw [<-hn5] at hown5⊢
    have hs5:=zjY HS.out hb5 2 rfl (rowA a0 3 1 (.slice x5 n5 e5) n5 (ints (srtL (upF fs oldest nf)))) (zad hown5 HZ.out) (fun j hj=>hown5.lt j hj) HZ.out
    have HB5:Hid (Below w.heap.size w w5):=hide (HB.out.trans (hb5.mono HB.out.size));clear v0 v1 v2 v3 v4 v5;obtain ⟨v0,v1,v2,v3,v4,v5⟩:=blk6c (za2 hs5 0 rfl:w5.heap[g7]?=some (Obj.cells #[.slice u0 np q0,.slice u1 nl q1,.int .i64 nx,.slice xr nr cr,.slice none 0 0,.slice none 0 0] 34));have z3:=(za0 (za2 hs5 0 rfl:w5.heap[g7]?=some (Obj.cells #[.slice u0 np q0,.slice u1 nl q1,.int .i64 nx,.slice xr nr cr,.slice none 0 0,.slice none 0 0] 34)) 3).2;obtain ⟨r0,r1,r2,r3,r4,r5⟩:=blk6c (za2 hs5 3 rfl:w5.heap[a0+2]?=some (Obj.cells #[.slice none 0 0,.slice none 0 0,.int .i64 0,.slice none 0 0,.slice none 0 0,.slice none 0 0] 34));obtain ⟨y0,y1,y2,y3,y4,y5⟩:=blk6z (za2 hs5 3 rfl:w5.heap[a0+2]?=some (Obj.cells #[.slice none 0 0,.slice none 0 0,.int .i64 0,.slice none 0 0,.slice none 0 0,.slice none 0 0] 34))
    have hne:a0+2≠g7:=fun e=>zaw hs5 3 0 rfl rfl (by decide) (a0+2) rfl e
    have HS6:=hide (zb6 hs5 0 rfl 3 (.slice x5 n5 e5));clear hs5 hown5 hpm hsm hb5 hn5;go_wp2_with fail
    have hs7:=zb3 (pre:= [_,_,_,_,_,_,_,_]) (rest:= []) (zc6 (zc6 HS6.out a0 3) a0 3) [3,4,0,1,5] (by decide) [_,_,_,_,_] rfl
    have hfin:=zmf (w:=w) (k:=⟨ps,ls,nx,srtL (upF fs oldest nf),[],[]⟩) (u0:= .slice u0 np q0) (u1:= .slice u1 nl q1) (u3:= .slice x5 n5 e5) (u4:= .slice none 0 0) (u5:= .slice none 0 0) hs7 4 rfl (zhJ (nu:=n5) (ng:=0) (nf:=0) (zfS hs7 _ (List.sublist_append_left _ [_]))) (fun j hj e=>by obtain ⟨vp,vl,n',vu,vg,vf,e2,hj⟩:=hj;obtain ⟨rfl,rfl,-,rfl,rfl,rfl⟩:=agg6 e2;rcases hj with hj | hj | hj | hj;exact zaw hs7 0 4 rfl rfl (by decide) j hj e;exact zaw hs7 1 4 rfl rfl (by decide) j hj e;cases hj;cases hj) (by have:=HA.out;omega) (by have:=HA.out;omega) (HB5.out.setCell hgw _)
    obtain ⟨f1,f2,f3⟩:=hfin;obtain ⟨t0,t1,t2,t3,t4,t5⟩:=blk6c f1
    refine bodyPost_ret (v:= .agg #[.slice u0 np q0,.slice u1 nl q1,.int .i64 nx,.slice x5 n5 e5,.slice none 0 0,.slice none 0 0]) (by simp [results,Tryz.results8,go_sem,t0,t1,t2,t3,t4,t5]) rfl ⟨_,rfl,?_,f3⟩
    rw [HL.out.2.2] at f2;exact f2
end Go.Proofs.YtcbogiebfbbmbaaGreatDoor
