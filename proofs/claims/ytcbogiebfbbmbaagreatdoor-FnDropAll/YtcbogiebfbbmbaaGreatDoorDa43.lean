/-
  Facts and contracts that the law's own text rests on, by their texts' names: TakeBackI.
-/
import Derived.Test.YtcbogiebfbbmbaaGreatDoorDa40
import Derived.Test.YtcbogiebfbbmbaaGreatDoorDa35
import Derived.Test.YtcbogiebfbbmbaaGreatDoorDa1
import Derived.Test.YtcbogiebfbbmbaaGreatDoorDa41
import Derived.Test.YtcbogiebfbbmbaaGreatDoorDa42
set_option maxHeartbeats 16000000
set_option maxRecDepth 100000
namespace Go.Proofs.YtcbogiebfbbmbaaGreatDoor
open Go.RowKit
theorem zjz (p:Int) (n:Nd) (hok:n.ok=true) (a:Nat) (h1:a<n.ks.length) (kid:Int) (hkl:n.lf=true->kid=0) (vk vv vc:Value) (B:Nat) (w:World) (hB:B<=w.heap.size) (h:LvN w B ((p,n,(a:Int)),vk,vv,vc)):
  Calls Tryz.prog 72 #[.agg #[.int .i64 p,.bool n.lf,vk,vv,vc,.int .i64 (a:Int)],.int .i64 kid] w fun e w'=>∃v,e= .returned v/\NdOwn w' B v n.lf (bkK n a kid) (bkV n a) (bkC n a kid)/\Below w.heap.size w w':=by
 have hsm:n.ks.length<=1000:=by obtain ⟨-,-,-,h4⟩:=zjq hok;omega
 obtain ⟨ev1,ev2⟩:=zbj hok
 by_cases h0:kid=0
 ·subst h0
  cases hl:n.lf with
  | true=>
   have:=ziW p n hl (ev1 hl).1 hsm a h1 vk vv vc B w hB h;rw [hl] at this
   simpa only [bkK,bkV,bkC,hl,ne_eq,not_true_eq_false,if_false,if_true] using this
  | false=>
   have:=zjy p n hl (ev2 hl).1 hsm a h1 vk vv vc B w hB h;rw [hl] at this
   simpa only [bkK,bkV,bkC,hl,ne_eq,not_true_eq_false,if_false,if_true,Bool.false_eq_true] using this
 ·have hl:n.lf=false:=by cases e:n.lf with | true=>exact absurd (hkl e) h0 | false=>rfl
  have:=zjx p n hl (ev2 hl).1 hsm a h1 kid h0 vk vv vc B w hB h;rw [hl] at this⊢
  simpa only [bkK,bkV,bkC,hl,ne_eq,h0,not_false_eq_true,if_false,if_true,Bool.false_eq_true] using this
theorem znh {n:Nd} (hok:n.ok=true) (a:Nat) (kid:Int):(bkK n a kid).length<=1048576/\(bkV n a).length<=1048576/\(bkC n a kid).length<=1048576/\(∀s∈bkK n a kid,s.size<=1048576)/\∀s∈bkV n a,s.size<=1048576:=by
 obtain ⟨s1,s2,-,s4⟩:=zjq hok;obtain ⟨ev1,ev2⟩:=zbj hok
 have hv:n.vs.length<=4:=by
  cases e:n.lf with
  | true=>have:=(ev1 e).1;omega
  | false=>rw [(ev2 e).2];simp
 have hc:n.cs.length<=4:=by
  cases e:n.lf with
  | true=>rw [(ev1 e).2];simp
  | false=>have:=(ev2 e).1;omega
 unfold bkK bkV bkC
 refine ⟨?_,?_,?_,fun s hs=> ?_,fun s hs=> ?_⟩
 ·split <;> (try simp) <;> omega
 ·split <;> (try simp) <;> omega
 ·split
  ·simp
  ·split <;> (try simp) <;> omega
 ·split at hs
  ·have:=s1 s hs;omega
  ·rcases List.mem_append.1 hs with h | h
   ·have:=s1 s (List.mem_of_mem_take h);omega
   ·have:=s1 s (List.mem_of_mem_drop h);omega
 ·split at hs
  ·rcases List.mem_append.1 hs with h | h
   ·have:=s2 s (List.mem_of_mem_take h);omega
   ·have:=s2 s (List.mem_of_mem_drop h);omega
  ·cases hs
theorem ndAt {w:World} {B:Nat} {v:Value} {lf:Bool} {ks vs:List ByteArray} {cs:List Int} (h:NdOwn w B v lf ks vs cs) {wx:World} (hb:Below w.heap.size w wx):NodeAt wx v lf ks vs cs:=by
 obtain ⟨vk,vv,vc,e,h1,h2,h3⟩:=h;exact ⟨vk,vv,vc,e,za8 (zaa h1) hb,za8 (zaa h2) hb,za8 (zaa h3) hb⟩
structure TbSt (w:World) (ws:List WLvl) (k:Wk) (cs:Array Value) (V6:Array Value) (i:Nat) (os:Array Value) (wx:World):Prop where
 go:wx.heap[w.heap.size+1+1+1]?=some (.cells os 34 (0,0))
 wk:(i=ws.length/\os=V6)\/(i<ws.length/\WorkNw wx (w.heap.size+1+1+1+1) (.agg os) (backS (ws.drop i) k).1)
 ar:wx.heap[w.heap.size+1]?=some (.cells cs 98 (0,0))
 rs:wx.heap[w.heap.size+1+1]?=some (.cells #[.slice none 0 0,.slice none 0 0,.int .i64 0,.slice none 0 0,.slice none 0 0,.slice none 0 0] 34 (0,0))
 bl:Below w.heap.size w wx
theorem ziX (v:Value) (k:Wk) (hj:JOk k) (hsm:k.sm 61000) (cs:Array Value) (l:List LvV) (hA:LvArr cs l) (ws:List WLvl) (hlw:l.map Prod.fst=ws) (hg:WGood ws) (hat:∀x∈ws,0<=x.2.2) (Bu:Nat) (w:World) (hBu:Bu<=w.heap.size) (hlv:∀e∈l,LvN w Bu e) (hT:SumTab w) (hd:WorkAt w v k) (ho:(backS ws k).2.2=true):
  Calls Tryz.prog 50 #[v,.agg cs,.int .i64 (ws.length:Int)] w fun e w'=>∃v',e= .returned (.tuple #[v',.int .i64 (backS ws k).2.1,.bool true])/\WorkNw w' w.heap.size v' (backS ws k).1/\Below w.heap.size w w':=by
 have HD:=hide hd;have HT:=hide hT;obtain ⟨ap,cp,al,cl,au,cu,ag,cg,af,cf,rfl⟩:=zbn hd;obtain ⟨np,hnp⟩:∃n,n=k.ps.length:=⟨_,rfl⟩;obtain ⟨nl,hnl⟩:∃n,n=k.ls.length:=⟨_,rfl⟩;obtain ⟨nu,hnu⟩:∃n,n=k.us.length:=⟨_,rfl⟩;obtain ⟨ng,hng⟩:∃n,n=k.gs.length:=⟨_,rfl⟩;obtain ⟨nf,hnf⟩:∃n,n=k.fs.length:=⟨_,rfl⟩;obtain ⟨nx,hnx⟩:∃n,n=k.next:=⟨_,rfl⟩;rw [<-hnp,<-hnl,<-hnu,<-hng,<-hnf,<-hnx] at HD⊢;have HG:=hide (⟨hg,hat,ho,hj,hsm,hA,hlw⟩:_/\_/\_/\_/\_/\_/\_)
 have HLv:=hide (fun e he wx (hb:Below w.heap.size w wx)=>(hlv e he).below hb)
 have HBu:=hide hBu;obtain ⟨N,hN⟩:∃N,N=ws.length:=⟨_,rfl⟩;have HN:=hide hN;rw [<-hN];have hcs:cs.size=48:=hA.1;have hone:=hA.2.1;clear hd hT hg hat ho hj hsm hA hlw hlv hBu hnp hnl hnu hng hnf hnx hN;go_enter Tryz.func50,Tryz.ntmps50;obtain ⟨w0,hw0⟩:∃x,x=(((w.alloc (.cells #[.slice ap np cp,.slice al nl cl,.int .i64 nx,.slice au nu cu,.slice ag ng cg,.slice af nf cf] 34)).alloc (.cells cs 98)).alloc (.cells #[.slice none 0 0,.slice none 0 0,.int .i64 0,.slice none 0 0,.slice none 0 0,.slice none 0 0] 34)):=⟨_,rfl⟩
 have HB0:Hid (Below w.heap.size w w0):=hide (by rw [hw0];exact (((Below.refl _ _).alloc (Nat.le_refl _) _).alloc (by simp) _).alloc (by simp;omega) _)
 have HV0:Hid (w0.heap[w.heap.size]?=some (.cells #[.slice ap np cp,.slice al nl cl,.int .i64 nx,.slice au nu cu,.slice ag ng cg,.slice af nf cf] 34 (0,0))):=hide (by rw [hw0,heap_alloc_old _ _ (by simp;omega),heap_alloc_old _ _ (by simp)];exact heap_alloc_new w _)
 have hs1:(w.alloc (Obj.cells #[.slice ap np cp,.slice al nl cl,.int .i64 nx,.slice au nu cu,.slice ag ng cg,.slice af nf cf] 34)).heap.size=w.heap.size+1:=by simp
 have HA0:Hid (w0.heap[w.heap.size+1]?=some (.cells cs 98 (0,0))):=hide (by
  rw [hw0,heap_alloc_old _ _ (by simp)]
  have h:=heap_alloc_new (w.alloc (Obj.cells #[.slice ap np cp,.slice al nl cl,.int .i64 nx,.slice au nu cu,.slice ag ng cg,.slice af nf cf] 34)) (.cells cs 98);rw [hs1] at h
  exact h)
 have HZ0:Hid (w0.heap.size=w.heap.size+1+1+1):=hide (by rw [hw0];simp)
 have HR0:Hid (w0.heap[w.heap.size+1+1]?=some (.cells #[.slice none 0 0,.slice none 0 0,.int .i64 0,.slice none 0 0,.slice none 0 0,.slice none 0 0] 34 (0,0))):=hide (by
  rw [hw0];have h:=heap_alloc_new ((w.alloc (Obj.cells #[.slice ap np cp,.slice al nl cl,.int .i64 nx,.slice au nu cu,.slice ag ng cg,.slice af nf cf] 34)).alloc (.cells cs 98)) (.cells #[.slice none 0 0,.slice none 0 0,.int .i64 0,.slice none 0 0,.slice none 0 0,.slice none 0 0] 34)
  rw [show ((w.alloc (Obj.cells #[.slice ap np cp,.slice al nl cl,.int .i64 nx,.slice au nu cu,.slice ag ng cg,.slice af nf cf] 34)).alloc (.cells cs 98)).heap.size=w.heap.size+1+1 from by simp] at h
  exact h)
 clear hs1;go_wp2_with fail;rw [<-hw0];clear hw0;have hv0:=HV0.out;obtain ⟨q0,q1,q2,q3,q4,q5⟩:=blk6c hv0;go_step3;go_wp2_with fail;clear q0 q1 q2 q3 q4 q5 hv0;rw [HZ0.out];obtain ⟨w1,hw1⟩:∃x,x=w0.alloc (Obj.cells #[.slice ap np cp,.slice al nl cl,.int .i64 nx,.slice au nu cu,.slice ag ng cg,.slice af nf cf] 34):=⟨_,rfl⟩
 have hb1:Below w0.heap.size w0 w1:=by rw [hw1];exact (Below.refl _ _).alloc (Nat.le_refl _) _
 have HS1:Hid (TbSt w ws k cs #[.slice ap np cp,.slice al nl cl,.int .i64 nx,.slice au nu cu,.slice ag ng cg,.slice af nf cf] N #[.slice ap np cp,.slice al nl cl,.int .i64 nx,.slice au nu cu,.slice ag ng cg,.slice af nf cf] w1):=hide ⟨by rw [hw1,<-HZ0.out];exact heap_alloc_new w0 _,Or.inl ⟨HN.out,rfl⟩,stays HA0.out hb1,stays HR0.out hb1,HB0.out.trans (hb1.mono HB0.out.size)⟩
 rw [<-hw1];clear hw1 hb1;go_step3
 have hN8:N<=8:=by rw [HN.out,<-HG.out.2.2.2.2.2.2,List.length_map];exact HG.out.2.2.2.2.2.1.2.2.1
 go_wp2_with fail
 go_loopg [10,11] N (fun q kv iv wr=>∃(i:Nat) (os:Array Value),i=q/\i<=N/\iv= .int .i64 ((i:Int) - 1)/\kv= .int .i64 (backS (ws.drop i) k).2.1/\Hid (TbSt w ws k cs #[.slice ap np cp,.slice al nl cl,.int .i64 nx,.slice au nu cu,.slice ag ng cg,.slice af nf cf] i os wr))
 case atStart=>exact ⟨N,#[.slice ap np cp,.slice al nl cl,.int .i64 nx,.slice au nu cu,.slice ag ng cg,.slice af nf cf],rfl,Nat.le_refl _,by go_num,by rw [HN.out,List.drop_length];rfl,HS1⟩
 case round=>
  obtain ⟨i,os,hiq,hiN,rfl,rfl,HS⟩:=hrel;subst hiq;obtain ⟨kid,hkid⟩:∃x,x=(backS (ws.drop i) k).2.1:=⟨_,rfl⟩;rw [<-hkid];have HKid:=hide hkid;clear hkid
  cases i with
  | zero=>
   have hN1:0<N:=by
    rw [HN.out]
    cases ws with
    | nil=>exact HG.out.1.elim
    | cons x r=>simp
   have hnw:WorkNw wr (w.heap.size+1+1+1+1) (.agg os) (backS ws k).1:=by
    rcases HS.out.wk with ⟨h,-⟩ | ⟨-,h⟩
    ·have:=HN.out;omega
    ·exact h
   have hkw:kid=(backS ws k).2.1:=HKid.out;obtain ⟨K,hK⟩:∃x,x=(backS ws k).1:=⟨_,rfl⟩;have HKe:=hide (⟨hkw,hK⟩:_/\_);rw [<-hK] at hnw;have hgo:=HS.out.go;have hrs:=HS.out.rs;have hbl:=HS.out.bl;obtain ⟨a1,e1,a2,e2,a3,e3,a4,e4,a5,e5,eos⟩:=zaR hnw
   injection eos with eos
   subst eos;obtain ⟨t0,t1,t2,t3,t4,t5⟩:=blk6c hgo;have x0:=(za0 hrs 0).1;have x1:=(za0 hrs 1).1;have x2:=(za0 hrs 2).1;have x3:=(za0 hrs 3).1;have x4:=(za0 hrs 4).1;have x5:=(za0 hrs 5).1;have y0:=(za0 hrs 0).2;have y1:=(za0 hrs 1).2;have y2:=(za0 hrs 2).2;have y3:=(za0 hrs 3).2;have y4:=(za0 hrs 4).2;have y5:=(za0 hrs 5).2
   have HF:=hide (zfo (w:=w) hrs hnw (by omega) (by omega) hbl)
   clear hkw hK hnw hgo hrs hbl;go_wp2_with fail;obtain ⟨f1,f2,f3⟩:=HF.out;obtain ⟨q0,q1,q2,q3,q4,q5⟩:=blk6c f1
   try rw [Exit.noGoto_ret]
   refine bodyPost_ret (v:= .tuple #[.agg #[.slice a1 K.ps.length e1,.slice a2 K.ls.length e2,.int .i64 K.next,.slice a3 K.us.length e3,.slice a4 K.gs.length e4,.slice a5 K.fs.length e5],.int .i64 kid,.bool true]) (by simp [results,Tryz.results50,go_sem,q0,q1,q2,q3,q4,q5]) rfl ⟨_,by rw [HKe.out.1],by rw [<-HKe.out.2];exact f2,f3⟩
  | succ j=>
   rw [show ((j+1:Nat):Int) - 1=(j:Int) from by omega]
   have hjN:j<N:=by omega
   have hjw:j<ws.length:=by rw [<-HN.out];exact hjN
   obtain ⟨e,he⟩:∃e,l[j]?=some e:=⟨_,List.getElem?_eq_getElem (by rw [<-HG.out.2.2.2.2.2.2,List.length_map] at hjw;exact hjw)⟩
   have hwj:ws[j]=e.1:=by
    have h:ws[j]?=some e.1:=by rw [<-HG.out.2.2.2.2.2.2,List.getElem?_map,he];rfl
    exact (List.getElem?_eq_some_iff.1 h).2
   obtain ⟨g1,g2,g3⟩:=zkj hjw HG.out.1;have g0:=HG.out.2.1 _ (List.getElem_mem hjw);have hbo:=zhY HG.out.2.2.1 (j+1);have hst:=zmo hjw hbo;have hbj:=zhY HG.out.2.2.1 j;rw [hwj] at g1 g2 g3 g0 hst
   have HAr:=hide (fun m u (hm:m<6) (hu:(lv6 e)[m]?=some u)=>(show wr.cell? ⟨w.heap.size+1,j * 6+m,none⟩=some u by rw [(za0 HS.out.ar (j * 6+m)).1,HG.out.2.2.2.2.2.1.2.2.2 j m e he hm,hu]))
   have HE:=hide he;have HLe:=HLv.out e (List.mem_of_getElem? he);clear he hwj;obtain ⟨⟨p,n,at_⟩,vk,vv,vc⟩:=e;dsimp only at g1 g2 g3 g0 hst
   obtain ⟨a,rfl⟩:∃a:Nat,at_=(a:Int):=⟨at_.toNat,by omega⟩
   rw [Int.toNat_natCast,<-HKid.out] at hst
   have hal:a<n.ks.length:=by omega
   have hkl:n.lf=true->kid=0:=fun hl=>by
    rcases g3 with ⟨-,h,-⟩ | ⟨h,-,-⟩
    ·rw [hl] at h;cases h
    ·rw [HKid.out,List.drop_eq_nil_of_le (by omega)];rfl
   have HKd:=hide (fun wx (hb:Below w.heap.size w wx)=>zjz p n g1 a hal kid hkl vk vv vc Bu wx (Nat.le_trans HBu.out hb.size) (HLe wx hb))
   have HSt:=hide (⟨hst,hbo,hbj,g1,hal,hkl⟩:_/\_/\_/\_/\_/\_)
   have c0:wr.cell? ⟨w.heap.size+1,j * 6,none⟩=some (.int .i64 p):=HAr.out 0 _ (by omega) rfl
   have c1:wr.cell? ⟨w.heap.size+1,j * 6+1,none⟩=some (.bool n.lf):=HAr.out 1 _ (by omega) rfl
   have c2:wr.cell? ⟨w.heap.size+1,j * 6+2,none⟩=some (vk):=HAr.out 2 _ (by omega) rfl
   have c3:wr.cell? ⟨w.heap.size+1,j * 6+3,none⟩=some (vv):=HAr.out 3 _ (by omega) rfl
   have c4:wr.cell? ⟨w.heap.size+1,j * 6+4,none⟩=some (vc):=HAr.out 4 _ (by omega) rfl
   have c5:wr.cell? ⟨w.heap.size+1,j * 6+5,none⟩=some (.int .i64 (a:Int)):=HAr.out 5 _ (by omega) rfl
   have hj0:(0:Int)<=(j:Int):=by omega
   have hj8:(j:Int)<8:=by omega
   clear g1 g2 g3 g0 hst hbo hbj hal hkl HAr HLe hjw;go_wp2_with fail;clear c0 c1 c2 c3 c4 c5;refine (HKd.out wr HS.out.bl).mono ?_;rintro e w2 ⟨nv,rfl,hnd,hb2⟩;obtain ⟨kp,hkp⟩:∃x,x=(backS (ws.drop (j+1)) k).1:=⟨_,rfl⟩
   have hwk:WorkAt w2 (.agg os) kp:=by
    rcases HS.out.wk with ⟨h1,h2⟩ | ⟨-,h⟩
    ·rw [h2,hkp,List.drop_eq_nil_of_le (by omega),show (backS [] k).1=k from rfl]
     exact zae HD.out (HS.out.bl.trans (hb2.mono HS.out.bl.size))
    ·rw [hkp];exact zae (zap (zaJ h)) hb2
   have HJp:Hid (JOk kp/\kp.sm 60900):=hide (by rw [hkp];exact ⟨zeM HG.out.2.2.2.1 _,zhZ _ (zaK HG.out.2.2.2.2.1 (by rw [List.length_drop];have:=HN.out;omega))⟩)
   have HSt2:=hide HSt.out;rw [<-hkp] at HSt2;obtain ⟨vk',vv',vc',rfl,o1,o2,o3⟩:=id hnd;obtain ⟨xk,dk,rfl⟩:=za4 o1;obtain ⟨xv,dv,rfl⟩:=za4 o2;obtain ⟨xc,dc,rfl⟩:=za4 o3;obtain ⟨K1,hK1⟩:∃x,x=bkK n a kid:=⟨_,rfl⟩;obtain ⟨V1,hV1⟩:∃x,x=bkV n a:=⟨_,rfl⟩;obtain ⟨C1,hC1⟩:∃x,x=bkC n a kid:=⟨_,rfl⟩;rw [<-hK1,<-hV1,<-hC1] at hnd;rw [<-hK1,<-hV1,<-hC1] at HSt2;rw [<-hK1,<-hV1,<-hC1];obtain ⟨m1,hm1⟩:∃x,x=K1.length:=⟨_,rfl⟩;rw [<-hm1];have HM:=hide (⟨hK1,hV1,hC1,hm1⟩:_/\_/\_/\_);have HNd:=hide hnd;have HWk:=hide hwk;have HG2:=hide (⟨stays HS.out.go hb2,stays HS.out.ar hb2,stays HS.out.rs hb2,HS.out.bl.trans (hb2.mono HS.out.bl.size)⟩:_/\_/\_/\_)
   have hx2:∀o,Below w2.heap.size w2 (w2.alloc o):=fun o=>(Below.refl _ _).alloc (Nat.le_refl _) o
   have HX2:=hide hx2;clear hnd hwk hkp o1 o2 o3 hK1 hV1 hC1 hm1 hb2 hx2
   by_cases h0:m1=0
   ·subst h0
    go_upto_region 7 with fail
    obtain ⟨w3,hw3⟩:∃x,x=w2.alloc (Obj.cells #[.bool n.lf,.slice xk 0 dk,.slice xv V1.length dv,.slice xc C1.length dc] 71):=⟨_,rfl⟩
    have hb3:Below w2.heap.size w2 w3:=by rw [hw3];exact HX2.out _
    rw [<-hw3];clear hw3;obtain ⟨a1,e1,a2,e2,a3,e3,a4,e4,a5,e5,eos⟩:=zbn HWk.out
    injection eos with eos
    have HI:Hid ((Tryz.prog.info? 34).map (·.size)=some os.size):=hide (by rw [eos];kernel_rfl)
    have HEos:=hide eos;clear eos;have HB3:Hid (Below w2.heap.size w2 w3.drew):=hide hb3.drew
    have HSw:Hid (∀wx,Below w2.heap.size w2 wx->wx.rangeAt (w.heap.size+1+1+1) 0 os.toList/\wx.cell? ⟨w.heap.size+1,j * 6,none⟩=some (.int .i64 p)):=hide (fun wx hb=>⟨zaj (stays HG2.out.1 hb),by
     have h:=(za0 (stays HG2.out.2.1 hb) (j * 6)).1;rw [h]
     exact HG.out.2.2.2.2.2.1.2.2.2 j 0 _ HE.out (by omega)⟩)
    have HDr:=hide (fun wx (hb:Below w2.heap.size w2 wx)=>zc1 (.agg os) kp (zct HJp.out.2) (by have:=HJp.out.2.2.2.2.2.1;omega) (by have:=HJp.out.2.2.2.2.2.2.1;omega) (by have:=HJp.out.2.2.2.2.2.2.2;omega) p HJp.out.1.asc (fun h h'=>HJp.out.1.uf _ h' h) wx (zae HWk.out hb))
    clear hb3
    refine zgH (S:=fun wx=>wx.rangeAt (w.heap.size+1+1+1) 0 os.toList/\wx.cell? ⟨w.heap.size+1,j * 6,none⟩=some (.int .i64 p)) [6] (by kernel_rfl) ?_
    obtain ⟨wd,hwd⟩:∃wd,wd=w3.drew:=⟨_,rfl⟩;rw [<-hwd] at HB3⊢;clear hwd;have hHeld:=HSw.out wd HB3.out
    refine zdx 0 31 (.agg os) rfl rfl (by kernel_rfl) (by kernel_rfl) (by kernel_rfl) (by kernel_rfl) (fun _ _ _ h=>h) (zbT (by rfl) 34 (.tmp 9) rfl (w.heap.size+1+1+1) 0 rfl os _ (fun _ h=>h.1) Tryz.underlying34 rfl HI.out) hHeld ?_
    simp only [yA,yB,yC]
    refine zdx 1 32 ?_ rfl rfl (by kernel_rfl) (by kernel_rfl) (by kernel_rfl) (by kernel_rfl) (fun _ _ _ h=>h) (Or.inl ⟨by rfl,?_⟩) hHeld ?_
    rotate_left
    ·(intro wx hSw;(try dsimp only at hSw);have s0:=hSw.2;go_simp;try with_reducible rfl)
    simp only [yA,yB,yC]
    refine zdx 2 33 ?_ rfl rfl (by kernel_rfl) (by kernel_rfl) (by kernel_rfl) (by kernel_rfl) (fun _ _ _ h=>h) (Or.inl ⟨by rfl,?_⟩) hHeld ?_
    rotate_left
    ·(intro wx hSw;(try dsimp only at hSw);have s0:=hSw.2;go_simp;try with_reducible rfl)
    simp only [yA,yB,yC]
    refine zdx 3 34 ?_ rfl rfl (by kernel_rfl) (by kernel_rfl) (by kernel_rfl) (by kernel_rfl) (fun _ _ _ h=>h) (Or.inl ⟨by rfl,?_⟩) hHeld ?_
    rotate_left
    ·(intro wx hSw;(try dsimp only at hSw);have s0:=hSw.2;go_simp;try with_reducible rfl)
    simp only [yA,yB,yC]
    refine zdx 4 35 ?_ rfl rfl (by kernel_rfl) (by kernel_rfl) (by kernel_rfl) (by kernel_rfl) (fun _ _ _ h=>h) (Or.inl ⟨by rfl,?_⟩) hHeld ?_
    rotate_left
    ·(intro wx hSw;(try dsimp only at hSw);have s0:=hSw.2;go_simp;try with_reducible rfl)
    simp only [yA,yB,yC]
    refine zgG (i:=5) (by kernel_rfl) rfl ?_
    intro K hK;refine zbz wd ?_ 73 Tryz.f73 Tryz.func73 ?_ ?_ (.tmp 31) (.tmp 35) #[34,3] ?_ (.agg os) (.int .i64 p) ?_ ?_ _ (HDr.out wd HB3.out) ?_
    ·exact rfl
    ·decide
    ·exact Option.some_ne_none _
    ·exact rfl
    ·exact rfl
    ·exact rfl
    rintro e w4 ⟨v',rfl,hnw,hb4⟩;refine ⟨_,rfl,?_⟩;have HB4:Hid (Below w2.heap.size w2 w4):=hide (HB3.out.trans (hb4.mono HB3.out.size));refine hK.out (Act.put _ (some 36) _) _ (Or.inr (HSw.out _ HB4.out)) ?_;clear hK K
    simp only [Act.put,yA,yB,yC]
    obtain ⟨b1,f1,b2,f2,b3,f3,b4,f4,b5,f5,ev'⟩:=zaR hnw;obtain ⟨ns,hns⟩:∃ns:Array Value,ns= #[.slice b1 (dropS kp p).ps.length f1,.slice b2 (dropS kp p).ls.length f2,.int .i64 (dropS kp p).next,.slice b3 (dropS kp p).us.length f3,.slice b4 (dropS kp p).gs.length f4,.slice b5 (dropS kp p).fs.length f5]:=⟨_,rfl⟩;rw [<-hns] at ev';subst ev'
    have HNs:Hid (ns.size=6/\ns.toList.all (·.oneCell')=true/\(Tryz.prog.info? 34).map (·.size)=some ns.size):=hide (by rw [hns];exact ⟨rfl,rfl,by kernel_rfl⟩)
    clear hns;have HNw:=hide hnw;have HG4:=hide (⟨stays HG2.out.1 HB4.out,stays HG2.out.2.1 HB4.out,stays HG2.out.2.2.1 HB4.out,HG2.out.2.2.2.trans (HB4.out.mono HG2.out.2.2.2.size)⟩:_/\_/\_/\_)
    have HOz:Hid (os.size=6):=hide (by rw [HEos.out];rfl)
    have HTh:Hid (w4.there (w.heap.size+1+1+1) 0 ns.size):=hide (zav HG4.out.1 0 ns.size (by rw [HNs.out.1,HOz.out];exact Nat.le_refl 6))
    have HZd:Hid (w.heap.size+1+1+1+1<=wd.heap.size):=hide (by have h1:=(Array.getElem?_eq_some_iff.1 HG2.out.1).1;have h2:=HB3.out.size;omega)
    obtain ⟨w5,hw5⟩:∃x,w4.setCells (w.heap.size+1+1+1) 0 ns.toList=x:=⟨_,rfl⟩
    have HKp:Hid (Kept w4 w5 (fun j=>j=w.heap.size+1+1+1)):=hide (by rw [<-hw5];exact zbD _ _ _ _)
    have HG5:Hid (w5.heap[w.heap.size+1+1+1]?=some (.cells ns 34 (0,0))):=hide (by rw [<-hw5];exact zbs HG4.out.1 ns (by rw [HNs.out.1,HOz.out]))
    have HW5:=hide hw5;clear hw5 hnw hb4
    refine zgG (i:=6) (by kernel_rfl) rfl ?_
    intro K hK;refine zb0 ?_ 34 (.tmp 9) (.tmp 36) ?_ (w.heap.size+1+1+1) 0 ns ?_ ?_ HTh.out HNs.out.2.2 HNs.out.2.1 HW5.out ?_
    ·exact rfl
    ·exact rfl
    ·exact rfl
    ·exact rfl
    refine hK.out (Act.put _ none _) w5 (Or.inl (by simp)) ?_
    clear hK K
    simp only [Act.put]
    refine doneZs (by kernel_rfl) ?_ _
    have hk0:kid=0:=Decidable.byContradiction fun h=>by
     have h1:=HM.out.2.2.2;rw [HM.out.1,bkK,if_pos h] at h1;have:=HSt.out.2.2.2.2.1
     omega
    have hend:backS (ws.drop j) k=(dropS kp p,0,true):=by rw [HSt2.out.1,endD,if_pos HM.out.2.2.2.symm]
    have HS5:Hid (TbSt w ws k cs #[.slice ap np cp,.slice al nl cl,.int .i64 nx,.slice au nu cu,.slice ag ng cg,.slice af nf cf] j ns w5):=hide ⟨HG5.out,Or.inr ⟨by rw [<-HN.out];exact hjN,by
     rw [hend]
     exact zeZ (ze4 HNw.out HKp.out (fun i hi e=>by have h1:=(zal (zaJ HNw.out) i hi).1;have h2:=HZd.out;omega)) HZd.out⟩,(HKp.out.2.2.2.2 _ (Array.getElem?_eq_some_iff.1 HG4.out.2.1).1 (by omega)).trans HG4.out.2.1,(HKp.out.2.2.2.2 _ (Array.getElem?_eq_some_iff.1 HG4.out.2.2.1).1 (by omega)).trans HG4.out.2.2.1,HG4.out.2.2.2.trans (zac HKp.out HG4.out.2.2.2.size (fun i e=>by omega))⟩
    have HEn:Hid ((backS (ws.drop j) k).2.1=0):=hide (by rw [hend])
    clear hend;subst hk0;go_wp2_with fail
    go_roundg j
    case measure=>omega
    case rel=>exact ⟨j,ns,rfl,by omega,by go_num,by rw [HEn.out],HS5⟩
   ·have hm0:¬(m1:Int)=0:=by omega
    have hm2:((m1:Int) ==0)=false:=by rw [beq_eq_false_iff_ne];exact hm0
    obtain ⟨a1,e1,a2,e2,a3,e3,a4,e4,a5,e5,eos⟩:=zbn HWk.out
    injection eos with eos
    subst eos
    have HBk:Hid (K1.length<=1048576/\V1.length<=1048576/\C1.length<=1048576/\(∀s∈K1,s.size<=1048576)/\∀s∈V1,s.size<=1048576):=hide (by rw [HM.out.1,HM.out.2.1,HM.out.2.2.1];exact znh HSt.out.2.2.2.1 a kid)
    have HPn:=hide (fun wx (hb:Below w2.heap.size w2 wx)=>zgs _ kp (zct HJp.out.2) (.agg #[.bool n.lf,.slice xk m1 dk,.slice xv V1.length dv,.slice xc C1.length dc]) n.lf K1 V1 C1 HBk.out.1 HBk.out.2.1 HBk.out.2.2.1 HBk.out.2.2.2.1 HBk.out.2.2.2.2 wx (zag HT.out (HG2.out.2.2.2.trans (hb.mono HG2.out.2.2.2.size))) (zae HWk.out hb) (by have h:=ndAt HNd.out hb;rw [HM.out.2.2.2];exact h))
    have hgo:=fun o=>stays HG2.out.1 (HX2.out o)
    have t0:=fun o=>(za0 (hgo o) 0).1
    have t1:=fun o=>(za0 (hgo o) 1).1
    have t2:=fun o=>(za0 (hgo o) 2).1
    have t3:=fun o=>(za0 (hgo o) 3).1
    have t4:=fun o=>(za0 (hgo o) 4).1
    have t5:=fun o=>(za0 (hgo o) 5).1
    clear hgo;go_wp2_with fail;clear t0 t1 t2 t3 t4 t5;obtain ⟨w3,hw3⟩:∃x,x=w2.alloc (Obj.cells #[.bool n.lf,.slice xk m1 dk,.slice xv V1.length dv,.slice xc C1.length dc] 71):=⟨_,rfl⟩
    have hb3:Below w2.heap.size w2 w3:=by rw [hw3];exact HX2.out _
    have HB3:=hide hb3;rw [<-hw3];clear hw3 hb3;refine (HPn.out w3 HB3.out).mono ?_;rintro e w4 ⟨v',rfl,hpo,hb4⟩;obtain ⟨pg,hpg⟩:∃x,x=putP kp n.lf K1 V1 C1:=⟨_,rfl⟩;obtain ⟨kq,hkq⟩:∃x,x=putK kp n.lf K1 V1 C1:=⟨_,rfl⟩;rw [<-hkq] at hpo;rw [<-hpg]
    have hend:pg≠0/\backS (ws.drop j) k=(dropS kq p,pg,true):=by
     have h1:=HSt2.out.1;have h2:=HSt2.out.2.2.1;rw [h1] at h2;rw [h1,hpg,hkq];unfold endD at h2⊢
     rw [if_neg (by rw [<-HM.out.2.2.2];exact h0)] at h2⊢
     by_cases hz:putP kp n.lf K1 V1 C1=0
     ·rw [if_pos hz] at h2;cases h2
     ·rw [if_neg hz];exact ⟨hz,rfl⟩
    have HEnd:=hide hend
    have HJq:Hid (JOk kq/\kq.sm 60800):=hide (by rw [hkq];exact ⟨zji HJp.out.1 _ _ _ _,zaK (zlp (m:=60899) HJp.out.2 _ _ _ _) (by omega)⟩)
    have hpz:(pg ==0)=false:=by rw [beq_eq_false_iff_ne];exact hend.1
    have HB4:Hid (Below w2.heap.size w2 w4):=hide (HB3.out.trans (hb4.mono HB3.out.size));have HG4:=hide (⟨stays HG2.out.1 HB4.out,stays HG2.out.2.1 HB4.out,stays HG2.out.2.2.1 HB4.out,HG2.out.2.2.2.trans (HB4.out.mono HG2.out.2.2.2.size)⟩:_/\_/\_/\_);obtain ⟨b1,f1,b2,f2,b3,f3,b4,f4,b5,f5,rfl⟩:=zaH hpo;have HPo:=hide hpo;clear hpo hb4 hpg hkq hend
    go_upto_region 11 with fail
    obtain ⟨g,hg⟩:∃g,g=w4.heap.size:=⟨_,rfl⟩;obtain ⟨w5,hw5⟩:∃x,x=w4.alloc (Obj.cells #[.slice b1 kq.ps.length f1,.slice b2 kq.ls.length f2,.int .i64 kq.next,.slice b3 kq.us.length f3,.slice b4 kq.gs.length f4,.slice b5 kq.fs.length f5] 34):=⟨_,rfl⟩
    have hb5:Below w4.heap.size w4 w5:=by rw [hw5];exact (Below.refl _ _).alloc (Nat.le_refl _) _
    have hgq:w5.heap[g]?=some (.cells #[.slice b1 kq.ps.length f1,.slice b2 kq.ls.length f2,.int .i64 kq.next,.slice b3 kq.us.length f3,.slice b4 kq.gs.length f4,.slice b5 kq.fs.length f5] 34 (0,0)):=by rw [hw5,hg];exact heap_alloc_new w4 _
    have HGz:Hid (w.heap.size+1+1+1<g):=hide (by rw [hg];exact (Array.getElem?_eq_some_iff.1 HG4.out.1).1)
    rw [<-hw5,<-hg];have HB5:=hide hb5.drew;have HGq:Hid (w5.drew.heap[g]?=_):=hide hgq;clear hw5 hg hb5 hgq;obtain ⟨wd,hwd⟩:∃wd,wd=w5.drew:=⟨_,rfl⟩
    have HSw:Hid (∀wx,Below wd.heap.size wd wx->wx.rangeAt g 0 (#[.slice b1 kq.ps.length f1,.slice b2 kq.ls.length f2,.int .i64 kq.next,.slice b3 kq.us.length f3,.slice b4 kq.gs.length f4,.slice b5 kq.fs.length f5]:Array Value).toList/\wx.cell? ⟨w.heap.size+1,j * 6,none⟩=some (.int .i64 p)):=hide (fun wx hb=>⟨zaj (stays HGq.out (by rw [<-hwd];exact hb)),by
     have h:=(za0 (stays (stays HG4.out.2.1 HB5.out) (by rw [<-hwd];exact hb)) (j * 6)).1
     rw [h]
     exact HG.out.2.2.2.2.2.1.2.2.2 j 0 _ HE.out (by omega)⟩)
    have HDr:=hide (fun wx (hb:Below w4.heap.size w4 wx)=>zc1 (.agg #[.slice b1 kq.ps.length f1,.slice b2 kq.ls.length f2,.int .i64 kq.next,.slice b3 kq.us.length f3,.slice b4 kq.gs.length f4,.slice b5 kq.fs.length f5]) kq (zct HJq.out.2) (by have:=HJq.out.2.2.2.2.2.1;omega) (by have:=HJq.out.2.2.2.2.2.2.1;omega) (by have:=HJq.out.2.2.2.2.2.2.2;omega) p HJq.out.1.asc (fun h h'=>HJq.out.1.uf _ h' h) wx (zae (zap HPo.out) hb))
    refine zgH (S:=fun wx=>wx.rangeAt g 0 (#[.slice b1 kq.ps.length f1,.slice b2 kq.ls.length f2,.int .i64 kq.next,.slice b3 kq.us.length f3,.slice b4 kq.gs.length f4,.slice b5 kq.fs.length f5]:Array Value).toList/\wx.cell? ⟨w.heap.size+1,j * 6,none⟩=some (.int .i64 p)) [] (by kernel_rfl) ?_
    rw [<-hwd] at HB5 HGq⊢;clear hwd;have hHeld:=HSw.out wd (Below.refl _ _)
    refine zdx 0 46 (.agg #[.slice b1 kq.ps.length f1,.slice b2 kq.ls.length f2,.int .i64 kq.next,.slice b3 kq.us.length f3,.slice b4 kq.gs.length f4,.slice b5 kq.fs.length f5]) rfl rfl (by kernel_rfl) (by kernel_rfl) (by kernel_rfl) (by kernel_rfl) (fun _ _ _ h=>h) (zbT (by rfl) 34 (.tmp 13) rfl g 0 rfl #[.slice b1 kq.ps.length f1,.slice b2 kq.ls.length f2,.int .i64 kq.next,.slice b3 kq.us.length f3,.slice b4 kq.gs.length f4,.slice b5 kq.fs.length f5] _ (fun _ h=>h.1) Tryz.underlying34 rfl (by kernel_rfl)) hHeld ?_
    simp only [yA,yB,yC]
    refine zdx 1 47 ?_ rfl rfl (by kernel_rfl) (by kernel_rfl) (by kernel_rfl) (by kernel_rfl) (fun _ _ _ h=>h) (Or.inl ⟨by rfl,?_⟩) hHeld ?_
    rotate_left
    ·(intro wx hSw;(try dsimp only at hSw);have s0:=hSw.2;go_simp;try with_reducible rfl)
    simp only [yA,yB,yC]
    refine zdx 2 48 ?_ rfl rfl (by kernel_rfl) (by kernel_rfl) (by kernel_rfl) (by kernel_rfl) (fun _ _ _ h=>h) (Or.inl ⟨by rfl,?_⟩) hHeld ?_
    rotate_left
    ·(intro wx hSw;(try dsimp only at hSw);have s0:=hSw.2;go_simp;try with_reducible rfl)
    simp only [yA,yB,yC]
    refine zdx 3 49 ?_ rfl rfl (by kernel_rfl) (by kernel_rfl) (by kernel_rfl) (by kernel_rfl) (fun _ _ _ h=>h) (Or.inl ⟨by rfl,?_⟩) hHeld ?_
    rotate_left
    ·(intro wx hSw;(try dsimp only at hSw);have s0:=hSw.2;go_simp;try with_reducible rfl)
    simp only [yA,yB,yC]
    refine zdx 4 50 ?_ rfl rfl (by kernel_rfl) (by kernel_rfl) (by kernel_rfl) (by kernel_rfl) (fun _ _ _ h=>h) (Or.inl ⟨by rfl,?_⟩) hHeld ?_
    rotate_left
    ·(intro wx hSw;(try dsimp only at hSw);have s0:=hSw.2;go_simp;try with_reducible rfl)
    simp only [yA,yB,yC]
    refine zdx 6 52 ?_ rfl rfl (by kernel_rfl) (by kernel_rfl) (by kernel_rfl) (by kernel_rfl) (fun _ _ _ h=>h) (Or.inl ⟨by rfl,?_⟩) hHeld ?_
    rotate_left
    ·(intro wx hSw;(try dsimp only at hSw);have s0:=hSw.2;go_simp;try with_reducible rfl)
    simp only [yA,yB,yC]
    refine zgG (i:=5) (by kernel_rfl) rfl ?_
    intro K hK;refine zbz wd ?_ 73 Tryz.f73 Tryz.func73 ?_ ?_ (.tmp 46) (.tmp 50) #[34,3] ?_ (.agg #[.slice b1 kq.ps.length f1,.slice b2 kq.ls.length f2,.int .i64 kq.next,.slice b3 kq.us.length f3,.slice b4 kq.gs.length f4,.slice b5 kq.fs.length f5]) (.int .i64 p) ?_ ?_ _ (HDr.out wd HB5.out) ?_
    ·exact rfl
    ·decide
    ·exact Option.some_ne_none _
    ·exact rfl
    ·exact rfl
    ·exact rfl
    rintro e w6 ⟨v',rfl,hnw,hb6⟩;refine ⟨_,rfl,?_⟩;refine hK.out (Act.put _ (some 51) _) _ (Or.inr (HSw.out _ hb6)) ?_;clear hK K
    simp only [Act.put,yA,yB,yC]
    obtain ⟨b1',f1',b2',f2',b3',f3',b4',f4',b5',f5',ev'⟩:=zaR hnw;obtain ⟨ns,hns⟩:∃ns:Array Value,ns= #[.slice b1' (dropS kq p).ps.length f1',.slice b2' (dropS kq p).ls.length f2',.int .i64 (dropS kq p).next,.slice b3' (dropS kq p).us.length f3',.slice b4' (dropS kq p).gs.length f4',.slice b5' (dropS kq p).fs.length f5']:=⟨_,rfl⟩;rw [<-hns] at ev';subst ev'
    have HNs:Hid (ns.size=6/\ns.toList.all (·.oneCell')=true/\(Tryz.prog.info? 34).map (·.size)=some ns.size):=hide (by rw [hns];exact ⟨rfl,rfl,by kernel_rfl⟩)
    clear hns;have HNw:=hide hnw;have HB46:Hid (Below w4.heap.size w4 w6):=hide (HB5.out.trans (hb6.mono HB5.out.size));have HG6:=hide (⟨stays HG4.out.1 HB46.out,stays HG4.out.2.1 HB46.out,stays HG4.out.2.2.1 HB46.out,HG4.out.2.2.2.trans (HB46.out.mono HG4.out.2.2.2.size),stays HGq.out hb6⟩:_/\_/\_/\_/\_)
    have HTh:Hid (w6.there (w.heap.size+1+1+1) 0 ns.size):=hide (zav HG6.out.1 0 ns.size (by rw [HNs.out.1];exact Nat.le_refl 6))
    have HZd:Hid (w.heap.size+1+1+1+1<=wd.heap.size):=hide (by have h1:=(Array.getElem?_eq_some_iff.1 HG4.out.1).1;have h2:=HB5.out.size;omega)
    obtain ⟨w7,hw7⟩:∃x,w6.setCells (w.heap.size+1+1+1) 0 ns.toList=x:=⟨_,rfl⟩
    have HKp:Hid (Kept w6 w7 (fun j=>j=w.heap.size+1+1+1)):=hide (by rw [<-hw7];exact zbD _ _ _ _)
    have HG7:Hid (w7.heap[w.heap.size+1+1+1]?=some (.cells ns 34 (0,0))):=hide (by rw [<-hw7];exact zbs HG6.out.1 ns (by rw [HNs.out.1];rfl))
    have HW7:=hide hw7
    have hS7:w7.rangeAt g 0 (#[.slice b1 kq.ps.length f1,.slice b2 kq.ls.length f2,.int .i64 kq.next,.slice b3 kq.us.length f3,.slice b4 kq.gs.length f4,.slice b5 kq.fs.length f5]:Array Value).toList/\w7.cell? ⟨w.heap.size+1,j * 6,none⟩=some (.int .i64 p):=⟨zaj ((HKp.out.2.2.2.2 _ (Array.getElem?_eq_some_iff.1 HG6.out.2.2.2.2).1 (by have:=HGz.out;omega)).trans HG6.out.2.2.2.2),by
     have h:=(za0 ((HKp.out.2.2.2.2 _ (Array.getElem?_eq_some_iff.1 HG6.out.2.1).1 (by omega)).trans HG6.out.2.1) (j * 6)).1
     rw [h]
     exact HG.out.2.2.2.2.2.1.2.2.2 j 0 _ HE.out (by omega)⟩
    clear hw7 hnw hb6
    refine zgG (i:=7) (by kernel_rfl) rfl ?_
    intro K hK;refine zb0 ?_ 34 (.tmp 9) (.tmp 51) ?_ (w.heap.size+1+1+1) 0 ns ?_ ?_ HTh.out HNs.out.2.2 HNs.out.2.1 HW7.out ?_
    ·exact rfl
    ·exact rfl
    ·exact rfl
    ·exact rfl
    refine hK.out (Act.put _ none _) w7 (Or.inr hS7) ?_;clear hK K
    simp only [Act.put]
    refine zgG (i:=8) (by kernel_rfl) rfl ?_
    intro K hK
    go_simp
    refine hK.out _ _ (Or.inr hS7) ?_;clear hK K
    refine doneZs (by kernel_rfl) ?_ _
    have HS7:Hid (TbSt w ws k cs #[.slice ap np cp,.slice al nl cl,.int .i64 nx,.slice au nu cu,.slice ag ng cg,.slice af nf cf] j ns w7):=hide ⟨HG7.out,Or.inr ⟨by rw [<-HN.out];exact hjN,by
     rw [HEnd.out.2]
     exact zeZ (ze4 HNw.out HKp.out (fun i hi e=>by have h1:=(zal (zaJ HNw.out) i hi).1;have h2:=HZd.out;omega)) HZd.out⟩,(HKp.out.2.2.2.2 _ (Array.getElem?_eq_some_iff.1 HG6.out.2.1).1 (by omega)).trans HG6.out.2.1,(HKp.out.2.2.2.2 _ (Array.getElem?_eq_some_iff.1 HG6.out.2.2.1).1 (by omega)).trans HG6.out.2.2.1,HG6.out.2.2.2.1.trans (zac HKp.out HG6.out.2.2.2.1.size (fun i e=>by omega))⟩
    have HEn:Hid ((backS (ws.drop j) k).2.1=pg):=hide (by rw [HEnd.out.2])
    clear hS7 hHeld;go_wp2_with fail
    go_roundg j
    case measure=>omega
    case rel=>exact ⟨j,ns,rfl,by omega,by go_num,by rw [HEn.out],HS7⟩
end Go.Proofs.YtcbogiebfbbmbaaGreatDoor
