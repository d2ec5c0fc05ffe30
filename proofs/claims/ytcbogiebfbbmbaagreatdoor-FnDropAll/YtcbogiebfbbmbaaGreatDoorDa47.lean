/-
  Facts and contracts that the law's own text rests on, by their texts' names: TakePairI, DropKeyI, DropKeyS.
-/
import Derived.Test.YtcbogiebfbbmbaaGreatDoorDa46
import Derived.Test.YtcbogiebfbbmbaaGreatDoorDa27
import Derived.Test.YtcbogiebfbbmbaaGreatDoorDa45
import Derived.Test.YtcbogiebfbbmbaaGreatDoorDa40
set_option maxHeartbeats 16000000
set_option maxRecDepth 100000
namespace Go.Proofs.YtcbogiebfbbmbaaGreatDoor
open Go.RowKit
theorem zjD (v:Value) (k:Wk) (hk:k.small) (root:Int) (key:ByteArray) (hg:getK (readD k.ps k.ls) root key=none) (w:World) (hT:SumTab w) (hd:WorkAt w v k):
  Calls Tryz.prog 33 #[v,.int .i64 root,.string key] w fun e w'=>e= .returned (.tuple #[.agg #[.slice none 0 0,.slice none 0 0,.int .i64 0,.slice none 0 0,.slice none 0 0,.slice none 0 0],.int .i64 0,.bool false])/\Below w.heap.size w w':=by
 have HD:=hide hd;obtain ⟨ap,cp,al,cl,au,cu,ag,cg,af,cf,rfl⟩:=zbn hd
 have HGk:=hide (fun (wx:World) (hb:Below w.heap.size w wx)=>ze0 (.agg #[.slice ap k.ps.length cp,.slice al k.ls.length cl]) k.ps k.ls hk.1 hk.2.2.1 hk.2.1 hk.2.2.2.1 root key wx (zag hT hb) (zak (zeQ hd) hb))
 rw [hg,show getO none= .tuple #[.string ⟨#[]⟩,.bool false] from rfl] at HGk
 obtain ⟨np,hnp⟩:∃n,n=k.ps.length:=⟨_,rfl⟩;obtain ⟨nl,hnl⟩:∃n,n=k.ls.length:=⟨_,rfl⟩;obtain ⟨nu,hnu⟩:∃n,n=k.us.length:=⟨_,rfl⟩;obtain ⟨ng,hng⟩:∃n,n=k.gs.length:=⟨_,rfl⟩;obtain ⟨nf,hnf⟩:∃n,n=k.fs.length:=⟨_,rfl⟩;obtain ⟨nx,hnx⟩:∃n,n=k.next:=⟨_,rfl⟩;rw [<-hnp,<-hnl] at HGk;rw [<-hnp,<-hnl,<-hnu,<-hng,<-hnf,<-hnx] at HD⊢;obtain ⟨w0,hw0⟩:∃x,x=(w.alloc (Obj.cells #[.slice ap np cp,.slice al nl cl,.int .i64 nx,.slice au nu cu,.slice ag ng cg,.slice af nf cf] 34)).alloc (Obj.cells #[.slice none 0 0,.slice none 0 0,.int .i64 0,.slice none 0 0,.slice none 0 0,.slice none 0 0] 34):=⟨_,rfl⟩
 have hb0:Below w.heap.size w w0:=by rw [hw0];exact ((Below.refl w.heap.size w).alloc (Nat.le_refl _) _).alloc (by simp) _
 have q0:w0.heap[w.heap.size]?=some (.cells #[.slice ap np cp,.slice al nl cl,.int .i64 nx,.slice au nu cu,.slice ag ng cg,.slice af nf cf] 34 (0,0)):=by rw [hw0];simp only [zbC,World.size_alloc];simp
 have q1:w0.heap[w.heap.size+1]?=some (.cells #[.slice none 0 0,.slice none 0 0,.int .i64 0,.slice none 0 0,.slice none 0 0,.slice none 0 0] 34 (0,0)):=by rw [hw0];simp only [zbC,World.size_alloc];simp
 have HB0:=hide (⟨hb0,q0,q1⟩:_/\_/\_);clear hd hT hg hk hnp hnl hnu hng hnf hnx hb0 q0 q1;go_enter Tryz.func33,Tryz.ntmps33;go_wp2_with fail;rw [<-hw0];clear hw0;refine (HGk.out w0 HB0.out.1).mono ?_;rintro e w1 ⟨rfl,hb1⟩;have HB1:Hid (Below w.heap.size w w1):=hide (HB0.out.1.trans (hb1.mono HB0.out.1.size));have HQ1:=hide (stays HB0.out.2.2 hb1);have y0:=(za0 HQ1.out 0).2;have y1:=(za0 HQ1.out 1).2;have y2:=(za0 HQ1.out 2).2;have y3:=(za0 HQ1.out 3).2;have y4:=(za0 HQ1.out 4).2;have y5:=(za0 HQ1.out 5).2;obtain ⟨x0,x1,x2,x3,x4,x5⟩:=blk6c HQ1.out;clear hb1;go_wp2_with fail;have hk6:=zaQ w1 (w.heap.size+1) (.slice none 0 0) (.slice none 0 0) (.int .i64 0) (.slice none 0 0) (.slice none 0 0) (.slice none 0 0);obtain ⟨q0,q1,q2,q3,q4,q5⟩:=blk6c (zcq (u0:= .slice none 0 0) (u1:= .slice none 0 0) (u2:= .int .i64 0) (u3:= .slice none 0 0) (u4:= .slice none 0 0) (u5:= .slice none 0 0) HQ1.out)
 refine bodyPost_ret (v:= .tuple #[.agg #[.slice none 0 0,.slice none 0 0,.int .i64 0,.slice none 0 0,.slice none 0 0,.slice none 0 0],.int .i64 0,.bool false]) (by simp [results,Tryz.results33,go_sem,q0,q1,q2,q3,q4,q5]) rfl ⟨rfl,HB1.out.trans (zac hk6 HB1.out.size (fun j e=>by omega))⟩
theorem zj0 (v:Value) (k:Wk) (hj:JOk k) (hsm:k.sm 61020) (root:Int) (key val:ByteArray) (hg:getK (readD k.ps k.ls) root key=some val) (ws:List WLvl) (hws:wayD k.rd key 8 root=some ws) (ho:(backS ws k).2.2=true) (T:Wk×Int) (hps:9<=k.ps.length)
  (hT:((backS ws k).2.1=0/\T=((backS ws k).1,0))\/((backS ws k).2.1≠0/\lowS 9 (backS ws k).1 (backS ws k).2.1=some T)) (w:World) (hS:SumTab w) (hd:WorkAt w v k):
  Calls Tryz.prog 33 #[v,.int .i64 root,.string key] w fun e w'=>∃v',e= .returned (.tuple #[v',.int .i64 T.2,.bool true])/\WorkOwn w' w.heap.size v' T.1/\Below w.heap.size w w':=by
 have hk:k.small:=zct hsm;have HD:=hide hd;have HS:=hide hS;obtain ⟨ap,cp,al,cl,au,cu,ag,cg,af,cf,rfl⟩:=zbn hd
 have HGk:=hide (fun (wx:World) (hb:Below w.heap.size w wx)=>ze0 (.agg #[.slice ap k.ps.length cp,.slice al k.ls.length cl]) k.ps k.ls hk.1 hk.2.2.1 hk.2.1 hk.2.2.2.1 root key wx (zag hS hb) (zak (zeQ hd) hb))
 rw [hg,show getO (some val)= .tuple #[.string val,.bool true] from rfl] at HGk
 have HWy:=hide (fun (wx:World) (hb:Below w.heap.size w wx)=>zmp (.agg #[.slice ap k.ps.length cp,.slice al k.ls.length cl]) k.ps k.ls hk.1 hk.2.2.1 hk.2.1 hk.2.2.2.1 root key ws hws wx (zag hS hb) (zak (zeQ hd) hb))
 have hgd:=zgN (fun p hp=>zew (t:=readD k.ps k.ls p) (by
   have:rdN (readD k.ps k.ls p)=((k.rd p).1,(k.rd p).2):=rfl
   rw [this,hp])) hws
 have HTb:=hide (fun (wx:World) (hb:Below w.heap.size w wx) (cs:Array Value) (l:List LvV) (hA:LvArr cs l) (hlw:l.map Prod.fst=ws) (Bu:Nat) (hBu:Bu<=wx.heap.size) (hlv:∀e∈l,LvN wx Bu e)=>ziX (.agg #[.slice ap k.ps.length cp,.slice al k.ls.length cl,.int .i64 k.next,.slice au k.us.length cu,.slice ag k.gs.length cg,.slice af k.fs.length cf]) k hj (zaK hsm (by omega)) cs l hA ws hlw hgd.1 hgd.2.1 Bu wx hBu hlv (zag hS hb) (zae hd hb) ho)
 have HJb:=hide (⟨zeM hj ws,zhZ ws (zaK hsm (by have:=hgd.2.2;omega)),by rw [zi3];exact hps⟩:JOk (backS ws k).1/\(backS ws k).1.sm 60969/\9<=(backS ws k).1.ps.length)
 obtain ⟨kb,hkb⟩:∃x,x=(backS ws k).1:=⟨_,rfl⟩;obtain ⟨rb,hrb⟩:∃x,x=(backS ws k).2.1:=⟨_,rfl⟩;rw [<-hkb] at HTb HJb;rw [<-hrb] at HTb;rw [<-hkb,<-hrb] at hT;have HT2:=hide hT;obtain ⟨np,hnp⟩:∃n,n=k.ps.length:=⟨_,rfl⟩;obtain ⟨nl,hnl⟩:∃n,n=k.ls.length:=⟨_,rfl⟩;obtain ⟨nu,hnu⟩:∃n,n=k.us.length:=⟨_,rfl⟩;obtain ⟨ng,hng⟩:∃n,n=k.gs.length:=⟨_,rfl⟩;obtain ⟨nf,hnf⟩:∃n,n=k.fs.length:=⟨_,rfl⟩;obtain ⟨nx,hnx⟩:∃n,n=k.next:=⟨_,rfl⟩;rw [<-hnp,<-hnl] at HGk HWy;rw [<-hnp,<-hnl,<-hnu,<-hng,<-hnf,<-hnx] at HD HTb⊢;obtain ⟨w0,hw0⟩:∃x,x=(w.alloc (Obj.cells #[.slice ap np cp,.slice al nl cl,.int .i64 nx,.slice au nu cu,.slice ag ng cg,.slice af nf cf] 34)).alloc (Obj.cells #[.slice none 0 0,.slice none 0 0,.int .i64 0,.slice none 0 0,.slice none 0 0,.slice none 0 0] 34):=⟨_,rfl⟩
 have hb0:Below w.heap.size w w0:=by rw [hw0];exact ((Below.refl w.heap.size w).alloc (Nat.le_refl _) _).alloc (by simp) _
 have q0:w0.heap[w.heap.size]?=some (.cells #[.slice ap np cp,.slice al nl cl,.int .i64 nx,.slice au nu cu,.slice ag ng cg,.slice af nf cf] 34 (0,0)):=by rw [hw0];simp only [zbC,World.size_alloc];simp
 have q1:w0.heap[w.heap.size+1]?=some (.cells #[.slice none 0 0,.slice none 0 0,.int .i64 0,.slice none 0 0,.slice none 0 0,.slice none 0 0] 34 (0,0)):=by rw [hw0];simp only [zbC,World.size_alloc];simp
 have HB0:=hide (⟨hb0,q0,q1⟩:_/\_/\_);have HN:=hide (⟨hws,ho,hgd⟩:_/\_/\_);clear hd hS hg hk hj hsm hps hws ho hgd hT hkb hrb hnp hnl hnu hng hnf hnx hb0 q0 q1;go_enter Tryz.func33,Tryz.ntmps33;go_wp2_with fail;rw [<-hw0];clear hw0;refine (HGk.out w0 HB0.out.1).mono ?_;rintro e w1 ⟨rfl,hb1⟩;have HB1:Hid (Below w.heap.size w w1):=hide (HB0.out.1.trans (hb1.mono HB0.out.1.size));have HQ1:=hide (⟨stays HB0.out.2.1 hb1,stays HB0.out.2.2 hb1⟩:_/\_);obtain ⟨c0,c1,c2,c3,c4,c5⟩:=blk6c HQ1.out.1;clear hb1 HGk;go_wp2_with fail;refine (HWy.out w1 HB1.out).mono ?_;rintro e w2 ⟨cs,l,rfl,hlw,hA,hlv,hb2⟩;have HB2:Hid (Below w.heap.size w w2):=hide (HB1.out.trans (hb2.mono HB1.out.size));have HQ2:=hide (⟨stays HQ1.out.1 hb2,stays HQ1.out.2 hb2⟩:_/\_);have HL:=hide (⟨hlw,hA,hlv⟩:_/\_/\_);have HZ2:Hid (w1.heap.size<=w2.heap.size):=hide hb2.size;clear hlw hA hlv hb2 HWy c0 c1 c2 c3 c4 c5
 have HTr:Hid ((w2.alloc (Obj.cells z48 98)).there w2.heap.size 0 cs.size):=hide (zav (heap_alloc_new w2 _) 0 cs.size (by rw [HL.out.2.1.1];exact Nat.le_refl 48))
 obtain ⟨w3,hw3⟩:∃x,(w2.alloc (Obj.cells z48 98)).setCells w2.heap.size 0 cs.toList=x:=⟨_,rfl⟩
 have HG3:Hid (w3.heap[w2.heap.size]?=some (.cells cs 98 (0,0))):=hide (by rw [<-hw3];exact zbs (heap_alloc_new w2 _) cs (by rw [HL.out.2.1.1];rfl))
 have hb23:Below w2.heap.size w2 w3:=((Below.refl _ _).alloc (Nat.le_refl _) _).trans (by rw [<-hw3];exact zac (zbD _ _ _ _) (by simp) (fun j e=>by omega))
 have HB3:Hid (Below w.heap.size w w3):=hide (HB2.out.trans (hb23.mono HB2.out.size));have HQ3:=hide (⟨stays HQ2.out.1 hb23,stays HQ2.out.2 hb23⟩:_/\_)
 have HLv3:Hid (∀e∈l,LvN w3 w1.heap.size e):=hide (fun e he=>(HL.out.2.2 e he).below hb23)
 have HZ1:Hid (w1.heap.size<=w3.heap.size/\w.heap.size+2<=w3.heap.size):=hide ⟨Nat.le_trans (by have:=HZ2.out;exact this) hb23.size,by have:=(Array.getElem?_eq_some_iff.1 HQ3.out.2).1;omega⟩
 have HS48:Hid ((Tryz.prog.info? 98).map (·.size)=some cs.size):=hide (by rw [HL.out.2.1.1];exact Tryz.sizeArrL)
 have HW3:=hide hw3;rw [z48] at HTr HW3;obtain ⟨c0,c1,c2,c3,c4,c5⟩:=blk6c HQ3.out.1;clear hw3 hb23
 go_wp2_with (first | ((with_reducible refine zao ?_ 98 (.tmp 11) (.tmp 33) ?_ (w2.heap.size) 0 cs ?_ ?_ HTr.out ?_ ?_ HW3.out ?_);exact rfl;exact rfl;exact rfl;exact rfl;exact HS48.out;exact HL.out.2.1.2.1) | ((with_reducible refine zay ?_ 98 (.tmp 11) ?_ (w2.heap.size) 0 ?_ cs (zaj HG3.out) _ Tryz.underlying98 ?_ ?_ ?_);exact rfl;exact rfl;exact rfl;exact rfl;exact HS48.out) | fail)
 refine (HTb.out w3 HB3.out cs l HL.out.2.1 HL.out.1 w1.heap.size HZ1.out.1 HLv3.out).mono ?_;rintro e w4 ⟨v4,rfl,hnw,hb4⟩;have HB4:Hid (Below w.heap.size w w4):=hide (HB3.out.trans (hb4.mono HB3.out.size));have hq4:=stays HQ3.out.2 hb4;obtain ⟨a1,e1,a2,e2,a3,e3,a4,e4,a5,e5,rfl⟩:=zaR hnw
 have hx4:∀o,Below w4.heap.size w4 (w4.alloc o):=fun o=>(Below.refl _ _).alloc (Nat.le_refl _) o
 have HX4:=hide hx4;have HNw:=hide hnw;have HZ4:Hid (w3.heap.size<=w4.heap.size):=hide hb4.size;clear hnw hb4 HTb c0 c1 c2 c3 c4 c5;obtain ⟨w5,hw5⟩:∃x,x=w4.alloc (Obj.cells #[.slice a1 kb.ps.length e1,.slice a2 kb.ls.length e2,.int .i64 kb.next,.slice a3 kb.us.length e3,.slice a4 kb.gs.length e4,.slice a5 kb.fs.length e5] 34):=⟨_,rfl⟩
 have hb5:Below w4.heap.size w4 w5:=by rw [hw5];exact HX4.out _
 have hq5:=stays hq4 hb5
 have HG5:Hid (w5.heap[w4.heap.size]?=some (.cells #[.slice a1 kb.ps.length e1,.slice a2 kb.ls.length e2,.int .i64 kb.next,.slice a3 kb.us.length e3,.slice a4 kb.gs.length e4,.slice a5 kb.fs.length e5] 34 (0,0))):=hide (by rw [hw5];exact heap_alloc_new w4 _)
 have HB5:Hid (Below w.heap.size w w5):=hide (HB4.out.trans (hb5.mono HB4.out.size));have HQ5:=hide hq5;have HNw5:=hide (zcr HNw.out hb5);have HZ5:Hid (w3.heap.size<=w5.heap.size):=hide (Nat.le_trans HZ4.out hb5.size);clear hb5 hq4 hx4 hq5
 go_upto_region 6 with fail
 rw [<-hw5];clear hw5;obtain ⟨c0,c1,c2,c3,c4,c5⟩:=blk6c HG5.out
 by_cases h0:rb=0
 ·subst h0
  have hTe:T=(kb,0):=by
   rcases HT2.out with ⟨-,h⟩ | ⟨h,-⟩
   ·exact h
   ·exact absurd rfl h
  have HTe:=hide hTe
  have HF:=hide (zfo (w:=w) HQ5.out HNw5.out (by have:=HZ1.out.2;omega) (Nat.le_succ _) HB5.out)
  obtain ⟨x0,x1,x2,x3,x4,x5⟩:=blk6c HQ5.out;have y0:=(za0 HQ5.out 0).2;have y1:=(za0 HQ5.out 1).2;have y2:=(za0 HQ5.out 2).2;have y3:=(za0 HQ5.out 3).2;have y4:=(za0 HQ5.out 4).2;have y5:=(za0 HQ5.out 5).2;clear hTe;go_wp2_with fail;obtain ⟨f1,f2,f3⟩:=HF.out;obtain ⟨q0,q1,q2,q3,q4,q5⟩:=blk6c f1
  refine bodyPost_ret (v:= .tuple #[.agg #[.slice a1 kb.ps.length e1,.slice a2 kb.ls.length e2,.int .i64 kb.next,.slice a3 kb.us.length e3,.slice a4 kb.gs.length e4,.slice a5 kb.fs.length e5],.int .i64 0,.bool true]) (by simp [results,Tryz.results33,go_sem,q0,q1,q2,q3,q4,q5]) rfl ⟨_,by rw [HTe.out],by rw [HTe.out];exact zaJ f2,f3⟩
 ·have hlow:lowS 9 kb rb=some T:=by
   rcases HT2.out with ⟨h,-⟩ | ⟨-,h⟩
   ·exact absurd h h0
   ·exact h
  have HLw:=hide (zi2 (.agg #[.slice a1 kb.ps.length e1,.slice a2 kb.ls.length e2,.int .i64 kb.next,.slice a3 kb.us.length e3,.slice a4 kb.gs.length e4,.slice a5 kb.fs.length e5]) kb HJb.out.1 HJb.out.2.1 rb 9 HJb.out.2.2 (Nat.le_refl _) T hlow w3.heap.size w5 HZ5.out (zag HS.out HB5.out) HNw5.out);clear hlow;go_wp2_with fail;refine HLw.out.mono ?_;rintro e w6 ⟨v6,rfl,hnw,hb6⟩;obtain ⟨m1,x1,m2,x2,m3,x3,m4,x4,m5,x5,rfl⟩:=zaR hnw;have hq6:=stays HQ5.out hb6
  have HF:=hide (zfo (w:=w) hq6 hnw (by have:=HZ1.out.2;omega) (Nat.le_succ _) (HB5.out.trans (hb6.mono HB5.out.size)))
  obtain ⟨z0,z1,z2,z3,z4,z5⟩:=blk6c hq6;have y0:=(za0 hq6 0).2;have y1:=(za0 hq6 1).2;have y2:=(za0 hq6 2).2;have y3:=(za0 hq6 3).2;have y4:=(za0 hq6 4).2;have y5:=(za0 hq6 5).2;clear hnw hb6 hq6 HLw;go_wp2_with fail;obtain ⟨f1,f2,f3⟩:=HF.out;obtain ⟨q0,q1,q2,q3,q4,q5⟩:=blk6c f1
  refine bodyPost_ret (v:= .tuple #[.agg #[.slice m1 T.1.ps.length x1,.slice m2 T.1.ls.length x2,.int .i64 T.1.next,.slice m3 T.1.us.length x3,.slice m4 T.1.gs.length x4,.slice m5 T.1.fs.length x5],.int .i64 T.2,.bool true]) (by simp [results,Tryz.results33,go_sem,q0,q1,q2,q3,q4,q5]) rfl ⟨_,rfl,zaJ f2,f3⟩
open Go.RowKit
theorem zjE (v:Value) (k k3:Wk) (root r3:Int) (key:ByteArray) (w:World) (hd:WorkAt w v k)
  (hp:∀wx,Below w.heap.size w wx->Calls Tryz.prog 33 #[v,.int .i64 root,.string key] wx fun e w'=>∃v',e= .returned (.tuple #[v',.int .i64 r3,.bool true])/\WorkOwn w' wx.heap.size v' k3/\Below wx.heap.size wx w'):
  Calls Tryz.prog 16 #[v,.int .i64 root,.string key] w fun e w'=>∃v',e= .returned (.tuple #[v',.int .i64 r3,.bool true])/\WorkOwn w' w.heap.size v' k3/\Below w.heap.size w w':=by
 have HP:=hide hp;obtain ⟨ap,cp,al,cl,au,cu,ag,cg,af,cf,rfl⟩:=zbn hd;obtain ⟨np,hnp⟩:∃n,n=k.ps.length:=⟨_,rfl⟩;obtain ⟨nl,hnl⟩:∃n,n=k.ls.length:=⟨_,rfl⟩;obtain ⟨nu,hnu⟩:∃n,n=k.us.length:=⟨_,rfl⟩;obtain ⟨ng,hng⟩:∃n,n=k.gs.length:=⟨_,rfl⟩;obtain ⟨nf,hnf⟩:∃n,n=k.fs.length:=⟨_,rfl⟩;obtain ⟨nx,hnx⟩:∃n,n=k.next:=⟨_,rfl⟩;rw [<-hnp,<-hnl,<-hnu,<-hng,<-hnf,<-hnx] at HP⊢;obtain ⟨w0,hw0⟩:∃x,x=(w.alloc (Obj.cells #[.slice ap np cp,.slice al nl cl,.int .i64 nx,.slice au nu cu,.slice ag ng cg,.slice af nf cf] 34)).alloc (Obj.cells #[.slice none 0 0,.slice none 0 0,.int .i64 0,.slice none 0 0,.slice none 0 0,.slice none 0 0] 34):=⟨_,rfl⟩
 have hb0:Below w.heap.size w w0:=by rw [hw0];exact ((Below.refl w.heap.size w).alloc (Nat.le_refl _) _).alloc (by simp) _
 have q1:w0.heap[w.heap.size+1]?=some (.cells #[.slice none 0 0,.slice none 0 0,.int .i64 0,.slice none 0 0,.slice none 0 0,.slice none 0 0] 34 (0,0)):=by rw [hw0];simp only [zbC,World.size_alloc];simp
 have HB0:=hide (⟨hb0,q1⟩:_/\_);clear hd hp hnp hnl hnu hng hnf hnx hb0 q1;go_enter Tryz.func16,Tryz.ntmps16;go_wp2_with fail;rw [<-hw0];clear hw0;refine (HP.out w0 HB0.out.1).mono ?_;rintro e w1 ⟨v',rfl,ho,hb1⟩;have HB1:Hid (Below w.heap.size w w1):=hide (HB0.out.1.trans (hb1.mono HB0.out.1.size));have hq1:=stays HB0.out.2 hb1;obtain ⟨a1,e1,a2,e2,a3,e3,a4,e4,a5,e5,rfl⟩:=zaH ho
 have hx2:∀o,Below w1.heap.size w1 (w1.alloc o):=fun o=>(Below.refl _ _).alloc (Nat.le_refl _) o
 have hq3:=fun o=>stays hq1 (hx2 o)
 have t0:=fun o=>(za0 (hq3 o) 0).1
 have t1:=fun o=>(za0 (hq3 o) 1).1
 have t2:=fun o=>(za0 (hq3 o) 2).1
 have t3:=fun o=>(za0 (hq3 o) 3).1
 have t4:=fun o=>(za0 (hq3 o) 4).1
 have t5:=fun o=>(za0 (hq3 o) 5).1
 have y0:=fun o=>(za0 (hq3 o) 0).2
 have y1:=fun o=>(za0 (hq3 o) 1).2
 have y2:=fun o=>(za0 (hq3 o) 2).2
 have y3:=fun o=>(za0 (hq3 o) 3).2
 have y4:=fun o=>(za0 (hq3 o) 4).2
 have y5:=fun o=>(za0 (hq3 o) 5).2
 have HQ3:=hide hq3;have HX2:=hide hx2;have HOw:=hide ho
 have hz0:w.heap.size+2<=w0.heap.size:=by have:=(Array.getElem?_eq_some_iff.1 HB0.out.2).1;omega
 have HZ0:=hide hz0;clear ho hb1 hq1 hq3 hx2 HP hz0;go_wp2_with fail;have hA:=HX2.out (Obj.cells #[.slice a1 k3.ps.length e1,.slice a2 k3.ls.length e2,.int .i64 k3.next,.slice a3 k3.us.length e3,.slice a4 k3.gs.length e4,.slice a5 k3.fs.length e5] 34);have fz:=zcq (u0:= .slice a1 k3.ps.length e1) (u1:= .slice a2 k3.ls.length e2) (u2:= .int .i64 k3.next) (u3:= .slice a3 k3.us.length e3) (u4:= .slice a4 k3.gs.length e4) (u5:= .slice a5 k3.fs.length e5) (HQ3.out (Obj.cells #[.slice a1 k3.ps.length e1,.slice a2 k3.ls.length e2,.int .i64 k3.next,.slice a3 k3.us.length e3,.slice a4 k3.gs.length e4,.slice a5 k3.fs.length e5] 34));have hk6:=zaQ (w1.alloc (Obj.cells #[.slice a1 k3.ps.length e1,.slice a2 k3.ls.length e2,.int .i64 k3.next,.slice a3 k3.us.length e3,.slice a4 k3.gs.length e4,.slice a5 k3.fs.length e5] 34)) (w.heap.size+1) (.slice a1 k3.ps.length e1) (.slice a2 k3.ls.length e2) (.int .i64 k3.next) (.slice a3 k3.us.length e3) (.slice a4 k3.gs.length e4) (.slice a5 k3.fs.length e5);obtain ⟨q0,q1,q2,q3,q4,q5⟩:=blk6c fz
 refine bodyPost_ret (v:= .tuple #[.agg #[.slice a1 k3.ps.length e1,.slice a2 k3.ls.length e2,.int .i64 k3.next,.slice a3 k3.us.length e3,.slice a4 k3.gs.length e4,.slice a5 k3.fs.length e5],.int .i64 r3,.bool true]) (by simp [results,Tryz.results16,go_sem,q0,q1,q2,q3,q4,q5]) rfl ⟨_,rfl,zaU (zcp (zbu HOw.out hA) hk6 (fun j hj e=>by have:=zal HOw.out j hj;have:=HZ0.out;omega)) (by have:=HZ0.out;omega),(HB1.out.trans (hA.mono HB1.out.size)).trans (zac hk6 (Nat.le_trans HB1.out.size hA.size) (fun j e=>by omega))⟩
theorem zl5 (v:Value) (k:Wk) (hk:k.small) (root:Int) (key:ByteArray) (hg:getK (readD k.ps k.ls) root key=none) (w:World) (hT:SumTab w) (hd:WorkAt w v k):
  Calls Tryz.prog 16 #[v,.int .i64 root,.string key] w fun e w'=>∃v',e= .returned (.tuple #[v',.int .i64 root,.bool false])/\WorkNw w' w.heap.size v' k/\Below w.heap.size w w':=by
 have HP:=hide (fun (wx:World) (hb:Below w.heap.size w wx)=>zjD v k hk root key hg wx (zag hT hb) (zae hd hb))
 have HC:=hide (fun (wx:World) (hb:Below w.heap.size w wx)=>zc5 v k hk wx (zae hd hb))
 obtain ⟨ap,cp,al,cl,au,cu,ag,cg,af,cf,rfl⟩:=zbn hd;obtain ⟨np,hnp⟩:∃n,n=k.ps.length:=⟨_,rfl⟩;obtain ⟨nl,hnl⟩:∃n,n=k.ls.length:=⟨_,rfl⟩;obtain ⟨nu,hnu⟩:∃n,n=k.us.length:=⟨_,rfl⟩;obtain ⟨ng,hng⟩:∃n,n=k.gs.length:=⟨_,rfl⟩;obtain ⟨nf,hnf⟩:∃n,n=k.fs.length:=⟨_,rfl⟩;obtain ⟨nx,hnx⟩:∃n,n=k.next:=⟨_,rfl⟩;rw [<-hnp,<-hnl,<-hnu,<-hng,<-hnf,<-hnx] at HP HC⊢;obtain ⟨w0,hw0⟩:∃x,x=(w.alloc (Obj.cells #[.slice ap np cp,.slice al nl cl,.int .i64 nx,.slice au nu cu,.slice ag ng cg,.slice af nf cf] 34)).alloc (Obj.cells #[.slice none 0 0,.slice none 0 0,.int .i64 0,.slice none 0 0,.slice none 0 0,.slice none 0 0] 34):=⟨_,rfl⟩
 have hb0:Below w.heap.size w w0:=by rw [hw0];exact ((Below.refl w.heap.size w).alloc (Nat.le_refl _) _).alloc (by simp) _
 have q1:w0.heap[w.heap.size+1]?=some (.cells #[.slice none 0 0,.slice none 0 0,.int .i64 0,.slice none 0 0,.slice none 0 0,.slice none 0 0] 34 (0,0)):=by rw [hw0];simp only [zbC,World.size_alloc];simp
 have HB0:=hide (⟨hb0,q1⟩:_/\_)
 have q0:w0.heap[w.heap.size]?=some (.cells #[.slice ap np cp,.slice al nl cl,.int .i64 nx,.slice au nu cu,.slice ag ng cg,.slice af nf cf] 34 (0,0)):=by rw [hw0];simp only [zbC,World.size_alloc];simp
 have HQ0:=hide q0;clear hd hk hg hT hnp hnl hnu hng hnf hnx hb0 q1 q0;go_enter Tryz.func16,Tryz.ntmps16;go_wp2_with fail;rw [<-hw0];clear hw0;refine (HP.out w0 HB0.out.1).mono ?_;rintro e w1 ⟨rfl,hb1⟩;have HB1:Hid (Below w.heap.size w w1):=hide (HB0.out.1.trans (hb1.mono HB0.out.1.size));have HQ1:=hide (⟨stays HQ0.out hb1,stays HB0.out.2 hb1⟩:_/\_)
 have hx1:∀o,Below w1.heap.size w1 (w1.alloc o):=fun o=>(Below.refl _ _).alloc (Nat.le_refl _) o
 have hc:=fun o=>stays HQ1.out.1 (hx1 o)
 have c0:=fun o=>(za0 (hc o) 0).1
 have c1:=fun o=>(za0 (hc o) 1).1
 have c2:=fun o=>(za0 (hc o) 2).1
 have c3:=fun o=>(za0 (hc o) 3).1
 have c4:=fun o=>(za0 (hc o) 4).1
 have c5:=fun o=>(za0 (hc o) 5).1
 have HX1:=hide hx1;clear hb1 HP hc hx1;go_wp2_with fail;obtain ⟨w2,hw2⟩:∃x,x=w1.alloc (Obj.cells #[.slice none 0 0,.slice none 0 0,.int .i64 0,.slice none 0 0,.slice none 0 0,.slice none 0 0] 34):=⟨_,rfl⟩;rw [<-hw2]
 have hb2:Below w1.heap.size w1 w2:=by rw [hw2];exact HX1.out _
 have HB2:Hid (Below w.heap.size w w2):=hide (HB1.out.trans (hb2.mono HB1.out.size));have HQ2:=hide (stays HQ1.out.2 hb2);clear hw2 hb2 c0 c1 c2 c3 c4 c5;refine (HC.out w2 HB2.out).mono ?_;rintro e w3 ⟨u,rfl,hnw,hb3⟩;have HB3:Hid (Below w.heap.size w w3):=hide (HB2.out.trans (hb3.mono HB2.out.size));have hq3:=stays HQ2.out hb3;obtain ⟨a1,e1,a2,e2,a3,e3,a4,e4,a5,e5,rfl⟩:=zaR hnw;obtain ⟨t0,t1,t2,t3,t4,t5⟩:=blk6c (hq3);have y0:=(za0 (hq3) 0).2;have y1:=(za0 (hq3) 1).2;have y2:=(za0 (hq3) 2).2;have y3:=(za0 (hq3) 3).2;have y4:=(za0 (hq3) 4).2;have y5:=(za0 (hq3) 5).2;have HQ3:=hide hq3;have HNw:=hide hnw
 have HZ2:Hid (w.heap.size+2<=w2.heap.size):=hide (by have:=(Array.getElem?_eq_some_iff.1 HQ2.out).1;omega)
 clear hnw hb3 hq3 HC;go_wp2_with fail
 have hf:=zfo (w:=w) HQ3.out HNw.out (by have:=HZ2.out;omega) (Nat.le_succ _) HB3.out
 obtain ⟨f1,f2,f3⟩:=hf;obtain ⟨q0,q1,q2,q3,q4,q5⟩:=blk6c f1
 refine bodyPost_ret (v:= .tuple #[.agg #[.slice a1 k.ps.length e1,.slice a2 k.ls.length e2,.int .i64 k.next,.slice a3 k.us.length e3,.slice a4 k.gs.length e4,.slice a5 k.fs.length e5],.int .i64 root,.bool false]) (by simp [results,Tryz.results16,go_sem,q0,q1,q2,q3,q4,q5]) rfl ⟨_,rfl,f2,f3⟩
open Go.RowKit
theorem zhs:∀{L:Prs} {key:ByteArray},(∃x∈L,x.1=key)->∃val,lookL L key=some val
 | [],_,⟨_,h,_⟩=>by cases h
 | q :: L,key,⟨x,hx,e⟩=>by
  rw [lookL]
  by_cases h:q.1=key
  ·exact ⟨q.2,if_pos h⟩
  ·rw [if_neg h]
   rcases List.mem_cons.1 hx with e2 | e2
   ·exact absurd (by rw [<-e2];exact e) h
   ·exact zhs ⟨x,e2,e⟩
theorem zgQ (v:Value) {k:Wk} {root:Int} {L:Prs} {P:List Int} {M:Nat} (h:DropSt k root L P (M+1)) (key:ByteArray) (hm:∃x∈L,x.1=key) (w:World) (hT:SumTab w) (hd:WorkAt w v k):
  ∃(T:Wk×Int) (P':List Int),DropSt T.1 T.2 (dropL L key) P' M/\Calls Tryz.prog 16 #[v,.int .i64 root,.string key] w fun e w'=>∃v',e= .returned (.tuple #[v',.int .i64 T.2,.bool true])/\WorkOwn w' w.heap.size v' T.1/\Below w.heap.size w w':=by
 obtain ⟨-,ws,T,P',h1,h2,h3,h4⟩:=zmq h hm;obtain ⟨val,hv⟩:=zhs hm
 refine ⟨T,P',h4,zjE v k T.1 root T.2 key w hd (fun wx hb=> ?_)⟩
 exact zj0 v k h.jok (zaK h.sm (by omega)) root key val ((znc key h.tree).trans hv) ws h1 h2 T (by rw [h.ps];omega) h3 wx (zag hT hb) (zae hd hb)
theorem zfG (v:Value) {k:Wk} {P:List Int} {M:Nat} (h:DropSt k 0 [] P M) (key:ByteArray) (w:World) (hT:SumTab w) (hd:WorkAt w v k):
  Calls Tryz.prog 16 #[v,.int .i64 0,.string key] w fun e w'=>∃v',e= .returned (.tuple #[v',.int .i64 0,.bool false])/\WorkNw w' w.heap.size v' k/\Below w.heap.size w w':=
 zl5 v k (zct h.sm) 0 key (if_pos rfl) w hT hd
theorem zjF {k:Wk} {root:Int} {L:Prs} {P:List Int} {M M':Nat} (h:DropSt k root L P M) (hm:M'<=M):DropSt k root L P M':=
 ⟨zbH h.rq (Nat.le_refl _) (by omega),h.jok,h.live,h.nd,h.tree,h.cnt,h.ps,h.nx,zaK h.sm (by omega)⟩
theorem znk {L:Prs} {key:ByteArray} (hm:∃x∈L,x.1=key):(dropL L key).length<L.length:=by
 obtain ⟨x,hx,e⟩:=hm;unfold dropL
 refine (List.length_filter_lt_length_iff_exists (p:=fun q:ByteArray×ByteArray=>lessB q.1 key || lessB key q.1)).2 ⟨x,hx,?_⟩
 rw [e,zb7]
 decide
end Go.Proofs.YtcbogiebfbbmbaaGreatDoor
