/-
  Facts and contracts that the law's own text rests on, by their texts' names: LowI.
-/
import Derived.Test.YtcbogiebfbbmbaaGreatDoorDa44
import Derived.Test.YtcbogiebfbbmbaaGreatDoorDa40
import Derived.Test.YtcbogiebfbbmbaaGreatDoorDa43
set_option maxHeartbeats 16000000
set_option maxRecDepth 100000
namespace Go.Proofs.YtcbogiebfbbmbaaGreatDoor
open Go.RowKit
structure LwSt (w:World) (B:Nat) (k:Wk) (os:Array Value) (wx:World):Prop where
 go:wx.heap[w.heap.size+1+1]?=some (.cells os 34 (0,0))
 wk:WorkNw wx B (.agg os) k
 ap:∀j,workBlocks (.agg os) j->j≠w.heap.size+1+1/\j≠w.heap.size+1
 rs:wx.heap[w.heap.size+1]?=some (.cells #[.slice none 0 0,.slice none 0 0,.int .i64 0,.slice none 0 0,.slice none 0 0,.slice none 0 0] 34 (0,0))
 bl:Below w.heap.size w wx
theorem zeQ {w:World} {a b c d e f:Value} {k:Wk} (h:WorkAt w (.agg #[a,b,c,d,e,f]) k):DiskAt w (.agg #[a,b]) k.ps k.ls:=by
 obtain ⟨vp,vl,vu,vg,vf,h1,h2,-⟩:=h;obtain ⟨rfl,rfl,-⟩:=agg6 h1;exact h2
theorem ret_nwA {w wr:World} {a1 B:Nat} {r0 r1 r2 r3 r4 r5 u0 u1 u2 u3 u4 u5:Value} {t:TypeId} {k:Wk} (hres:wr.heap[a1]?=some (Obj.cells #[r0,r1,r2,r3,r4,r5] t)) (hd:WorkNw wr B (.agg #[u0,u1,u2,u3,u4,u5]) k) (hap:∀j,workBlocks (.agg #[u0,u1,u2,u3,u4,u5]) j->j≠a1) (hw:w.heap.size<=a1) (hb:Below w.heap.size w wr):
  (set6 wr a1 u0 u1 u2 u3 u4 u5).heap[a1]?=some (Obj.cells #[u0,u1,u2,u3,u4,u5] t)/\WorkNw (set6 wr a1 u0 u1 u2 u3 u4 u5) B (.agg #[u0,u1,u2,u3,u4,u5]) k/\Below w.heap.size w (set6 wr a1 u0 u1 u2 u3 u4 u5):=by
 have hk:=zaQ wr a1 u0 u1 u2 u3 u4 u5
 exact ⟨zcq hres,ze4 hd hk (fun j hj e=>hap j hj e),hb.trans (zac hk hb.size (fun k hk=>by omega))⟩
theorem zi2 (v:Value) (k:Wk) (hj:JOk k) (hsm:k.sm 60969) (root:Int) (f:Nat) (hf:f<=k.ps.length) (hf8:f<=9) (T:Wk×Int) (hlow:lowS f k root=some T) (B:Nat) (w:World) (hB:B<=w.heap.size) (hT:SumTab w) (hd:WorkNw w B v k):
  Calls Tryz.prog 51 #[v,.int .i64 root] w fun e w'=>∃v',e= .returned (.tuple #[v',.int .i64 T.2,.bool true])/\WorkNw w' B v' T.1/\Below w.heap.size w w':=by
 have HD:=hide hd;have HT:=hide hT;have HBb:=hide hB;obtain ⟨ap,cp,al,cl,au,cu,ag,cg,af,cf,rfl⟩:=zaR hd;obtain ⟨np,hnp⟩:∃n,n=k.ps.length:=⟨_,rfl⟩;obtain ⟨nl,hnl⟩:∃n,n=k.ls.length:=⟨_,rfl⟩;obtain ⟨nu,hnu⟩:∃n,n=k.us.length:=⟨_,rfl⟩;obtain ⟨ng,hng⟩:∃n,n=k.gs.length:=⟨_,rfl⟩;obtain ⟨nf,hnf⟩:∃n,n=k.fs.length:=⟨_,rfl⟩;obtain ⟨nx,hnx⟩:∃n,n=k.next:=⟨_,rfl⟩;rw [<-hnp,<-hnl,<-hnu,<-hng,<-hnf,<-hnx] at HD⊢
 have HK:=hide (⟨hj,zaK hsm (by omega),hf,hlow,hnp⟩:JOk k/\k.sm (60960+f)/\_/\_/\_)
 clear hd hT hj hsm hf hf8 hlow hnp hnl hnu hng hnf hnx hB;go_enter Tryz.func51,Tryz.ntmps51;obtain ⟨w0,hw0⟩:∃x,x=(((w.alloc (.cells #[.slice ap np cp,.slice al nl cl,.int .i64 nx,.slice au nu cu,.slice ag ng cg,.slice af nf cf] 34)).alloc (.cells #[.slice none 0 0,.slice none 0 0,.int .i64 0,.slice none 0 0,.slice none 0 0,.slice none 0 0] 34)).alloc (.cells #[.slice ap np cp,.slice al nl cl,.int .i64 nx,.slice au nu cu,.slice ag ng cg,.slice af nf cf] 34)):=⟨_,rfl⟩
 have hs1:(w.alloc (Obj.cells #[.slice ap np cp,.slice al nl cl,.int .i64 nx,.slice au nu cu,.slice ag ng cg,.slice af nf cf] 34)).heap.size=w.heap.size+1:=by simp
 have hs2:((w.alloc (Obj.cells #[.slice ap np cp,.slice al nl cl,.int .i64 nx,.slice au nu cu,.slice ag ng cg,.slice af nf cf] 34)).alloc (.cells #[.slice none 0 0,.slice none 0 0,.int .i64 0,.slice none 0 0,.slice none 0 0,.slice none 0 0] 34)).heap.size=w.heap.size+1+1:=by simp
 have HB0:Hid (Below w.heap.size w w0):=hide (by rw [hw0];exact (((Below.refl _ _).alloc (Nat.le_refl _) _).alloc (by simp) _).alloc (by simp;omega) _)
 have HV0:Hid (w0.heap[w.heap.size]?=some (.cells #[.slice ap np cp,.slice al nl cl,.int .i64 nx,.slice au nu cu,.slice ag ng cg,.slice af nf cf] 34 (0,0))):=hide (by rw [hw0,heap_alloc_old _ _ (by simp;omega),heap_alloc_old _ _ (by simp)];exact heap_alloc_new w _)
 have HR0:Hid (w0.heap[w.heap.size+1]?=some (.cells #[.slice none 0 0,.slice none 0 0,.int .i64 0,.slice none 0 0,.slice none 0 0,.slice none 0 0] 34 (0,0))):=hide (by
  rw [hw0,heap_alloc_old _ _ (by simp)]
  have h:=heap_alloc_new (w.alloc (Obj.cells #[.slice ap np cp,.slice al nl cl,.int .i64 nx,.slice au nu cu,.slice ag ng cg,.slice af nf cf] 34)) (.cells #[.slice none 0 0,.slice none 0 0,.int .i64 0,.slice none 0 0,.slice none 0 0,.slice none 0 0] 34);rw [hs1] at h
  exact h)
 have HO0:Hid (w0.heap[w.heap.size+1+1]?=some (.cells #[.slice ap np cp,.slice al nl cl,.int .i64 nx,.slice au nu cu,.slice ag ng cg,.slice af nf cf] 34 (0,0))):=hide (by
  rw [hw0];have h:=heap_alloc_new ((w.alloc (Obj.cells #[.slice ap np cp,.slice al nl cl,.int .i64 nx,.slice au nu cu,.slice ag ng cg,.slice af nf cf] 34)).alloc (.cells #[.slice none 0 0,.slice none 0 0,.int .i64 0,.slice none 0 0,.slice none 0 0,.slice none 0 0] 34)) (.cells #[.slice ap np cp,.slice al nl cl,.int .i64 nx,.slice au nu cu,.slice ag ng cg,.slice af nf cf] 34);rw [hs2] at h
  exact h)
 have HS0:Hid (LwSt w B k #[.slice ap np cp,.slice al nl cl,.int .i64 nx,.slice au nu cu,.slice ag ng cg,.slice af nf cf] w0):=hide ⟨HO0.out,zcr HD.out HB0.out,fun j hj=>by have:=(zal (zaJ HD.out) j hj).2;omega,HR0.out,HB0.out⟩
 clear hs1 hs2;go_wp2_with fail;rw [<-hw0];clear hw0
 go_loopg [8,17] np (fun q pv iv wr=>∃(i:Nat) (K:Wk) (p:Int) (f:Nat) (os:Array Value),i+q=np/\iv= .int .i64 (i:Int)/\pv= .int .i64 p/\Hid (JOk K/\K.sm (60960+f)/\f<=q/\lowS f K p=some T)/\Hid (LwSt w B K os wr))
 case atStart=>exact ⟨0,k,root,f,_,Nat.zero_add _,rfl,rfl,hide ⟨HK.out.1,HK.out.2.1,by rw [HK.out.2.2.2.2];exact HK.out.2.2.1,HK.out.2.2.2.1⟩,HS0⟩
 case round=>
  obtain ⟨i,K,p,f,os,hiq,rfl,rfl,HL,HS⟩:=hrel
  obtain ⟨f',rfl⟩:∃f',f=f'+1:=by
   cases f with
   | zero=>have:=HL.out.2.2.2;rw [lowS] at this;cases this
   | succ f'=>exact ⟨f',rfl⟩
  obtain ⟨q,rfl⟩:∃q,gk=q+1:=⟨gk - 1,by have:=HL.out.2.2.1;omega⟩
  have hin:(i:Int)<(np:Int):=by omega
  have HNp:Hid (np<=1048576):=hide (by rw [HK.out.2.2.2.2];exact HK.out.1.sz)
  have hgo:=HS.out.go;obtain ⟨a1,e1,a2,e2,a3,e3,a4,e4,a5,e5,eos⟩:=zaR HS.out.wk
  injection eos with eos
  subst eos;have hsmK:K.small:=zct HL.out.2.1;have p0:=(za0 hgo 0).1;have p1:=(za0 hgo 1).1;have HRP:=hide (zbY (.agg #[.slice a1 K.ps.length e1,.slice a2 K.ls.length e2]) K.ps K.ls hsmK.1 hsmK.2.2.1 hsmK.2.1 hsmK.2.2.2.1 p wr (zeQ (zap (zaJ HS.out.wk))))
  have HRN:=hide (fun wx h=>zbZ (readD K.ps K.ls p) (zbr hsmK.2.1 hsmK.2.2.2.1 p) wx h)
  clear hgo hsmK;go_wp2_with fail;refine HRP.out.mono ?_;rintro e w1 ⟨rfl,hb1⟩;have HB1:Hid (Below wr.heap.size wr w1):=hide hb1;clear hb1 p0 p1 HRP;go_wp2_with fail;refine (HRN.out _ (zag HT.out (HS.out.bl.trans (HB1.out.mono HS.out.bl.size)))).mono ?_;rintro e w2 ⟨n,v2,ok,rfl,hrn,hno,hb2⟩;have HB2:Hid (Below wr.heap.size wr w2):=hide (HB1.out.trans (hb2.mono HB1.out.size));have HRd:=hide (zgi hrn);have HNo:=hide hno;obtain ⟨b1,c1,b2,c2,b3,c3,rfl⟩:=zb8 hno;have hlw:=HL.out.2.2.2
  have hok:ok=true:=by
   cases ok with
   | true=>rfl
   | false=>
    rw [lowS,show K.rd p=(n,false) from HRd.out,if_pos rfl] at hlw
    cases hlw
  subst hok;have HOk:Hid (n.ok=true):=hide (zew HRd.out);obtain ⟨lf,hlf⟩:∃lf,lf=n.lf:=⟨_,rfl⟩;have HLf:=hide hlf;obtain ⟨nc,hnc⟩:∃nc,nc=n.cs.length:=⟨_,rfl⟩;have HNc:=hide hnc;rw [<-hlf,<-hnc];obtain ⟨wa,hwa⟩:∃wa,wa=w2.alloc (.cells #[.bool lf,.slice b1 n.ks.length c1,.slice b2 n.vs.length c2,.slice b3 nc c3] 71 (0,0)):=⟨_,rfl⟩
  have hba:Below w2.heap.size w2 wa:=by rw [hwa];exact (Below.refl _ _).alloc (Nat.le_refl _) _
  obtain ⟨g,hg⟩:∃g,g=w2.heap.size:=⟨_,rfl⟩
  have hNa:wa.heap[g]?=some (.cells #[.bool lf,.slice b1 n.ks.length c1,.slice b2 n.vs.length c2,.slice b3 nc c3] 71 (0,0)):=by rw [hwa,hg];exact heap_alloc_new w2 _
  have HNa:=hide hNa;have HBa:Hid (Below wr.heap.size wr wa):=hide (HB2.out.trans (hba.mono HB2.out.size));have HNd:=hide (zaV HNo.out hba);have n0:=(za0 hNa 0).1;have n3:=(za0 hNa 3).1;clear hrn hb2 hba hno hlw hlf hnc hNa HB1 HB2
  go_upto_region 5 with fail
  rw [<-hwa,<-hg];clear hwa hg
  by_cases hstop:lf=true\/1<nc
  ·have hTe:T=(K,p):=by
    have h:=HL.out.2.2.2
    rw [zgM HRd.out (by rw [<-HLf.out,<-HNc.out];exact hstop)] at h
    injection h with h
    exact h.symm
   have HTe:=hide hTe;have hga:=stays HS.out.go HBa.out;have hra:=stays HS.out.rs HBa.out
   have HF:=hide (ret_nwA (w:=w) hra (zcr HS.out.wk HBa.out) (fun j hj=>(HS.out.ap j hj).2) (by omega) (HS.out.bl.trans (HBa.out.mono HS.out.bl.size)))
   obtain ⟨t0,t1,t2,t3,t4,t5⟩:=blk6c hga;have y0:=(za0 hra 0).2;have y1:=(za0 hra 1).2;have y2:=(za0 hra 2).2;have y3:=(za0 hra 3).2;have y4:=(za0 hra 4).2;have y5:=(za0 hra 5).2;have x0:=(za0 hra 0).1;have x1:=(za0 hra 1).1;have x2:=(za0 hra 2).1;have x3:=(za0 hra 3).1;have x4:=(za0 hra 4).1;have x5:=(za0 hra 5).1;clear hga hra hTe
   have hfin:∀(wz:World),wz=set6 wa (w.heap.size+1) (.slice a1 K.ps.length e1) (.slice a2 K.ls.length e2) (.int .i64 K.next) (.slice a3 K.us.length e3) (.slice a4 K.gs.length e4) (.slice a5 K.fs.length e5)->True:=fun _ _=>trivial
   cases lf with
   | true=>
    go_wp2_with fail;obtain ⟨f1,f2,f3⟩:=HF.out;obtain ⟨q0,q1,q2,q3,q4,q5⟩:=blk6c f1
    try rw [Exit.noGoto_ret]
    refine bodyPost_ret (v:= .tuple #[.agg #[.slice a1 K.ps.length e1,.slice a2 K.ls.length e2,.int .i64 K.next,.slice a3 K.us.length e3,.slice a4 K.gs.length e4,.slice a5 K.fs.length e5],.int .i64 p,.bool true]) (by simp [results,Tryz.results51,go_sem,q0,q1,q2,q3,q4,q5]) rfl ⟨_,by rw [HTe.out],by rw [HTe.out];exact f2,f3⟩
   | false=>
    have hnc1:(nc:Int)>1:=by rcases hstop with h | h;cases h;omega
    have hnc2:(1:Int)<(nc:Int):=hnc1;go_wp2_with fail;obtain ⟨f1,f2,f3⟩:=HF.out;obtain ⟨q0,q1,q2,q3,q4,q5⟩:=blk6c f1
    try rw [Exit.noGoto_ret]
    refine bodyPost_ret (v:= .tuple #[.agg #[.slice a1 K.ps.length e1,.slice a2 K.ls.length e2,.int .i64 K.next,.slice a3 K.us.length e3,.slice a4 K.gs.length e4,.slice a5 K.fs.length e5],.int .i64 p,.bool true]) (by simp [results,Tryz.results51,go_sem,q0,q1,q2,q3,q4,q5]) rfl ⟨_,by rw [HTe.out],by rw [HTe.out];exact f2,f3⟩
  ·rw [not_or] at hstop
   obtain rfl:lf=false:=by cases lf with | true=>exact absurd rfl hstop.1 | false=>rfl
   have hcs:n.cs.length=n.ks.length:=((zbj HOk.out).2 HLf.out.symm).1;have hkp:=ziC HOk.out
   have hnc1:nc=1:=by have:=HNc.out;have:=hstop.2;omega
   subst hnc1
   have HOn:Hid (wa.ownsRow w1.heap.size 3 1 (.slice b3 1 c3) 1 (ints n.cs)):=hide (by
    have h:=HNd.out;obtain ⟨u1,u2,u3,hu,-,-,h3,-⟩:=h;rw [<-HNc.out] at h3
    injection hu with hu
    simp only [Array.mk.injEq,List.cons.injEq,and_true,true_and] at hu
    obtain ⟨-,-,hu3⟩:=hu;rw [<-HNc.out] at hu3;rw [<-hu3] at h3
    exact h3)
   obtain ⟨gk',hgk,hck⟩:=zd1 (i:=0) HOn.out (by omega) HNc.out
   subst hgk;obtain ⟨kd,hkd⟩:∃z,z=n.cs.getD 0 0:=⟨_,rfl⟩;rw [<-hkd] at hck
   have HLw:Hid (lowS f' (dropS K p) kd=some T):=hide (by
    have h:=HL.out.2.2.2
    rw [zjw HRd.out HLf.out.symm (by rw [<-HNc.out];omega),<-hkd] at h
    exact h)
   have HGd:=hide (⟨stays HS.out.go HBa.out,stays HS.out.rs HBa.out⟩:_/\_);have HWk:=hide (zcr HS.out.wk HBa.out);have HKd:=hide hkd
   have HSw:Hid (∀wx,Below wa.heap.size wa wx->wx.rangeAt (w.heap.size+1+1) 0 (#[.slice a1 K.ps.length e1,.slice a2 K.ls.length e2,.int .i64 K.next,.slice a3 K.us.length e3,.slice a4 K.gs.length e4,.slice a5 K.fs.length e5]:Array Value).toList/\wx.cell? ⟨g,3,none⟩=some (.slice (some ⟨gk',0,none⟩) 1 c3)/\wx.cell? ⟨gk',0,none⟩=some (.int .i64 kd)):=hide (fun wx hb=>⟨zaj (stays HGd.out.1 hb),(za0 (stays HNa.out hb) 3).1,by
    obtain ⟨gk2,hgk2,hck2⟩:=zd1 (i:=0) (zaf HOn.out hb) (by have:=HNc.out;omega) HNc.out
    injection hgk2 with hgk2
    injection hgk2 with hgk2
    subst hgk2
    rw [hck2,HKd.out]⟩)
   have HDr:=hide (fun wx (hb:Below wa.heap.size wa wx)=>zc1 (.agg #[.slice a1 K.ps.length e1,.slice a2 K.ls.length e2,.int .i64 K.next,.slice a3 K.us.length e3,.slice a4 K.gs.length e4,.slice a5 K.fs.length e5]) K (zct HL.out.2.1) (by have:=HL.out.2.1.2.2.2.2.1;omega) (by have:=HL.out.2.1.2.2.2.2.2.1;omega) (by have:=HL.out.2.1.2.2.2.2.2.2;omega) p HL.out.1.asc (fun h h'=>HL.out.1.uf _ h' h) wx (zae (zap (zaJ HWk.out)) hb))
   clear hck hkd hcs hkp
   go_upto_region 9 with fail
   refine zjB (S:=fun wx=>wx.rangeAt (w.heap.size+1+1) 0 (#[.slice a1 K.ps.length e1,.slice a2 K.ls.length e2,.int .i64 K.next,.slice a3 K.us.length e3,.slice a4 K.gs.length e4,.slice a5 K.fs.length e5]:Array Value).toList) (S0:=fun wx=>wx.cell? ⟨g,3,none⟩=some (.slice (some ⟨gk',0,none⟩) 1 c3)/\wx.cell? ⟨gk',0,none⟩=some (.int .i64 kd)) [7] (by kernel_rfl) ?_
   obtain ⟨wd,hwd⟩:∃wd,wd=wa.drew:=⟨_,rfl⟩
   have HBd:Hid (Below wa.heap.size wa wd):=hide (by rw [hwd];exact (Below.refl _ _).drew)
   rw [<-hwd];clear hwd;have hHeld:=HSw.out wd HBd.out
   refine takeZt 0 40 (.agg #[.slice a1 K.ps.length e1,.slice a2 K.ls.length e2,.int .i64 K.next,.slice a3 K.us.length e3,.slice a4 K.gs.length e4,.slice a5 K.fs.length e5]) rfl rfl (by decide) (by kernel_rfl) (by kernel_rfl) (by kernel_rfl) (by kernel_rfl) (by kernel_rfl) (fun _ _ _ h=>h) (zbT (by rfl) 34 (.tmp 7) rfl (w.heap.size+1+1) 0 rfl #[.slice a1 K.ps.length e1,.slice a2 K.ls.length e2,.int .i64 K.next,.slice a3 K.us.length e3,.slice a4 K.gs.length e4,.slice a5 K.fs.length e5] _ (fun _ h=>h.1) Tryz.underlying34 rfl (by kernel_rfl)) hHeld ?_
   simp only [yA,yB,yC]
   refine zgO 1 41 ?_ rfl rfl (by decide) (by kernel_rfl) (by kernel_rfl) (by kernel_rfl) (by kernel_rfl) (fun _ _ _ h=>h) (Or.inl ⟨by rfl,?_⟩) hHeld ?_
   rotate_left
   ·(intro wx hSw;(try dsimp only at hSw);have s0:=hSw.1;have s1:=hSw.2;go_simp;try with_reducible rfl)
   simp only [yA,yB,yC]
   refine zgO 3 43 ?_ rfl rfl (by decide) (by kernel_rfl) (by kernel_rfl) (by kernel_rfl) (by kernel_rfl) (fun _ _ _ h=>h) (Or.inl ⟨by rfl,?_⟩) hHeld ?_
   rotate_left
   ·(intro wx hSw;(try dsimp only at hSw);have s0:=hSw.1;have s1:=hSw.2;go_simp;try with_reducible rfl)
   simp only [yA,yB,yC]
   refine zgO 4 44 ?_ rfl rfl (by decide) (by kernel_rfl) (by kernel_rfl) (by kernel_rfl) (by kernel_rfl) (fun _ _ _ h=>h) (Or.inl ⟨by rfl,?_⟩) hHeld ?_
   rotate_left
   ·(intro wx hSw;(try dsimp only at hSw);have s0:=hSw.1;have s1:=hSw.2;go_simp;try with_reducible rfl)
   simp only [yA,yB,yC]
   refine zgO 5 45 ?_ rfl rfl (by decide) (by kernel_rfl) (by kernel_rfl) (by kernel_rfl) (by kernel_rfl) (fun _ _ _ h=>h) (Or.inl ⟨by rfl,?_⟩) hHeld ?_
   rotate_left
   ·(intro wx hSw;(try dsimp only at hSw);have s0:=hSw.1;have s1:=hSw.2;go_simp;try with_reducible rfl)
   simp only [yA,yB,yC]
   refine zgO 6 46 ?_ rfl rfl (by decide) (by kernel_rfl) (by kernel_rfl) (by kernel_rfl) (by kernel_rfl) (fun _ _ _ h=>h) (Or.inl ⟨by rfl,?_⟩) hHeld ?_
   rotate_left
   ·(intro wx hSw;(try dsimp only at hSw);have s0:=hSw.1;have s1:=hSw.2;go_simp;try with_reducible rfl)
   simp only [yA,yB,yC]
   refine zjA (i:=2) (by kernel_rfl) rfl ?_
   intro K' hK;refine zbz wd ?_ 73 Tryz.f73 Tryz.func73 ?_ ?_ (.tmp 40) (.tmp 41) #[34,3] ?_ (.agg #[.slice a1 K.ps.length e1,.slice a2 K.ls.length e2,.int .i64 K.next,.slice a3 K.us.length e3,.slice a4 K.gs.length e4,.slice a5 K.fs.length e5]) (.int .i64 p) ?_ ?_ _ (HDr.out wd HBd.out) ?_
   ·exact rfl
   ·decide
   ·exact Option.some_ne_none _
   ·exact rfl
   ·exact rfl
   ·exact rfl
   rintro e w4 ⟨v',rfl,hnw,hb4⟩;refine ⟨_,rfl,?_⟩;have HB4:Hid (Below wa.heap.size wa w4):=hide (HBd.out.trans (hb4.mono HBd.out.size));refine hK.out (Act.put _ (some 42) _) _ ⟨(HSw.out _ HB4.out).2,Or.inr (HSw.out _ HB4.out).1⟩ ?_;clear hK K'
   simp only [Act.put,yA,yB,yC]
   obtain ⟨m1,f1,m2,f2,m3,f3,m4,f4,m5,f5,ev'⟩:=zaR hnw;obtain ⟨ns,hns⟩:∃ns:Array Value,ns= #[.slice m1 (dropS K p).ps.length f1,.slice m2 (dropS K p).ls.length f2,.int .i64 (dropS K p).next,.slice m3 (dropS K p).us.length f3,.slice m4 (dropS K p).gs.length f4,.slice m5 (dropS K p).fs.length f5]:=⟨_,rfl⟩;rw [<-hns] at ev';subst ev'
   have HNs:Hid (ns.size=6/\ns.toList.all (·.oneCell')=true/\(Tryz.prog.info? 34).map (·.size)=some ns.size):=hide (by rw [hns];exact ⟨rfl,rfl,by kernel_rfl⟩)
   clear hns;have HNw:=hide hnw;have HG4:=hide (⟨stays HGd.out.1 HB4.out,stays HGd.out.2 HB4.out,(HS.out.bl.trans (HBa.out.mono HS.out.bl.size)).trans (HB4.out.mono (HS.out.bl.trans (HBa.out.mono HS.out.bl.size)).size)⟩:_/\_/\_)
   have HTh:Hid (w4.there (w.heap.size+1+1) 0 ns.size):=hide (zav HG4.out.1 0 ns.size (by rw [HNs.out.1];exact Nat.le_refl 6))
   have HZd:Hid (w.heap.size+1+1+1<=wd.heap.size):=hide (by have h1:=(Array.getElem?_eq_some_iff.1 HGd.out.1).1;have h2:=HBd.out.size;omega)
   have HZg:Hid (g≠w.heap.size+1+1/\gk'≠w.heap.size+1+1):=hide ⟨fun e=>by have h1:=HNa.out;rw [e,HGd.out.1] at h1;injection h1 with h1;injection h1 with h1 h2 h3;exact absurd h2 (by decide),fun e=>by
    have h1:=(HSw.out wa (Below.refl _ _)).2.2;have h2:=(za0 HGd.out.1 0).1;rw [e,h2] at h1
    cases h1⟩
   obtain ⟨w5,hw5⟩:∃x,w4.setCells (w.heap.size+1+1) 0 ns.toList=x:=⟨_,rfl⟩
   have HKp:Hid (Kept w4 w5 (fun j=>j=w.heap.size+1+1)):=hide (by rw [<-hw5];exact zbD _ _ _ _)
   have HG5:Hid (w5.heap[w.heap.size+1+1]?=some (.cells ns 34 (0,0))):=hide (by rw [<-hw5];exact zbs HG4.out.1 ns (by rw [HNs.out.1];rfl))
   have HW5:=hide hw5
   have hS5:w5.cell? ⟨g,3,none⟩=some (.slice (some ⟨gk',0,none⟩) 1 c3)/\w5.cell? ⟨gk',0,none⟩=some (.int .i64 kd):=by
    have hN4:=stays HNa.out HB4.out;refine ⟨(za0 ((HKp.out.2.2.2.2 _ (Array.getElem?_eq_some_iff.1 hN4).1 HZg.out.1).trans hN4) 3).1,?_⟩
    obtain ⟨gk2,hgk2,hck2⟩:=zd1 (i:=0) (za6 (zaf HOn.out HB4.out) HKp.out (fun j hj e=>HZg.out.2 (by injection hj with hj;subst hj;exact e))) (by have:=HNc.out;omega) HNc.out
    injection hgk2 with hgk2
    injection hgk2 with hgk2
    subst hgk2;rw [hck2,HKd.out]
   clear hw5 hnw hb4
   refine zjA (i:=7) (by kernel_rfl) rfl ?_
   intro K' hK;refine zb0 ?_ 34 (.tmp 7) (.tmp 42) ?_ (w.heap.size+1+1) 0 ns ?_ ?_ HTh.out HNs.out.2.2 HNs.out.2.1 HW5.out ?_
   ·exact rfl
   ·exact rfl
   ·exact rfl
   ·exact rfl
   refine hK.out (Act.put _ none _) w5 ⟨hS5,Or.inl (by kernel_rfl)⟩ ?_
   clear hK K'
   simp only [Act.put]
   refine zjA (i:=8) (by kernel_rfl) rfl ?_
   intro K' hK
   go_simp
   refine hK.out _ _ ⟨hS5,Or.inl (by kernel_rfl)⟩ ?_
   clear hK K'
   refine doneZt (by kernel_rfl) ?_ _
   have HS5:Hid (LwSt w B (dropS K p) ns w5):=hide ⟨HG5.out,zeZ (ze4 HNw.out HKp.out (fun j hj e=>by have h1:=(zal (zaJ HNw.out) j hj).1;have h2:=HZd.out;omega)) (by have:=HZd.out;have:=HBb.out;omega),fun j hj=>by have h1:=(zal (zaJ HNw.out) j hj).1;have h2:=HZd.out;omega,(HKp.out.2.2.2.2 _ (Array.getElem?_eq_some_iff.1 HG4.out.2.1).1 (by omega)).trans HG4.out.2.1,HG4.out.2.2.trans (zac HKp.out HG4.out.2.2.size (fun j e=>by omega))⟩
   have HL5:Hid (JOk (dropS K p)/\(dropS K p).sm (60960+f')/\f'<=q/\lowS f' (dropS K p) kd=some T):=hide ⟨zfW HL.out.1 p,zhL HL.out.2.1 p,by have:=HL.out.2.2.1;omega,HLw.out⟩
   have hnp9:=HNp.out;clear hS5 hHeld;go_wp2_with fail
   go_roundg q
   case measure=>omega
   case rel=>exact ⟨i+1,dropS K p,kd,f',ns,by omega,by go_num,rfl,HL5,HS5⟩
end Go.Proofs.YtcbogiebfbbmbaaGreatDoor
