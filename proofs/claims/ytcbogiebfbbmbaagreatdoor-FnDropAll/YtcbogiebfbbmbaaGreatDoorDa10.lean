/-
  Facts and contracts that the law's own text rests on, by their texts' names: GiveSpec.
-/
import Derived.Test.YtcbogiebfbbmbaaGreatDoorDa3
import Derived.Test.YtcbogiebfbbmbaaGreatDoorDa9
import Derived.Test.YtcbogiebfbbmbaaGreatDoorDa7
set_option maxHeartbeats 16000000
set_option maxRecDepth 100000
namespace Go.Proofs.YtcbogiebfbbmbaaGreatDoor
open Go.RowKit
theorem zfz (v:Value) (k:Wk) (hk:k.small) (w:World) (hd:WorkAt w v k):
  Calls Tryz.prog 46 #[v] w fun e w'=>∃v',e= .returned (.tuple #[v',.int .i64 (giveP k)])/\WorkOwn w' w.heap.size v' (giveK k)/\Below w.heap.size w w':=by
 obtain ⟨i0,hi,hz0,hz1,hz2⟩:=info_parts Tryz.infoIntC;have hfl:=hk.2.2.2.2.2.2;have hpl:=hk.1
 have HC:=hide (fun u wx h=>zcW u k hk wx h)
 have HSu:=hide hk.2.2.2.2.1;have HD:=hide hd;obtain ⟨vp,vl,vu,vg,vf,rfl,h1,h2,h3,h4,ua,uc,rfl,hucap⟩:=hd
 obtain ⟨xp,cxp,rfl⟩:∃a cap,vp= .slice a k.ps.length cap:=by obtain ⟨vp',vl',e,h,-⟩:=h1;obtain ⟨-,a,cap,e2,-⟩:=h;injection e with e;injection e with e;injection e with e1 e;subst e1;exact ⟨a,cap,e2⟩
 have HRw:=hide h2;obtain ⟨nx,hnx⟩:∃n,n=k.next:=⟨_,rfl⟩;rw [<-hnx] at HD⊢;have HNx:=hide hnx;obtain ⟨np,hnp⟩:∃n,n=k.ps.length:=⟨_,rfl⟩;obtain ⟨nu,hnu⟩:∃n,n=k.us.length:=⟨_,rfl⟩;rw [<-hnu] at hucap HRw;rw [<-hnp,<-hnu] at HD⊢;have HLn0:=hide (⟨hnp,hnu⟩:_/\_);clear hk hnx h1 h2 h3 h4 hnp hnu;obtain ⟨w0,hw0⟩:∃w0,w0=(w.alloc (Obj.cells #[.slice xp np cxp,vl,.int .i64 nx,.slice ua nu uc,vg,vf] 34)).alloc (Obj.cells #[.slice none 0 0,.slice none 0 0,.int .i64 0,.slice none 0 0,.slice none 0 0,.slice none 0 0] 34):=⟨_,rfl⟩
 have hb0:Below w.heap.size w w0:=by rw [hw0];exact ((Below.refl w.heap.size w).alloc (Nat.le_refl _) _).alloc (by simp) _
 obtain ⟨q0,q1,hs0⟩:=zaE w (Obj.cells #[.slice xp np cxp,vl,.int .i64 nx,.slice ua nu uc,vg,vf] 34) (Obj.cells #[.slice none 0 0,.slice none 0 0,.int .i64 0,.slice none 0 0,.slice none 0 0,.slice none 0 0] 34);rw [<-hw0] at q0 q1 hs0;obtain ⟨a0,ha0⟩:∃a,a=w.heap.size:=⟨_,rfl⟩;rw [<-ha0] at q0 q1 hs0;have HA:Hid (a0=w.heap.size/\w0.heap.size=a0+2):=hide ⟨ha0,hs0⟩;have HB0:=hide hb0;have HQ:=hide (⟨q0,q1⟩:_/\_);go_enter Tryz.func46,Tryz.ntmps46;go_wp2_with fail;rw [<-hw0,<-ha0];clear hb0 q0 q1 hs0 hw0 ha0;refine (HC.out _ _ (zae HD.out HB0.out)).mono ?_;rintro e w1 ⟨u,rfl,hnw,hb1⟩;obtain ⟨a1,c1,a2,c2,a3,c3,a4,c4,a5,c5,rfl⟩:=zaR hnw;rw [<-HNx.out] at hnw⊢;obtain ⟨hnp,hnu⟩:=HLn0.out;obtain ⟨nl,hnl⟩:∃n,n=k.ls.length:=⟨_,rfl⟩;obtain ⟨ng,hng⟩:∃n,n=k.gs.length:=⟨_,rfl⟩;obtain ⟨nf,hnf⟩:∃n,n=k.fs.length:=⟨_,rfl⟩;rw [<-hnp,<-hnl,<-hnu,<-hng,<-hnf] at hnw⊢;rw [<-hnp] at hpl;rw [<-hnf] at hfl;have HLn:=hide (⟨hnp,hnl,hnu,hng,hnf⟩:_/\_/\_/\_/\_);obtain ⟨g,hg⟩:∃g,g=w1.heap.size:=⟨_,rfl⟩;obtain ⟨w2,hw2⟩:∃wx,wx=w1.alloc (Obj.cells #[.slice a1 np c1,.slice a2 nl c2,.int .i64 nx,.slice a3 nu c3,.slice a4 ng c4,.slice a5 nf c5] 34):=⟨_,rfl⟩
 have hb2:Below w1.heap.size w1 w2:=by rw [hw2];exact (Below.refl _ _).alloc (Nat.le_refl _) _
 have hv2:w2.heap[g]?=some (Obj.cells #[.slice a1 np c1,.slice a2 nl c2,.int .i64 nx,.slice a3 nu c3,.slice a4 ng c4,.slice a5 nf c5] 34):=by rw [hw2,hg];exact heap_alloc_new w1 _
 have HB2:Hid (Below w.heap.size w w2):=hide ((HB0.out.trans (hb1.mono HB0.out.size)).trans (hb2.mono (HB0.out.trans (hb1.mono HB0.out.size)).size));have hbx:w2.heap[a0]?=_:=zaD (zaD HQ.out.1 hb1) hb2;have hrs:w2.heap[a0+1]?=_:=zaD (zaD HQ.out.2 hb1) hb2;have HNw:=hide (zcr hnw hb2)
 have HGt:Hid (w0.heap.size<=g/\g<w2.heap.size/\∀j,workBlocks (.agg #[.slice a1 np c1,.slice a2 nl c2,.int .i64 nx,.slice a3 nu c3,.slice a4 ng c4,.slice a5 nf c5]) j->w0.heap.size<=j/\j<g):=hide ⟨by rw [hg];exact hb1.size,(Array.getElem?_eq_some_iff.1 hv2).1,fun j hj=>by rw [hg];exact zal (zaJ hnw) j hj⟩
 have HV2:=hide hv2;have HRs:=hide hrs;have HBx:=hide hbx;obtain ⟨v0,v1,v2,v3,v4,v5⟩:=blk6c hv2;obtain ⟨bx0,bx1,bx2,bx3,bx4,bx5⟩:=blk6c hbx;obtain ⟨r0,r1,r2,r3,r4,r5⟩:=blk6c hrs;have zr0:=(za0 hrs 0).2;have zr1:=(za0 hrs 1).2;have zr2:=(za0 hrs 2).2;have zr3:=(za0 hrs 3).2;have zr4:=(za0 hrs 4).2;have zr5:=(za0 hrs 5).2
 have hng1:a0+1≠g:=by have:=HA.out;have:=HGt.out.1;omega
 have hng0:a0≠g:=by have:=HA.out;have:=HGt.out.1;omega
 have hgt:∀j,g<j->j≠g:=fun j h=>by omega
 have HN1:=hide hnw;have HB1:Hid (Below w.heap.size w w1):=hide (HB0.out.trans (hb1.mono HB0.out.size));have HR1:=hide (zaD HQ.out.2 hb1)
 have HF1:Hid (w1.ownsRow w0.heap.size 3 1 (.slice a5 nf c5) nf (ints k.fs)):=hide (by have:=(zbV hnw).2.2.2.2.1;rw [<-hnf] at this;exact this)
 have HBx1:=hide (zaD HQ.out.1 hb1)
 have HGv:Hid (GV w w2 a0 g w0.heap.size (Obj.cells #[.slice xp np cxp,vl,.int .i64 nx,.slice ua nu uc,vg,vf] 34) (Obj.cells #[.slice none 0 0,.slice none 0 0,.int .i64 0,.slice none 0 0,.slice none 0 0,.slice none 0 0] 34) (.slice a1 np c1) (.slice a2 nl c2) (.slice a3 nu c3) (.slice a4 ng c4) (.slice a5 nf c5) k):=hide ⟨by rw [<-HNx.out];exact hv2,hrs,hbx,HB2.out,HA.out.1,by have:=HA.out;omega,by have:=HA.out;have:=HGt.out.1;omega,by have:=HGt.out;omega,by rw [<-HNx.out];exact zcr hnw hb2⟩
 rw [hw2] at r0 r1 r2 r3 r4 r5 zr0 zr1 zr2 zr3 zr4 zr5;clear bx0 bx1 bx2 bx3 bx4 bx5
 have bx0:∀o,(w1.alloc o).cell? ⟨a0,0,none⟩=some (.slice xp np cxp):=fun o=>(za0 (zaD HBx1.out ((Below.refl _ _).alloc (Nat.le_refl _) o)) 0).1
 have bx1:∀o,(w1.alloc o).cell? ⟨a0,1,none⟩=some vl:=fun o=>(za0 (zaD HBx1.out ((Below.refl _ _).alloc (Nat.le_refl _) o)) 1).1
 have bx2:∀o,(w1.alloc o).cell? ⟨a0,2,none⟩=some (.int .i64 nx):=fun o=>(za0 (zaD HBx1.out ((Below.refl _ _).alloc (Nat.le_refl _) o)) 2).1
 have bx3:∀o,(w1.alloc o).cell? ⟨a0,3,none⟩=some (.slice ua nu uc):=fun o=>(za0 (zaD HBx1.out ((Below.refl _ _).alloc (Nat.le_refl _) o)) 3).1
 clear v0 v1 v2 v3 v4 v5;clear hbx hrs hnp hnl hnu hng hnf hnw hb1 hb2
 by_cases hu:k.us= []
 ·have hnu0:nu=0:=by rw [HLn.out.2.2.1,hu];rfl
  subst hnu0
  by_cases hn:nx<(np:Int)
  ·have hgv:=zbP (k:=k) hu (by rw [<-HNx.out,<-HLn.out.1];exact hn)
   rw [<-HNx.out] at hgv;have HGn:=hide hgv
   have hn':¬((np:Int)<=nx):=by omega
   have dn:decide ((np:Int)<=nx)=false:=decide_eq_false hn';clear hgv;clear r0 r1 r2 r3 r4 r5 zr0 zr1 zr2 zr3 zr4 zr5 hv2;have HU0:Hid (IntOwn w1 w0.heap.size (.slice a3 0 c3) k.us):=hide (zan (zbV HN1.out).2.2.1);rw [HNx.out] at HN1;have HUs:=hide hu;clear hu
   go_wp2_with (at_builtin;(refine wpList_append_lies _ rfl _ _ 32 rfl w0.heap.size 3 i0 (.int .i64 0) 1 8 Tryz.underlying32 hi hz0 hz1 hz2 rfl (by decide) _ nf (ints k.fs) rfl ((HF1.out.alloc _).alloc _) ⟨w1.heap.size+1,0,none⟩ 1 1 [.int .i64 (nx)] rfl rfl ?c0 ?c1 (by decide) ?c3 ?c4 ?c5 _ rfl ?_))
   case c0=>exact zdE _ _ (by simp) _ _
   case c1=>intro u hu;simp at hu;subst hu;rfl
   case c3=>unfold maxLen;omega
   case c4=>omega
   case c5=>have:=HGt.out.1;simp;omega
   intro b5 d5 w5 hown5 hg5 hb5 hl5
   obtain ⟨e5,e6,e7,e8,e9,e10⟩:=zfJ (us':=k.us) (n':=wrap64 (nx+1)) HLn.out.2.2.2.2 HN1.out (HU0.out) (fun j e=>e) hg HR1.out (by have:=HA.out;omega) HA.out.1 HGt.out.1 HB1.out hown5 hg5 (by rcases hb5 with hb5 | hb5;exact Or.inl hb5;right;(try simp at hb5);omega)
   have s5:w5.cell? ⟨w1.heap.size,5,none⟩=some (.slice a5 nf c5):=by rw [<-hg];exact (za0 e5 5).1
   have z5:w5.frozen? ⟨w1.heap.size,5,none⟩=false:=by rw [<-hg];exact (za0 e5 5).2
   obtain ⟨w6,hw6⟩:∃w6,w6=w5.setCell ⟨g,5,none⟩ (.slice (some ⟨b5,0,none⟩) (nf+1) d5):=⟨_,rfl⟩;rw [<-hw6] at e6 e7 e8 e9 e10;obtain ⟨v0,v1,v2,v3,v4,v5⟩:=blk6c e6;obtain ⟨r0,r1,r2,r3,r4,r5⟩:=blk6c e7;have zr0:=(za0 e7 0).2;have zr1:=(za0 e7 1).2;have zr2:=(za0 e7 2).2;have zr3:=(za0 e7 3).2;have zr4:=(za0 e7 4).2;have zr5:=(za0 e7 5).2
   have hret:=zaM (w:=w) e7 e8 (by have:=HA.out;omega) (by have:=HA.out;omega) e9
   have HRet:=hide hret;rw [hw6,hg] at v0 v1 v2 v3 v4 v5 r0 r1 r2 r3 r4 r5 zr0 zr1 zr2 zr3 zr4 zr5;have HW6:=hide hw6;have HG:=hide hg;have HE6:=hide (⟨e6,e7,e8,e9,e10⟩:_/\_/\_/\_/\_);clear hown5 hg5 hb5 hl5 e5 e6 e7 e8 e9 e10 hret hw6 hg hw2 hng1 hng0 hgt;go_wp2_with fail;rw [<-HG.out,<-HW6.out]
   have hbx6:=HE6.out.2.2.2.2 a0 _ HBx1.out (by have:=HA.out;omega)
   obtain ⟨wd,hwd⟩:∃wd,wd=w6.drew:=⟨_,rfl⟩
   have hbd:Below w6.heap.size w6 wd:=by rw [hwd];exact (Below.refl _ _).drew
   have hvd:=zaD HE6.out.1 hbd;have hrd:=zaD HE6.out.2.1 hbd;have hxd:=zaD hbx6 hbd;have HS0:=hide (s8 hvd hxd)
   have HS1:=hide (fun u0 u1 u2 u3 u4 u5=>s8 (W:=set6 wd (a0+1) u0 u1 u2 u3 u4 u5) (keep6 hvd (by have:=HA.out;have:=HGt.out.1;have:=HG.out;omega)) (keep6 hxd (by omega)))
   have HRt:=hide (zaM (w:=w) hrd (zbu HE6.out.2.2.1 hbd) (by have:=HA.out;omega) (by have:=HA.out;omega) (HE6.out.2.2.2.1.trans (hbd.mono HE6.out.2.2.2.1.size)))
   have HRd:=hide hrd
   refine wp_region_held_drew (S:=fun wx=>wx.cell? ⟨g,0,none⟩=some (.slice a1 np c1)/\wx.cell? ⟨g,1,none⟩=some (.slice a2 nl c2)/\wx.cell? ⟨g,2,none⟩=some (.int .i64 (wrap64 (nx+1)))/\wx.cell? ⟨g,3,none⟩=some (.slice a3 0 c3)/\wx.cell? ⟨g,4,none⟩=some (.slice a4 ng c4)/\wx.cell? ⟨g,5,none⟩=some (.slice (some ⟨b5,0,none⟩) (nf+1) d5)/\wx.cell? ⟨a0,2,none⟩=some (.int .i64 nx)/\wx.cell? ⟨a0,3,none⟩=some (.slice ua 0 uc)) (by kernel_rfl) (by rw [<-hwd];exact HS0.out) (fun hHeld=> ?_)
   rw [<-hwd];clear hwd hbd hvd hrd hxd hbx6 v0 v1 v2 v3 v4 v5 hHeld r0 r1 r2 r3 r4 r5 zr0 zr1 zr2 zr3 zr4 zr5 bx0 bx1 bx2 bx3
   refine tK 0 50 ?_ rfl rfl (by kernel_rfl) (fun _ _ _ h=>h) ⟨by rfl,?_⟩ HS0.out ?_
   rotate_left
   ·(intro wx hSw;(try dsimp only at hSw);go_simp;try with_reducible rfl)
   simp only [yA,yB,yC]
   refine tK 1 51 ?_ rfl rfl (by kernel_rfl) (fun _ _ _ h=>h) ⟨by rfl,?_⟩ HS0.out ?_
   rotate_left
   ·(intro wx hSw;(try dsimp only at hSw);go_simp;try with_reducible rfl)
   simp only [yA,yB,yC]
   refine tK 2 52 ?_ rfl rfl (by kernel_rfl) (fun _ _ _ h=>h) ⟨by rfl,?_⟩ HS0.out ?_
   rotate_left
   ·(intro wx hSw;(try dsimp only at hSw);go_simp;try with_reducible rfl)
   simp only [yA,yB,yC]
   obtain ⟨r0,r1,r2,r3,r4,r5⟩:=blk6c HRd.out;have zr0:=(za0 HRd.out 0).2;have zr1:=(za0 HRd.out 1).2;have zr2:=(za0 HRd.out 2).2;have zr3:=(za0 HRd.out 3).2;have zr4:=(za0 HRd.out 4).2;have zr5:=(za0 HRd.out 5).2
   refine wpAnyH_ready (rs:= [3]) (by kernel_rfl) (by simp) ?_
   refine AllReadyH.cons rfl (fun K hK=> ?_) AllReadyH.nil
   go_simp
   refine hK.out _ _ (HS1.out _ _ _ _ _ _) (fun _=> ?_)
   clear hK K
   refine tK 4 3 ?_ rfl rfl (by kernel_rfl) (fun _ _ _ h=>h) ⟨by rfl,?_⟩ (HS1.out _ _ _ _ _ _) ?_
   rotate_left
   ·(intro wx hSw;(try dsimp only at hSw);go_simp;try with_reducible rfl)
   simp only [yA,yB,yC]
   refine wpAnyH_done (by kernel_rfl) ?_ _
   go_wp2_with fail;obtain ⟨f0,f1,f2,f3,f4,f5⟩:=blk6c HRt.out.1
   refine bodyPost_ret (v:= .tuple #[.agg #[.slice a1 np c1,.slice a2 nl c2,.int .i64 (wrap64 (nx+1)),.slice a3 0 c3,.slice a4 ng c4,.slice (some ⟨b5,0,none⟩) (nf+1) d5],.int .i64 (nx)]) (by simp [results,Tryz.results46,go_sem,f0,f1,f2,f3,f4,f5]) rfl ⟨_,by rw [HGn.out.2],by rw [HGn.out.1];exact HRt.out.2.1,HRt.out.2.2⟩
  ·have HGn:=hide (zcg (k:=k) hu (by rw [<-HNx.out,<-HLn.out.1];exact hn))
   have hn':(np:Int)<=nx:=by omega
   have hret:=zaM (w:=w) HRs.out (zaJ HNw.out) (by have:=HA.out;omega) (by have:=HA.out;omega) HB2.out
   have HRet:=hide hret;have HUs:=hide hu;have HW2:=hide hw2;have HGg:=hide hg;clear hu hret hv2 hw2 hg hgt hng1 hng0;go_wp2_with fail;rw [<-HW2.out];obtain ⟨f0,f1,f2,f3,f4,f5⟩:=blk6c HRet.out.1
   refine bodyPost_ret (v:= .tuple #[.agg #[.slice a1 np c1,.slice a2 nl c2,.int .i64 nx,.slice a3 0 c3,.slice a4 ng c4,.slice a5 nf c5],.int .i64 0]) (by simp [results,Tryz.results46,go_sem,f0,f1,f2,f3,f4,f5]) rfl ⟨_,by rw [HGn.out.2],by rw [HGn.out.1];exact HRet.out.2.1,HRet.out.2.2⟩
 ·obtain ⟨x,t,hxt⟩:=List.exists_cons_of_ne_nil hu
  have HGn:Hid (giveK k={k with us:=t,fs:=k.fs++ [x]}/\giveP k=x):=hide (zbO (k:=k) hxt)
  have hnt:nu=t.length+1:=by rw [HLn.out.2.2.1,hxt];rfl
  obtain ⟨bu,off,hua,hbl,hcx⟩:∃bu off,ua=some ⟨bu,off,none⟩/\bu<w.heap.size/\w.cell? ⟨bu,off,none⟩=some (.int .i64 x):=by
   obtain ⟨-,a,cap,e,h⟩:=HRw.out
   injection e with e1
   subst e1
   rcases h with h0 | ⟨bu,off,rfl,hlt,hc⟩
   ·omega
   ·refine ⟨bu,off,rfl,hlt,?_⟩
    have:=hc 0 (by omega)
    rw [Nat.add_zero] at this;rw [this,hxt]
    rfl
  subst hua;have HCx:=hide (⟨hbl,hcx⟩:_/\_)
  have hcx2:∀o,(w1.alloc o).cell? ⟨bu,off,none⟩=some (.int .i64 x):=fun o=>((HB1.out.alloc HB1.out.size o).cell (by exact hbl)).trans hcx
  have hRt:∀y c',(y=some ⟨bu,off+1,none⟩\/t.length=0)->RowAt w 1 (.slice y (nu - 1) c') (nu - 1) (ints t):=fun y c' hy=>zmN (x:=x) hnt (by have:=HRw.out;rw [hxt] at this;exact this) hy
  have hul:nu<=2000000:=by rw [HLn.out.2.2.1];exact HSu.out
  have HTl:Hid (t.length=nu - 1):=hide (by omega)
  have HXt:=hide hxt
  have hn0:(0:Int)<(nu:Int):=by omega
  have hn1:(1:Int)<=(nu:Int):=by omega
  have hnc2:(nu:Int)<=(uc:Int):=by omega
  have bx4:∀o o',((w1.alloc o).alloc o').cell? ⟨a0,3,none⟩=some (.slice (some ⟨bu,off,none⟩) nu uc):=fun o o'=>(za0 (zaD HBx1.out (((Below.refl _ _).alloc (Nat.le_refl _) o).alloc (by simp) o')) 3).1
  clear hu hbl hcx hxt hv2 r0 r1 r2 r3 r4 r5 zr0 zr1 zr2 zr3 zr4 zr5
  by_cases hc1:uc=1
  ·subst hc1
   obtain rfl:nu=1:=by omega
   obtain rfl:t= []:=List.eq_nil_of_length_eq_zero (by omega)
   have HRt:Hid (RowAt w 1 (.slice (some ⟨bu,off,none⟩) 0 0) 0 (ints [])):=hide (hRt _ 0 (Or.inr rfl));clear hRt hnt hn0 hn1 hnc2 hucap
   go_wp2_with (at_builtin;(refine zgo _ rfl _ _ 32 rfl 3 i0 (.int .i64 0) Tryz.underlying32 hi hz0 hz1 hz2 rfl (w1.heap.size+1) rfl ?c0 _ (0) (ints []) rfl ?c1 (zei _) ?c2 ?_))
   case c0=>have:=heap_alloc_new (w1.alloc (Obj.cells #[.slice a1 np c1,.slice a2 nl c2,.int .i64 nx,.slice a3 1 c3,.slice a4 ng c4,.slice a5 nf c5] 34)) (Obj.cells #[] 3);rw [World.size_alloc] at this;exact this
   case c1=>exact za8 HRt.out (by rw [<-hw2];exact HB2.out.alloc HB2.out.size _)
   case c2=>omega
   intro b3 q3 wA hownA hgA hbA;rw [<-hw2] at hgA
   have hgv3:=gv_us (l:= []) HGv.out (e:=w1.heap.size+1) (by rw [hw2,World.size_alloc];omega) hgA hownA
   rw [List.length_nil] at hgv3
   have s3c:wA.cell? ⟨w1.heap.size,3,none⟩=some (.slice a3 1 c3):=by rw [<-hg];exact (za0 hgv3.1 3).1
   have s3z:wA.frozen? ⟨w1.heap.size,3,none⟩=false:=by rw [<-hg];exact (za0 hgv3.1 3).2
   obtain ⟨w3,hw3⟩:∃w3,w3=wA.setCell ⟨g,3,none⟩ (.slice (some ⟨b3,0,none⟩) (0) q3):=⟨_,rfl⟩;have HG3:=hide hgv3.2;rw [<-hw3] at HG3;have HGe:=hide hg;have HW3:=hide hw3;clear hownA hgA hbA hgv3 hg hw2 hw3 bx0 bx1 bx2 bx3 bx4 hcx2 hgt hng1 hng0;go_wp2_with fail;rw [<-HGe.out,<-HW3.out];clear s3c s3z;obtain ⟨wd,hwd⟩:∃wd,wd=w3.drew:=⟨_,rfl⟩
   have HGd:=hide (zey HG3.out (show Below w3.heap.size w3 wd by rw [hwd];exact (Below.refl _ _).drew))
   have HRow:Hid (∀wx,Below w.heap.size w wx->wx.cell? ⟨bu,off,none⟩=some (.int .i64 x)):=hide (fun wx hb=>(hb.cell (by exact HCx.out.1)).trans HCx.out.2)
   have HSw:Hid (∀wx,wx.heap[a0]?=some (Obj.cells #[.slice xp np cxp,vl,.int .i64 nx,.slice (some ⟨bu,off,none⟩) 1 1,vg,vf] 34)->Below w.heap.size w wx->(fun wx=>wx.cell? ⟨a0,3,none⟩=some (.slice (some ⟨bu,off,none⟩) 1 1)/\wx.cell? ⟨bu,off,none⟩=some (.int .i64 x)) wx):=hide (fun wx hb hl=>s3 hb (HRow.out wx hl))
   have hHeld:=HSw.out wd HGd.out.box HGd.out.low
   refine wp_region_held_drew (S:=fun wx=>wx.cell? ⟨a0,3,none⟩=some (.slice (some ⟨bu,off,none⟩) 1 1)/\wx.cell? ⟨bu,off,none⟩=some (.int .i64 x)) (by kernel_rfl) (by rw [<-hwd];exact hHeld) (fun _=> ?_)
   rw [<-hwd];clear hwd
   refine tK 0 17 ?_ rfl rfl (by kernel_rfl) (fun _ _ _ h=>h) ⟨by rfl,?_⟩ hHeld ?_
   rotate_left
   ·(intro wx hSw;(try dsimp only at hSw);go_simp;try with_reducible rfl)
   simp only [yA,yB,yC]
   refine tK 2 19 ?_ rfl rfl (by kernel_rfl) (fun _ _ _ h=>h) ⟨by rfl,?_⟩ hHeld ?_
   rotate_left
   ·(intro wx hSw;(try dsimp only at hSw);go_simp;try with_reducible rfl)
   simp only [yA,yB,yC]
   refine tK 3 20 ?_ rfl rfl (by kernel_rfl) (fun _ _ _ h=>h) ⟨by rfl,?_⟩ hHeld ?_
   rotate_left
   ·(intro wx hSw;(try dsimp only at hSw);go_simp;try with_reducible rfl)
   simp only [yA,yB,yC]
   refine tK 4 21 ?_ rfl rfl (by kernel_rfl) (fun _ _ _ h=>h) ⟨by rfl,?_⟩ hHeld ?_
   rotate_left
   ·(intro wx hSw;(try dsimp only at hSw);go_simp;try with_reducible rfl)
   simp only [yA,yB,yC]
   refine tK 5 22 ?_ rfl rfl (by kernel_rfl) (fun _ _ _ h=>h) ⟨by rfl,?_⟩ hHeld ?_
   rotate_left
   ·(intro wx hSw;(try dsimp only at hSw);go_simp;try with_reducible rfl)
   simp only [yA,yB,yC]
   refine wpAnyH_ready (rs:= [1,6]) (by kernel_rfl) (by simp) ?_
   have HSa:Hid (∀o,(fun wx=>wx.cell? ⟨a0,3,none⟩=some (.slice (some ⟨bu,off,none⟩) 1 1)/\wx.cell? ⟨bu,off,none⟩=some (.int .i64 x)) (wd.alloc o)):=hide (fun o=>HSw.out _ (zaD HGd.out.box ((Below.refl _ _).alloc (Nat.le_refl _) o)) (HGd.out.low.alloc HGd.out.low.size o))
   have m0:wd.cell? ⟨g,5,none⟩=some (.slice a5 nf c5):=(za0 HGd.out.var 5).1
   have m0a:∀o,(wd.alloc o).cell? ⟨g,5,none⟩=some (.slice a5 nf c5):=fun o=>(za0 (zaD HGd.out.var ((Below.refl _ _).alloc (Nat.le_refl _) o)) 5).1
   refine ready2 rfl rfl ?_
   apply branch2
   ·intro hG K hK
    go_simp
    refine hK.out _ _ hHeld (fun _=> ?_)
    clear hK K
    refine wpAnyH_ready (rs:= [6]) (by kernel_rfl) (by simp) ?_
    refine AllReadyH.cons rfl (fun K hK=> ?_) AllReadyH.nil
    go_simp
    refine hK.out _ _ (HSa.out _) (fun _=> ?_)
    clear hK K;exact hG
   ·intro hG K hK
    go_simp
    refine hK.out _ _ (HSa.out _) (fun _=> ?_)
    clear hK K
    refine wpAnyH_ready (rs:= [1]) (by kernel_rfl) (by simp) ?_
    refine AllReadyH.cons rfl (fun K hK=> ?_) AllReadyH.nil
    go_simp
    refine hK.out _ _ (HSa.out _) (fun _=> ?_)
    clear hK K;exact hG
   clear m0 m0a
   refine wpAnyH_ready (rs:= [7]) (by kernel_rfl) (by simp) ?_
   refine AllReadyH.cons rfl (fun K hK=> ?_) AllReadyH.nil
   refine step_append_lies _ ?_ (.tmp 18) (.tmp 23) 32 ?_ w0.heap.size 3 i0 (.int .i64 0) 1 8 Tryz.underlying32 hi hz0 hz1 hz2 ?_ ?_ (.slice a5 nf c5) nf (ints k.fs) ?_ ((nfrow HLn.out.2.2.2.2 (zbV HGd.out.nw).2.2.2.2.1).alloc _) ⟨wd.heap.size,0,none⟩ 1 1 [.int .i64 x] ?_ ?_ (zdE wd _ rfl _ _) ?_ ?_ ?_ ?_ ?_ _ rfl ?_
   ·exact rfl
   ·exact rfl
   ·exact rfl
   ·decide
   ·exact rfl
   ·exact rfl
   ·exact rfl
   ·intro u hu;simp at hu;subst hu;rfl
   ·decide
   ·unfold maxLen;omega
   ·omega
   ·have:=HGd.out.hBW;simp;omega
   intro b5 d5 w5 hown5 hg5 hb5 hl5
   have hgv5:=gv_fs (p:=x) (b:=b5) (d:=d5) HGd.out hg5 (by have h:=hown5;rw [HLn.out.2.2.2.2] at h;exact h) (by rcases hb5 with hb5 | hb5;exact Or.inl hb5;right;(try simp at hb5);omega)
   simp only [<-HLn.out.2.2.2.2] at hgv5
   have HV5:=hide hgv5;have hS5:=HSw.out w5 (zit HGd.out hg5) (ziu HGd.out hg5)
   refine hK.out (Act.put _ (some 24) _) _ hS5 (fun _=> ?_)
   clear hK K hown5 hg5 hb5 hl5 hgv5
   simp only [Act.put,yA,yB,yC]
   refine tK 8 25 ?_ rfl rfl (by kernel_rfl) (fun _ _ _ h=>h) ⟨by rfl,?_⟩ hS5 ?_
   rotate_left
   ·(intro wx hSw;(try dsimp only at hSw);go_simp;try with_reducible rfl)
   simp only [yA,yB,yC]
   obtain ⟨t0,t1,t2,t3,t4,t5⟩:=blk6c HV5.out.1;have z5:=(za0 HV5.out.1 5).2
   refine wpAnyH_ready (rs:= [9]) (by kernel_rfl) (by simp) ?_
   refine AllReadyH.cons rfl (fun K hK=> ?_) AllReadyH.nil
   go_simp
   refine hK.out _ _ (HSw.out _ HV5.out.2.box HV5.out.2.low) (fun _=> ?_)
   clear hK K t0 t1 t2 t3 t4 t5 z5 hS5 hHeld
   refine wpAnyH_done (by kernel_rfl) ?_ _
   obtain ⟨w6,hw6⟩:∃w6,w6=w5.setCell ⟨g,5,none⟩ (.slice (some ⟨b5,0,none⟩) (nf+1) d5):=⟨_,rfl⟩;have HV6:=hide HV5.out.2;rw [<-hw6] at HV6⊢;clear hw6 HV5 HSa;go_wp2_with fail;obtain ⟨we,hwe⟩:∃we,we=w6.drew:=⟨_,rfl⟩
   have HGe6:=hide (zey HV6.out (show Below w6.heap.size w6 we by rw [hwe];exact (Below.refl _ _).drew))
   have HT0:=hide (⟨s8 HGe6.out.var HGe6.out.box,HRow.out we HGe6.out.low⟩:_/\_)
   have HT1:=hide (fun u0 u1 u2 u3 u4 u5=>(⟨s8 (W:=set6 we (a0+1) u0 u1 u2 u3 u4 u5) (keep6 HGe6.out.var (by have:=HGe6.out.hg;omega)) (keep6 HGe6.out.box (by omega)),HRow.out _ (HGe6.out.low.trans (zac (zaQ we (a0+1) u0 u1 u2 u3 u4 u5) HGe6.out.low.size (fun j e=>by have:=HGe6.out.ha;omega)))⟩:_/\_))
   rw [<-HNx.out] at HT0 HT1
   have HRt6:=hide (zaM (w:=w) HGe6.out.res (zaJ HGe6.out.nw) (by have:=HGe6.out.hB;omega) (by have:=HGe6.out.ha;omega) HGe6.out.low)
   refine wp_region_held_drew (S:=fun wx=>(wx.cell? ⟨g,0,none⟩=some (.slice a1 np c1)/\wx.cell? ⟨g,1,none⟩=some (.slice a2 nl c2)/\wx.cell? ⟨g,2,none⟩=some (.int .i64 nx)/\wx.cell? ⟨g,3,none⟩=some (.slice (some ⟨b3,0,none⟩) (0) q3)/\wx.cell? ⟨g,4,none⟩=some (.slice a4 ng c4)/\wx.cell? ⟨g,5,none⟩=some (.slice (some ⟨b5,0,none⟩) (nf+1) d5)/\wx.cell? ⟨a0,2,none⟩=some (.int .i64 nx)/\wx.cell? ⟨a0,3,none⟩=some (.slice (some ⟨bu,off,none⟩) 1 1))/\wx.cell? ⟨bu,off,none⟩=some (.int .i64 x)) (by kernel_rfl) (by rw [<-hwe];exact HT0.out) (fun _=> ?_)
   rw [<-hwe];clear hwe
   refine tK 0 26 ?_ rfl rfl (by kernel_rfl) (fun _ _ _ h=>h) ⟨by rfl,?_⟩ HT0.out ?_
   rotate_left
   ·(intro wx hSw;(try dsimp only at hSw);go_simp;try with_reducible rfl)
   simp only [yA,yB,yC]
   refine tK 1 27 ?_ rfl rfl (by kernel_rfl) (fun _ _ _ h=>h) ⟨by rfl,?_⟩ HT0.out ?_
   rotate_left
   ·(intro wx hSw;(try dsimp only at hSw);go_simp;try with_reducible rfl)
   simp only [yA,yB,yC]
   refine tK 2 28 ?_ rfl rfl (by kernel_rfl) (fun _ _ _ h=>h) ⟨by rfl,?_⟩ HT0.out ?_
   rotate_left
   ·(intro wx hSw;(try dsimp only at hSw);go_simp;try with_reducible rfl)
   simp only [yA,yB,yC]
   refine tK 3 29 ?_ rfl rfl (by kernel_rfl) (fun _ _ _ h=>h) ⟨by rfl,?_⟩ HT0.out ?_
   rotate_left
   ·(intro wx hSw;(try dsimp only at hSw);go_simp;try with_reducible rfl)
   simp only [yA,yB,yC]
   refine tK 4 30 ?_ rfl rfl (by kernel_rfl) (fun _ _ _ h=>h) ⟨by rfl,?_⟩ HT0.out ?_
   rotate_left
   ·(intro wx hSw;(try dsimp only at hSw);go_simp;try with_reducible rfl)
   simp only [yA,yB,yC]
   obtain ⟨r0,r1,r2,r3,r4,r5⟩:=blk6c HGe6.out.res;have zr0:=(za0 HGe6.out.res 0).2;have zr1:=(za0 HGe6.out.res 1).2;have zr2:=(za0 HGe6.out.res 2).2;have zr3:=(za0 HGe6.out.res 3).2;have zr4:=(za0 HGe6.out.res 4).2;have zr5:=(za0 HGe6.out.res 5).2
   refine wpAnyH_ready (rs:= [5]) (by kernel_rfl) (by simp) ?_
   refine AllReadyH.cons rfl (fun K hK=> ?_) AllReadyH.nil
   go_simp
   refine hK.out _ _ (HT1.out _ _ _ _ _ _) (fun _=> ?_)
   clear hK K
   refine tK 6 3 ?_ rfl rfl (by kernel_rfl) (fun _ _ _ h=>h) ⟨by rfl,?_⟩ (HT1.out _ _ _ _ _ _) ?_
   rotate_left
   ·(intro wx hSw;(try dsimp only at hSw);go_simp;try with_reducible rfl)
   simp only [yA,yB,yC]
   refine wpAnyH_done (by kernel_rfl) ?_ _
   go_wp2_with fail;obtain ⟨f0,f1,f2,f3,f4,f5⟩:=blk6c HRt6.out.1;rw [<-HNx.out] at f0 f1 f2 f3 f4 f5
   refine bodyPost_ret (v:= .tuple #[.agg #[.slice a1 np c1,.slice a2 nl c2,.int .i64 nx,.slice (some ⟨b3,0,none⟩) (0) q3,.slice a4 ng c4,.slice (some ⟨b5,0,none⟩) (nf+1) d5],.int .i64 x]) (by simp [results,Tryz.results46,go_sem,f0,f1,f2,f3,f4,f5]) rfl ⟨_,by rw [HGn.out.2],by rw [HGn.out.1,HNx.out];exact HRt6.out.2.1,by rw [HNx.out];exact HRt6.out.2.2⟩
  ·have HRt:Hid (RowAt w 1 (.slice (some ⟨bu,off+1,none⟩) (nu - 1) (uc - 1)) (nu - 1) (ints t)):=hide (hRt _ _ (Or.inl rfl))
   clear hRt hnt
   go_wp2_with (at_builtin;(refine zgo _ rfl _ _ 32 rfl 3 i0 (.int .i64 0) Tryz.underlying32 hi hz0 hz1 hz2 rfl (w1.heap.size+1) rfl ?c0 _ (nu - 1) (ints t) rfl ?c1 (zei _) ?c2 ?_))
   case c0=>have:=heap_alloc_new (w1.alloc (Obj.cells #[.slice a1 np c1,.slice a2 nl c2,.int .i64 nx,.slice a3 nu c3,.slice a4 ng c4,.slice a5 nf c5] 34)) (Obj.cells #[] 3);rw [World.size_alloc] at this;exact this
   case c1=>exact za8 HRt.out (by rw [<-hw2];exact HB2.out.alloc HB2.out.size _)
   case c2=>omega
   intro b3 q3 wA hownA hgA hbA;rw [<-hw2] at hgA
   have hgv3:=gv_us (l:=t) HGv.out (e:=w1.heap.size+1) (by rw [hw2,World.size_alloc];omega) hgA (by rw [HTl.out];exact hownA)
   rw [HTl.out] at hgv3
   have s3c:wA.cell? ⟨w1.heap.size,3,none⟩=some (.slice a3 nu c3):=by rw [<-hg];exact (za0 hgv3.1 3).1
   have s3z:wA.frozen? ⟨w1.heap.size,3,none⟩=false:=by rw [<-hg];exact (za0 hgv3.1 3).2
   obtain ⟨w3,hw3⟩:∃w3,w3=wA.setCell ⟨g,3,none⟩ (.slice (some ⟨b3,0,none⟩) (nu - 1) q3):=⟨_,rfl⟩;have HG3:=hide hgv3.2;rw [<-hw3] at HG3;have HGe:=hide hg;have HW3:=hide hw3;clear hownA hgA hbA hgv3 hg hw2 hw3 bx0 bx1 bx2 bx3 bx4 hcx2 hgt hng1 hng0;go_wp2_with fail;rw [<-HGe.out,<-HW3.out];clear s3c s3z;obtain ⟨wd,hwd⟩:∃wd,wd=w3.drew:=⟨_,rfl⟩
   have HGd:=hide (zey HG3.out (show Below w3.heap.size w3 wd by rw [hwd];exact (Below.refl _ _).drew))
   have HRow:Hid (∀wx,Below w.heap.size w wx->wx.cell? ⟨bu,off,none⟩=some (.int .i64 x)):=hide (fun wx hb=>(hb.cell (by exact HCx.out.1)).trans HCx.out.2)
   have HSw:Hid (∀wx,wx.heap[a0]?=some (Obj.cells #[.slice xp np cxp,vl,.int .i64 nx,.slice (some ⟨bu,off,none⟩) nu uc,vg,vf] 34)->Below w.heap.size w wx->(fun wx=>wx.cell? ⟨a0,3,none⟩=some (.slice (some ⟨bu,off,none⟩) nu uc)/\wx.cell? ⟨bu,off,none⟩=some (.int .i64 x)) wx):=hide (fun wx hb hl=>s3 hb (HRow.out wx hl))
   have hHeld:=HSw.out wd HGd.out.box HGd.out.low
   refine wp_region_held_drew (S:=fun wx=>wx.cell? ⟨a0,3,none⟩=some (.slice (some ⟨bu,off,none⟩) nu uc)/\wx.cell? ⟨bu,off,none⟩=some (.int .i64 x)) (by kernel_rfl) (by rw [<-hwd];exact hHeld) (fun _=> ?_)
   rw [<-hwd];clear hwd
   refine tK 0 17 ?_ rfl rfl (by kernel_rfl) (fun _ _ _ h=>h) ⟨by rfl,?_⟩ hHeld ?_
   rotate_left
   ·(intro wx hSw;(try dsimp only at hSw);go_simp;try with_reducible rfl)
   simp only [yA,yB,yC]
   refine tK 2 19 ?_ rfl rfl (by kernel_rfl) (fun _ _ _ h=>h) ⟨by rfl,?_⟩ hHeld ?_
   rotate_left
   ·(intro wx hSw;(try dsimp only at hSw);go_simp;try with_reducible rfl)
   simp only [yA,yB,yC]
   refine tK 3 20 ?_ rfl rfl (by kernel_rfl) (fun _ _ _ h=>h) ⟨by rfl,?_⟩ hHeld ?_
   rotate_left
   ·(intro wx hSw;(try dsimp only at hSw);go_simp;try with_reducible rfl)
   simp only [yA,yB,yC]
   refine tK 4 21 ?_ rfl rfl (by kernel_rfl) (fun _ _ _ h=>h) ⟨by rfl,?_⟩ hHeld ?_
   rotate_left
   ·(intro wx hSw;(try dsimp only at hSw);go_simp;try with_reducible rfl)
   simp only [yA,yB,yC]
   refine tK 5 22 ?_ rfl rfl (by kernel_rfl) (fun _ _ _ h=>h) ⟨by rfl,?_⟩ hHeld ?_
   rotate_left
   ·(intro wx hSw;(try dsimp only at hSw);go_simp;try with_reducible rfl)
   simp only [yA,yB,yC]
   refine wpAnyH_ready (rs:= [1,6]) (by kernel_rfl) (by simp) ?_
   have HSa:Hid (∀o,(fun wx=>wx.cell? ⟨a0,3,none⟩=some (.slice (some ⟨bu,off,none⟩) nu uc)/\wx.cell? ⟨bu,off,none⟩=some (.int .i64 x)) (wd.alloc o)):=hide (fun o=>HSw.out _ (zaD HGd.out.box ((Below.refl _ _).alloc (Nat.le_refl _) o)) (HGd.out.low.alloc HGd.out.low.size o))
   have m0:wd.cell? ⟨g,5,none⟩=some (.slice a5 nf c5):=(za0 HGd.out.var 5).1
   have m0a:∀o,(wd.alloc o).cell? ⟨g,5,none⟩=some (.slice a5 nf c5):=fun o=>(za0 (zaD HGd.out.var ((Below.refl _ _).alloc (Nat.le_refl _) o)) 5).1
   refine ready2 rfl rfl ?_
   apply branch2
   ·intro hG K hK
    go_simp
    refine hK.out _ _ hHeld (fun _=> ?_)
    clear hK K
    refine wpAnyH_ready (rs:= [6]) (by kernel_rfl) (by simp) ?_
    refine AllReadyH.cons rfl (fun K hK=> ?_) AllReadyH.nil
    go_simp
    refine hK.out _ _ (HSa.out _) (fun _=> ?_)
    clear hK K;exact hG
   ·intro hG K hK
    go_simp
    refine hK.out _ _ (HSa.out _) (fun _=> ?_)
    clear hK K
    refine wpAnyH_ready (rs:= [1]) (by kernel_rfl) (by simp) ?_
    refine AllReadyH.cons rfl (fun K hK=> ?_) AllReadyH.nil
    go_simp
    refine hK.out _ _ (HSa.out _) (fun _=> ?_)
    clear hK K;exact hG
   clear m0 m0a
   refine wpAnyH_ready (rs:= [7]) (by kernel_rfl) (by simp) ?_
   refine AllReadyH.cons rfl (fun K hK=> ?_) AllReadyH.nil
   refine step_append_lies _ ?_ (.tmp 18) (.tmp 23) 32 ?_ w0.heap.size 3 i0 (.int .i64 0) 1 8 Tryz.underlying32 hi hz0 hz1 hz2 ?_ ?_ (.slice a5 nf c5) nf (ints k.fs) ?_ ((nfrow HLn.out.2.2.2.2 (zbV HGd.out.nw).2.2.2.2.1).alloc _) ⟨wd.heap.size,0,none⟩ 1 1 [.int .i64 x] ?_ ?_ (zdE wd _ rfl _ _) ?_ ?_ ?_ ?_ ?_ _ rfl ?_
   ·exact rfl
   ·exact rfl
   ·exact rfl
   ·decide
   ·exact rfl
   ·exact rfl
   ·exact rfl
   ·intro u hu;simp at hu;subst hu;rfl
   ·decide
   ·unfold maxLen;omega
   ·omega
   ·have:=HGd.out.hBW;simp;omega
   intro b5 d5 w5 hown5 hg5 hb5 hl5
   have hgv5:=gv_fs (p:=x) (b:=b5) (d:=d5) HGd.out hg5 (by have h:=hown5;rw [HLn.out.2.2.2.2] at h;exact h) (by rcases hb5 with hb5 | hb5;exact Or.inl hb5;right;(try simp at hb5);omega)
   simp only [<-HLn.out.2.2.2.2] at hgv5
   have HV5:=hide hgv5;have hS5:=HSw.out w5 (zit HGd.out hg5) (ziu HGd.out hg5)
   refine hK.out (Act.put _ (some 24) _) _ hS5 (fun _=> ?_)
   clear hK K hown5 hg5 hb5 hl5 hgv5
   simp only [Act.put,yA,yB,yC]
   refine tK 8 25 ?_ rfl rfl (by kernel_rfl) (fun _ _ _ h=>h) ⟨by rfl,?_⟩ hS5 ?_
   rotate_left
   ·(intro wx hSw;(try dsimp only at hSw);go_simp;try with_reducible rfl)
   simp only [yA,yB,yC]
   obtain ⟨t0,t1,t2,t3,t4,t5⟩:=blk6c HV5.out.1;have z5:=(za0 HV5.out.1 5).2
   refine wpAnyH_ready (rs:= [9]) (by kernel_rfl) (by simp) ?_
   refine AllReadyH.cons rfl (fun K hK=> ?_) AllReadyH.nil
   go_simp
   refine hK.out _ _ (HSw.out _ HV5.out.2.box HV5.out.2.low) (fun _=> ?_)
   clear hK K t0 t1 t2 t3 t4 t5 z5 hS5 hHeld
   refine wpAnyH_done (by kernel_rfl) ?_ _
   obtain ⟨w6,hw6⟩:∃w6,w6=w5.setCell ⟨g,5,none⟩ (.slice (some ⟨b5,0,none⟩) (nf+1) d5):=⟨_,rfl⟩;have HV6:=hide HV5.out.2;rw [<-hw6] at HV6⊢;clear hw6 HV5 HSa;go_wp2_with fail;obtain ⟨we,hwe⟩:∃we,we=w6.drew:=⟨_,rfl⟩
   have HGe6:=hide (zey HV6.out (show Below w6.heap.size w6 we by rw [hwe];exact (Below.refl _ _).drew))
   have HT0:=hide (⟨s8 HGe6.out.var HGe6.out.box,HRow.out we HGe6.out.low⟩:_/\_)
   have HT1:=hide (fun u0 u1 u2 u3 u4 u5=>(⟨s8 (W:=set6 we (a0+1) u0 u1 u2 u3 u4 u5) (keep6 HGe6.out.var (by have:=HGe6.out.hg;omega)) (keep6 HGe6.out.box (by omega)),HRow.out _ (HGe6.out.low.trans (zac (zaQ we (a0+1) u0 u1 u2 u3 u4 u5) HGe6.out.low.size (fun j e=>by have:=HGe6.out.ha;omega)))⟩:_/\_))
   rw [<-HNx.out] at HT0 HT1
   have HRt6:=hide (zaM (w:=w) HGe6.out.res (zaJ HGe6.out.nw) (by have:=HGe6.out.hB;omega) (by have:=HGe6.out.ha;omega) HGe6.out.low)
   refine wp_region_held_drew (S:=fun wx=>(wx.cell? ⟨g,0,none⟩=some (.slice a1 np c1)/\wx.cell? ⟨g,1,none⟩=some (.slice a2 nl c2)/\wx.cell? ⟨g,2,none⟩=some (.int .i64 nx)/\wx.cell? ⟨g,3,none⟩=some (.slice (some ⟨b3,0,none⟩) (nu - 1) q3)/\wx.cell? ⟨g,4,none⟩=some (.slice a4 ng c4)/\wx.cell? ⟨g,5,none⟩=some (.slice (some ⟨b5,0,none⟩) (nf+1) d5)/\wx.cell? ⟨a0,2,none⟩=some (.int .i64 nx)/\wx.cell? ⟨a0,3,none⟩=some (.slice (some ⟨bu,off,none⟩) nu uc))/\wx.cell? ⟨bu,off,none⟩=some (.int .i64 x)) (by kernel_rfl) (by rw [<-hwe];exact HT0.out) (fun _=> ?_)
   rw [<-hwe];clear hwe
   refine tK 0 26 ?_ rfl rfl (by kernel_rfl) (fun _ _ _ h=>h) ⟨by rfl,?_⟩ HT0.out ?_
   rotate_left
   ·(intro wx hSw;(try dsimp only at hSw);go_simp;try with_reducible rfl)
   simp only [yA,yB,yC]
   refine tK 1 27 ?_ rfl rfl (by kernel_rfl) (fun _ _ _ h=>h) ⟨by rfl,?_⟩ HT0.out ?_
   rotate_left
   ·(intro wx hSw;(try dsimp only at hSw);go_simp;try with_reducible rfl)
   simp only [yA,yB,yC]
   refine tK 2 28 ?_ rfl rfl (by kernel_rfl) (fun _ _ _ h=>h) ⟨by rfl,?_⟩ HT0.out ?_
   rotate_left
   ·(intro wx hSw;(try dsimp only at hSw);go_simp;try with_reducible rfl)
   simp only [yA,yB,yC]
   refine tK 3 29 ?_ rfl rfl (by kernel_rfl) (fun _ _ _ h=>h) ⟨by rfl,?_⟩ HT0.out ?_
   rotate_left
   ·(intro wx hSw;(try dsimp only at hSw);go_simp;try with_reducible rfl)
   simp only [yA,yB,yC]
   refine tK 4 30 ?_ rfl rfl (by kernel_rfl) (fun _ _ _ h=>h) ⟨by rfl,?_⟩ HT0.out ?_
   rotate_left
   ·(intro wx hSw;(try dsimp only at hSw);go_simp;try with_reducible rfl)
   simp only [yA,yB,yC]
   obtain ⟨r0,r1,r2,r3,r4,r5⟩:=blk6c HGe6.out.res;have zr0:=(za0 HGe6.out.res 0).2;have zr1:=(za0 HGe6.out.res 1).2;have zr2:=(za0 HGe6.out.res 2).2;have zr3:=(za0 HGe6.out.res 3).2;have zr4:=(za0 HGe6.out.res 4).2;have zr5:=(za0 HGe6.out.res 5).2
   refine wpAnyH_ready (rs:= [5]) (by kernel_rfl) (by simp) ?_
   refine AllReadyH.cons rfl (fun K hK=> ?_) AllReadyH.nil
   go_simp
   refine hK.out _ _ (HT1.out _ _ _ _ _ _) (fun _=> ?_)
   clear hK K
   refine tK 6 3 ?_ rfl rfl (by kernel_rfl) (fun _ _ _ h=>h) ⟨by rfl,?_⟩ (HT1.out _ _ _ _ _ _) ?_
   rotate_left
   ·(intro wx hSw;(try dsimp only at hSw);go_simp;try with_reducible rfl)
   simp only [yA,yB,yC]
   refine wpAnyH_done (by kernel_rfl) ?_ _
   go_wp2_with fail;obtain ⟨f0,f1,f2,f3,f4,f5⟩:=blk6c HRt6.out.1;rw [<-HNx.out] at f0 f1 f2 f3 f4 f5
   refine bodyPost_ret (v:= .tuple #[.agg #[.slice a1 np c1,.slice a2 nl c2,.int .i64 nx,.slice (some ⟨b3,0,none⟩) (nu - 1) q3,.slice a4 ng c4,.slice (some ⟨b5,0,none⟩) (nf+1) d5],.int .i64 x]) (by simp [results,Tryz.results46,go_sem,f0,f1,f2,f3,f4,f5]) rfl ⟨_,by rw [HGn.out.2],by rw [HGn.out.1,HNx.out];exact HRt6.out.2.1,by rw [HNx.out];exact HRt6.out.2.2⟩
end Go.Proofs.YtcbogiebfbbmbaaGreatDoor
