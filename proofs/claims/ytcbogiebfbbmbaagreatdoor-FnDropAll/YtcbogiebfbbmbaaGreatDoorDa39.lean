/-
  Facts and contracts that the law's own text rests on, by their texts' names: WalkKids.
-/
import Derived.Test.YtcbogiebfbbmbaaGreatDoorDa21
import Derived.Test.YtcbogiebfbbmbaaGreatDoorDa30
set_option maxHeartbeats 16000000
set_option maxRecDepth 100000
namespace Go.Proofs.YtcbogiebfbbmbaaGreatDoor
open Go.RowKit
theorem zmj {w:World} {B g lc c i:Nat} {b nk nv:Value} {lf:Bool} {ks vs:List ByteArray} {cs:List Int} (h:NodeOwn w B (.agg #[b,nk,nv,.slice (some ⟨g,0,none⟩) lc c]) lf ks vs cs) (hl:lc=cs.length) (hi:i<lc):w.cell? ⟨g,i,none⟩=some (.int .i64 (cs.getD i 0)):=by
 obtain ⟨-,-,o1⟩:=zcK h;rw [<-hl] at o1
 obtain ⟨g',e,hc⟩:=zd1 (i:=i) o1 (by omega) hl
 injection e with e
 injection e with e
 rw [e];exact hc
theorem gtB_eq (x y:ByteArray):(!(Op.bytesLess x.toList y.toList || x.toList ==y.toList))=Op.bytesLess y.toList x.toList:=by
 cases h1:Op.bytesLess x.toList y.toList with
 | true=>exact by have:=zk7 h1;rw [Bool.or_eq_false_iff] at this;rw [this.1];rfl
 | false=>
  cases h2:(x.toList ==y.toList) with
  | true=>rw [eq_of_beq h2,zbm];rfl
  | false=>rw [zcb _ _ h1 h2];rfl
theorem zmk (hIn:InC) (ps:List ByteArray) (ls:List (Int×ByteArray)) (hp:ps.length<=1048576) (hl:ls.length<=1048576) (hps:∀s∈ps,s.size<=1048576) (hls:∀p∈ls,p.2.size<=1048576) (v1 v2:Value) (p:Int) (deep:Nat) (low high:ByteArray) (has:Bool) (a:Al) (ga:Nat) (vp vg vd:Value) (W:World)
  (hd:DiskAt W (.agg #[v1,v2]) ps ls) (hdk:∀k,diskBlocks (.agg #[v1,v2]) k->k<ga) (hA:AlIs W ga a vp vg vd) (hlen:a.pages.length<=100000/\a.pairs.length<=400000/\a.depths.length<=100000) (hs:(rdN (readD ps ls p)).2=true) (hde:deep<8) (hm:¬p∈a.pages) (hbad:a.bad=false) (hlf:(rdN (readD ps ls p)).1.lf=false) (f:Int->Nat->ByteArray->ByteArray->Bool->Al->Al) (c:Nat)
  (hrec:∀(q:Int) (lo hi:ByteArray) (h:Bool) (b:Al) (xp xg xd:Value) (X:World),DiskAt X (.agg #[v1,v2]) ps ls->AlIs X ga b xp xg xd->(b.pages.length+c<=100000/\b.pairs.length+4 * c<=400000/\b.depths.length+c<=100000)->Calls Tryz.prog 43 #[.agg #[v1,v2],.int .i64 q,.int .i64 ((deep:Int)+1),.string lo,.string hi,.bool h,.pointer (some ⟨ga,0,none⟩)] X fun e X'=>(∃r,e= .returned r)/\WkPost X ga (f q (deep+1) lo hi h b) xp xg xd X')
  (hbd:∀i,i<(rdN (readD ps ls p)).1.ks.length->(loopS f (rdN (readD ps ls p)).1 deep low high has {a with pages:=a.pages++ [p]} i).pages.length+c<=100000/\(loopS f (rdN (readD ps ls p)).1 deep low high has {a with pages:=a.pages++ [p]} i).pairs.length+4 * c<=400000/\(loopS f (rdN (readD ps ls p)).1 deep low high has {a with pages:=a.pages++ [p]} i).depths.length+c<=100000):
  Calls Tryz.prog 43 #[.agg #[v1,v2],.int .i64 p,.int .i64 (deep:Int),.string low,.string high,.bool has,.pointer (some ⟨ga,0,none⟩)] W fun e W'=>(∃r,e= .returned r)/\WkPost W ga (loopS f (rdN (readD ps ls p)).1 deep low high has {a with pages:=a.pages++ [p]} (rdN (readD ps ls p)).1.ks.length) vp vg vd W':=by
 obtain ⟨i0,hi,hz0,hz1,hz2⟩:=info_parts Tryz.infoIntW
 have HRP:=hide (fun wx h=>zbU (.agg #[v1,v2]) ps ls hp hl p wx h)
 have HRN:=hide (fun wx=>zc0 (readD ps ls p) (zbr hps hls p) wx)
 have HD:=hide hd;have HA:=hide hA
 have HI:=hide (fun v w h=>hIn a.pages (by omega) p v w h)
 have dm:decide (p∈a.pages)=false:=decide_eq_false hm;rw [dm] at HI;obtain ⟨t,ht⟩:∃t,t=readD ps ls p:=⟨_,rfl⟩;rw [<-ht] at HRP HRN hs hlf hbd⊢;obtain ⟨NR,hNR⟩:∃n,n=(rdN t).1:=⟨_,rfl⟩;rw [<-hNR] at hlf hbd⊢;have HNR:=hide hNR;have HRec:=hide hrec;have HBd:=hide hbd;clear hrec hbd;clear hNR;obtain ⟨w0,hw0⟩:∃w0,w0=W.alloc (.cells #[v1,v2] 29 (0,0)):=⟨_,rfl⟩;obtain ⟨gb,hgb⟩:∃g,g=W.heap.size:=⟨_,rfl⟩
 have hb0:Below W.heap.size W w0:=by rw [hw0];exact (Below.refl _ _).alloc (Nat.le_refl _) _
 have HB0:=hide hb0
 have HV0:Hid (w0.heap[gb]?=some (.cells #[v1,v2] 29 (0,0))):=hide (by rw [hw0,hgb];exact heap_alloc_new W _)
 have HGb:=hide hgb;have HS:=hide (⟨hs,hlf⟩:_/\_);have HDk:=hide hdk;have HLn:=hide hlen;have hl1:=hlen.1;clear hp hl hps hls hd hA hlen hs ht hb0 hdk hm dm hlf;go_enter Tryz.func43,Tryz.ntmps43;go_wp2_with fail;rw [<-hw0,<-hgb];clear hw0 hgb;refine (HRP.out _ (zak HD.out HB0.out)).mono ?_;rintro e w1 ⟨rfl,hb1⟩;have HB1:Hid (Below W.heap.size W w1):=hide (HB0.out.trans (hb1.mono HB0.out.size));have HV1:=hide (stays HV0.out hb1);clear hb1;go_wp2_with fail;refine (HRN.out _).mono ?_;rintro e w2 ⟨n,v,ok,rfl,hrn,hno,hb2⟩;have hr:=zgi hrn;obtain ⟨hok,hlf⟩:=HS.out;have hNR:=HNR.out;rw [hr] at hok hNR;dsimp only at hok hNR;subst hok;have hNR2:=hNR.symm;subst hNR2;have hnok:=zew hr;obtain ⟨a1,c1,a2,c2,a3,c3,rfl⟩:=zb8 hno;have HB2:Hid (Below W.heap.size W w2):=hide (HB1.out.trans (hb2.mono HB1.out.size));have HV2:=hide (stays HV1.out hb2);have HN:=hide (⟨hnok,hlf,hno⟩:_/\_/\_);have HSz:Hid (W.heap.size<=w1.heap.size/\w1.heap.size<=w2.heap.size):=hide ⟨HB1.out.size,hb2.size⟩;obtain ⟨lk,hlk⟩:∃lk,lk=n.ks.length:=⟨_,rfl⟩;obtain ⟨lv,hlv⟩:∃lv,lv=n.vs.length:=⟨_,rfl⟩;obtain ⟨lc,hlc⟩:∃lc,lc=n.cs.length:=⟨_,rfl⟩;rw [<-hlk,<-hlv,<-hlc];have HLk:=hide (⟨hlk,hlv,hlc⟩:_/\_/\_);obtain ⟨w3,hw3⟩:∃w3,w3=w2.alloc (.cells #[.bool n.lf,.slice a1 lk c1,.slice a2 lv c2,.slice a3 lc c3] 71 (0,0)):=⟨_,rfl⟩;obtain ⟨gn,hgn⟩:∃g,g=w2.heap.size:=⟨_,rfl⟩
 have hb3:Below w2.heap.size w2 w3:=by rw [hw3];exact (Below.refl _ _).alloc (Nat.le_refl _) _
 have HB3:Hid (Below W.heap.size W w3):=hide (HB2.out.trans (hb3.mono HB2.out.size));have HA2:=hide (zc4 HA.out HB2.out)
 have HL3:Hid (LoopI W w3 ga gb gn w1.heap.size v1 v2 ps ls n (.slice a1 lk c1) (.slice a2 lv c2) (.slice a3 lc c3) vp vg vd a vp vg vd):=hide {
  al:=zc4 HA.out HB3.out
  kept:=zbd HB3.out
  sub:=fun _ h=>Or.inl h
  box:=stays HV2.out hb3
  node:=by rw [hw3,hgn];exact heap_alloc_new w2 _
  own:=by rw [hlk,hlv,hlc];exact zaV hno hb3
  disk:=zak HD.out HB3.out
  away:=fun k hx hy=>by
   have h1:=(al_lt HA.out k hy).2;have h2:=HSz.out
   rcases hx with hx | hx | hx
   ·have:=HGb.out;omega
   ·omega
   ·rw [hlk,hlv,hlc] at hx
    have:=(zeS hno k hx).1
    omega}
 have q1:=(za0 HA2.out.1 1).1;have hlt:ga<w2.heap.size:=(Array.getElem?_eq_some_iff.1 HA2.out.1).1
 have hne:ga≠w2.heap.size:=by omega
 have d8:decide ((8:Int)<=(deep:Int))=false:=decide_eq_false (by omega)
 have d9:¬((8:Int)<=(deep:Int)):=by omega
 clear hb2 hb3 hno hrn hr hlk hlv hlc hnok hlf hNR;go_wp2_with fail;rw [<-hw3,<-hgn];clear hw3 hgn q1 hlt hne;refine (HI.out vg _ (zaa HL3.out.al.2.2.1)).mono ?_;rintro e w4 ⟨rfl,rfl⟩;have r1:=(za0 HL3.out.al.1 1).1;have r3:=(za0 HL3.out.al.1 3).1;rw [hbad] at r3;obtain ⟨xg,yg,hvg⟩:=za4 HL3.out.al.2.2.1;subst hvg
 go_wp2_with (at_builtin;(refine wpList_append_lies _ rfl _ _ 32 rfl (ga+1) 3 i0 (.int .i64 0) 1 8 Tryz.underlying32 hi hz0 hz1 hz2 rfl (by decide) _ a.pages.length (ints a.pages) rfl (HL3.out.al.2.2.1.alloc _) ⟨w3.heap.size,0,none⟩ 1 1 [.int .i64 p] rfl rfl (zhS w3 _ rfl _ _) ?c1 (by decide) ?c3 ?c4 ?c5 _ rfl ?_))
 case c1=>intro u hu;simp at hu;subst hu;rfl
 case c3=>unfold maxLen;omega
 case c4=>omega
 case c5=>have:=(al_lt HL3.out.al ga (Or.inl rfl)).2;simp;omega
 intro b4 d4 w4 hown4 hg4 hb4 hl4;obtain ⟨st1,st2,st3,st4,st5⟩:=zlt HL3.out.al hown4 hg4 hb4;have HL4:=hide (HL3.out.step HDk.out st1 st2 st3);clear hown4 hg4 hb4 hl4 st1 st2 st3 r1 r3;obtain ⟨w5,hw5⟩:∃w5,w5=w4.setCell ⟨ga,1,none⟩ (.slice (some ⟨b4,0,none⟩) (a.pages.length+1) d4):=⟨_,rfl⟩;rw [<-hw5] at HL4
 obtain ⟨b0,hb0⟩:∃b:Al,b={a with pages:=a.pages++ [p]}:=⟨_,rfl⟩
 rw [<-hb0] at HL4 HBd;obtain ⟨hnok,hlf,-⟩:=HN.out;obtain ⟨hc1,hc2,-,hc4⟩:=zaX (zam hnok).1;obtain ⟨hlk,hlv,hlc⟩:=HLk.out
 have HLck:Hid (lc=lk):=hide (by have:=(hc4 hlf).1;omega)
 obtain ⟨o1,-,o3⟩:=zcK HL4.out.own
 obtain ⟨gk',rfl⟩:∃g,a1=some ⟨g,0,none⟩:=by
  obtain ⟨g,e,-⟩:=zd0 (i:=0) (by rw [<-hlk] at o1;exact o1) (by omega) hlk
  exact ⟨g,e⟩
 obtain ⟨gc,rfl⟩:∃g,a3=some ⟨g,0,none⟩:=by
  obtain ⟨g,e,-⟩:=zd1 (i:=0) (by rw [<-hlc] at o3;exact o3) (by have:=HLck.out;omega) hlc
  exact ⟨g,e⟩
 have hlk4:lk<=4:=by omega
 have HLf:=hide hlf;have HB5:=hide hb0;clear o1 o3 hc1 hc2 hc4 hlk hlv hlc hnok hlf hb0;go_wp2_with fail;rw [<-hw5];clear hw5 st4 st5
 go_loopg [16] lk (fun q iv wr=>∃(i:Nat) (a':Al) (vp' vg' vd':Value),q+i=lk/\iv= .int .i64 (i:Int)/\Hid (a'=loopS f n deep low high has b0 i)/\Hid (LoopI W wr ga gb gn w1.heap.size v1 v2 ps ls n (.slice (some ⟨gk',0,none⟩) lk c1) (.slice a2 lv c2) (.slice (some ⟨gc,0,none⟩) lc c3) vp (.slice xg a.pages.length yg) vd a' vp' vg' vd'))
 case atStart=>exact ⟨0,b0,_,_,_,by omega,rfl,hide rfl,HL4⟩
 case round=>
  obtain ⟨i,a',vp',vg',vd',hq,rfl,HAi,HQ0⟩:=hrel;have HQi:=hide hq;have n1:=(za0 HQ0.out.node 1).1;have n0:=(za0 HQ0.out.node 0).1;rw [HLf.out] at n0
  by_cases hil:i<lk
  ·obtain ⟨x,hx⟩:∃x,x=n.ks.getD i ⟨#[]⟩:=⟨_,rfl⟩
   obtain ⟨q,hqk⟩:∃q,q=n.cs.getD i 0:=⟨_,rfl⟩
   have hcx:wr.cell? ⟨gk',i,none⟩=some (.string x):=by rw [hx];exact zdt HQ0.out.own HLk.out.1 hil
   have n3:=(za0 HQ0.out.node 3).1;have HX:=hide hx;have HKd:=hide hqk
   have hi0:(0:Int)<=(i:Int):=by omega
   have hi1:(i:Int)<(lk:Int):=by omega
   have hi2:(i:Int)<(lc:Int):=by have:=HLck.out;omega
   have HQd:=hide (HQ0.out.below HDk.out (Below.refl _ _).drew)
   have HSw:Hid (∀wx,(∃bb bp bg bd,LoopI W wx ga gb gn w1.heap.size v1 v2 ps ls n (.slice (some ⟨gk',0,none⟩) lk c1) (.slice a2 lv c2) (.slice (some ⟨gc,0,none⟩) lc c3) vp (.slice xg a.pages.length yg) vd bb bp bg bd)->wx.cell? ⟨gb,0,none⟩=some v1/\wx.cell? ⟨gb,1,none⟩=some v2/\wx.cell? ⟨gn,3,none⟩=some (.slice (some ⟨gc,0,none⟩) lc c3)/\wx.cell? ⟨gc,i,none⟩=some (.int .i64 q)):=hide (fun wx ⟨_,_,_,_,h⟩=>⟨(za0 h.box 0).1,(za0 h.box 1).1,(za0 h.node 3).1,by rw [hqk];exact zmj h.own HLk.out.2.2 (by have:=HLck.out;omega)⟩)
   have HCa:Hid (∀lo hi h,Calls Tryz.prog 43 #[.agg #[v1,v2],.int .i64 q,.int .i64 ((deep:Int)+1),.string lo,.string hi,.bool h,.pointer (some ⟨ga,0,none⟩)] wr.drew fun e X'=>(∃r,e= .returned r)/\WkPost wr.drew ga (f q (deep+1) lo hi h a') vp' vg' vd' X'):=hide (fun lo hi h=>HRec.out q lo hi h a' vp' vg' vd' wr.drew HQd.out.disk HQd.out.al (by rw [HAi.out];exact HBd.out i (by have:=HLk.out.1;omega)))
   have hS0:=HSw.out _ ⟨_,_,_,_,HQd.out⟩
   have hwd:IntKind.i64.wrap ((deep:Int)+1)=(deep:Int)+1:=IntWalk.i64_in _ ⟨by omega,by omega⟩
   have hwi:IntKind.i64.wrap ((i:Int)+1)=(i:Int)+1:=IntWalk.i64_in _ ⟨by omega,by omega⟩
   have HFin:Hid (∀lo hi h,leastB n i low=lo->nextB n i high has=hi->moreB n i high has=h->f q (deep+1) lo hi h a'=loopS f n deep low high has b0 (i+1)):=hide (fun lo hi h e1 e2 e3=>by rw [loopS,<-HAi.out,stepS,if_neg (by rw [HLf.out];decide),e1,e2,e3,hqk])
   clear hx hqk hq;obtain ⟨g1,hg1⟩:∃l,Op.bytesLess x.toList low.toList=l:=⟨_,rfl⟩;obtain ⟨g2,hg2⟩:∃l,(x.toList ==low.toList)=l:=⟨_,rfl⟩
   have HLo:Hid (leastB n i low=if (!(g1 || g2))=true then x else low):=hide (by rw [leastB,<-HX.out,lessB,<-gtB_eq,hg1,hg2])
   cases g1 with
   | true=>
    by_cases hin:i+1<lk
    ·have hi3:(i:Int)+1<(lk:Int):=by omega
     have hi4:(0:Int)<=(i:Int)+1:=by omega
     obtain ⟨nx,hnx⟩:∃y,y=n.ks.getD (i+1) ⟨#[]⟩:=⟨_,rfl⟩
     have hcn:wr.cell? ⟨gk',i+1,none⟩=some (.string nx):=by rw [hnx];exact zdt HQ0.out.own HLk.out.1 hin
     have HNx:=hide hnx;clear hnx
     have HLn1:Hid (i+1<n.ks.length):=hide (by have:=HLk.out.1;omega)
     cases has with
     | false=>
      go_wp2_with fail
      refine wp_region_held_drew (S:=fun wx=>wx.cell? ⟨gb,0,none⟩=some v1/\wx.cell? ⟨gb,1,none⟩=some v2/\wx.cell? ⟨gn,3,none⟩=some (.slice (some ⟨gc,0,none⟩) lc c3)/\wx.cell? ⟨gc,i,none⟩=some (.int .i64 q)) (by kernel_rfl) hS0 (fun hHeld=> ?_)
      refine tK 0 138 ?_ rfl rfl (by kernel_rfl) (fun _ _ _ h=>h) ⟨by rfl,?_⟩ hHeld ?_
      rotate_left
      ·(intro wx hSw;(try dsimp only at hSw);go_simp;try with_reducible rfl)
      simp only [yA,yB,yC]
      refine tK 1 139 ?_ rfl rfl (by kernel_rfl) (fun _ _ _ h=>h) ⟨by rfl,?_⟩ hHeld ?_
      rotate_left
      ·(intro wx hSw;(try dsimp only at hSw);go_simp;try with_reducible rfl)
      simp only [yA,yB,yC]
      refine tK 2 140 ?_ rfl rfl (by kernel_rfl) (fun _ _ _ h=>h) ⟨by rfl,?_⟩ hHeld ?_
      rotate_left
      ·(intro wx hSw;(try dsimp only at hSw);go_simp;try with_reducible rfl)
      simp only [yA,yB,yC]
      refine tK 3 141 ?_ rfl rfl (by kernel_rfl) (fun _ _ _ h=>h) ⟨by rfl,?_⟩ hHeld ?_
      rotate_left
      ·(intro wx hSw;(try dsimp only at hSw);go_simp;try with_reducible rfl)
      simp only [yA,yB,yC]
      refine tK 4 142 ?_ rfl rfl (by kernel_rfl) (fun _ _ _ h=>h) ⟨by rfl,?_⟩ hHeld ?_
      rotate_left
      ·(intro wx hSw;(try dsimp only at hSw);go_simp;try with_reducible rfl)
      simp only [yA,yB,yC]
      refine tK 5 143 ?_ rfl rfl (by kernel_rfl) (fun _ _ _ h=>h) ⟨by rfl,?_⟩ hHeld ?_
      rotate_left
      ·(intro wx hSw;(try dsimp only at hSw);go_simp;try with_reducible rfl)
      simp only [yA,yB,yC]
      refine tK 6 144 ?_ rfl rfl (by kernel_rfl) (fun _ _ _ h=>h) ⟨by rfl,?_⟩ hHeld ?_
      rotate_left
      ·(intro wx hSw;(try dsimp only at hSw);go_simp;try with_reducible rfl)
      simp only [yA,yB,yC]
      refine tK 7 145 ?_ rfl rfl (by kernel_rfl) (fun _ _ _ h=>h) ⟨by rfl,?_⟩ hHeld ?_
      rotate_left
      ·(intro wx hSw;(try dsimp only at hSw);go_simp;try with_reducible rfl)
      simp only [yA,yB,yC]
      refine tK 8 146 ?_ rfl rfl (by kernel_rfl) (fun _ _ _ h=>h) ⟨by rfl,?_⟩ hHeld ?_
      rotate_left
      ·(intro wx hSw;(try dsimp only at hSw);go_simp;try with_reducible rfl)
      simp only [yA,yB,yC]
      refine tK 9 147 ?_ rfl rfl (by kernel_rfl) (fun _ _ _ h=>h) ⟨by rfl,?_⟩ hHeld ?_
      rotate_left
      ·(intro wx hSw;(try dsimp only at hSw);go_simp;try with_reducible rfl)
      simp only [yA,yB,yC]
      refine tK 10 148 ?_ rfl rfl (by kernel_rfl) (fun _ _ _ h=>h) ⟨by rfl,?_⟩ hHeld ?_
      rotate_left
      ·(intro wx hSw;(try dsimp only at hSw);go_simp;try with_reducible rfl)
      simp only [yA,yB,yC]
      refine tK 11 149 ?_ rfl rfl (by kernel_rfl) (fun _ _ _ h=>h) ⟨by rfl,?_⟩ hHeld ?_
      rotate_left
      ·(intro wx hSw;(try dsimp only at hSw);go_simp;try with_reducible rfl)
      simp only [yA,yB,yC]
      refine wpAnyH_ready (rs:= [12]) (by kernel_rfl) (by simp) ?_
      refine AllReadyH.cons rfl (fun K hK=> ?_) AllReadyH.nil
      refine zaL _ rfl 43 Tryz.f43 Tryz.func43 (by decide) (Option.some_ne_none _) (.tmp 138) (.tmp 143) (.tmp 145) (.tmp 146) (.tmp 147) (.tmp 148) (.tmp 149) #[29,3,3,9,9,4,64] rfl (.agg #[v1,v2]) (.int .i64 q) (.int .i64 ((deep:Int)+1)) (.string low) (.string nx) (.bool true) (.pointer (some ⟨ga,0,none⟩)) rfl rfl rfl rfl rfl rfl rfl _ (HCa.out low nx true) ?_
      rintro e wB ⟨⟨rr,rfl⟩,bp,bg,bd,hal,hkp,hsb⟩;refine ⟨_,rfl,?_⟩;have HLn:=hide (HQd.out.step HDk.out hal hkp hsb)
      rw [HFin.out low nx true (by rw [HLo.out];rfl) (by rw [nextB,nearB,decide_eq_true HLn1.out];exact HNx.out.symm) (by rw [moreB,nearB,decide_eq_true HLn1.out];rfl)] at HLn
      have hSB:=HSw.out _ ⟨_,_,_,_,HLn.out⟩
      refine hK.out (Act.put _ (some 150) _) _ hSB (fun hHeld=> ?_)
      clear hK K hal hkp hsb
      simp only [Act.put,yA,yB,yC]
      refine wpAnyH_done (by kernel_rfl) ?_ _
      go_wp2_with fail
      go_roundg (gk - 1)
      case measure=>have:=HQi.out;omega
      case rel=>exact ⟨i+1,_,_,_,_,by have:=HQi.out;omega,by go_num,hide rfl,HLn⟩
     | true=>
      obtain ⟨g3,hg3⟩:∃l,Op.bytesLess nx.toList high.toList=l:=⟨_,rfl⟩;have HG3:=hide hg3
      cases g3 with
      | true=>
       go_wp2_with fail
       refine wp_region_held_drew (S:=fun wx=>wx.cell? ⟨gb,0,none⟩=some v1/\wx.cell? ⟨gb,1,none⟩=some v2/\wx.cell? ⟨gn,3,none⟩=some (.slice (some ⟨gc,0,none⟩) lc c3)/\wx.cell? ⟨gc,i,none⟩=some (.int .i64 q)) (by kernel_rfl) hS0 (fun hHeld=> ?_)
       refine tK 0 138 ?_ rfl rfl (by kernel_rfl) (fun _ _ _ h=>h) ⟨by rfl,?_⟩ hHeld ?_
       rotate_left
       ·(intro wx hSw;(try dsimp only at hSw);go_simp;try with_reducible rfl)
       simp only [yA,yB,yC]
       refine tK 1 139 ?_ rfl rfl (by kernel_rfl) (fun _ _ _ h=>h) ⟨by rfl,?_⟩ hHeld ?_
       rotate_left
       ·(intro wx hSw;(try dsimp only at hSw);go_simp;try with_reducible rfl)
       simp only [yA,yB,yC]
       refine tK 2 140 ?_ rfl rfl (by kernel_rfl) (fun _ _ _ h=>h) ⟨by rfl,?_⟩ hHeld ?_
       rotate_left
       ·(intro wx hSw;(try dsimp only at hSw);go_simp;try with_reducible rfl)
       simp only [yA,yB,yC]
       refine tK 3 141 ?_ rfl rfl (by kernel_rfl) (fun _ _ _ h=>h) ⟨by rfl,?_⟩ hHeld ?_
       rotate_left
       ·(intro wx hSw;(try dsimp only at hSw);go_simp;try with_reducible rfl)
       simp only [yA,yB,yC]
       refine tK 4 142 ?_ rfl rfl (by kernel_rfl) (fun _ _ _ h=>h) ⟨by rfl,?_⟩ hHeld ?_
       rotate_left
       ·(intro wx hSw;(try dsimp only at hSw);go_simp;try with_reducible rfl)
       simp only [yA,yB,yC]
       refine tK 5 143 ?_ rfl rfl (by kernel_rfl) (fun _ _ _ h=>h) ⟨by rfl,?_⟩ hHeld ?_
       rotate_left
       ·(intro wx hSw;(try dsimp only at hSw);go_simp;try with_reducible rfl)
       simp only [yA,yB,yC]
       refine tK 6 144 ?_ rfl rfl (by kernel_rfl) (fun _ _ _ h=>h) ⟨by rfl,?_⟩ hHeld ?_
       rotate_left
       ·(intro wx hSw;(try dsimp only at hSw);go_simp;try with_reducible rfl)
       simp only [yA,yB,yC]
       refine tK 7 145 ?_ rfl rfl (by kernel_rfl) (fun _ _ _ h=>h) ⟨by rfl,?_⟩ hHeld ?_
       rotate_left
       ·(intro wx hSw;(try dsimp only at hSw);go_simp;try with_reducible rfl)
       simp only [yA,yB,yC]
       refine tK 8 146 ?_ rfl rfl (by kernel_rfl) (fun _ _ _ h=>h) ⟨by rfl,?_⟩ hHeld ?_
       rotate_left
       ·(intro wx hSw;(try dsimp only at hSw);go_simp;try with_reducible rfl)
       simp only [yA,yB,yC]
       refine tK 9 147 ?_ rfl rfl (by kernel_rfl) (fun _ _ _ h=>h) ⟨by rfl,?_⟩ hHeld ?_
       rotate_left
       ·(intro wx hSw;(try dsimp only at hSw);go_simp;try with_reducible rfl)
       simp only [yA,yB,yC]
       refine tK 10 148 ?_ rfl rfl (by kernel_rfl) (fun _ _ _ h=>h) ⟨by rfl,?_⟩ hHeld ?_
       rotate_left
       ·(intro wx hSw;(try dsimp only at hSw);go_simp;try with_reducible rfl)
       simp only [yA,yB,yC]
       refine tK 11 149 ?_ rfl rfl (by kernel_rfl) (fun _ _ _ h=>h) ⟨by rfl,?_⟩ hHeld ?_
       rotate_left
       ·(intro wx hSw;(try dsimp only at hSw);go_simp;try with_reducible rfl)
       simp only [yA,yB,yC]
       refine wpAnyH_ready (rs:= [12]) (by kernel_rfl) (by simp) ?_
       refine AllReadyH.cons rfl (fun K hK=> ?_) AllReadyH.nil
       refine zaL _ rfl 43 Tryz.f43 Tryz.func43 (by decide) (Option.some_ne_none _) (.tmp 138) (.tmp 143) (.tmp 145) (.tmp 146) (.tmp 147) (.tmp 148) (.tmp 149) #[29,3,3,9,9,4,64] rfl (.agg #[v1,v2]) (.int .i64 q) (.int .i64 ((deep:Int)+1)) (.string low) (.string nx) (.bool true) (.pointer (some ⟨ga,0,none⟩)) rfl rfl rfl rfl rfl rfl rfl _ (HCa.out low nx true) ?_
       rintro e wB ⟨⟨rr,rfl⟩,bp,bg,bd,hal,hkp,hsb⟩;refine ⟨_,rfl,?_⟩;have HLn:=hide (HQd.out.step HDk.out hal hkp hsb)
       rw [HFin.out low nx true (by rw [HLo.out];rfl) (by rw [nextB,nearB,decide_eq_true HLn1.out,<-HNx.out,lessB,HG3.out];rfl) (by rw [moreB,nearB,decide_eq_true HLn1.out,<-HNx.out,lessB,HG3.out];rfl)] at HLn
       have hSB:=HSw.out _ ⟨_,_,_,_,HLn.out⟩
       refine hK.out (Act.put _ (some 150) _) _ hSB (fun hHeld=> ?_)
       clear hK K hal hkp hsb
       simp only [Act.put,yA,yB,yC]
       refine wpAnyH_done (by kernel_rfl) ?_ _
       go_wp2_with fail
       go_roundg (gk - 1)
       case measure=>have:=HQi.out;omega
       case rel=>exact ⟨i+1,_,_,_,_,by have:=HQi.out;omega,by go_num,hide rfl,HLn⟩
      | false=>
       go_wp2_with fail
       refine wp_region_held_drew (S:=fun wx=>wx.cell? ⟨gb,0,none⟩=some v1/\wx.cell? ⟨gb,1,none⟩=some v2/\wx.cell? ⟨gn,3,none⟩=some (.slice (some ⟨gc,0,none⟩) lc c3)/\wx.cell? ⟨gc,i,none⟩=some (.int .i64 q)) (by kernel_rfl) hS0 (fun hHeld=> ?_)
       refine tK 0 138 ?_ rfl rfl (by kernel_rfl) (fun _ _ _ h=>h) ⟨by rfl,?_⟩ hHeld ?_
       rotate_left
       ·(intro wx hSw;(try dsimp only at hSw);go_simp;try with_reducible rfl)
       simp only [yA,yB,yC]
       refine tK 1 139 ?_ rfl rfl (by kernel_rfl) (fun _ _ _ h=>h) ⟨by rfl,?_⟩ hHeld ?_
       rotate_left
       ·(intro wx hSw;(try dsimp only at hSw);go_simp;try with_reducible rfl)
       simp only [yA,yB,yC]
       refine tK 2 140 ?_ rfl rfl (by kernel_rfl) (fun _ _ _ h=>h) ⟨by rfl,?_⟩ hHeld ?_
       rotate_left
       ·(intro wx hSw;(try dsimp only at hSw);go_simp;try with_reducible rfl)
       simp only [yA,yB,yC]
       refine tK 3 141 ?_ rfl rfl (by kernel_rfl) (fun _ _ _ h=>h) ⟨by rfl,?_⟩ hHeld ?_
       rotate_left
       ·(intro wx hSw;(try dsimp only at hSw);go_simp;try with_reducible rfl)
       simp only [yA,yB,yC]
       refine tK 4 142 ?_ rfl rfl (by kernel_rfl) (fun _ _ _ h=>h) ⟨by rfl,?_⟩ hHeld ?_
       rotate_left
       ·(intro wx hSw;(try dsimp only at hSw);go_simp;try with_reducible rfl)
       simp only [yA,yB,yC]
       refine tK 5 143 ?_ rfl rfl (by kernel_rfl) (fun _ _ _ h=>h) ⟨by rfl,?_⟩ hHeld ?_
       rotate_left
       ·(intro wx hSw;(try dsimp only at hSw);go_simp;try with_reducible rfl)
       simp only [yA,yB,yC]
       refine tK 6 144 ?_ rfl rfl (by kernel_rfl) (fun _ _ _ h=>h) ⟨by rfl,?_⟩ hHeld ?_
       rotate_left
       ·(intro wx hSw;(try dsimp only at hSw);go_simp;try with_reducible rfl)
       simp only [yA,yB,yC]
       refine tK 7 145 ?_ rfl rfl (by kernel_rfl) (fun _ _ _ h=>h) ⟨by rfl,?_⟩ hHeld ?_
       rotate_left
       ·(intro wx hSw;(try dsimp only at hSw);go_simp;try with_reducible rfl)
       simp only [yA,yB,yC]
       refine tK 8 146 ?_ rfl rfl (by kernel_rfl) (fun _ _ _ h=>h) ⟨by rfl,?_⟩ hHeld ?_
       rotate_left
       ·(intro wx hSw;(try dsimp only at hSw);go_simp;try with_reducible rfl)
       simp only [yA,yB,yC]
       refine tK 9 147 ?_ rfl rfl (by kernel_rfl) (fun _ _ _ h=>h) ⟨by rfl,?_⟩ hHeld ?_
       rotate_left
       ·(intro wx hSw;(try dsimp only at hSw);go_simp;try with_reducible rfl)
       simp only [yA,yB,yC]
       refine tK 10 148 ?_ rfl rfl (by kernel_rfl) (fun _ _ _ h=>h) ⟨by rfl,?_⟩ hHeld ?_
       rotate_left
       ·(intro wx hSw;(try dsimp only at hSw);go_simp;try with_reducible rfl)
       simp only [yA,yB,yC]
       refine tK 11 149 ?_ rfl rfl (by kernel_rfl) (fun _ _ _ h=>h) ⟨by rfl,?_⟩ hHeld ?_
       rotate_left
       ·(intro wx hSw;(try dsimp only at hSw);go_simp;try with_reducible rfl)
       simp only [yA,yB,yC]
       refine wpAnyH_ready (rs:= [12]) (by kernel_rfl) (by simp) ?_
       refine AllReadyH.cons rfl (fun K hK=> ?_) AllReadyH.nil
       refine zaL _ rfl 43 Tryz.f43 Tryz.func43 (by decide) (Option.some_ne_none _) (.tmp 138) (.tmp 143) (.tmp 145) (.tmp 146) (.tmp 147) (.tmp 148) (.tmp 149) #[29,3,3,9,9,4,64] rfl (.agg #[v1,v2]) (.int .i64 q) (.int .i64 ((deep:Int)+1)) (.string low) (.string high) (.bool true) (.pointer (some ⟨ga,0,none⟩)) rfl rfl rfl rfl rfl rfl rfl _ (HCa.out low high true) ?_
       rintro e wB ⟨⟨rr,rfl⟩,bp,bg,bd,hal,hkp,hsb⟩;refine ⟨_,rfl,?_⟩;have HLn:=hide (HQd.out.step HDk.out hal hkp hsb)
       rw [HFin.out low high true (by rw [HLo.out];rfl) (by rw [nextB,nearB,decide_eq_true HLn1.out,<-HNx.out,lessB,HG3.out];rfl) (by rw [moreB,nearB,decide_eq_true HLn1.out,<-HNx.out,lessB,HG3.out];rfl)] at HLn
       have hSB:=HSw.out _ ⟨_,_,_,_,HLn.out⟩
       refine hK.out (Act.put _ (some 150) _) _ hSB (fun hHeld=> ?_)
       clear hK K hal hkp hsb
       simp only [Act.put,yA,yB,yC]
       refine wpAnyH_done (by kernel_rfl) ?_ _
       go_wp2_with fail
       go_roundg (gk - 1)
       case measure=>have:=HQi.out;omega
       case rel=>exact ⟨i+1,_,_,_,_,by have:=HQi.out;omega,by go_num,hide rfl,HLn⟩
    ·have hi3:¬((i:Int)+1<(lk:Int)):=by omega
     have hi5:decide ((i:Int)+1<(lk:Int))=false:=decide_eq_false hi3
     have HLn1:Hid (¬(i+1<n.ks.length)):=hide (by have:=HLk.out.1;omega)
     go_wp2_with fail
     refine wp_region_held_drew (S:=fun wx=>wx.cell? ⟨gb,0,none⟩=some v1/\wx.cell? ⟨gb,1,none⟩=some v2/\wx.cell? ⟨gn,3,none⟩=some (.slice (some ⟨gc,0,none⟩) lc c3)/\wx.cell? ⟨gc,i,none⟩=some (.int .i64 q)) (by kernel_rfl) hS0 (fun hHeld=> ?_)
     refine tK 0 138 ?_ rfl rfl (by kernel_rfl) (fun _ _ _ h=>h) ⟨by rfl,?_⟩ hHeld ?_
     rotate_left
     ·(intro wx hSw;(try dsimp only at hSw);go_simp;try with_reducible rfl)
     simp only [yA,yB,yC]
     refine tK 1 139 ?_ rfl rfl (by kernel_rfl) (fun _ _ _ h=>h) ⟨by rfl,?_⟩ hHeld ?_
     rotate_left
     ·(intro wx hSw;(try dsimp only at hSw);go_simp;try with_reducible rfl)
     simp only [yA,yB,yC]
     refine tK 2 140 ?_ rfl rfl (by kernel_rfl) (fun _ _ _ h=>h) ⟨by rfl,?_⟩ hHeld ?_
     rotate_left
     ·(intro wx hSw;(try dsimp only at hSw);go_simp;try with_reducible rfl)
     simp only [yA,yB,yC]
     refine tK 3 141 ?_ rfl rfl (by kernel_rfl) (fun _ _ _ h=>h) ⟨by rfl,?_⟩ hHeld ?_
     rotate_left
     ·(intro wx hSw;(try dsimp only at hSw);go_simp;try with_reducible rfl)
     simp only [yA,yB,yC]
     refine tK 4 142 ?_ rfl rfl (by kernel_rfl) (fun _ _ _ h=>h) ⟨by rfl,?_⟩ hHeld ?_
     rotate_left
     ·(intro wx hSw;(try dsimp only at hSw);go_simp;try with_reducible rfl)
     simp only [yA,yB,yC]
     refine tK 5 143 ?_ rfl rfl (by kernel_rfl) (fun _ _ _ h=>h) ⟨by rfl,?_⟩ hHeld ?_
     rotate_left
     ·(intro wx hSw;(try dsimp only at hSw);go_simp;try with_reducible rfl)
     simp only [yA,yB,yC]
     refine tK 6 144 ?_ rfl rfl (by kernel_rfl) (fun _ _ _ h=>h) ⟨by rfl,?_⟩ hHeld ?_
     rotate_left
     ·(intro wx hSw;(try dsimp only at hSw);go_simp;try with_reducible rfl)
     simp only [yA,yB,yC]
     refine tK 7 145 ?_ rfl rfl (by kernel_rfl) (fun _ _ _ h=>h) ⟨by rfl,?_⟩ hHeld ?_
     rotate_left
     ·(intro wx hSw;(try dsimp only at hSw);go_simp;try with_reducible rfl)
     simp only [yA,yB,yC]
     refine tK 8 146 ?_ rfl rfl (by kernel_rfl) (fun _ _ _ h=>h) ⟨by rfl,?_⟩ hHeld ?_
     rotate_left
     ·(intro wx hSw;(try dsimp only at hSw);go_simp;try with_reducible rfl)
     simp only [yA,yB,yC]
     refine tK 9 147 ?_ rfl rfl (by kernel_rfl) (fun _ _ _ h=>h) ⟨by rfl,?_⟩ hHeld ?_
     rotate_left
     ·(intro wx hSw;(try dsimp only at hSw);go_simp;try with_reducible rfl)
     simp only [yA,yB,yC]
     refine tK 10 148 ?_ rfl rfl (by kernel_rfl) (fun _ _ _ h=>h) ⟨by rfl,?_⟩ hHeld ?_
     rotate_left
     ·(intro wx hSw;(try dsimp only at hSw);go_simp;try with_reducible rfl)
     simp only [yA,yB,yC]
     refine tK 11 149 ?_ rfl rfl (by kernel_rfl) (fun _ _ _ h=>h) ⟨by rfl,?_⟩ hHeld ?_
     rotate_left
     ·(intro wx hSw;(try dsimp only at hSw);go_simp;try with_reducible rfl)
     simp only [yA,yB,yC]
     refine wpAnyH_ready (rs:= [12]) (by kernel_rfl) (by simp) ?_
     refine AllReadyH.cons rfl (fun K hK=> ?_) AllReadyH.nil
     refine zaL _ rfl 43 Tryz.f43 Tryz.func43 (by decide) (Option.some_ne_none _) (.tmp 138) (.tmp 143) (.tmp 145) (.tmp 146) (.tmp 147) (.tmp 148) (.tmp 149) #[29,3,3,9,9,4,64] rfl (.agg #[v1,v2]) (.int .i64 q) (.int .i64 ((deep:Int)+1)) (.string low) (.string high) (.bool has) (.pointer (some ⟨ga,0,none⟩)) rfl rfl rfl rfl rfl rfl rfl _ (HCa.out low high has) ?_
     rintro e wB ⟨⟨rr,rfl⟩,bp,bg,bd,hal,hkp,hsb⟩;refine ⟨_,rfl,?_⟩;have HLn:=hide (HQd.out.step HDk.out hal hkp hsb)
     rw [HFin.out low high has (by rw [HLo.out];rfl) (by rw [nextB,nearB,decide_eq_false HLn1.out];rfl) (by rw [moreB,nearB,decide_eq_false HLn1.out];rfl)] at HLn
     have hSB:=HSw.out _ ⟨_,_,_,_,HLn.out⟩
     refine hK.out (Act.put _ (some 150) _) _ hSB (fun hHeld=> ?_)
     clear hK K hal hkp hsb
     simp only [Act.put,yA,yB,yC]
     refine wpAnyH_done (by kernel_rfl) ?_ _
     go_wp2_with fail
     go_roundg (gk - 1)
     case measure=>have:=HQi.out;omega
     case rel=>exact ⟨i+1,_,_,_,_,by have:=HQi.out;omega,by go_num,hide rfl,HLn⟩
   | false=>
    cases g2 with
    | true=>
     by_cases hin:i+1<lk
     ·have hi3:(i:Int)+1<(lk:Int):=by omega
      have hi4:(0:Int)<=(i:Int)+1:=by omega
      obtain ⟨nx,hnx⟩:∃y,y=n.ks.getD (i+1) ⟨#[]⟩:=⟨_,rfl⟩
      have hcn:wr.cell? ⟨gk',i+1,none⟩=some (.string nx):=by rw [hnx];exact zdt HQ0.out.own HLk.out.1 hin
      have HNx:=hide hnx;clear hnx
      have HLn1:Hid (i+1<n.ks.length):=hide (by have:=HLk.out.1;omega)
      cases has with
      | false=>
       go_wp2_with fail
       refine wp_region_held_drew (S:=fun wx=>wx.cell? ⟨gb,0,none⟩=some v1/\wx.cell? ⟨gb,1,none⟩=some v2/\wx.cell? ⟨gn,3,none⟩=some (.slice (some ⟨gc,0,none⟩) lc c3)/\wx.cell? ⟨gc,i,none⟩=some (.int .i64 q)) (by kernel_rfl) hS0 (fun hHeld=> ?_)
       refine tK 0 138 ?_ rfl rfl (by kernel_rfl) (fun _ _ _ h=>h) ⟨by rfl,?_⟩ hHeld ?_
       rotate_left
       ·(intro wx hSw;(try dsimp only at hSw);go_simp;try with_reducible rfl)
       simp only [yA,yB,yC]
       refine tK 1 139 ?_ rfl rfl (by kernel_rfl) (fun _ _ _ h=>h) ⟨by rfl,?_⟩ hHeld ?_
       rotate_left
       ·(intro wx hSw;(try dsimp only at hSw);go_simp;try with_reducible rfl)
       simp only [yA,yB,yC]
       refine tK 2 140 ?_ rfl rfl (by kernel_rfl) (fun _ _ _ h=>h) ⟨by rfl,?_⟩ hHeld ?_
       rotate_left
       ·(intro wx hSw;(try dsimp only at hSw);go_simp;try with_reducible rfl)
       simp only [yA,yB,yC]
       refine tK 3 141 ?_ rfl rfl (by kernel_rfl) (fun _ _ _ h=>h) ⟨by rfl,?_⟩ hHeld ?_
       rotate_left
       ·(intro wx hSw;(try dsimp only at hSw);go_simp;try with_reducible rfl)
       simp only [yA,yB,yC]
       refine tK 4 142 ?_ rfl rfl (by kernel_rfl) (fun _ _ _ h=>h) ⟨by rfl,?_⟩ hHeld ?_
       rotate_left
       ·(intro wx hSw;(try dsimp only at hSw);go_simp;try with_reducible rfl)
       simp only [yA,yB,yC]
       refine tK 5 143 ?_ rfl rfl (by kernel_rfl) (fun _ _ _ h=>h) ⟨by rfl,?_⟩ hHeld ?_
       rotate_left
       ·(intro wx hSw;(try dsimp only at hSw);go_simp;try with_reducible rfl)
       simp only [yA,yB,yC]
       refine tK 6 144 ?_ rfl rfl (by kernel_rfl) (fun _ _ _ h=>h) ⟨by rfl,?_⟩ hHeld ?_
       rotate_left
       ·(intro wx hSw;(try dsimp only at hSw);go_simp;try with_reducible rfl)
       simp only [yA,yB,yC]
       refine tK 7 145 ?_ rfl rfl (by kernel_rfl) (fun _ _ _ h=>h) ⟨by rfl,?_⟩ hHeld ?_
       rotate_left
       ·(intro wx hSw;(try dsimp only at hSw);go_simp;try with_reducible rfl)
       simp only [yA,yB,yC]
       refine tK 8 146 ?_ rfl rfl (by kernel_rfl) (fun _ _ _ h=>h) ⟨by rfl,?_⟩ hHeld ?_
       rotate_left
       ·(intro wx hSw;(try dsimp only at hSw);go_simp;try with_reducible rfl)
       simp only [yA,yB,yC]
       refine tK 9 147 ?_ rfl rfl (by kernel_rfl) (fun _ _ _ h=>h) ⟨by rfl,?_⟩ hHeld ?_
       rotate_left
       ·(intro wx hSw;(try dsimp only at hSw);go_simp;try with_reducible rfl)
       simp only [yA,yB,yC]
       refine tK 10 148 ?_ rfl rfl (by kernel_rfl) (fun _ _ _ h=>h) ⟨by rfl,?_⟩ hHeld ?_
       rotate_left
       ·(intro wx hSw;(try dsimp only at hSw);go_simp;try with_reducible rfl)
       simp only [yA,yB,yC]
       refine tK 11 149 ?_ rfl rfl (by kernel_rfl) (fun _ _ _ h=>h) ⟨by rfl,?_⟩ hHeld ?_
       rotate_left
       ·(intro wx hSw;(try dsimp only at hSw);go_simp;try with_reducible rfl)
       simp only [yA,yB,yC]
       refine wpAnyH_ready (rs:= [12]) (by kernel_rfl) (by simp) ?_
       refine AllReadyH.cons rfl (fun K hK=> ?_) AllReadyH.nil
       refine zaL _ rfl 43 Tryz.f43 Tryz.func43 (by decide) (Option.some_ne_none _) (.tmp 138) (.tmp 143) (.tmp 145) (.tmp 146) (.tmp 147) (.tmp 148) (.tmp 149) #[29,3,3,9,9,4,64] rfl (.agg #[v1,v2]) (.int .i64 q) (.int .i64 ((deep:Int)+1)) (.string low) (.string nx) (.bool true) (.pointer (some ⟨ga,0,none⟩)) rfl rfl rfl rfl rfl rfl rfl _ (HCa.out low nx true) ?_
       rintro e wB ⟨⟨rr,rfl⟩,bp,bg,bd,hal,hkp,hsb⟩;refine ⟨_,rfl,?_⟩;have HLn:=hide (HQd.out.step HDk.out hal hkp hsb)
       rw [HFin.out low nx true (by rw [HLo.out];rfl) (by rw [nextB,nearB,decide_eq_true HLn1.out];exact HNx.out.symm) (by rw [moreB,nearB,decide_eq_true HLn1.out];rfl)] at HLn
       have hSB:=HSw.out _ ⟨_,_,_,_,HLn.out⟩
       refine hK.out (Act.put _ (some 150) _) _ hSB (fun hHeld=> ?_)
       clear hK K hal hkp hsb
       simp only [Act.put,yA,yB,yC]
       refine wpAnyH_done (by kernel_rfl) ?_ _
       go_wp2_with fail
       go_roundg (gk - 1)
       case measure=>have:=HQi.out;omega
       case rel=>exact ⟨i+1,_,_,_,_,by have:=HQi.out;omega,by go_num,hide rfl,HLn⟩
      | true=>
       obtain ⟨g3,hg3⟩:∃l,Op.bytesLess nx.toList high.toList=l:=⟨_,rfl⟩;have HG3:=hide hg3
       cases g3 with
       | true=>
        go_wp2_with fail
        refine wp_region_held_drew (S:=fun wx=>wx.cell? ⟨gb,0,none⟩=some v1/\wx.cell? ⟨gb,1,none⟩=some v2/\wx.cell? ⟨gn,3,none⟩=some (.slice (some ⟨gc,0,none⟩) lc c3)/\wx.cell? ⟨gc,i,none⟩=some (.int .i64 q)) (by kernel_rfl) hS0 (fun hHeld=> ?_)
        refine tK 0 138 ?_ rfl rfl (by kernel_rfl) (fun _ _ _ h=>h) ⟨by rfl,?_⟩ hHeld ?_
        rotate_left
        ·(intro wx hSw;(try dsimp only at hSw);go_simp;try with_reducible rfl)
        simp only [yA,yB,yC]
        refine tK 1 139 ?_ rfl rfl (by kernel_rfl) (fun _ _ _ h=>h) ⟨by rfl,?_⟩ hHeld ?_
        rotate_left
        ·(intro wx hSw;(try dsimp only at hSw);go_simp;try with_reducible rfl)
        simp only [yA,yB,yC]
        refine tK 2 140 ?_ rfl rfl (by kernel_rfl) (fun _ _ _ h=>h) ⟨by rfl,?_⟩ hHeld ?_
        rotate_left
        ·(intro wx hSw;(try dsimp only at hSw);go_simp;try with_reducible rfl)
        simp only [yA,yB,yC]
        refine tK 3 141 ?_ rfl rfl (by kernel_rfl) (fun _ _ _ h=>h) ⟨by rfl,?_⟩ hHeld ?_
        rotate_left
        ·(intro wx hSw;(try dsimp only at hSw);go_simp;try with_reducible rfl)
        simp only [yA,yB,yC]
        refine tK 4 142 ?_ rfl rfl (by kernel_rfl) (fun _ _ _ h=>h) ⟨by rfl,?_⟩ hHeld ?_
        rotate_left
        ·(intro wx hSw;(try dsimp only at hSw);go_simp;try with_reducible rfl)
        simp only [yA,yB,yC]
        refine tK 5 143 ?_ rfl rfl (by kernel_rfl) (fun _ _ _ h=>h) ⟨by rfl,?_⟩ hHeld ?_
        rotate_left
        ·(intro wx hSw;(try dsimp only at hSw);go_simp;try with_reducible rfl)
        simp only [yA,yB,yC]
        refine tK 6 144 ?_ rfl rfl (by kernel_rfl) (fun _ _ _ h=>h) ⟨by rfl,?_⟩ hHeld ?_
        rotate_left
        ·(intro wx hSw;(try dsimp only at hSw);go_simp;try with_reducible rfl)
        simp only [yA,yB,yC]
        refine tK 7 145 ?_ rfl rfl (by kernel_rfl) (fun _ _ _ h=>h) ⟨by rfl,?_⟩ hHeld ?_
        rotate_left
        ·(intro wx hSw;(try dsimp only at hSw);go_simp;try with_reducible rfl)
        simp only [yA,yB,yC]
        refine tK 8 146 ?_ rfl rfl (by kernel_rfl) (fun _ _ _ h=>h) ⟨by rfl,?_⟩ hHeld ?_
        rotate_left
        ·(intro wx hSw;(try dsimp only at hSw);go_simp;try with_reducible rfl)
        simp only [yA,yB,yC]
        refine tK 9 147 ?_ rfl rfl (by kernel_rfl) (fun _ _ _ h=>h) ⟨by rfl,?_⟩ hHeld ?_
        rotate_left
        ·(intro wx hSw;(try dsimp only at hSw);go_simp;try with_reducible rfl)
        simp only [yA,yB,yC]
        refine tK 10 148 ?_ rfl rfl (by kernel_rfl) (fun _ _ _ h=>h) ⟨by rfl,?_⟩ hHeld ?_
        rotate_left
        ·(intro wx hSw;(try dsimp only at hSw);go_simp;try with_reducible rfl)
        simp only [yA,yB,yC]
        refine tK 11 149 ?_ rfl rfl (by kernel_rfl) (fun _ _ _ h=>h) ⟨by rfl,?_⟩ hHeld ?_
        rotate_left
        ·(intro wx hSw;(try dsimp only at hSw);go_simp;try with_reducible rfl)
        simp only [yA,yB,yC]
        refine wpAnyH_ready (rs:= [12]) (by kernel_rfl) (by simp) ?_
        refine AllReadyH.cons rfl (fun K hK=> ?_) AllReadyH.nil
        refine zaL _ rfl 43 Tryz.f43 Tryz.func43 (by decide) (Option.some_ne_none _) (.tmp 138) (.tmp 143) (.tmp 145) (.tmp 146) (.tmp 147) (.tmp 148) (.tmp 149) #[29,3,3,9,9,4,64] rfl (.agg #[v1,v2]) (.int .i64 q) (.int .i64 ((deep:Int)+1)) (.string low) (.string nx) (.bool true) (.pointer (some ⟨ga,0,none⟩)) rfl rfl rfl rfl rfl rfl rfl _ (HCa.out low nx true) ?_
        rintro e wB ⟨⟨rr,rfl⟩,bp,bg,bd,hal,hkp,hsb⟩;refine ⟨_,rfl,?_⟩;have HLn:=hide (HQd.out.step HDk.out hal hkp hsb)
        rw [HFin.out low nx true (by rw [HLo.out];rfl) (by rw [nextB,nearB,decide_eq_true HLn1.out,<-HNx.out,lessB,HG3.out];rfl) (by rw [moreB,nearB,decide_eq_true HLn1.out,<-HNx.out,lessB,HG3.out];rfl)] at HLn
        have hSB:=HSw.out _ ⟨_,_,_,_,HLn.out⟩
        refine hK.out (Act.put _ (some 150) _) _ hSB (fun hHeld=> ?_)
        clear hK K hal hkp hsb
        simp only [Act.put,yA,yB,yC]
        refine wpAnyH_done (by kernel_rfl) ?_ _
        go_wp2_with fail
        go_roundg (gk - 1)
        case measure=>have:=HQi.out;omega
        case rel=>exact ⟨i+1,_,_,_,_,by have:=HQi.out;omega,by go_num,hide rfl,HLn⟩
       | false=>
        go_wp2_with fail
        refine wp_region_held_drew (S:=fun wx=>wx.cell? ⟨gb,0,none⟩=some v1/\wx.cell? ⟨gb,1,none⟩=some v2/\wx.cell? ⟨gn,3,none⟩=some (.slice (some ⟨gc,0,none⟩) lc c3)/\wx.cell? ⟨gc,i,none⟩=some (.int .i64 q)) (by kernel_rfl) hS0 (fun hHeld=> ?_)
        refine tK 0 138 ?_ rfl rfl (by kernel_rfl) (fun _ _ _ h=>h) ⟨by rfl,?_⟩ hHeld ?_
        rotate_left
        ·(intro wx hSw;(try dsimp only at hSw);go_simp;try with_reducible rfl)
        simp only [yA,yB,yC]
        refine tK 1 139 ?_ rfl rfl (by kernel_rfl) (fun _ _ _ h=>h) ⟨by rfl,?_⟩ hHeld ?_
        rotate_left
        ·(intro wx hSw;(try dsimp only at hSw);go_simp;try with_reducible rfl)
        simp only [yA,yB,yC]
        refine tK 2 140 ?_ rfl rfl (by kernel_rfl) (fun _ _ _ h=>h) ⟨by rfl,?_⟩ hHeld ?_
        rotate_left
        ·(intro wx hSw;(try dsimp only at hSw);go_simp;try with_reducible rfl)
        simp only [yA,yB,yC]
        refine tK 3 141 ?_ rfl rfl (by kernel_rfl) (fun _ _ _ h=>h) ⟨by rfl,?_⟩ hHeld ?_
        rotate_left
        ·(intro wx hSw;(try dsimp only at hSw);go_simp;try with_reducible rfl)
        simp only [yA,yB,yC]
        refine tK 4 142 ?_ rfl rfl (by kernel_rfl) (fun _ _ _ h=>h) ⟨by rfl,?_⟩ hHeld ?_
        rotate_left
        ·(intro wx hSw;(try dsimp only at hSw);go_simp;try with_reducible rfl)
        simp only [yA,yB,yC]
        refine tK 5 143 ?_ rfl rfl (by kernel_rfl) (fun _ _ _ h=>h) ⟨by rfl,?_⟩ hHeld ?_
        rotate_left
        ·(intro wx hSw;(try dsimp only at hSw);go_simp;try with_reducible rfl)
        simp only [yA,yB,yC]
        refine tK 6 144 ?_ rfl rfl (by kernel_rfl) (fun _ _ _ h=>h) ⟨by rfl,?_⟩ hHeld ?_
        rotate_left
        ·(intro wx hSw;(try dsimp only at hSw);go_simp;try with_reducible rfl)
        simp only [yA,yB,yC]
        refine tK 7 145 ?_ rfl rfl (by kernel_rfl) (fun _ _ _ h=>h) ⟨by rfl,?_⟩ hHeld ?_
        rotate_left
        ·(intro wx hSw;(try dsimp only at hSw);go_simp;try with_reducible rfl)
        simp only [yA,yB,yC]
        refine tK 8 146 ?_ rfl rfl (by kernel_rfl) (fun _ _ _ h=>h) ⟨by rfl,?_⟩ hHeld ?_
        rotate_left
        ·(intro wx hSw;(try dsimp only at hSw);go_simp;try with_reducible rfl)
        simp only [yA,yB,yC]
        refine tK 9 147 ?_ rfl rfl (by kernel_rfl) (fun _ _ _ h=>h) ⟨by rfl,?_⟩ hHeld ?_
        rotate_left
        ·(intro wx hSw;(try dsimp only at hSw);go_simp;try with_reducible rfl)
        simp only [yA,yB,yC]
        refine tK 10 148 ?_ rfl rfl (by kernel_rfl) (fun _ _ _ h=>h) ⟨by rfl,?_⟩ hHeld ?_
        rotate_left
        ·(intro wx hSw;(try dsimp only at hSw);go_simp;try with_reducible rfl)
        simp only [yA,yB,yC]
        refine tK 11 149 ?_ rfl rfl (by kernel_rfl) (fun _ _ _ h=>h) ⟨by rfl,?_⟩ hHeld ?_
        rotate_left
        ·(intro wx hSw;(try dsimp only at hSw);go_simp;try with_reducible rfl)
        simp only [yA,yB,yC]
        refine wpAnyH_ready (rs:= [12]) (by kernel_rfl) (by simp) ?_
        refine AllReadyH.cons rfl (fun K hK=> ?_) AllReadyH.nil
        refine zaL _ rfl 43 Tryz.f43 Tryz.func43 (by decide) (Option.some_ne_none _) (.tmp 138) (.tmp 143) (.tmp 145) (.tmp 146) (.tmp 147) (.tmp 148) (.tmp 149) #[29,3,3,9,9,4,64] rfl (.agg #[v1,v2]) (.int .i64 q) (.int .i64 ((deep:Int)+1)) (.string low) (.string high) (.bool true) (.pointer (some ⟨ga,0,none⟩)) rfl rfl rfl rfl rfl rfl rfl _ (HCa.out low high true) ?_
        rintro e wB ⟨⟨rr,rfl⟩,bp,bg,bd,hal,hkp,hsb⟩;refine ⟨_,rfl,?_⟩;have HLn:=hide (HQd.out.step HDk.out hal hkp hsb)
        rw [HFin.out low high true (by rw [HLo.out];rfl) (by rw [nextB,nearB,decide_eq_true HLn1.out,<-HNx.out,lessB,HG3.out];rfl) (by rw [moreB,nearB,decide_eq_true HLn1.out,<-HNx.out,lessB,HG3.out];rfl)] at HLn
        have hSB:=HSw.out _ ⟨_,_,_,_,HLn.out⟩
        refine hK.out (Act.put _ (some 150) _) _ hSB (fun hHeld=> ?_)
        clear hK K hal hkp hsb
        simp only [Act.put,yA,yB,yC]
        refine wpAnyH_done (by kernel_rfl) ?_ _
        go_wp2_with fail
        go_roundg (gk - 1)
        case measure=>have:=HQi.out;omega
        case rel=>exact ⟨i+1,_,_,_,_,by have:=HQi.out;omega,by go_num,hide rfl,HLn⟩
     ·have hi3:¬((i:Int)+1<(lk:Int)):=by omega
      have hi5:decide ((i:Int)+1<(lk:Int))=false:=decide_eq_false hi3
      have HLn1:Hid (¬(i+1<n.ks.length)):=hide (by have:=HLk.out.1;omega)
      go_wp2_with fail
      refine wp_region_held_drew (S:=fun wx=>wx.cell? ⟨gb,0,none⟩=some v1/\wx.cell? ⟨gb,1,none⟩=some v2/\wx.cell? ⟨gn,3,none⟩=some (.slice (some ⟨gc,0,none⟩) lc c3)/\wx.cell? ⟨gc,i,none⟩=some (.int .i64 q)) (by kernel_rfl) hS0 (fun hHeld=> ?_)
      refine tK 0 138 ?_ rfl rfl (by kernel_rfl) (fun _ _ _ h=>h) ⟨by rfl,?_⟩ hHeld ?_
      rotate_left
      ·(intro wx hSw;(try dsimp only at hSw);go_simp;try with_reducible rfl)
      simp only [yA,yB,yC]
      refine tK 1 139 ?_ rfl rfl (by kernel_rfl) (fun _ _ _ h=>h) ⟨by rfl,?_⟩ hHeld ?_
      rotate_left
      ·(intro wx hSw;(try dsimp only at hSw);go_simp;try with_reducible rfl)
      simp only [yA,yB,yC]
      refine tK 2 140 ?_ rfl rfl (by kernel_rfl) (fun _ _ _ h=>h) ⟨by rfl,?_⟩ hHeld ?_
      rotate_left
      ·(intro wx hSw;(try dsimp only at hSw);go_simp;try with_reducible rfl)
      simp only [yA,yB,yC]
      refine tK 3 141 ?_ rfl rfl (by kernel_rfl) (fun _ _ _ h=>h) ⟨by rfl,?_⟩ hHeld ?_
      rotate_left
      ·(intro wx hSw;(try dsimp only at hSw);go_simp;try with_reducible rfl)
      simp only [yA,yB,yC]
      refine tK 4 142 ?_ rfl rfl (by kernel_rfl) (fun _ _ _ h=>h) ⟨by rfl,?_⟩ hHeld ?_
      rotate_left
      ·(intro wx hSw;(try dsimp only at hSw);go_simp;try with_reducible rfl)
      simp only [yA,yB,yC]
      refine tK 5 143 ?_ rfl rfl (by kernel_rfl) (fun _ _ _ h=>h) ⟨by rfl,?_⟩ hHeld ?_
      rotate_left
      ·(intro wx hSw;(try dsimp only at hSw);go_simp;try with_reducible rfl)
      simp only [yA,yB,yC]
      refine tK 6 144 ?_ rfl rfl (by kernel_rfl) (fun _ _ _ h=>h) ⟨by rfl,?_⟩ hHeld ?_
      rotate_left
      ·(intro wx hSw;(try dsimp only at hSw);go_simp;try with_reducible rfl)
      simp only [yA,yB,yC]
      refine tK 7 145 ?_ rfl rfl (by kernel_rfl) (fun _ _ _ h=>h) ⟨by rfl,?_⟩ hHeld ?_
      rotate_left
      ·(intro wx hSw;(try dsimp only at hSw);go_simp;try with_reducible rfl)
      simp only [yA,yB,yC]
      refine tK 8 146 ?_ rfl rfl (by kernel_rfl) (fun _ _ _ h=>h) ⟨by rfl,?_⟩ hHeld ?_
      rotate_left
      ·(intro wx hSw;(try dsimp only at hSw);go_simp;try with_reducible rfl)
      simp only [yA,yB,yC]
      refine tK 9 147 ?_ rfl rfl (by kernel_rfl) (fun _ _ _ h=>h) ⟨by rfl,?_⟩ hHeld ?_
      rotate_left
      ·(intro wx hSw;(try dsimp only at hSw);go_simp;try with_reducible rfl)
      simp only [yA,yB,yC]
      refine tK 10 148 ?_ rfl rfl (by kernel_rfl) (fun _ _ _ h=>h) ⟨by rfl,?_⟩ hHeld ?_
      rotate_left
      ·(intro wx hSw;(try dsimp only at hSw);go_simp;try with_reducible rfl)
      simp only [yA,yB,yC]
      refine tK 11 149 ?_ rfl rfl (by kernel_rfl) (fun _ _ _ h=>h) ⟨by rfl,?_⟩ hHeld ?_
      rotate_left
      ·(intro wx hSw;(try dsimp only at hSw);go_simp;try with_reducible rfl)
      simp only [yA,yB,yC]
      refine wpAnyH_ready (rs:= [12]) (by kernel_rfl) (by simp) ?_
      refine AllReadyH.cons rfl (fun K hK=> ?_) AllReadyH.nil
      refine zaL _ rfl 43 Tryz.f43 Tryz.func43 (by decide) (Option.some_ne_none _) (.tmp 138) (.tmp 143) (.tmp 145) (.tmp 146) (.tmp 147) (.tmp 148) (.tmp 149) #[29,3,3,9,9,4,64] rfl (.agg #[v1,v2]) (.int .i64 q) (.int .i64 ((deep:Int)+1)) (.string low) (.string high) (.bool has) (.pointer (some ⟨ga,0,none⟩)) rfl rfl rfl rfl rfl rfl rfl _ (HCa.out low high has) ?_
      rintro e wB ⟨⟨rr,rfl⟩,bp,bg,bd,hal,hkp,hsb⟩;refine ⟨_,rfl,?_⟩;have HLn:=hide (HQd.out.step HDk.out hal hkp hsb)
      rw [HFin.out low high has (by rw [HLo.out];rfl) (by rw [nextB,nearB,decide_eq_false HLn1.out];rfl) (by rw [moreB,nearB,decide_eq_false HLn1.out];rfl)] at HLn
      have hSB:=HSw.out _ ⟨_,_,_,_,HLn.out⟩
      refine hK.out (Act.put _ (some 150) _) _ hSB (fun hHeld=> ?_)
      clear hK K hal hkp hsb
      simp only [Act.put,yA,yB,yC]
      refine wpAnyH_done (by kernel_rfl) ?_ _
      go_wp2_with fail
      go_roundg (gk - 1)
      case measure=>have:=HQi.out;omega
      case rel=>exact ⟨i+1,_,_,_,_,by have:=HQi.out;omega,by go_num,hide rfl,HLn⟩
    | false=>
     by_cases hin:i+1<lk
     ·have hi3:(i:Int)+1<(lk:Int):=by omega
      have hi4:(0:Int)<=(i:Int)+1:=by omega
      obtain ⟨nx,hnx⟩:∃y,y=n.ks.getD (i+1) ⟨#[]⟩:=⟨_,rfl⟩
      have hcn:wr.cell? ⟨gk',i+1,none⟩=some (.string nx):=by rw [hnx];exact zdt HQ0.out.own HLk.out.1 hin
      have HNx:=hide hnx;clear hnx
      have HLn1:Hid (i+1<n.ks.length):=hide (by have:=HLk.out.1;omega)
      cases has with
      | false=>
       go_wp2_with fail
       refine wp_region_held_drew (S:=fun wx=>wx.cell? ⟨gb,0,none⟩=some v1/\wx.cell? ⟨gb,1,none⟩=some v2/\wx.cell? ⟨gn,3,none⟩=some (.slice (some ⟨gc,0,none⟩) lc c3)/\wx.cell? ⟨gc,i,none⟩=some (.int .i64 q)) (by kernel_rfl) hS0 (fun hHeld=> ?_)
       refine tK 0 138 ?_ rfl rfl (by kernel_rfl) (fun _ _ _ h=>h) ⟨by rfl,?_⟩ hHeld ?_
       rotate_left
       ·(intro wx hSw;(try dsimp only at hSw);go_simp;try with_reducible rfl)
       simp only [yA,yB,yC]
       refine tK 1 139 ?_ rfl rfl (by kernel_rfl) (fun _ _ _ h=>h) ⟨by rfl,?_⟩ hHeld ?_
       rotate_left
       ·(intro wx hSw;(try dsimp only at hSw);go_simp;try with_reducible rfl)
       simp only [yA,yB,yC]
       refine tK 2 140 ?_ rfl rfl (by kernel_rfl) (fun _ _ _ h=>h) ⟨by rfl,?_⟩ hHeld ?_
       rotate_left
       ·(intro wx hSw;(try dsimp only at hSw);go_simp;try with_reducible rfl)
       simp only [yA,yB,yC]
       refine tK 3 141 ?_ rfl rfl (by kernel_rfl) (fun _ _ _ h=>h) ⟨by rfl,?_⟩ hHeld ?_
       rotate_left
       ·(intro wx hSw;(try dsimp only at hSw);go_simp;try with_reducible rfl)
       simp only [yA,yB,yC]
       refine tK 4 142 ?_ rfl rfl (by kernel_rfl) (fun _ _ _ h=>h) ⟨by rfl,?_⟩ hHeld ?_
       rotate_left
       ·(intro wx hSw;(try dsimp only at hSw);go_simp;try with_reducible rfl)
       simp only [yA,yB,yC]
       refine tK 5 143 ?_ rfl rfl (by kernel_rfl) (fun _ _ _ h=>h) ⟨by rfl,?_⟩ hHeld ?_
       rotate_left
       ·(intro wx hSw;(try dsimp only at hSw);go_simp;try with_reducible rfl)
       simp only [yA,yB,yC]
       refine tK 6 144 ?_ rfl rfl (by kernel_rfl) (fun _ _ _ h=>h) ⟨by rfl,?_⟩ hHeld ?_
       rotate_left
       ·(intro wx hSw;(try dsimp only at hSw);go_simp;try with_reducible rfl)
       simp only [yA,yB,yC]
       refine tK 7 145 ?_ rfl rfl (by kernel_rfl) (fun _ _ _ h=>h) ⟨by rfl,?_⟩ hHeld ?_
       rotate_left
       ·(intro wx hSw;(try dsimp only at hSw);go_simp;try with_reducible rfl)
       simp only [yA,yB,yC]
       refine tK 8 146 ?_ rfl rfl (by kernel_rfl) (fun _ _ _ h=>h) ⟨by rfl,?_⟩ hHeld ?_
       rotate_left
       ·(intro wx hSw;(try dsimp only at hSw);go_simp;try with_reducible rfl)
       simp only [yA,yB,yC]
       refine tK 9 147 ?_ rfl rfl (by kernel_rfl) (fun _ _ _ h=>h) ⟨by rfl,?_⟩ hHeld ?_
       rotate_left
       ·(intro wx hSw;(try dsimp only at hSw);go_simp;try with_reducible rfl)
       simp only [yA,yB,yC]
       refine tK 10 148 ?_ rfl rfl (by kernel_rfl) (fun _ _ _ h=>h) ⟨by rfl,?_⟩ hHeld ?_
       rotate_left
       ·(intro wx hSw;(try dsimp only at hSw);go_simp;try with_reducible rfl)
       simp only [yA,yB,yC]
       refine tK 11 149 ?_ rfl rfl (by kernel_rfl) (fun _ _ _ h=>h) ⟨by rfl,?_⟩ hHeld ?_
       rotate_left
       ·(intro wx hSw;(try dsimp only at hSw);go_simp;try with_reducible rfl)
       simp only [yA,yB,yC]
       refine wpAnyH_ready (rs:= [12]) (by kernel_rfl) (by simp) ?_
       refine AllReadyH.cons rfl (fun K hK=> ?_) AllReadyH.nil
       refine zaL _ rfl 43 Tryz.f43 Tryz.func43 (by decide) (Option.some_ne_none _) (.tmp 138) (.tmp 143) (.tmp 145) (.tmp 146) (.tmp 147) (.tmp 148) (.tmp 149) #[29,3,3,9,9,4,64] rfl (.agg #[v1,v2]) (.int .i64 q) (.int .i64 ((deep:Int)+1)) (.string x) (.string nx) (.bool true) (.pointer (some ⟨ga,0,none⟩)) rfl rfl rfl rfl rfl rfl rfl _ (HCa.out x nx true) ?_
       rintro e wB ⟨⟨rr,rfl⟩,bp,bg,bd,hal,hkp,hsb⟩;refine ⟨_,rfl,?_⟩;have HLn:=hide (HQd.out.step HDk.out hal hkp hsb)
       rw [HFin.out x nx true (by rw [HLo.out];rfl) (by rw [nextB,nearB,decide_eq_true HLn1.out];exact HNx.out.symm) (by rw [moreB,nearB,decide_eq_true HLn1.out];rfl)] at HLn
       have hSB:=HSw.out _ ⟨_,_,_,_,HLn.out⟩
       refine hK.out (Act.put _ (some 150) _) _ hSB (fun hHeld=> ?_)
       clear hK K hal hkp hsb
       simp only [Act.put,yA,yB,yC]
       refine wpAnyH_done (by kernel_rfl) ?_ _
       go_wp2_with fail
       go_roundg (gk - 1)
       case measure=>have:=HQi.out;omega
       case rel=>exact ⟨i+1,_,_,_,_,by have:=HQi.out;omega,by go_num,hide rfl,HLn⟩
      | true=>
       obtain ⟨g3,hg3⟩:∃l,Op.bytesLess nx.toList high.toList=l:=⟨_,rfl⟩;have HG3:=hide hg3
       cases g3 with
       | true=>
        go_wp2_with fail
        refine wp_region_held_drew (S:=fun wx=>wx.cell? ⟨gb,0,none⟩=some v1/\wx.cell? ⟨gb,1,none⟩=some v2/\wx.cell? ⟨gn,3,none⟩=some (.slice (some ⟨gc,0,none⟩) lc c3)/\wx.cell? ⟨gc,i,none⟩=some (.int .i64 q)) (by kernel_rfl) hS0 (fun hHeld=> ?_)
        refine tK 0 138 ?_ rfl rfl (by kernel_rfl) (fun _ _ _ h=>h) ⟨by rfl,?_⟩ hHeld ?_
        rotate_left
        ·(intro wx hSw;(try dsimp only at hSw);go_simp;try with_reducible rfl)
        simp only [yA,yB,yC]
        refine tK 1 139 ?_ rfl rfl (by kernel_rfl) (fun _ _ _ h=>h) ⟨by rfl,?_⟩ hHeld ?_
        rotate_left
        ·(intro wx hSw;(try dsimp only at hSw);go_simp;try with_reducible rfl)
        simp only [yA,yB,yC]
        refine tK 2 140 ?_ rfl rfl (by kernel_rfl) (fun _ _ _ h=>h) ⟨by rfl,?_⟩ hHeld ?_
        rotate_left
        ·(intro wx hSw;(try dsimp only at hSw);go_simp;try with_reducible rfl)
        simp only [yA,yB,yC]
        refine tK 3 141 ?_ rfl rfl (by kernel_rfl) (fun _ _ _ h=>h) ⟨by rfl,?_⟩ hHeld ?_
        rotate_left
        ·(intro wx hSw;(try dsimp only at hSw);go_simp;try with_reducible rfl)
        simp only [yA,yB,yC]
        refine tK 4 142 ?_ rfl rfl (by kernel_rfl) (fun _ _ _ h=>h) ⟨by rfl,?_⟩ hHeld ?_
        rotate_left
        ·(intro wx hSw;(try dsimp only at hSw);go_simp;try with_reducible rfl)
        simp only [yA,yB,yC]
        refine tK 5 143 ?_ rfl rfl (by kernel_rfl) (fun _ _ _ h=>h) ⟨by rfl,?_⟩ hHeld ?_
        rotate_left
        ·(intro wx hSw;(try dsimp only at hSw);go_simp;try with_reducible rfl)
        simp only [yA,yB,yC]
        refine tK 6 144 ?_ rfl rfl (by kernel_rfl) (fun _ _ _ h=>h) ⟨by rfl,?_⟩ hHeld ?_
        rotate_left
        ·(intro wx hSw;(try dsimp only at hSw);go_simp;try with_reducible rfl)
        simp only [yA,yB,yC]
        refine tK 7 145 ?_ rfl rfl (by kernel_rfl) (fun _ _ _ h=>h) ⟨by rfl,?_⟩ hHeld ?_
        rotate_left
        ·(intro wx hSw;(try dsimp only at hSw);go_simp;try with_reducible rfl)
        simp only [yA,yB,yC]
        refine tK 8 146 ?_ rfl rfl (by kernel_rfl) (fun _ _ _ h=>h) ⟨by rfl,?_⟩ hHeld ?_
        rotate_left
        ·(intro wx hSw;(try dsimp only at hSw);go_simp;try with_reducible rfl)
        simp only [yA,yB,yC]
        refine tK 9 147 ?_ rfl rfl (by kernel_rfl) (fun _ _ _ h=>h) ⟨by rfl,?_⟩ hHeld ?_
        rotate_left
        ·(intro wx hSw;(try dsimp only at hSw);go_simp;try with_reducible rfl)
        simp only [yA,yB,yC]
        refine tK 10 148 ?_ rfl rfl (by kernel_rfl) (fun _ _ _ h=>h) ⟨by rfl,?_⟩ hHeld ?_
        rotate_left
        ·(intro wx hSw;(try dsimp only at hSw);go_simp;try with_reducible rfl)
        simp only [yA,yB,yC]
        refine tK 11 149 ?_ rfl rfl (by kernel_rfl) (fun _ _ _ h=>h) ⟨by rfl,?_⟩ hHeld ?_
        rotate_left
        ·(intro wx hSw;(try dsimp only at hSw);go_simp;try with_reducible rfl)
        simp only [yA,yB,yC]
        refine wpAnyH_ready (rs:= [12]) (by kernel_rfl) (by simp) ?_
        refine AllReadyH.cons rfl (fun K hK=> ?_) AllReadyH.nil
        refine zaL _ rfl 43 Tryz.f43 Tryz.func43 (by decide) (Option.some_ne_none _) (.tmp 138) (.tmp 143) (.tmp 145) (.tmp 146) (.tmp 147) (.tmp 148) (.tmp 149) #[29,3,3,9,9,4,64] rfl (.agg #[v1,v2]) (.int .i64 q) (.int .i64 ((deep:Int)+1)) (.string x) (.string nx) (.bool true) (.pointer (some ⟨ga,0,none⟩)) rfl rfl rfl rfl rfl rfl rfl _ (HCa.out x nx true) ?_
        rintro e wB ⟨⟨rr,rfl⟩,bp,bg,bd,hal,hkp,hsb⟩;refine ⟨_,rfl,?_⟩;have HLn:=hide (HQd.out.step HDk.out hal hkp hsb)
        rw [HFin.out x nx true (by rw [HLo.out];rfl) (by rw [nextB,nearB,decide_eq_true HLn1.out,<-HNx.out,lessB,HG3.out];rfl) (by rw [moreB,nearB,decide_eq_true HLn1.out,<-HNx.out,lessB,HG3.out];rfl)] at HLn
        have hSB:=HSw.out _ ⟨_,_,_,_,HLn.out⟩
        refine hK.out (Act.put _ (some 150) _) _ hSB (fun hHeld=> ?_)
        clear hK K hal hkp hsb
        simp only [Act.put,yA,yB,yC]
        refine wpAnyH_done (by kernel_rfl) ?_ _
        go_wp2_with fail
        go_roundg (gk - 1)
        case measure=>have:=HQi.out;omega
        case rel=>exact ⟨i+1,_,_,_,_,by have:=HQi.out;omega,by go_num,hide rfl,HLn⟩
       | false=>
        go_wp2_with fail
        refine wp_region_held_drew (S:=fun wx=>wx.cell? ⟨gb,0,none⟩=some v1/\wx.cell? ⟨gb,1,none⟩=some v2/\wx.cell? ⟨gn,3,none⟩=some (.slice (some ⟨gc,0,none⟩) lc c3)/\wx.cell? ⟨gc,i,none⟩=some (.int .i64 q)) (by kernel_rfl) hS0 (fun hHeld=> ?_)
        refine tK 0 138 ?_ rfl rfl (by kernel_rfl) (fun _ _ _ h=>h) ⟨by rfl,?_⟩ hHeld ?_
        rotate_left
        ·(intro wx hSw;(try dsimp only at hSw);go_simp;try with_reducible rfl)
        simp only [yA,yB,yC]
        refine tK 1 139 ?_ rfl rfl (by kernel_rfl) (fun _ _ _ h=>h) ⟨by rfl,?_⟩ hHeld ?_
        rotate_left
        ·(intro wx hSw;(try dsimp only at hSw);go_simp;try with_reducible rfl)
        simp only [yA,yB,yC]
        refine tK 2 140 ?_ rfl rfl (by kernel_rfl) (fun _ _ _ h=>h) ⟨by rfl,?_⟩ hHeld ?_
        rotate_left
        ·(intro wx hSw;(try dsimp only at hSw);go_simp;try with_reducible rfl)
        simp only [yA,yB,yC]
        refine tK 3 141 ?_ rfl rfl (by kernel_rfl) (fun _ _ _ h=>h) ⟨by rfl,?_⟩ hHeld ?_
        rotate_left
        ·(intro wx hSw;(try dsimp only at hSw);go_simp;try with_reducible rfl)
        simp only [yA,yB,yC]
        refine tK 4 142 ?_ rfl rfl (by kernel_rfl) (fun _ _ _ h=>h) ⟨by rfl,?_⟩ hHeld ?_
        rotate_left
        ·(intro wx hSw;(try dsimp only at hSw);go_simp;try with_reducible rfl)
        simp only [yA,yB,yC]
        refine tK 5 143 ?_ rfl rfl (by kernel_rfl) (fun _ _ _ h=>h) ⟨by rfl,?_⟩ hHeld ?_
        rotate_left
        ·(intro wx hSw;(try dsimp only at hSw);go_simp;try with_reducible rfl)
        simp only [yA,yB,yC]
        refine tK 6 144 ?_ rfl rfl (by kernel_rfl) (fun _ _ _ h=>h) ⟨by rfl,?_⟩ hHeld ?_
        rotate_left
        ·(intro wx hSw;(try dsimp only at hSw);go_simp;try with_reducible rfl)
        simp only [yA,yB,yC]
        refine tK 7 145 ?_ rfl rfl (by kernel_rfl) (fun _ _ _ h=>h) ⟨by rfl,?_⟩ hHeld ?_
        rotate_left
        ·(intro wx hSw;(try dsimp only at hSw);go_simp;try with_reducible rfl)
        simp only [yA,yB,yC]
        refine tK 8 146 ?_ rfl rfl (by kernel_rfl) (fun _ _ _ h=>h) ⟨by rfl,?_⟩ hHeld ?_
        rotate_left
        ·(intro wx hSw;(try dsimp only at hSw);go_simp;try with_reducible rfl)
        simp only [yA,yB,yC]
        refine tK 9 147 ?_ rfl rfl (by kernel_rfl) (fun _ _ _ h=>h) ⟨by rfl,?_⟩ hHeld ?_
        rotate_left
        ·(intro wx hSw;(try dsimp only at hSw);go_simp;try with_reducible rfl)
        simp only [yA,yB,yC]
        refine tK 10 148 ?_ rfl rfl (by kernel_rfl) (fun _ _ _ h=>h) ⟨by rfl,?_⟩ hHeld ?_
        rotate_left
        ·(intro wx hSw;(try dsimp only at hSw);go_simp;try with_reducible rfl)
        simp only [yA,yB,yC]
        refine tK 11 149 ?_ rfl rfl (by kernel_rfl) (fun _ _ _ h=>h) ⟨by rfl,?_⟩ hHeld ?_
        rotate_left
        ·(intro wx hSw;(try dsimp only at hSw);go_simp;try with_reducible rfl)
        simp only [yA,yB,yC]
        refine wpAnyH_ready (rs:= [12]) (by kernel_rfl) (by simp) ?_
        refine AllReadyH.cons rfl (fun K hK=> ?_) AllReadyH.nil
        refine zaL _ rfl 43 Tryz.f43 Tryz.func43 (by decide) (Option.some_ne_none _) (.tmp 138) (.tmp 143) (.tmp 145) (.tmp 146) (.tmp 147) (.tmp 148) (.tmp 149) #[29,3,3,9,9,4,64] rfl (.agg #[v1,v2]) (.int .i64 q) (.int .i64 ((deep:Int)+1)) (.string x) (.string high) (.bool true) (.pointer (some ⟨ga,0,none⟩)) rfl rfl rfl rfl rfl rfl rfl _ (HCa.out x high true) ?_
        rintro e wB ⟨⟨rr,rfl⟩,bp,bg,bd,hal,hkp,hsb⟩;refine ⟨_,rfl,?_⟩;have HLn:=hide (HQd.out.step HDk.out hal hkp hsb)
        rw [HFin.out x high true (by rw [HLo.out];rfl) (by rw [nextB,nearB,decide_eq_true HLn1.out,<-HNx.out,lessB,HG3.out];rfl) (by rw [moreB,nearB,decide_eq_true HLn1.out,<-HNx.out,lessB,HG3.out];rfl)] at HLn
        have hSB:=HSw.out _ ⟨_,_,_,_,HLn.out⟩
        refine hK.out (Act.put _ (some 150) _) _ hSB (fun hHeld=> ?_)
        clear hK K hal hkp hsb
        simp only [Act.put,yA,yB,yC]
        refine wpAnyH_done (by kernel_rfl) ?_ _
        go_wp2_with fail
        go_roundg (gk - 1)
        case measure=>have:=HQi.out;omega
        case rel=>exact ⟨i+1,_,_,_,_,by have:=HQi.out;omega,by go_num,hide rfl,HLn⟩
     ·have hi3:¬((i:Int)+1<(lk:Int)):=by omega
      have hi5:decide ((i:Int)+1<(lk:Int))=false:=decide_eq_false hi3
      have HLn1:Hid (¬(i+1<n.ks.length)):=hide (by have:=HLk.out.1;omega)
      go_wp2_with fail
      refine wp_region_held_drew (S:=fun wx=>wx.cell? ⟨gb,0,none⟩=some v1/\wx.cell? ⟨gb,1,none⟩=some v2/\wx.cell? ⟨gn,3,none⟩=some (.slice (some ⟨gc,0,none⟩) lc c3)/\wx.cell? ⟨gc,i,none⟩=some (.int .i64 q)) (by kernel_rfl) hS0 (fun hHeld=> ?_)
      refine tK 0 138 ?_ rfl rfl (by kernel_rfl) (fun _ _ _ h=>h) ⟨by rfl,?_⟩ hHeld ?_
      rotate_left
      ·(intro wx hSw;(try dsimp only at hSw);go_simp;try with_reducible rfl)
      simp only [yA,yB,yC]
      refine tK 1 139 ?_ rfl rfl (by kernel_rfl) (fun _ _ _ h=>h) ⟨by rfl,?_⟩ hHeld ?_
      rotate_left
      ·(intro wx hSw;(try dsimp only at hSw);go_simp;try with_reducible rfl)
      simp only [yA,yB,yC]
      refine tK 2 140 ?_ rfl rfl (by kernel_rfl) (fun _ _ _ h=>h) ⟨by rfl,?_⟩ hHeld ?_
      rotate_left
      ·(intro wx hSw;(try dsimp only at hSw);go_simp;try with_reducible rfl)
      simp only [yA,yB,yC]
      refine tK 3 141 ?_ rfl rfl (by kernel_rfl) (fun _ _ _ h=>h) ⟨by rfl,?_⟩ hHeld ?_
      rotate_left
      ·(intro wx hSw;(try dsimp only at hSw);go_simp;try with_reducible rfl)
      simp only [yA,yB,yC]
      refine tK 4 142 ?_ rfl rfl (by kernel_rfl) (fun _ _ _ h=>h) ⟨by rfl,?_⟩ hHeld ?_
      rotate_left
      ·(intro wx hSw;(try dsimp only at hSw);go_simp;try with_reducible rfl)
      simp only [yA,yB,yC]
      refine tK 5 143 ?_ rfl rfl (by kernel_rfl) (fun _ _ _ h=>h) ⟨by rfl,?_⟩ hHeld ?_
      rotate_left
      ·(intro wx hSw;(try dsimp only at hSw);go_simp;try with_reducible rfl)
      simp only [yA,yB,yC]
      refine tK 6 144 ?_ rfl rfl (by kernel_rfl) (fun _ _ _ h=>h) ⟨by rfl,?_⟩ hHeld ?_
      rotate_left
      ·(intro wx hSw;(try dsimp only at hSw);go_simp;try with_reducible rfl)
      simp only [yA,yB,yC]
      refine tK 7 145 ?_ rfl rfl (by kernel_rfl) (fun _ _ _ h=>h) ⟨by rfl,?_⟩ hHeld ?_
      rotate_left
      ·(intro wx hSw;(try dsimp only at hSw);go_simp;try with_reducible rfl)
      simp only [yA,yB,yC]
      refine tK 8 146 ?_ rfl rfl (by kernel_rfl) (fun _ _ _ h=>h) ⟨by rfl,?_⟩ hHeld ?_
      rotate_left
      ·(intro wx hSw;(try dsimp only at hSw);go_simp;try with_reducible rfl)
      simp only [yA,yB,yC]
      refine tK 9 147 ?_ rfl rfl (by kernel_rfl) (fun _ _ _ h=>h) ⟨by rfl,?_⟩ hHeld ?_
      rotate_left
      ·(intro wx hSw;(try dsimp only at hSw);go_simp;try with_reducible rfl)
      simp only [yA,yB,yC]
      refine tK 10 148 ?_ rfl rfl (by kernel_rfl) (fun _ _ _ h=>h) ⟨by rfl,?_⟩ hHeld ?_
      rotate_left
      ·(intro wx hSw;(try dsimp only at hSw);go_simp;try with_reducible rfl)
      simp only [yA,yB,yC]
      refine tK 11 149 ?_ rfl rfl (by kernel_rfl) (fun _ _ _ h=>h) ⟨by rfl,?_⟩ hHeld ?_
      rotate_left
      ·(intro wx hSw;(try dsimp only at hSw);go_simp;try with_reducible rfl)
      simp only [yA,yB,yC]
      refine wpAnyH_ready (rs:= [12]) (by kernel_rfl) (by simp) ?_
      refine AllReadyH.cons rfl (fun K hK=> ?_) AllReadyH.nil
      refine zaL _ rfl 43 Tryz.f43 Tryz.func43 (by decide) (Option.some_ne_none _) (.tmp 138) (.tmp 143) (.tmp 145) (.tmp 146) (.tmp 147) (.tmp 148) (.tmp 149) #[29,3,3,9,9,4,64] rfl (.agg #[v1,v2]) (.int .i64 q) (.int .i64 ((deep:Int)+1)) (.string x) (.string high) (.bool has) (.pointer (some ⟨ga,0,none⟩)) rfl rfl rfl rfl rfl rfl rfl _ (HCa.out x high has) ?_
      rintro e wB ⟨⟨rr,rfl⟩,bp,bg,bd,hal,hkp,hsb⟩;refine ⟨_,rfl,?_⟩;have HLn:=hide (HQd.out.step HDk.out hal hkp hsb)
      rw [HFin.out x high has (by rw [HLo.out];rfl) (by rw [nextB,nearB,decide_eq_false HLn1.out];rfl) (by rw [moreB,nearB,decide_eq_false HLn1.out];rfl)] at HLn
      have hSB:=HSw.out _ ⟨_,_,_,_,HLn.out⟩
      refine hK.out (Act.put _ (some 150) _) _ hSB (fun hHeld=> ?_)
      clear hK K hal hkp hsb
      simp only [Act.put,yA,yB,yC]
      refine wpAnyH_done (by kernel_rfl) ?_ _
      go_wp2_with fail
      go_roundg (gk - 1)
      case measure=>have:=HQi.out;omega
      case rel=>exact ⟨i+1,_,_,_,_,by have:=HQi.out;omega,by go_num,hide rfl,HLn⟩
  ·have hil2:¬((i:Int)<(lk:Int)):=by omega
   have hik:i=lk:=by have:=HQi.out;omega
   go_wp2_with fail
   go_end0
   have e1:=HAi.out;have e2:=HLk.out.1;rw [hik,HB5.out,e2,hbad] at e1;rw [<-e1];exact ⟨⟨_,rfl⟩,_,_,_,HQ0.out.al,HQ0.out.kept,HQ0.out.sub⟩
end Go.Proofs.YtcbogiebfbbmbaaGreatDoor
