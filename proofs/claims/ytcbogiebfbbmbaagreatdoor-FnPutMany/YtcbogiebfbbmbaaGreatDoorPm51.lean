/-
  Facts and contracts that the law's own text rests on, by their texts' names: WalkAll, SpecTree, SpecShow, SamePr, SameNode, SameDiskN, TreePlJ, TreePlO.
-/
import Derived.BigQuiet
import Derived.Deep.RegionHeld3
import Derived.Test.YtcbogiebfbbmbaaGreatDoorPm46
import Derived.Test.YtcbogiebfbbmbaaGreatDoorPm9
import Derived.Test.YtcbogiebfbbmbaaGreatDoorPm1
import Derived.Test.YtcbogiebfbbmbaaGreatDoorPm50
import Derived.Laws.EntriesVeiled
import Derived.Sort.LoopGhostIn
import Derived.Test.YtcbogiebfbbmbaaGreatDoorPm31
import Derived.Test.YtcbogiebfbbmbaaGreatDoorPm27
import Derived.Test.YtcbogiebfbbmbaaGreatDoorPm10
import Derived.Test.YtcbogiebfbbmbaaGreatDoorPm29
import Derived.Test.YtcbogiebfbbmbaaGreatDoorPm38
import Derived.Laws.StructEq
import Derived.Test.YtcbogiebfbbmbaaGreatDoorPm48
import Derived.Test.YtcbogiebfbbmbaaGreatDoorPm4
import Derived.Deep.AppendLies
import Derived.Deep.Cut
import Derived.Deep.RegionHeldLaw
import Derived.Deep.RegionLaw
import Derived.Test.YtcbogiebfbbmbaaGreatDoorPm13
import Derived.Test.YtcbogiebfbbmbaaGreatDoorPm35
import Derived.Test.YtcbogiebfbbmbaaGreatDoorPm7
import Derived.Test.YtcbogiebfbbmbaaGreatDoorPm49
import Derived.Test.YtcbogiebfbbmbaaGreatDoorPm21
import Derived.Test.YtcbogiebfbbmbaaGreatDoorPm5
import Derived.Test.YtcbogiebfbbmbaaGreatDoorPm37
import Derived.Test.YtcbogiebfbbmbaaGreatDoorPm25
import Derived.Test.YtcbogiebfbbmbaaGreatDoorPm40
import Derived.Test.YtcbogiebfbbmbaaGreatDoorPm47
import Derived.Deep.RegionHeld
set_option maxHeartbeats 16000000
set_option maxRecDepth 100000
namespace Go.Proofs.YtcbogiebfbbmbaaGreatDoor
open Go.RowKit
theorem zey (ps:List ByteArray) (ls:List (Int×ByteArray)):Right (fun q=>rdN (readD ps ls q)):=fun p h=>by
 have:rdN (readD ps ls p)=((rdN (readD ps ls p)).1,true):=by rw [<-h]
 exact zh1 this
theorem inC:InC:=fun l hl x v w h=>zlQ l hl x v w h
theorem zkE (ps:List ByteArray) (ls:List (Int×ByteArray)) (hp:ps.length<=1048576) (hl:ls.length<=1048576) (hps:∀s∈ps,s.size<=1048576) (hls:∀p∈ls,p.2.size<=1048576) (v1 v2:Value) (ga:Nat) (hdk:∀k,diskBlocks (.agg #[v1,v2]) k->k<ga):
  ∀(k:Nat) (p:Int) (deep:Nat) (low high:ByteArray) (has:Bool) (a:Al) (vp vg vd:Value) (W:World),deep+k=8->DiskAt W (.agg #[v1,v2]) ps ls->AlIs W ga a vp vg vd->(a.pages.length+cntK k<=100000/\a.pairs.length+4 * cntK k<=400000/\a.depths.length+cntK k<=100000)->
   Calls Tryz.prog 43 #[.agg #[v1,v2],.int .i64 p,.int .i64 (deep:Int),.string low,.string high,.bool has,.pointer (some ⟨ga,0,none⟩)] W fun e W'=>(∃r,e= .returned r)/\WkPost W ga (walkS (fun q=>rdN (readD ps ls q)) k p deep low high has a) vp vg vd W'
 | 0,p,deep,low,high,has,a,vp,vg,vd,W,hk,hd,hA,hb=>by
  rw [walkS]
  exact ziM inC ps ls hp hl hps hls v1 v2 p deep low high has a ga vp vg vd W hd hA (by omega) (Or.inr (Or.inl (by omega)))
 | k+1,p,deep,low,high,has,a,vp,vg,vd,W,hk,hd,hA,hb=>by
  rw [walkS];have hc:cntK (k+1)=1+4 * cntK k:=rfl;rw [hc] at hb
  by_cases hs:(rdN (readD ps ls p)).2=false\/p∈a.pages\/a.bad=true
  ·rw [if_pos hs]
   exact ziM inC ps ls hp hl hps hls v1 v2 p deep low high has a ga vp vg vd W hd hA (by omega) (by rcases hs with h | h | h;exact Or.inl h;exact Or.inr (Or.inr (Or.inl h));exact Or.inr (Or.inr (Or.inr h)))
  ·rw [if_neg hs]
   have h1:(rdN (readD ps ls p)).2=true:=by cases h:(rdN (readD ps ls p)).2;exact absurd (Or.inl h) hs;rfl
   have h2:¬p∈a.pages:=fun h=>hs (Or.inr (Or.inl h))
   have h3:a.bad=false:=by cases h:a.bad;rfl;exact absurd (Or.inr (Or.inr h)) hs
   cases hlf:(rdN (readD ps ls p)).1.lf with
   | true=>
    rw [if_pos rfl]
    exact zmb inC ps ls hp hl hps hls v1 v2 p deep low high has a ga vp vg vd W hd hdk hA (by omega) h1 (by omega) h2 h3 hlf _
   | false=>
    rw [if_neg (by decide)]
    refine zmM inC ps ls hp hl hps hls v1 v2 p deep low high has a ga vp vg vd W hd hdk hA (by omega) h1 (by omega) h2 h3 hlf _ (cntK k) ?_ ?_
    ·intro q lo hi h b xp xg xd X hdX hAX hbX
     have:=zkE ps ls hp hl hps hls v1 v2 ga hdk k q (deep+1) lo hi h b xp xg xd X (by omega) hdX hAX hbX
     have e:((deep+1:Nat):Int)=(deep:Int)+1:=by omega
     rw [e] at this;exact this
    ·intro i hi
     have hok:=zey ps ls p h1;obtain ⟨-,c2,-,-⟩:=zaP (zan hok).1;have c4:(rdN (readD ps ls p)).1.ks.length<=4:=c2
     obtain ⟨l1,l2,l3⟩:=ziK (fun q=>rdN (readD ps ls q)) (zey ps ls) k (rdN (readD ps ls p)).1 hlf deep low high has {a with pages:=a.pages++ [p]} i
     have hm:(i+1) * cntK k<=4 * cntK k:=Nat.mul_le_mul_right _ (by omega)
     rw [Nat.succ_mul] at hm
     simp only [List.length_append,List.length_singleton] at l1 l2 l3
     exact ⟨by omega,by omega,by omega⟩
theorem cntK8:cntK 8=21845:=by decide
theorem zkF (ps:List ByteArray) (ls:List (Int×ByteArray)) (hp:ps.length<=1048576) (hl:ls.length<=1048576) (hps:∀s∈ps,s.size<=1048576) (hls:∀p∈ls,p.2.size<=1048576) (v:Value) (root:Int) (w:World) (hd:DiskAt w v ps ls) (hdk:∀k,diskBlocks v k->k<w.heap.size):
  Calls Tryz.prog 28 #[v,.int .i64 root] w fun e w'=>∃ga vp vg vd,e= .returned (.pointer (some ⟨ga,0,none⟩))/\w.heap.size<=ga/\AlIs w' ga (seenS (fun q=>rdN (readD ps ls q)) root) vp vg vd/\Below w.heap.size w w':=by
 obtain ⟨v1,v2,rfl,-,-⟩:=id hd;obtain ⟨w0,hw0⟩:∃w0,w0=(w.alloc (.cells #[v1,v2] 29 (0,0))).alloc (.cells #[.slice none 0 0,.slice none 0 0,.slice none 0 0,.bool false,.bool false] 67 (0,0)):=⟨_,rfl⟩;obtain ⟨t1,t2,t3⟩:=zaQ w (.cells #[v1,v2] 29 (0,0)) (.cells #[.slice none 0 0,.slice none 0 0,.slice none 0 0,.bool false,.bool false] 67 (0,0));rw [<-hw0] at t1 t2 t3
 have hb0:Below w.heap.size w w0:=by rw [hw0];exact ((Below.refl _ _).alloc (Nat.le_refl _) _).alloc (by simp) _
 obtain ⟨ga,hga⟩:∃g,g=w.heap.size+1:=⟨_,rfl⟩;rw [<-hga] at t2
 have hA0:AlIs w0 ga Al.none (.slice none 0 0) (.slice none 0 0) (.slice none 0 0):=⟨t2,World.ownsRow_nil _ _ _ _,World.ownsRow_nil _ _ _ _,World.ownsRow_nil _ _ _ _,fun k e=>by cases e⟩
 have HA0:=hide hA0;have HB0:=hide hb0;have HG:=hide hga
 by_cases hz:root=0
 ·have HF:Hid (seenS (fun q=>rdN (readD ps ls q)) root=Al.none):=hide (by rw [seenS,if_pos hz])
  subst hz;clear hA0 hb0 t1 t2 t3 hd hdk hp hl hps hls;go_enter Tryz.func28,Tryz.ntmps28;go_wp2_with fail;rw [<-hw0];go_ret;rw [<-hga]
  exact ⟨ga,_,_,_,rfl,by have:=HG.out;omega,by rw [HF.out];exact HA0.out,HB0.out⟩
 ·have HF:Hid (seenS (fun q=>rdN (readD ps ls q)) root=walkS (fun q=>rdN (readD ps ls q)) 8 root 0 ⟨#[]⟩ ⟨#[]⟩ false Al.none):=hide (by rw [seenS,if_neg hz])
  have HW:=hide (zkE ps ls hp hl hps hls v1 v2 ga (fun k hk=>by have:=hdk k hk;omega) 8 root 0 ⟨#[]⟩ ⟨#[]⟩ false Al.none _ _ _ w0 (by omega) (zak hd hb0) hA0 (by rw [cntK8];decide))
  have hzb:(root !=0)=true:=by simp [hz]
  have p0:=(za0 t1 0).1;have p1:=(za0 t1 1).1;clear hA0 hb0 t1 t2 t3 hd hdk hp hl hps hls hz;go_enter Tryz.func28,Tryz.ntmps28;go_wp2_with fail;rw [<-hw0,<-hga];clear hw0 hga;refine HW.out.mono ?_;rintro e w1 ⟨⟨r,rfl⟩,vp,vg,vd,hal,hkp,-⟩;have HAl:=hide hal
  have HB1:Hid (Below w.heap.size w w1):=hide (HB0.out.trans (zaG hkp (fun k hk=>by have:=(al_lt HA0.out k hk).1;have:=HG.out;omega) HB0.out.size))
  clear hal hkp;go_wp2_with fail;go_ret
  exact ⟨ga,vp,vg,vd,rfl,by have:=HG.out;omega,by rw [HF.out];exact HAl.out,HB1.out⟩
def allO (r:List (ByteArray×ByteArray)×Bool) (w w':World) (e:Ending):Prop:=∃v,e= .returned (.tuple #[v,.bool r.2])/\w'.ownsRow w.heap.size 41 2 v r.1.length (prs r.1)/\Below w.heap.size w w'
theorem zfd (ps:List ByteArray) (ls:List (Int×ByteArray)) (hp:ps.length<=1048576) (hl:ls.length<=1048576) (hps:∀s∈ps,s.size<=1048576) (hls:∀p∈ls,p.2.size<=1048576) (v:Value) (root:Int) (w:World) (hd:DiskAt w v ps ls) (hdk:∀k,diskBlocks v k->k<w.heap.size):
  Calls Tryz.prog 27 #[v,.int .i64 root] w fun e w'=>allO (allS (fun q=>rdN (readD ps ls q)) root) w w' e:=by
 obtain ⟨v1,v2,rfl,-,-⟩:=id hd;obtain ⟨w0,hw0⟩:∃w0,w0=w.alloc (.cells #[v1,v2] 29 (0,0)):=⟨_,rfl⟩
 have hb0:Below w.heap.size w w0:=by rw [hw0];exact (Below.refl _ _).alloc (Nat.le_refl _) _
 have HB0:=hide hb0
 have HL:=hide (zkF ps ls hp hl hps hls (.agg #[v1,v2]) root w0 (zak hd hb0) (fun k hk=>Nat.lt_of_lt_of_le (hdk k hk) hb0.size))
 obtain ⟨R,hR⟩:∃R,R=(fun q=>rdN (readD ps ls q)):=⟨_,rfl⟩
 rw [<-hR] at HL⊢;clear hp hl hps hls hd hdk hb0 hR;go_enter Tryz.func27,Tryz.ntmps27;go_wp2_with fail;rw [<-hw0];clear hw0;refine HL.out.mono ?_;rintro e w1 ⟨ga,vp,vg,vd,rfl,hga,hal,hb1⟩;have HB1:Hid (Below w.heap.size w w1):=hide (HB0.out.trans (hb1.mono HB0.out.size));have HAl:=hide hal;have HG:Hid (w.heap.size<=ga):=hide (Nat.le_trans HB0.out.size hga);have q0:=(za0 hal.1 0).1;have q3:=(za0 hal.1 3).1
 have HAs:Hid (allS R root=if (seenS R root).bad=true then ([],false) else ((seenS R root).pairs,true)):=hide rfl
 obtain ⟨bad,hbad⟩:∃b,b=(seenS R root).bad:=⟨_,rfl⟩;rw [<-hbad] at q3;have HBd:=hide hbad;clear hal hb1 hga hbad
 cases bad with
 | true=>
  go_wp2_with fail;go_ret2;rw [HAs.out,if_pos HBd.out.symm]
  have hown:(w1.alloc (Obj.cells #[] 41)).ownsRow w.heap.size 41 2 (.slice (some ⟨w1.heap.size,0,none⟩) 0 0) 0 []:=by simpa using World.ownsRow_lit (base:=w.heap.size) (e:=41) (size:=2) w1 #[] 0 HB1.out.size (by unfold maxLen;omega) (by simp)
  exact ⟨_,rfl,hown,HB1.out.alloc HB1.out.size _⟩
 | false=>
  go_wp2_with fail;go_ret2
  rw [HAs.out,if_neg (by rw [<-HBd.out];decide)]
  exact ⟨vp,rfl,zaa HAl.out.2.1 (by have:=HG.out;omega),HB1.out⟩
open Go.RowKit
theorem zmN {w:World} {B e sz n:Nat} {v:Value} {xs:List Value} (h:w.ownsRow B e sz v n xs):n<=maxLen:=by
 rcases h.2 with ⟨_,h0⟩ | ⟨g,cap,cur,_,_,_,h1,h2,_⟩
 ·rw [h0];exact Nat.zero_le _
 ·exact Nat.le_trans h1 h2
theorem zmO (l:List (ByteArray×ByteArray)):upB l=true↔∀i,i<l.length->0<i->lessB (l.getD (i - 1) (⟨#[]⟩,⟨#[]⟩)).1 (l.getD i (⟨#[]⟩,⟨#[]⟩)).1=true:=by simp only [upB,decide_eq_true_eq]
theorem zj2 (l:List Int):evenB l=true↔∀i,i<l.length->0<i->l.getD i 0=l.getD 0 0:=by simp only [evenB,decide_eq_true_eq]
theorem zkG (l:List (ByteArray×ByteArray)) (k:Nat) (h:k<l.length):(prs l)[k * 2]?=some (.string (l.getD k (⟨#[]⟩,⟨#[]⟩)).1):=by
 rw [(prs_at l k h).1];simp [List.getD_eq_getElem?_getD,h]
theorem zgM (ps:List ByteArray) (ls:List (Int×ByteArray)) (hp:ps.length<=1048576) (hl:ls.length<=1048576) (hps:∀s∈ps,s.size<=1048576) (hls:∀p∈ls,p.2.size<=1048576) (v:Value) (root:Int) (w:World) (hd:DiskAt w v ps ls) (hdk:∀k,diskBlocks v k->k<w.heap.size):
  Calls Tryz.prog 13 #[v,.int .i64 root] w fun e w'=>e= .returned (.bool (treeS (fun q=>rdN (readD ps ls q)) root))/\Below w.heap.size w w':=by
 obtain ⟨v1,v2,rfl,-,-⟩:=id hd;obtain ⟨w0,hw0⟩:∃w0,w0=w.alloc (.cells #[v1,v2] 29 (0,0)):=⟨_,rfl⟩
 have hb0:Below w.heap.size w w0:=by rw [hw0];exact (Below.refl _ _).alloc (Nat.le_refl _) _
 have HB0:=hide hb0
 have HL:=hide (zkF ps ls hp hl hps hls (.agg #[v1,v2]) root w0 (zak hd hb0) (fun k hk=>Nat.lt_of_lt_of_le (hdk k hk) hb0.size))
 obtain ⟨A,hA⟩:∃A,A=seenS (fun q=>rdN (readD ps ls q)) root:=⟨_,rfl⟩
 have HT:Hid (treeS (fun q=>rdN (readD ps ls q)) root=(!(A.bad || A.loose) && upB A.pairs && evenB A.depths)):=hide (by rw [hA];rfl)
 rw [<-hA] at HL;rw [HT.out];clear hp hl hps hls hd hdk hb0 hA HT;obtain ⟨pr,pg,dp,bad,loose⟩:=A
 show Calls _ _ _ _ (fun e w'=>e= .returned (.bool (!(bad || loose) && upB pr && evenB dp))/\_)
 go_enter Tryz.func13,Tryz.ntmps13;go_wp2_with fail;rw [<-hw0];clear hw0;refine HL.out.mono ?_;rintro e w1 ⟨ga,vp,vg,vd,rfl,hga,hal,hb1⟩;have HB1:Hid (Below w.heap.size w w1):=hide (HB0.out.trans (hb1.mono HB0.out.size));have HP:Hid (w1.ownsRow (ga+1) 41 2 vp pr.length (prs pr)):=hide hal.2.1;have HDp:Hid (w1.ownsRow (ga+1) 3 1 vd dp.length (ints dp)):=hide hal.2.2.2.1;obtain ⟨xp,cp,rfl⟩:=za4 HP.out;obtain ⟨xd,cd,rfl⟩:=za4 HDp.out;have q0:w1.cell? ⟨ga,0,none⟩=some (.slice xp pr.length cp):=(za0 hal.1 0).1;have q2:w1.cell? ⟨ga,2,none⟩=some (.slice xd dp.length cd):=(za0 hal.1 2).1;have q3:w1.cell? ⟨ga,3,none⟩=some (.bool bad):=(za0 hal.1 3).1;have q4:w1.cell? ⟨ga,4,none⟩=some (.bool loose):=(za0 hal.1 4).1;have hpl:=zmN HP.out;have hdl:=zmN HDp.out;unfold maxLen at hpl hdl;clear hal hb1 hga HL HB0
 cases bad with
 | true=>
  go_wp2_with fail;go_ret;exact ⟨rfl,HB1.out⟩
 | false=>
  cases loose with
  | true=>
   go_wp2_with fail;go_ret;exact ⟨rfl,HB1.out⟩
  | false=>
   go_wp2_with fail
   go_loopg [6] pr.length (fun q iv wr=>∃(i:Nat),1<=i/\i<=pr.length+1/\q+i=pr.length+1/\iv= .int .i64 (i:Int)/\Hid (∀k,k<i->k<pr.length->0<k->lessB (pr.getD (k - 1) (⟨#[]⟩,⟨#[]⟩)).1 (pr.getD k (⟨#[]⟩,⟨#[]⟩)).1=true)/\Hid ((∀a,wr.cell? a=w1.cell? a)/\Below w.heap.size w wr))
   case atStart=>exact ⟨1,Nat.le_refl _,by omega,rfl,rfl,hide (fun k h1 h2 h3=>by omega),hide ⟨fun _=>rfl,HB1.out⟩⟩
   case round=>
    obtain ⟨i,hi1,hi2,hq,rfl,HU,HW⟩:=hrel
    have e0:wr.cell? ⟨ga,0,none⟩=some (.slice xp pr.length cp):=by rw [HW.out.1];exact q0
    have e2:wr.cell? ⟨ga,2,none⟩=some (.slice xd dp.length cd):=by rw [HW.out.1];exact q2
    have HQ:=hide hq;have HE2:=hide q2;clear hq q0 q3 q4
    by_cases hlt:i<pr.length
    ·obtain ⟨g,rfl⟩:∃g,xp=some ⟨g,0,none⟩:=by
      rcases HP.out.2 with ⟨e,h0⟩ | ⟨g,cc,cur,e,_⟩
      ·omega
      ·injection e with e1;exact ⟨g,e1⟩
     obtain ⟨j,rfl⟩:∃j,i=j+1:=⟨i - 1,by omega⟩
     obtain ⟨x,hx⟩:∃x,x=(pr.getD j (⟨#[]⟩,⟨#[]⟩)).1:=⟨_,rfl⟩;obtain ⟨y,hy⟩:∃y,y=(pr.getD (j+1) (⟨#[]⟩,⟨#[]⟩)).1:=⟨_,rfl⟩
     have c0:wr.cell? ⟨g,j * 2,none⟩=some (.string x):=by rw [HW.out.1,hx,<-zkG pr j (by omega)];exact HP.out.cellAt (j * 2) (by omega)
     have c1:wr.cell? ⟨g,(j+1) * 2,none⟩=some (.string y):=by rw [HW.out.1,hy,<-zkG pr (j+1) hlt];exact HP.out.cellAt ((j+1) * 2) (by omega)
     obtain ⟨b,hb⟩:∃b,Op.bytesLess x.toList y.toList=b:=⟨_,rfl⟩
     have HN:Hid (lessB (pr.getD j (⟨#[]⟩,⟨#[]⟩)).1 (pr.getD (j+1) (⟨#[]⟩,⟨#[]⟩)).1=b):=hide (by rw [<-hx,<-hy];exact hb)
     have hj0:(0:Int)<=(j:Int):=by omega
     have hj1:(j:Int)+1<(pr.length:Int):=by omega
     have hj2:(j:Int)<(pr.length:Int):=by omega
     clear hx hy
     cases b with
     | true=>
      go_wp2_with fail
      go_quiet (fail)
      go_wp2_with fail
      go_roundg (gk - 1)
      case measure=>have:=HQ.out;omega
      case rel=>exact ⟨j+1+1,by omega,by omega,by have:=HQ.out;omega,by go_num,hide (fun k h1 h2 h3=>by
       by_cases e:k=j+1
       ·subst e;exact HN.out
       ·exact HU.out k (by omega) h2 h3),hide ⟨fun a=>HW.out.1 a,below_drewN HW.out.2 _⟩⟩
     | false=>
      go_wp2_with fail
      go_quiet (fail)
      go_wp2_with fail;go_ret
      have hno:upB pr=false:=by
       cases hu:upB pr with
       | false=>rfl
       | true=>have h:=(zmO pr).1 hu (j+1) hlt (by omega);rw [show j+1 - 1=j from rfl,HN.out] at h;cases h
      exact ⟨by rw [hno];simp,below_drewN HW.out.2 _⟩
    ·have HUp:Hid (upB pr=true):=hide ((zmO pr).2 fun k h1 h2=>HU.out k (by omega) h1 h2)
     clear HU HP;go_wp2_with fail;clear e0
     go_loopg [7] dp.length (fun q iv wq=>∃(i:Nat),1<=i/\i<=dp.length+1/\q+i=dp.length+1/\iv= .int .i64 (i:Int)/\Hid (∀k,k<i->k<dp.length->0<k->dp.getD k 0=dp.getD 0 0)/\Hid ((∀a,wq.cell? a=w1.cell? a)/\Below w.heap.size w wq))
     case atStart=>exact ⟨1,Nat.le_refl _,by omega,rfl,rfl,hide (fun k h1 h2 h3=>by omega),HW⟩
     case round=>
      clear HW HQ e2;obtain ⟨i,hi1,hi2,hq,rfl,HU,HW⟩:=hrel
      have e2:wr.cell? ⟨ga,2,none⟩=some (.slice xd dp.length cd):=by rw [HW.out.1];exact HE2.out
      have HQ:=hide hq;clear hq
      by_cases hlt:i<dp.length
      ·obtain ⟨g,rfl⟩:∃g,xd=some ⟨g,0,none⟩:=by
        rcases HDp.out.2 with ⟨e,h0⟩ | ⟨g,cc,cur,e,_⟩
        ·omega
        ·injection e with e1;exact ⟨g,e1⟩
       obtain ⟨x,hx⟩:∃x,x=dp.getD i 0:=⟨_,rfl⟩;obtain ⟨z,hz⟩:∃z,z=dp.getD 0 0:=⟨_,rfl⟩
       have c1:wr.cell? ⟨g,i,none⟩=some (.int .i64 x):=by rw [HW.out.1,hx,<-zfT hlt];exact HDp.out.cellAt i (by omega)
       have c0:wr.cell? ⟨g,0,none⟩=some (.int .i64 z):=by rw [HW.out.1,hz,<-zfT (by omega)];exact HDp.out.cellAt 0 (by omega)
       have hi0:(0:Int)<=(i:Int):=by omega
       have hil:(i:Int)<(dp.length:Int):=by omega
       have hd0:(0:Int)<(dp.length:Int):=by omega
       have HX:=hide hx;have HZ:=hide hz;clear hx hz
       by_cases hxz:x=z
       ·have HN:Hid (dp.getD i 0=dp.getD 0 0):=hide (by rw [<-HX.out,<-HZ.out];exact hxz)
        subst hxz;go_wp2_with fail
        go_quiet (fail)
        go_wp2_with fail
        go_roundg (gk - 1)
        case measure=>have:=HQ.out;omega
        case rel=>exact ⟨i+1,by omega,by omega,by have:=HQ.out;omega,by go_num,hide (fun k h1 h2 h3=>by
         by_cases e:k=i
         ·subst e;exact HN.out
         ·exact HU.out k (by omega) h2 h3),hide ⟨fun a=>HW.out.1 a,below_drewN HW.out.2 _⟩⟩
       ·have hne:(x !=z)=true:=by simp [hxz]
        go_wp2_with fail
        go_quiet (fail)
        go_wp2_with fail;go_ret
        have hno:evenB dp=false:=by
         cases hu:evenB dp with
         | false=>rfl
         | true=>exact absurd (by rw [HX.out,HZ.out];exact (zj2 dp).1 hu i hlt (by omega)) hxz
        exact ⟨by rw [hno];simp,below_drewN HW.out.2 _⟩
      ·have HEv:Hid (evenB dp=true):=hide ((zj2 dp).2 fun k h1 h2=>HU.out k (by omega) h1 h2)
       go_wp2_with fail;go_ret
       exact ⟨by rw [HUp.out,HEv.out];rfl,HW.out.2⟩
open Go.RowKit
theorem ba_inj {x y:ByteArray} (h:x.toList=y.toList):x=y:=by
 rw [ByteArray.toList_eq,ByteArray.toList_eq] at h;exact ByteArray.ext (Array.toList_inj.1 h)
theorem eqPairA (a b c d:ByteArray) (w:World):(Op.equalIn 10000 41 (.agg #[.string a,.string b]) (.agg #[.string c,.string d])).run Tryz.prog w= .ok (a.toList ==c.toList && b.toList ==d.toList) w:=by
 have u9:=Tryz.underlying9;have a9:=Tryz.isAgg9;have z9:=Tryz.sizeOf9
 have hS:Tryz.prog.underlying 41=some (.struct (Tryz.prog.fieldsOf 41)):=by kernel_rfl
 rw [show (10000:Nat)=9999+1 from rfl,run_equalIn_agg w 9999 41 _ _ hS (by kernel_rfl)]
 simp only [Program.fieldsOf,Tryz.underlying41]
 go_simp
 by_cases h1:a.toList=c.toList <;> by_cases h2:b.toList=d.toList <;> simp [h1,h2]
open Go.RowKit
theorem zeV (L L2:List (ByteArray×ByteArray)) (hl:L.length<=1200000) (hl2:L2.length<=1200000) (v v2:Value) (w:World) (hr:RowAt w 2 v L.length (prq L)) (hr2:RowAt w 2 v2 L2.length (prq L2)):
  Calls Tryz.prog 11 #[v,v2] w fun e w'=>e= .returned (.bool (decide (L=L2)))/\Below w.heap.size w w':=by
 obtain ⟨hlen,a,cap,rfl,hrow⟩:=hr;obtain ⟨hlen2,a2,cap2,rfl,hrow2⟩:=hr2
 have HC:=hide (fun (wr:World) (hb:Below w.heap.size w wr) (k:Nat) (hk:k<L.length) (p:ByteArray×ByteArray) (hp:L[k]?=some p)=>zcF (⟨hlen,a,cap,rfl,hrow⟩:RowAt w 2 (.slice a L.length cap) L.length (prq L)) hb hk hp)
 have HC2:=hide (fun (wr:World) (hb:Below w.heap.size w wr) (k:Nat) (hk:k<L2.length) (p:ByteArray×ByteArray) (hp:L2[k]?=some p)=>zcF (⟨hlen2,a2,cap2,rfl,hrow2⟩:RowAt w 2 (.slice a2 L2.length cap2) L2.length (prq L2)) hb hk hp)
 obtain ⟨n,hn⟩:∃n,L.length=n:=⟨_,rfl⟩;obtain ⟨n2,hn2⟩:∃n,L2.length=n:=⟨_,rfl⟩;have HN:=hide (⟨hn,hn2⟩:_/\_);rw [hn] at HC hl;rw [hn2] at HC2 hl2;rw [hn,hn2];clear hn hrow hlen hn2 hrow2 hlen2
 by_cases hnn:n=n2
 rotate_left
 ·have d1:((n:Int) !=(n2:Int))=true:=by simp;omega
  have HF:Hid (decide (L=L2)=false):=hide (decide_eq_false fun e=>hnn (by rw [<-HN.out.1,<-HN.out.2,e]))
  clear hnn;go_enter Tryz.func11,Tryz.ntmps11
  go_wp2
  go_ret;rw [HF.out];exact ⟨rfl,Below.refl _ _⟩
 subst hnn
 have d1:((n:Int) !=(n:Int))=false:=by simp
 go_enter Tryz.func11,Tryz.ntmps11
 go_wp2
 go_loopg [5] n (fun q iv wr=>∃(i:Nat),i<=n/\q+i=n/\iv= .int .i64 (i:Int)/\Hid (L.take i=L2.take i)/\Hid (Below w.heap.size w wr))
 case atStart=>exact ⟨0,Nat.zero_le _,rfl,rfl,hide rfl,hide (Below.refl _ _)⟩
 case round=>
  obtain ⟨i,hin,hq,rfl,HT,HB⟩:=hrel;have HQ:=hide hq;clear hq
  by_cases hlt:i<n
  ·obtain ⟨p,hp⟩:∃p,L[i]?=some p:=⟨L[i]'(by have:=HN.out;omega),List.getElem?_eq_getElem _⟩
   obtain ⟨p2,hp2⟩:∃p,L2[i]?=some p:=⟨L2[i]'(by have:=HN.out;omega),List.getElem?_eq_getElem _⟩
   obtain ⟨x,y⟩:=p;obtain ⟨x2,y2⟩:=p2;obtain ⟨g,off,rfl,c0,c1⟩:=HC.out wr HB.out i hlt (x,y) hp;obtain ⟨g2,off2,rfl,e0,e1⟩:=HC2.out wr HB.out i hlt (x2,y2) hp2
   have hi0:(0:Int)<=(i:Int):=by omega
   have hi1:(i:Int)<(n:Int):=by omega
   have HPp:=hide (⟨hp,hp2⟩:_/\_)
   have hS:=fun wx=>eqPairA x y x2 y2 wx
   have hS3:Tryz.prog.eqGuardType Tryz.prog.depth 41=false:=by kernel_rfl
   obtain ⟨t,ht⟩:∃t,(x.toList ==x2.toList && y.toList ==y2.toList)=t:=⟨_,rfl⟩;rw [ht] at hS;have HTt:=hide ht;clear ht;clear hp hp2;go_wp2_with fail
   go_quiet (fail)
   cases t with
   | true=>
    go_wp2_with fail
    go_roundg (gk - 1)
    case measure=>have:=HQ.out;omega
    case rel=>exact ⟨i+1,by omega,by have:=HQ.out;omega,by go_num,hide (by
     have h:=HTt.out;rw [Bool.and_eq_true] at h;have e1:=ba_inj (eq_of_beq h.1);have e2:=ba_inj (eq_of_beq h.2)
     rw [zdK L i _ HPp.out.1,zdK L2 i _ HPp.out.2,HT.out,e1,e2]),hide (below_drewN HB.out _)⟩
   | false=>
    have HF:Hid (decide (L=L2)=false):=hide (decide_eq_false fun e=>by
     have h1:=HPp.out.1;rw [e,HPp.out.2] at h1
     injection h1 with h1
     injection h1 with h1 h2
     have h:=HTt.out;rw [h1,h2] at h
     simp at h)
    go_wp2_with fail;go_ret;rw [HF.out];exact ⟨rfl,below_drewN HB.out _⟩
  ·obtain rfl:i=n:=by omega
   have HF:Hid (decide (L=L2)=true):=hide (decide_eq_true (by have h:=HT.out;rw [List.take_of_length_le (by rw [HN.out.1];exact Nat.le_refl _),List.take_of_length_le (by rw [HN.out.2];exact Nat.le_refl _)] at h;exact h))
   go_wp2
   go_ret;rw [HF.out];exact ⟨rfl,HB.out⟩
open Go.RowKit
theorem zcW (l m:List Int) (hl:l.length<=9223372036854775807) (_hm:m.length<=9223372036854775807) (v u:Value) (w:World) (hr:RowAt w 1 v l.length (ints l)) (hq:RowAt w 1 u m.length (ints m)):
  Calls Tryz.prog 30 #[v,u] w fun e w'=>e= .returned (.bool (decide (l=m)))/\Below w.heap.size w w':=by
 obtain ⟨-,a,cap,rfl,h2⟩:=hr;obtain ⟨-,a',cap',rfl,h3⟩:=hq;have HR:=hide h2;have HQ:=hide h3;clear h2 h3
 by_cases hne:l.length=m.length
 ·have HN:=hide hne
  rw [<-hne];clear hne;go_enter Tryz.func30,Tryz.ntmps30
  go_wp2
  go_loopg [5] l.length (fun q iv wr=>∃k:Nat,k<=l.length/\iv= .int .i64 (k:Int)/\q+k=l.length/\Hid (l.take k=m.take k)/\Below w.heap.size w wr)
  case atStart=>exact ⟨0,Nat.zero_le _,rfl,rfl,hide (by simp),Below.refl _ _⟩
  case round=>
   obtain ⟨k,hk,rfl,hg,HT,hb⟩:=hrel;have HG:=hide hg;clear hg
   by_cases hlt:k<l.length
   ·rcases HR.out with hn0 | ⟨b,off,rfl,hbl,hc⟩
    ·omega
    ·rcases HQ.out with hn0 | ⟨b',off',rfl,hbl',hc'⟩
     ·have:=HN.out;omega
     ·have hltm:k<m.length:=by have:=HN.out;omega
      obtain ⟨x,hx⟩:∃x,x=l[k]:=⟨_,rfl⟩;obtain ⟨y,hy⟩:∃y,y=m[k]:=⟨_,rfl⟩
      have hcx:wr.cell? ⟨b,off+k,none⟩=some (.int .i64 x):=by rw [hb.cell (by exact hbl),hc k (by omega),ints_at l k hlt,hx]
      have hcy:wr.cell? ⟨b',off'+k,none⟩=some (.int .i64 y):=by rw [hb.cell (by exact hbl'),hc' k (by omega),ints_at m k hltm,hy]
      have HX:=hide hx;have HY:=hide hy
      have hk0:(0:Int)<=(k:Int):=by omega
      have hk1:(k:Int)<(l.length:Int):=by omega
      clear hc hc' hx hy
      by_cases hxy:x=y
      ·have HT2:Hid (l.take (k+1)=m.take (k+1)):=hide (by rw [List.take_succ_eq_append_getElem hlt,List.take_succ_eq_append_getElem hltm,HT.out,<-HX.out,<-HY.out,hxy])
       subst hxy
       have hbq:(x !=x)=false:=by simp
       go_wp2
       go_quiet (fail)
       go_wp2
       go_roundg (gk - 1)
       case measure=>have:=HG.out;omega
       case rel=>exact ⟨k+1,by omega,by go_num,by have:=HG.out;omega,HT2,below_drewN hb _⟩
      ·have HD:=hide (zls hlt hltm (by rw [<-HX.out,<-HY.out];exact hxy))
       have hbq:(x !=y)=true:=by simp [hxy]
       have hbr:(x ==y)=false:=by simp [hxy]
       go_wp2
       go_quiet (fail)
       go_wp2
       go_ret;rw [HD.out];exact ⟨rfl,below_drewN hb _⟩
   ·have HD:Hid (decide (l=m)=true):=hide (decide_eq_true (by
     have h1:=HT.out
     rw [List.take_of_length_le (by omega),List.take_of_length_le (by have:=HN.out;omega)] at h1
     exact h1))
    go_wp2
    go_ret;rw [HD.out];exact ⟨rfl,hb⟩
 ·have HD:Hid (decide (l=m)=false):=hide (decide_eq_false (fun e=>hne (by rw [e])))
  have hq1:¬((l.length:Int)=(m.length:Int)):=by omega
  clear hne;go_enter Tryz.func30,Tryz.ntmps30
  go_wp2
  go_ret;rw [HD.out];exact ⟨rfl,Below.refl _ _⟩
theorem zhW (l m:List ByteArray) (hl:l.length<=9223372036854775807) (_hm:m.length<=9223372036854775807) (v u:Value) (w:World) (hr:RowAt w 1 v l.length (strs l)) (hq:RowAt w 1 u m.length (strs m)):
  Calls Tryz.prog 44 #[v,u] w fun e w'=>e= .returned (.bool (decide (l=m)))/\Below w.heap.size w w':=by
 obtain ⟨-,a,cap,rfl,h2⟩:=hr;obtain ⟨-,a',cap',rfl,h3⟩:=hq;have HR:=hide h2;have HQ:=hide h3;clear h2 h3
 by_cases hne:l.length=m.length
 ·have HN:=hide hne
  rw [<-hne];clear hne;go_enter Tryz.func44,Tryz.ntmps44
  go_wp2
  go_loopg [5] l.length (fun q iv wr=>∃k:Nat,k<=l.length/\iv= .int .i64 (k:Int)/\q+k=l.length/\Hid (l.take k=m.take k)/\Below w.heap.size w wr)
  case atStart=>exact ⟨0,Nat.zero_le _,rfl,rfl,hide (by simp),Below.refl _ _⟩
  case round=>
   obtain ⟨k,hk,rfl,hg,HT,hb⟩:=hrel;have HG:=hide hg;clear hg
   by_cases hlt:k<l.length
   ·rcases HR.out with hn0 | ⟨b,off,rfl,hbl,hc⟩
    ·omega
    ·rcases HQ.out with hn0 | ⟨b',off',rfl,hbl',hc'⟩
     ·have:=HN.out;omega
     ·have hltm:k<m.length:=by have:=HN.out;omega
      obtain ⟨x,hx⟩:∃x,x=l[k]:=⟨_,rfl⟩;obtain ⟨y,hy⟩:∃y,y=m[k]:=⟨_,rfl⟩
      have hcx:wr.cell? ⟨b,off+k,none⟩=some (.string x):=by rw [hb.cell (by exact hbl),hc k (by omega),zaU l k hlt,hx]
      have hcy:wr.cell? ⟨b',off'+k,none⟩=some (.string y):=by rw [hb.cell (by exact hbl'),hc' k (by omega),zaU m k hltm,hy]
      have HX:=hide hx;have HY:=hide hy
      have hk0:(0:Int)<=(k:Int):=by omega
      have hk1:(k:Int)<(l.length:Int):=by omega
      clear hc hc' hx hy
      by_cases hxy:x=y
      ·have HT2:Hid (l.take (k+1)=m.take (k+1)):=hide (by rw [List.take_succ_eq_append_getElem hlt,List.take_succ_eq_append_getElem hltm,HT.out,<-HX.out,<-HY.out,hxy])
       subst hxy;have hbq:=zi1 x x;rw [decide_eq_true rfl] at hbq
       go_wp2
       go_quiet (fail)
       go_wp2
       go_roundg (gk - 1)
       case measure=>have:=HG.out;omega
       case rel=>exact ⟨k+1,by omega,by go_num,by have:=HG.out;omega,HT2,below_drewN hb _⟩
      ·have HD:=hide (zls hlt hltm (by rw [<-HX.out,<-HY.out];exact hxy))
       have hbq:=zi1 x y;rw [decide_eq_false hxy] at hbq
       go_wp2
       go_quiet (fail)
       go_wp2
       go_ret;rw [HD.out];exact ⟨rfl,below_drewN hb _⟩
   ·have HD:Hid (decide (l=m)=true):=hide (decide_eq_true (by
     have h1:=HT.out
     rw [List.take_of_length_le (by omega),List.take_of_length_le (by have:=HN.out;omega)] at h1
     exact h1))
    go_wp2
    go_ret;rw [HD.out];exact ⟨rfl,hb⟩
 ·have HD:Hid (decide (l=m)=false):=hide (decide_eq_false (fun e=>hne (by rw [e])))
  have hq1:¬((l.length:Int)=(m.length:Int)):=by omega
  clear hne;go_enter Tryz.func44,Tryz.ntmps44
  go_wp2
  go_ret;rw [HD.out];exact ⟨rfl,Below.refl _ _⟩
open Go.RowKit
theorem below_drewN {n:Nat} {w wr:World} (h:Below n w wr) (k:Nat):Below n w (wr.drewN k):=by
 cases h
 constructor <;> assumption
theorem zj3 (v u:Value) (ps:List ByteArray) (ls:List (Int×ByteArray)) (hp:ps.length<=1048576) (hl:ls.length<=1048576) (w:World) (hd:DiskAt w v ps ls) (hu:DiskAt w u ps ls):
  Calls Tryz.prog 29 #[v,u] w fun e w'=>e= .returned (.bool true)/\Below w.heap.size w w':=by
 obtain ⟨vp,vl,rfl,h1,h2⟩:=hd;obtain ⟨up,ul,rfl,h3,h4⟩:=hu
 have HC1:=hide (fun wx h h'=>zhW ps ps (by omega) (by omega) vp up wx h h')
 rw [decide_eq_true rfl] at HC1;have HR:=hide (⟨h1,h3⟩:RowAt w 1 vp ps.length (strs ps)/\RowAt w 1 up ps.length (strs ps));obtain ⟨-,x,c,rfl,h5⟩:=h2;obtain ⟨-,x',c',rfl,h6⟩:=h4;have H5:=hide h5;have H6:=hide h6;clear h1 h3 h5 h6;obtain ⟨w0,hw0⟩:∃w0,w0=(w.alloc (Obj.cells #[vp,.slice x ls.length c] 29)).alloc (Obj.cells #[up,.slice x' ls.length c'] 29):=⟨_,rfl⟩
 have hb0:Below w.heap.size w w0:=by rw [hw0];exact ((Below.refl w.heap.size w).alloc (Nat.le_refl _) _).alloc (by simp) _
 obtain ⟨q0,q1,hs0⟩:=zaQ w (Obj.cells #[vp,.slice x ls.length c] 29) (Obj.cells #[up,.slice x' ls.length c'] 29);rw [<-hw0] at q0 q1 hs0;have HB0:=hide hb0;have HQ:=hide (⟨q0,q1,hs0⟩:w0.heap[w.heap.size]?=some (Obj.cells #[vp,.slice x ls.length c] 29)/\w0.heap[w.heap.size+1]?=some (Obj.cells #[up,.slice x' ls.length c'] 29)/\w0.heap.size=w.heap.size+2);clear hb0 q0 q1 hs0;go_enter Tryz.func29,Tryz.ntmps29;go_wp2_with fail;rw [<-hw0];refine (HC1.out _ (za1 HR.out.1 HB0.out) (za1 HR.out.2 HB0.out)).mono ?_;rintro e w1 ⟨rfl,hb1⟩;have HB1:Hid (Below w.heap.size w w1):=hide (HB0.out.trans (hb1.mono HB0.out.size))
 have c0:w1.cell? ⟨w.heap.size,1,none⟩=some (.slice x ls.length c):=(za0 ((hb1.block _ (by rw [HQ.out.2.2];omega)).trans HQ.out.1) 1).1
 have c1:w1.cell? ⟨w.heap.size+1,1,none⟩=some (.slice x' ls.length c'):=(za0 ((hb1.block _ (by rw [HQ.out.2.2];omega)).trans HQ.out.2.1) 1).1
 clear hb1 hw0;go_wp2_with fail
 go_loopg [5] ls.length (fun q iv wr=>∃k:Nat,k<=ls.length/\iv= .int .i64 (k:Int)/\q+k=ls.length/\Hid (wr.heap=w1.heap)/\Hid (Below w.heap.size w wr))
 case atStart=>exact ⟨0,Nat.zero_le _,rfl,rfl,hide rfl,HB1⟩
 case round=>
  obtain ⟨k,hk,rfl,hg,HE,HBr⟩:=hrel;have HG:=hide hg;have d0:wr.cell? ⟨w.heap.size,1,none⟩=some (.slice x ls.length c):=(World.cell?_of_block (congrArg (·[w.heap.size]?) HE.out)).trans c0;have d1:wr.cell? ⟨w.heap.size+1,1,none⟩=some (.slice x' ls.length c'):=(World.cell?_of_block (congrArg (·[w.heap.size+1]?) HE.out)).trans c1;clear hg c0 c1
  by_cases hlt:k<ls.length
  ·rcases H5.out with hn0 | ⟨b,off,rfl,hbl,hc⟩
   ·omega
   ·rcases H6.out with hn0 | ⟨b',off',rfl,hbl',hc'⟩
    ·omega
    ·obtain ⟨q,t,hqt⟩:∃q t,(q,t)=ls[k]:=⟨_,_,rfl⟩
     have e0:wr.cell? ⟨b,off+k * 2,none⟩=some (.int .i64 q):=by rw [HBr.out.cell (by exact hbl),hc (k * 2) (by omega),(zbR ls k hlt).1,<-hqt]
     have e1:wr.cell? ⟨b,off+k * 2+1,none⟩=some (.string t):=by rw [HBr.out.cell (by exact hbl),Nat.add_assoc,hc (k * 2+1) (by omega),(zbR ls k hlt).2,<-hqt]
     have e2:wr.cell? ⟨b',off'+k * 2,none⟩=some (.int .i64 q):=by rw [HBr.out.cell (by exact hbl'),hc' (k * 2) (by omega),(zbR ls k hlt).1,<-hqt]
     have e3:wr.cell? ⟨b',off'+k * 2+1,none⟩=some (.string t):=by rw [HBr.out.cell (by exact hbl'),Nat.add_assoc,hc' (k * 2+1) (by omega),(zbR ls k hlt).2,<-hqt]
     have hi0:(0:Int)<=(k:Int):=by omega
     have hi1:(k:Int)<(ls.length:Int):=by omega
     have hbq:=zi1 t t;rw [decide_eq_true rfl] at hbq;clear hc hc' hqt;go_wp2_with fail
     go_quiet (fail)
     go_wp2_with fail
     go_roundg (gk - 1)
     case measure=>have:=HG.out;omega
     case rel=>exact ⟨k+1,by omega,by go_num,by have:=HG.out;omega,HE,hide (below_drewN HBr.out _)⟩
  ·go_wp2_with fail
   go_ret;exact ⟨rfl,HBr.out⟩
open Go.RowKit
theorem zmP (n:Nd) (h:n.vs.length=n.ks.length):pairsN n=n.ks.zip n.vs:=by
 unfold pairsN
 apply List.ext_getElem
 ·simp [h]
 ·intro i h1 h2
  simp only [List.length_map,List.length_range] at h1
  simp [List.getD_eq_getElem?_getD,h1,show i<n.ks.length by omega]
theorem zlm (a b:List Vis):pairsV (a++b)=pairsV a++pairsV b:=by simp [pairsV]
theorem zln (a b:List Vis):pagesV (a++b)=pagesV a++pagesV b:=by simp [pagesV]
theorem zj4 {T:Int->ByteArray->Prs->List Int->Prop} {D:Int->List (Nd×Nat)->List Int->List Vis×Option (List Int)} (n:Nd) (way:List (Nd×Nat)) (s0:List Int)
  (hD:∀c f L P w seen,T c f L P->(∀x∈P,x∉seen)->P.Nodup->∃vs,D c w seen=(vs,some (seen++P))/\pairsV vs=L/\pagesV vs=P) (hlen:n.ks.length=n.cs.length):
  ∀(i:Nat) (L:Prs) (P:List Int),i<=n.cs.length->KidsOf T (n.ks.take i) (n.cs.take i) L P->(∀x∈P,x∉s0)->P.Nodup->∃vs,kidsL D n way s0 i=(vs,some (s0++P))/\pairsV vs=L/\pagesV vs=P
 | 0,L,P,_,hk,_,_=>by
  rw [List.take_zero,List.take_zero] at hk;obtain ⟨e1,e2⟩:=hk;subst e1 e2
  exact ⟨[],by rw [kidsL,List.append_nil],rfl,rfl⟩
 | i+1,L,P,hi,hk,hs,hn=>by
  have hk1:i<n.ks.length:=by omega
  rw [List.take_succ_eq_append_getElem hk1,List.take_succ_eq_append_getElem (by omega:i<n.cs.length)] at hk
  obtain ⟨La,Pa,Lb,Pb,kA,kB,-,rfl,rfl⟩:=(zcm (by rw [List.length_take,List.length_take];omega)).1 hk
  obtain ⟨f,L1,P1,L2,P2,t1,-,-,⟨e1,e2⟩,e3,e4⟩:=kB;rw [e1,List.append_nil] at e3;rw [e2,List.append_nil] at e4;subst e3 e4;obtain ⟨n1,n2,n3⟩:=List.nodup_append.1 hn
  obtain ⟨vs,v1,v2,v3⟩:=zj4 n way s0 hD hlen i La Pa (by omega) kA (fun x hx=>hs x (List.mem_append_left _ hx)) n1
  obtain ⟨us,u1,u2,u3⟩:=hD n.cs[i] f Lb Pb (way++ [(n,i)]) (s0++Pa) t1 (fun x hx hx2=>by
   rcases List.mem_append.1 hx2 with e | e
   ·exact hs x (List.mem_append_right _ hx) e
   ·exact n3 x e x hx rfl) n2
  have hg:n.cs.getD i 0=n.cs[i]:=getD_lt _ _ (by omega) _
  refine ⟨vs++us,?_,by rw [zlm,v2,u2],by rw [zln,v3,u3]⟩
  rw [zaN (s:=s0++Pa) (by rw [v1]),hg,u1,v1,List.append_assoc]
theorem zj5 {R:Int->Nd×Bool}:∀(h k:Nat) (p:Int) (f:ByteArray) (L:Prs) (P:List Int) (way:List (Nd×Nat)) (seen:List Int),h<=k->IsTree R h p f L P->(∀x∈P,x∉seen)->P.Nodup->∃vs,downL R k p way seen=(vs,some (seen++P))/\pairsV vs=L/\pagesV vs=P
 | 0,_,_,_,_,_,_,_,_,ht,_,_=>ht.elim
 | h+1,0,_,_,_,_,_,_,hk,_,_,_=>by omega
 | h+1,k+1,p,f,L,P,way,seen,hk,⟨n,h1,h2,h3,h4⟩,hs,hn=>by
  have hps:p∉seen:=by
   rcases h4 with ⟨-,-,-,d⟩ | ⟨-,P',-,d⟩
   ·exact hs p (by rw [d];exact List.mem_singleton.2 rfl)
   ·exact hs p (by rw [d];exact List.mem_cons_self ..)
  rw [downL,h1,if_neg (by rintro (e | e);cases e;exact hps e)]
  show ∃vs,(⟨p,n,way⟩ :: (kidsL (downL R k) n way (seen++ [p]) n.cs.length).1,(kidsL (downL R k) n way (seen++ [p]) n.cs.length).2)=(vs,some (seen++P))/\pairsV vs=L/\pagesV vs=P
  rcases h4 with ⟨hl,hh,hLe,hPe⟩ | ⟨hl,P',hkk,hPe⟩
  ·obtain ⟨e1,e2⟩:=(zaY h2).1 hl
   have ec:n.cs.length=0:=by rw [e2];rfl
   rw [ec]
   refine ⟨[⟨p,n,way⟩],by rw [kidsL,hPe],?_,by rw [hPe];rfl⟩
   show pairsN n++ []=L
   rw [List.append_nil,hLe,zmP n e1]
  ·have hlen:=zbj hkk
   rw [hPe] at hs hn;obtain ⟨m1,m2⟩:=List.nodup_cons.1 hn
   have hkt:KidsOf (IsTree R h) (n.ks.take n.cs.length) (n.cs.take n.cs.length) L P':=by
    rw [<-hlen,List.take_length,hlen,List.take_length];exact hkk
   obtain ⟨vs,v1,v2,v3⟩:=zj4 (D:=downL R k) n way (seen++ [p]) (fun c f L P w s ht hx hd=>zj5 h k c f L P w s (by omega) ht hx hd) hlen n.cs.length L P' (Nat.le_refl _) hkt (fun x hx hx2=>by
    rcases List.mem_append.1 hx2 with e | e
    ·exact hs x (List.mem_cons_of_mem _ hx) e
    ·rw [List.mem_singleton] at e;subst e;exact m1 hx) m2
   rw [v1];have ev:n.vs= []:=((zaY h2).2 hl).2
   refine ⟨⟨p,n,way⟩ :: vs,by rw [hPe,List.append_assoc];rfl,?_,by rw [hPe];show p :: pagesV vs=_;rw [v3]⟩
   show pairsN n++pairsV vs=L
   rw [v2];unfold pairsN;rw [ev]
   rfl
theorem znP {R:Int->Nd×Bool} {root:Int} {L:Prs} {P:List Int} (h:IsRoot R root L P) (hn:P.Nodup):allI R root=(L,true)/\(seenI R root).2=true/\pagesV (seenI R root).1=P:=by
 unfold allI seenI
 rcases h with ⟨a,b,c⟩ | ⟨d,f,h1,h2,h3⟩
 ·rw [if_pos a]
  exact ⟨by rw [if_pos rfl,b];rfl,rfl,by rw [c];rfl⟩
 ·rw [if_neg h2]
  obtain ⟨vs,v1,v2,v3⟩:=zj5 d 8 root f L P [] [] h1 h3 (fun x _ hx=>by cases hx) hn
  rw [v1];refine ⟨?_,rfl,v3⟩
  show (if true=true then (pairsV vs,true) else ([],false))=(L,true)
  rw [if_pos rfl,v2]
open Go.RowKit
def LeafAt (d:Nat) (v:Vis):Prop:=v.nd.lf=true->v.way.length=d/\fitB v=true
theorem zkH {T:Int->ByteArray->Prs->List Int->Prop} {D:Int->List (Nd×Nat)->List Int->List Vis×Option (List Int)} (n:Nd) (way:List (Nd×Nat)) (s0:List Int) (d:Nat)
  (hT:∀c f L P,T c f L P->geA f L)
  (hD:∀c f L P seen i,T c f L P->(∀x∈P,x∉seen)->P.Nodup->(∀s∈way++ [(n,i)],∀q∈L,fitK q.1 s)->∃vs,D c (way++ [(n,i)]) seen=(vs,some (seen++P))/\∀v∈vs,LeafAt d v)
  {L:Prs} {P:List Int} (hk:KidsOf T n.ks n.cs L P) (hs:∀x∈P,x∉s0) (hn:P.Nodup) (hw:∀s∈way,∀q∈L,fitK q.1 s):
  ∀i,i<=n.cs.length->∃L1 P1 L2 P2 vs,KidsOf T (n.ks.drop i) (n.cs.drop i) L2 P2/\L=L1++L2/\P=P1++P2/\kidsL D n way s0 i=(vs,some (s0++P1))/\∀v∈vs,LeafAt d v
 | 0,_=>⟨[],[],L,P,[],hk,rfl,rfl,by rw [kidsL,List.append_nil],fun v hv=>by cases hv⟩
 | i+1,hi=>by
  obtain ⟨L1,P1,L2,P2,vs,k1,e1,e2,e3,e4⟩:=zkH n way s0 d hT hD hk hs hn hw i (by omega)
  have hlen:=zbj hk
  rw [List.drop_eq_getElem_cons (by omega:i<n.ks.length),List.drop_eq_getElem_cons (by omega:i<n.cs.length)] at k1
  obtain ⟨f,La,Pa,L3,P3,t1,t2,t3,t4,e5,e6⟩:=k1
  have hsub:∀q∈La,q∈L:=fun q hq=>by rw [e1,e5];exact List.mem_append_right _ (List.mem_append_left _ hq)
  have hP:P=P1++(Pa++P3):=by rw [e2,e6]
  rw [hP] at hn;obtain ⟨-,n2,n3⟩:=List.nodup_append.1 hn;obtain ⟨n4,-,-⟩:=List.nodup_append.1 n2
  obtain ⟨us,u1,u2⟩:=hD n.cs[i] f La Pa (s0++P1) i t1 (fun x hx hx2=>by
   rcases List.mem_append.1 hx2 with e | e
   ·exact hs x (by rw [hP];exact List.mem_append_right _ (List.mem_append_left _ hx)) e
   ·exact n3 x e x (List.mem_append_left _ hx) rfl) n4 (fun s hs2 q hq=>by
   rcases List.mem_append.1 hs2 with e | e
   ·exact hw s e q (hsub q hq)
   ·rw [List.mem_singleton] at e
    subst e
    refine ⟨?_,fun hl=> ?_⟩
    ·show lessB q.1 (n.ks.getD i ⟨#[]⟩)=false
     rw [getD_lt _ _ (by omega)]
     exact le_trans t2 (hT _ _ _ _ t1 q hq)
    ·show lessB q.1 (n.ks.getD (i+1) ⟨#[]⟩)=true
     have hl:i+1<n.ks.length:=hl;rw [getD_lt _ _ hl];refine t3 _ ?_ q hq;rw [List.mem_iff_getElem]
     exact ⟨0,by rw [List.length_drop];omega,by rw [List.getElem_drop]⟩)
  have hg:n.cs.getD i 0=n.cs[i]:=getD_lt _ _ (by omega) _
  refine ⟨L1++La,P1++Pa,L3,P3,vs++us,t4,by rw [e1,e5,List.append_assoc],by rw [hP,List.append_assoc],?_,fun v hv=> ?_⟩
  ·rw [zaN (s:=s0++P1) (by rw [e3]),hg,u1,e3,List.append_assoc]
  ·rcases List.mem_append.1 hv with e | e
   ·exact e4 v e
   ·exact u2 v e
theorem zkI {R:Int->Nd×Bool}:∀(h k:Nat) (p:Int) (f:ByteArray) (L:Prs) (P:List Int) (way:List (Nd×Nat)) (seen:List Int),h<=k->IsTree R h p f L P->(∀x∈P,x∉seen)->P.Nodup->(∀s∈way,∀q∈L,fitK q.1 s)->∃vs,downL R k p way seen=(vs,some (seen++P))/\∀v∈vs,LeafAt (way.length+(h - 1)) v
 | 0,_,_,_,_,_,_,_,_,ht,_,_,_=>ht.elim
 | h+1,0,_,_,_,_,_,_,hk,_,_,_,_=>by omega
 | h+1,k+1,p,f,L,P,way,seen,hk,⟨n,h1,h2,h3,h4⟩,hs,hn,hw=>by
  have hps:p∉seen:=by
   rcases h4 with ⟨-,-,-,d⟩ | ⟨-,P',-,d⟩
   ·exact hs p (by rw [d];exact List.mem_singleton.2 rfl)
   ·exact hs p (by rw [d];exact List.mem_cons_self ..)
  rw [downL,h1,if_neg (by rintro (e | e);cases e;exact hps e)]
  show ∃vs,(⟨p,n,way⟩ :: (kidsL (downL R k) n way (seen++ [p]) n.cs.length).1,(kidsL (downL R k) n way (seen++ [p]) n.cs.length).2)=(vs,some (seen++P))/\∀v∈vs,LeafAt (way.length+(h+1 - 1)) v
  rcases h4 with ⟨hl,hh,hLe,hPe⟩ | ⟨hl,P',hkk,hPe⟩
  ·obtain ⟨e1,e2⟩:=(zaY h2).1 hl
   have ec:n.cs.length=0:=by rw [e2];rfl
   rw [ec]
   refine ⟨[⟨p,n,way⟩],by rw [kidsL,hPe],fun v hv=> ?_⟩
   rw [List.mem_singleton] at hv;subst hv
   refine fun _=>⟨by show way.length=_;omega,(zhv h2).2 ?_⟩
   intro i hi s hs2;have hi:i<n.ks.length:=hi
   have hq:(n.ks[i],n.vs[i]'(by omega))∈L:=by
    rw [hLe,List.mem_iff_getElem]
    exact ⟨i,by rw [List.length_zip];omega,by rw [List.getElem_zip]⟩
   have:=hw s hs2 _ hq
   show fitK (n.ks.getD i ⟨#[]⟩) s
   rw [getD_lt _ _ hi];exact this
  ·have hlen:=zbj hkk
   rw [hPe] at hs hn;obtain ⟨m1,m2⟩:=List.nodup_cons.1 hn
   have hh0:1<=h:=by
    cases h with
    | zero=>
     exfalso
     have hc:=(zaP (zan h2).1).1
     cases hks:n.ks with
     | nil=>rw [hks] at hc;simp at hc
     | cons x ks=>
      cases hcs:n.cs with
      | nil=>rw [hks,hcs] at hlen;simp at hlen
      | cons c cs=>
       rw [hks,hcs] at hkk;obtain ⟨f,L1,P1,L2,P2,t1,-⟩:=hkk;exact t1
    | succ h=>omega
   obtain ⟨L1,P1,L2,P2,vs,v1,v2,v3,v4,v5⟩:=zkH (T:=IsTree R h) (D:=downL R k) n way (seen++ [p]) (way.length+h) (fun c f L P ht=>zg2 h ht) (fun c f L P s i ht hx hd hf=>by
    obtain ⟨us,u1,u2⟩:=zkI h k c f L P (way++ [(n,i)]) s (by omega) ht hx hd hf
    refine ⟨us,u1,fun v hv=> ?_⟩
    have:=u2 v hv;rw [List.length_append] at this
    rw [show way.length+h=way.length+ [(n,i)].length+(h - 1) from by show _=way.length+1+(h - 1);omega]
    exact this) hkk (fun x hx hx2=>by
    rcases List.mem_append.1 hx2 with e | e
    ·exact hs x (List.mem_cons_of_mem _ hx) e
    ·rw [List.mem_singleton] at e;subst e;exact m1 hx) m2 hw n.cs.length (Nat.le_refl _)
   have hd1:n.ks.drop n.cs.length= []:=List.drop_of_length_le (by omega)
   have hd2:n.cs.drop n.cs.length= []:=List.drop_of_length_le (Nat.le_refl _);rw [hd1,hd2] at v1;obtain ⟨-,e2⟩:=v1;rw [e2,List.append_nil] at v3;rw [v4,<-v3]
   refine ⟨⟨p,n,way⟩ :: vs,by rw [hPe,List.append_assoc];rfl,fun v hv=> ?_⟩
   rcases List.mem_cons.1 hv with rfl | hv
   ·intro e
    rw [hl] at e;cases e
   ·exact v5 v hv
theorem zhX {D:Nat}:∀(vs:List Vis) (d:Int),(d<0\/d=(D:Int))->(∀v∈vs,LeafAt D v)->(treeF d vs).isSome=true
 | [],d,_,_=>rfl
 | v :: vs,d,hd,hv=>by
  have h1:=hv v (List.mem_cons_self ..)
  have h2:∀u∈vs,LeafAt D u:=fun u hu=>hv u (List.mem_cons_of_mem _ hu)
  rw [treeF];unfold treeT
  cases hl:v.nd.lf with
  | false=>
   rw [if_pos rfl];exact zhX vs d hd h2
  | true=>
   rw [if_neg (by decide)]
   obtain ⟨e1,e2⟩:=h1 hl
   have e3:(if d<0 then (v.way.length:Int) else d)=(D:Int):=by
    split
    ·rw [e1]
    ·rcases hd with e | e
     ·omega
     ·exact e
   rw [e3,if_pos ⟨by rw [e1],e2⟩]
   exact zhX vs (D:Int) (Or.inr rfl) h2
theorem zmQ {R:Int->Nd×Bool} {root:Int} {L:Prs} {P:List Int} (h:IsRoot R root L P) (hn:P.Nodup):treeI R root=true:=by
 unfold treeI seenI
 rcases h with ⟨a,b,c⟩ | ⟨d,f,h1,h2,h3⟩
 ·rw [if_pos a];rfl
 ·rw [if_neg h2]
  obtain ⟨vs,v1,v2⟩:=zkI d 8 root f L P [] [] h1 h3 (fun x _ hx=>by cases hx) hn (fun s hs=>by cases hs)
  rw [v1]
  show (true && (treeF (-1) vs).isSome)=true
  rw [zhX vs (-1) (Or.inl (by decide)) v2]
  rfl
end Go.Proofs.YtcbogiebfbbmbaaGreatDoor
