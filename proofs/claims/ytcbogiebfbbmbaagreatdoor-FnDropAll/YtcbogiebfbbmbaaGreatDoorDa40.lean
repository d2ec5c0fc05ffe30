/-
  Facts and contracts that the law's own text rests on, by their texts' names: WalkAll, SpecShow, SamePr, TreePl7, TreePl8, TreePl9, TreePlI, TreePlJ, LawPutManyW, LowPl, DropWay, BackPl.
-/
import Derived.BigQuiet
import Derived.Deep.RegionHeld3
import Derived.Test.YtcbogiebfbbmbaaGreatDoorDa35
import Derived.Test.YtcbogiebfbbmbaaGreatDoorDa21
import Derived.Test.YtcbogiebfbbmbaaGreatDoorDa1
import Derived.Test.YtcbogiebfbbmbaaGreatDoorDa39
import Derived.Laws.StructEq
import Derived.Test.YtcbogiebfbbmbaaGreatDoorDa37
import Derived.Test.YtcbogiebfbbmbaaGreatDoorDa27
import Derived.Test.YtcbogiebfbbmbaaGreatDoorDa7
import Derived.Test.YtcbogiebfbbmbaaGreatDoorDa18
import Derived.Test.YtcbogiebfbbmbaaGreatDoorDa19
import Derived.Deep.AppendLies
import Derived.Deep.Cut
import Derived.Deep.RegionHeldLaw
import Derived.Deep.RegionLaw
import Derived.Test.YtcbogiebfbbmbaaGreatDoorDa13
import Derived.Test.YtcbogiebfbbmbaaGreatDoorDa9
import Derived.Test.YtcbogiebfbbmbaaGreatDoorDa38
import Derived.Test.YtcbogiebfbbmbaaGreatDoorDa5
import Derived.Test.YtcbogiebfbbmbaaGreatDoorDa36
import Derived.ArgAppend
import Derived.ControlIn
import Derived.Laws.EntriesVeiled
import Derived.Orders
import Derived.OrdersHeld
import Derived.OrdersIn
import Derived.OwnWalkIn
import Derived.Sort.LoopGhostIn
import Derived.Test.YtcbogiebfbbmbaaGreatDoorDa29
import Derived.Test.YtcbogiebfbbmbaaGreatDoorDa11
import Derived.Test.YtcbogiebfbbmbaaGreatDoorDa24
import Derived.Test.YtcbogiebfbbmbaaGreatDoorDa4
import Derived.Test.YtcbogiebfbbmbaaGreatDoorDa30
set_option maxHeartbeats 16000000
set_option maxRecDepth 100000
namespace Go.Proofs.YtcbogiebfbbmbaaGreatDoor
open Go.RowKit
theorem zgL (ps:List ByteArray) (ls:List (Int×ByteArray)):Right (fun q=>rdN (readD ps ls q)):=fun p h=>by
 have:rdN (readD ps ls p)=((rdN (readD ps ls p)).1,true):=by rw [<-h]
 exact zew this
theorem inC:InC:=fun l hl x v w h=>zlL l hl x v w h
theorem zkn (ps:List ByteArray) (ls:List (Int×ByteArray)) (hp:ps.length<=1048576) (hl:ls.length<=1048576) (hps:∀s∈ps,s.size<=1048576) (hls:∀p∈ls,p.2.size<=1048576) (v1 v2:Value) (ga:Nat) (hdk:∀k,diskBlocks (.agg #[v1,v2]) k->k<ga):
  ∀(k:Nat) (p:Int) (deep:Nat) (low high:ByteArray) (has:Bool) (a:Al) (vp vg vd:Value) (W:World),deep+k=8->DiskAt W (.agg #[v1,v2]) ps ls->AlIs W ga a vp vg vd->(a.pages.length+cntK k<=100000/\a.pairs.length+4 * cntK k<=400000/\a.depths.length+cntK k<=100000)->
   Calls Tryz.prog 43 #[.agg #[v1,v2],.int .i64 p,.int .i64 (deep:Int),.string low,.string high,.bool has,.pointer (some ⟨ga,0,none⟩)] W fun e W'=>(∃r,e= .returned r)/\WkPost W ga (walkS (fun q=>rdN (readD ps ls q)) k p deep low high has a) vp vg vd W'
 | 0,p,deep,low,high,has,a,vp,vg,vd,W,hk,hd,hA,hb=>by
  rw [walkS]
  exact ziI inC ps ls hp hl hps hls v1 v2 p deep low high has a ga vp vg vd W hd hA (by omega) (Or.inr (Or.inl (by omega)))
 | k+1,p,deep,low,high,has,a,vp,vg,vd,W,hk,hd,hA,hb=>by
  rw [walkS];have hc:cntK (k+1)=1+4 * cntK k:=rfl;rw [hc] at hb
  by_cases hs:(rdN (readD ps ls p)).2=false\/p∈a.pages\/a.bad=true
  ·rw [if_pos hs]
   exact ziI inC ps ls hp hl hps hls v1 v2 p deep low high has a ga vp vg vd W hd hA (by omega) (by rcases hs with h | h | h;exact Or.inl h;exact Or.inr (Or.inr (Or.inl h));exact Or.inr (Or.inr (Or.inr h)))
  ·rw [if_neg hs]
   have h1:(rdN (readD ps ls p)).2=true:=by cases h:(rdN (readD ps ls p)).2;exact absurd (Or.inl h) hs;rfl
   have h2:¬p∈a.pages:=fun h=>hs (Or.inr (Or.inl h))
   have h3:a.bad=false:=by cases h:a.bad;rfl;exact absurd (Or.inr (Or.inr h)) hs
   cases hlf:(rdN (readD ps ls p)).1.lf with
   | true=>
    rw [if_pos rfl]
    exact zm2 inC ps ls hp hl hps hls v1 v2 p deep low high has a ga vp vg vd W hd hdk hA (by omega) h1 (by omega) h2 h3 hlf _
   | false=>
    rw [if_neg (by decide)]
    refine zmk inC ps ls hp hl hps hls v1 v2 p deep low high has a ga vp vg vd W hd hdk hA (by omega) h1 (by omega) h2 h3 hlf _ (cntK k) ?_ ?_
    ·intro q lo hi h b xp xg xd X hdX hAX hbX
     have:=zkn ps ls hp hl hps hls v1 v2 ga hdk k q (deep+1) lo hi h b xp xg xd X (by omega) hdX hAX hbX
     have e:((deep+1:Nat):Int)=(deep:Int)+1:=by omega
     rw [e] at this;exact this
    ·intro i hi
     have hok:=zgL ps ls p h1;obtain ⟨-,c2,-,-⟩:=zaX (zam hok).1;have c4:(rdN (readD ps ls p)).1.ks.length<=4:=c2
     obtain ⟨l1,l2,l3⟩:=ziG (fun q=>rdN (readD ps ls q)) (zgL ps ls) k (rdN (readD ps ls p)).1 hlf deep low high has {a with pages:=a.pages++ [p]} i
     have hm:(i+1) * cntK k<=4 * cntK k:=Nat.mul_le_mul_right _ (by omega)
     rw [Nat.succ_mul] at hm
     simp only [List.length_append,List.length_singleton] at l1 l2 l3
     exact ⟨by omega,by omega,by omega⟩
theorem cntK8:cntK 8=21845:=by decide
theorem znb (ps:List ByteArray) (ls:List (Int×ByteArray)) (hp:ps.length<=1048576) (hl:ls.length<=1048576) (hps:∀s∈ps,s.size<=1048576) (hls:∀p∈ls,p.2.size<=1048576) (v:Value) (root:Int) (w:World) (hd:DiskAt w v ps ls) (hdk:∀k,diskBlocks v k->k<w.heap.size):
  Calls Tryz.prog 28 #[v,.int .i64 root] w fun e w'=>∃ga vp vg vd,e= .returned (.pointer (some ⟨ga,0,none⟩))/\w.heap.size<=ga/\AlIs w' ga (seenS (fun q=>rdN (readD ps ls q)) root) vp vg vd/\Below w.heap.size w w':=by
 obtain ⟨v1,v2,rfl,-,-⟩:=id hd;obtain ⟨w0,hw0⟩:∃w0,w0=(w.alloc (.cells #[v1,v2] 29 (0,0))).alloc (.cells #[.slice none 0 0,.slice none 0 0,.slice none 0 0,.bool false,.bool false] 67 (0,0)):=⟨_,rfl⟩;obtain ⟨t1,t2,t3⟩:=zaE w (.cells #[v1,v2] 29 (0,0)) (.cells #[.slice none 0 0,.slice none 0 0,.slice none 0 0,.bool false,.bool false] 67 (0,0));rw [<-hw0] at t1 t2 t3
 have hb0:Below w.heap.size w w0:=by rw [hw0];exact ((Below.refl _ _).alloc (Nat.le_refl _) _).alloc (by simp) _
 obtain ⟨ga,hga⟩:∃g,g=w.heap.size+1:=⟨_,rfl⟩;rw [<-hga] at t2
 have hA0:AlIs w0 ga Al.none (.slice none 0 0) (.slice none 0 0) (.slice none 0 0):=⟨t2,World.ownsRow_nil _ _ _ _,World.ownsRow_nil _ _ _ _,World.ownsRow_nil _ _ _ _,fun k e=>by cases e⟩
 have HA0:=hide hA0;have HB0:=hide hb0;have HG:=hide hga
 by_cases hz:root=0
 ·have HF:Hid (seenS (fun q=>rdN (readD ps ls q)) root=Al.none):=hide (by rw [seenS,if_pos hz])
  subst hz;clear hA0 hb0 t1 t2 t3 hd hdk hp hl hps hls;go_enter Tryz.func28,Tryz.ntmps28;go_wp2_with fail;rw [<-hw0];go_ret;rw [<-hga]
  exact ⟨ga,_,_,_,rfl,by have:=HG.out;omega,by rw [HF.out];exact HA0.out,HB0.out⟩
 ·have HF:Hid (seenS (fun q=>rdN (readD ps ls q)) root=walkS (fun q=>rdN (readD ps ls q)) 8 root 0 ⟨#[]⟩ ⟨#[]⟩ false Al.none):=hide (by rw [seenS,if_neg hz])
  have HW:=hide (zkn ps ls hp hl hps hls v1 v2 ga (fun k hk=>by have:=hdk k hk;omega) 8 root 0 ⟨#[]⟩ ⟨#[]⟩ false Al.none _ _ _ w0 (by omega) (zak hd hb0) hA0 (by rw [cntK8];decide))
  have hzb:(root !=0)=true:=by simp [hz]
  have p0:=(za0 t1 0).1;have p1:=(za0 t1 1).1;clear hA0 hb0 t1 t2 t3 hd hdk hp hl hps hls hz;go_enter Tryz.func28,Tryz.ntmps28;go_wp2_with fail;rw [<-hw0,<-hga];clear hw0 hga;refine HW.out.mono ?_;rintro e w1 ⟨⟨r,rfl⟩,vp,vg,vd,hal,hkp,-⟩;have HAl:=hide hal
  have HB1:Hid (Below w.heap.size w w1):=hide (HB0.out.trans (zj9 hkp (fun k hk=>by have:=(al_lt HA0.out k hk).1;have:=HG.out;omega) HB0.out.size))
  clear hal hkp;go_wp2_with fail;go_ret
  exact ⟨ga,vp,vg,vd,rfl,by have:=HG.out;omega,by rw [HF.out];exact HAl.out,HB1.out⟩
def allO (r:List (ByteArray×ByteArray)×Bool) (w w':World) (e:Ending):Prop:=∃v,e= .returned (.tuple #[v,.bool r.2])/\w'.ownsRow w.heap.size 41 2 v r.1.length (prs r.1)/\Below w.heap.size w w'
theorem zfF (ps:List ByteArray) (ls:List (Int×ByteArray)) (hp:ps.length<=1048576) (hl:ls.length<=1048576) (hps:∀s∈ps,s.size<=1048576) (hls:∀p∈ls,p.2.size<=1048576) (v:Value) (root:Int) (w:World) (hd:DiskAt w v ps ls) (hdk:∀k,diskBlocks v k->k<w.heap.size):
  Calls Tryz.prog 27 #[v,.int .i64 root] w fun e w'=>allO (allS (fun q=>rdN (readD ps ls q)) root) w w' e:=by
 obtain ⟨v1,v2,rfl,-,-⟩:=id hd;obtain ⟨w0,hw0⟩:∃w0,w0=w.alloc (.cells #[v1,v2] 29 (0,0)):=⟨_,rfl⟩
 have hb0:Below w.heap.size w w0:=by rw [hw0];exact (Below.refl _ _).alloc (Nat.le_refl _) _
 have HB0:=hide hb0
 have HL:=hide (znb ps ls hp hl hps hls (.agg #[v1,v2]) root w0 (zak hd hb0) (fun k hk=>Nat.lt_of_lt_of_le (hdk k hk) hb0.size))
 obtain ⟨R,hR⟩:∃R,R=(fun q=>rdN (readD ps ls q)):=⟨_,rfl⟩
 rw [<-hR] at HL⊢;clear hp hl hps hls hd hdk hb0 hR;go_enter Tryz.func27,Tryz.ntmps27;go_wp2_with fail;rw [<-hw0];clear hw0;refine HL.out.mono ?_;rintro e w1 ⟨ga,vp,vg,vd,rfl,hga,hal,hb1⟩;have HB1:Hid (Below w.heap.size w w1):=hide (HB0.out.trans (hb1.mono HB0.out.size));have HAl:=hide hal;have HG:Hid (w.heap.size<=ga):=hide (Nat.le_trans HB0.out.size hga);have q0:=(za0 hal.1 0).1;have q3:=(za0 hal.1 3).1
 have HAs:Hid (allS R root=if (seenS R root).bad=true then ([],false) else ((seenS R root).pairs,true)):=hide rfl
 obtain ⟨bad,hbad⟩:∃b,b=(seenS R root).bad:=⟨_,rfl⟩;rw [<-hbad] at q3;have HBd:=hide hbad;clear hal hb1 hga hbad
 cases bad with
 | true=>
  go_wp2_with fail;go_ret2;rw [HAs.out,if_pos HBd.out.symm]
  have hown:(w1.alloc (Obj.cells #[] 41)).ownsRow w.heap.size 41 2 (.slice (some ⟨w1.heap.size,0,none⟩) 0 0) 0 []:=by simpa using World.ownsRow_lit (base:=w.heap.size) (e:=41) (size:=2) w1 #[] 0 HB1.out.size (by unfold maxLen;omega) (by simp)
  exact ⟨_,rfl,hown,HB1.out.alloc HB1.out.size _⟩
 | false=>
  go_wp2_with fail;go_ret2
  rw [HAs.out,if_neg (by rw [<-HBd.out];decide)]
  exact ⟨vp,rfl,zad HAl.out.2.1 (by have:=HG.out;omega),HB1.out⟩
open Go.RowKit
theorem ba_inj {x y:ByteArray} (h:x.toList=y.toList):x=y:=by
 rw [ByteArray.toList_eq,ByteArray.toList_eq] at h;exact ByteArray.ext (Array.toList_inj.1 h)
theorem eqPairA (a b c d:ByteArray) (w:World):(Op.equalIn 10000 41 (.agg #[.string a,.string b]) (.agg #[.string c,.string d])).run Tryz.prog w= .ok (a.toList ==c.toList && b.toList ==d.toList) w:=by
 have u9:=Tryz.underlying9;have a9:=Tryz.isAgg9;have z9:=Tryz.sizeOf9
 have hS:Tryz.prog.underlying 41=some (.struct (Tryz.prog.fieldsOf 41)):=by kernel_rfl
 rw [show (10000:Nat)=9999+1 from rfl,run_equalIn_agg w 9999 41 _ _ hS (by kernel_rfl)]
 simp only [Program.fieldsOf,Tryz.underlying41]
 go_simp
 by_cases h1:a.toList=c.toList <;> by_cases h2:b.toList=d.toList <;> simp [h1,h2]
open Go.RowKit
theorem zfk (L L2:List (ByteArray×ByteArray)) (hl:L.length<=1200000) (hl2:L2.length<=1200000) (v v2:Value) (w:World) (hr:RowAt w 2 v L.length (prq L)) (hr2:RowAt w 2 v2 L2.length (prq L2)):
  Calls Tryz.prog 11 #[v,v2] w fun e w'=>e= .returned (.bool (decide (L=L2)))/\Below w.heap.size w w':=by
 obtain ⟨hlen,a,cap,rfl,hrow⟩:=hr;obtain ⟨hlen2,a2,cap2,rfl,hrow2⟩:=hr2
 have HC:=hide (fun (wr:World) (hb:Below w.heap.size w wr) (k:Nat) (hk:k<L.length) (p:ByteArray×ByteArray) (hp:L[k]?=some p)=>zcM (⟨hlen,a,cap,rfl,hrow⟩:RowAt w 2 (.slice a L.length cap) L.length (prq L)) hb hk hp)
 have HC2:=hide (fun (wr:World) (hb:Below w.heap.size w wr) (k:Nat) (hk:k<L2.length) (p:ByteArray×ByteArray) (hp:L2[k]?=some p)=>zcM (⟨hlen2,a2,cap2,rfl,hrow2⟩:RowAt w 2 (.slice a2 L2.length cap2) L2.length (prq L2)) hb hk hp)
 obtain ⟨n,hn⟩:∃n,L.length=n:=⟨_,rfl⟩;obtain ⟨n2,hn2⟩:∃n,L2.length=n:=⟨_,rfl⟩;have HN:=hide (⟨hn,hn2⟩:_/\_);rw [hn] at HC hl;rw [hn2] at HC2 hl2;rw [hn,hn2];clear hn hrow hlen hn2 hrow2 hlen2
 by_cases hnn:n=n2
 rotate_left
 ·have d1:((n:Int) !=(n2:Int))=true:=by simp;omega
  have HF:Hid (decide (L=L2)=false):=hide (decide_eq_false fun e=>hnn (by rw [<-HN.out.1,<-HN.out.2,e]))
  clear hnn;go_enter Tryz.func11,Tryz.ntmps11
  go_wp2
  go_ret;rw [HF.out];exact ⟨rfl,Below.refl _ _⟩
 subst hnn
 have d1:((n:Int) !=(n:Int))=false:=by simp
 go_enter Tryz.func11,Tryz.ntmps11
 go_wp2
 go_loopg [5] n (fun q iv wr=>∃(i:Nat),i<=n/\q+i=n/\iv= .int .i64 (i:Int)/\Hid (L.take i=L2.take i)/\Hid (Below w.heap.size w wr))
 case atStart=>exact ⟨0,Nat.zero_le _,rfl,rfl,hide rfl,hide (Below.refl _ _)⟩
 case round=>
  obtain ⟨i,hin,hq,rfl,HT,HB⟩:=hrel;have HQ:=hide hq;clear hq
  by_cases hlt:i<n
  ·obtain ⟨p,hp⟩:∃p,L[i]?=some p:=⟨L[i]'(by have:=HN.out;omega),List.getElem?_eq_getElem _⟩
   obtain ⟨p2,hp2⟩:∃p,L2[i]?=some p:=⟨L2[i]'(by have:=HN.out;omega),List.getElem?_eq_getElem _⟩
   obtain ⟨x,y⟩:=p;obtain ⟨x2,y2⟩:=p2;obtain ⟨g,off,rfl,c0,c1⟩:=HC.out wr HB.out i hlt (x,y) hp;obtain ⟨g2,off2,rfl,e0,e1⟩:=HC2.out wr HB.out i hlt (x2,y2) hp2
   have hi0:(0:Int)<=(i:Int):=by omega
   have hi1:(i:Int)<(n:Int):=by omega
   have HPp:=hide (⟨hp,hp2⟩:_/\_)
   have hS:=fun wx=>eqPairA x y x2 y2 wx
   have hS3:Tryz.prog.eqGuardType Tryz.prog.depth 41=false:=by kernel_rfl
   obtain ⟨t,ht⟩:∃t,(x.toList ==x2.toList && y.toList ==y2.toList)=t:=⟨_,rfl⟩;rw [ht] at hS;have HTt:=hide ht;clear ht;clear hp hp2;go_wp2_with fail
   go_quiet (fail)
   cases t with
   | true=>
    go_wp2_with fail
    go_roundg (gk - 1)
    case measure=>have:=HQ.out;omega
    case rel=>exact ⟨i+1,by omega,by have:=HQ.out;omega,by go_num,hide (by
     have h:=HTt.out;rw [Bool.and_eq_true] at h;have e1:=ba_inj (eq_of_beq h.1);have e2:=ba_inj (eq_of_beq h.2)
     rw [zdQ L i _ HPp.out.1,zdQ L2 i _ HPp.out.2,HT.out,e1,e2]),hide (below_drewN HB.out _)⟩
   | false=>
    have HF:Hid (decide (L=L2)=false):=hide (decide_eq_false fun e=>by
     have h1:=HPp.out.1;rw [e,HPp.out.2] at h1
     injection h1 with h1
     injection h1 with h1 h2
     have h:=HTt.out;rw [h1,h2] at h
     simp at h)
    go_wp2_with fail;go_ret;rw [HF.out];exact ⟨rfl,below_drewN HB.out _⟩
  ·obtain rfl:i=n:=by omega
   have HF:Hid (decide (L=L2)=true):=hide (decide_eq_true (by have h:=HT.out;rw [List.take_of_length_le (by rw [HN.out.1];exact Nat.le_refl _),List.take_of_length_le (by rw [HN.out.2];exact Nat.le_refl _)] at h;exact h))
   go_wp2
   go_ret;rw [HF.out];exact ⟨rfl,HB.out⟩
open Go.RowKit
def dropL (L:Prs) (key:ByteArray):Prs:=L.filter (fun q=>lessB q.1 key || lessB key q.1)
theorem ziO {A B C:Prs} {key:ByteArray} (hA:ltA A key) (hC:∀q∈C,lessB key q.1=true):dropL (A++B++C) key=A++dropL B key++C:=by
 unfold dropL
 simp only [List.filter_append]
 rw [zk9 (L:=A) (fun q hq=>by rw [hA q hq];rfl),zk9 (L:=C) (fun q hq=>by rw [hC q hq,Bool.or_true])]
theorem zco (l:List ByteArray) (skip:Bool) (a:Nat) (ha:a<l.length):∀i,i<=l.length->outK l skip a i=if i<=a\/skip=false then l.take i else l.take a++(l.take i).drop (a+1)
 | 0,_=>by rw [outK,if_pos (Or.inl (Nat.zero_le _))];rfl
 | i+1,hi=>by
  have hlt:i<l.length:=by omega
  have hg:l.getD i ⟨#[]⟩=l[i]:=by simp [List.getD_eq_getElem?_getD,hlt]
  rw [outK,zco l skip a ha i (by omega)]
  cases skip with
  | false=>rw [if_pos (Or.inr rfl),if_pos (Or.inr rfl),if_neg (by rintro ⟨-,e⟩;cases e),hg,List.take_succ_eq_append_getElem hlt]
  | true=>
   by_cases h1:i<a
   ·rw [if_pos (Or.inl (by omega)),if_pos (Or.inl (by omega)),if_neg (by omega),hg,List.take_succ_eq_append_getElem hlt]
   ·by_cases h2:i=a
    ·subst h2
     rw [if_pos (Or.inl (Nat.le_refl _)),if_pos ⟨rfl,rfl⟩,if_neg (by rintro (e | e);omega;cases e),List.append_nil,show (l.take (i+1)).drop (i+1)= [] from List.drop_eq_nil_of_le (by rw [List.length_take];omega),List.append_nil]
    ·rw [if_neg (by rintro (e | e);omega;cases e),if_neg (fun e=>h2 e.1),if_neg (by rintro (e | e);omega;cases e),hg,List.take_succ_eq_append_getElem hlt,List.drop_append_of_le_length (by rw [List.length_take];omega),List.append_assoc]
theorem zfl (cs:List Int) (a:Nat) (kid:Int) (ha:a<cs.length):∀i,i<=cs.length->outC cs a kid i=if i<=a then cs.take i else cs.take a++(if kid=0 then [] else [kid])++(cs.take i).drop (a+1)
 | 0,_=>by rw [outC,if_pos (Nat.zero_le _)];rfl
 | i+1,hi=>by
  have hlt:i<cs.length:=by omega
  have hg:cs.getD i 0=cs[i]:=by simp [List.getD_eq_getElem?_getD,hlt]
  rw [outC,zfl cs a kid ha i (by omega)]
  generalize (if kid=0 then ([]:List Int) else [kid])=E
  by_cases h1:i<a
  ·rw [if_pos (by omega),if_neg (by omega),if_pos (by omega),hg,List.take_succ_eq_append_getElem hlt]
  ·by_cases h2:i=a
   ·subst h2
    rw [if_pos (Nat.le_refl _),if_pos rfl,if_neg (by omega),show (cs.take (i+1)).drop (i+1)= [] from List.drop_eq_nil_of_le (by rw [List.length_take];omega),List.append_nil]
   ·rw [if_neg (by omega),if_neg h2,if_neg (by omega),hg,List.take_succ_eq_append_getElem hlt,List.drop_append_of_le_length (by rw [List.length_take];omega),List.append_assoc,List.append_assoc]
structure DropRes (k:Wk) (R:Wk×Int×Bool) (h:Nat) (F:ByteArray) (L:Prs) (X O A:List Int):Prop where
 tree:(R.2.1=0/\L= []/\Acc k R.1 A [])\/(R.2.1≠0/\∃F' P',IsTree R.1.rd h R.2.1 F' L P'/\lessB F' F=false/\Live R.1 O P'/\P'.Nodup/\(∀x∈P',x∉X)/\Acc k R.1 A P')
 wok:WOk R.1 O
 live:Live R.1 O X
 same:∀x∈X,R.1.rd x=k.rd x
 old:∀x∈O,R.1.rd x=k.rd x
theorem zko {k:Wk} {page:Int} {X O:List Int} {h:Nat} {F:ByteArray} {L:Prs} {lf:Bool} {K V:List ByteArray} {C:List Int} (hw:WOk k O) (hX:Live k O (page :: X)) (hp:page∉X) (P:List Int) (hP:Live k O P) (hn:P.Nodup) (hd:∀x∈P,x∉page :: X)
  (h0:K.length=0->L= []/\P= []) (hF:K.length≠0->lessB (K.getD 0 ⟨#[]⟩) F=false) (ht:∀(k':Wk) (q:Int),k'.rd q=((⟨lf,K,V,C⟩:Nd),true)->nodeOkB lf K V C=true->(∀x∈P,k'.rd x=k.rd x)->IsTree k'.rd h q (K.getD 0 ⟨#[]⟩) L (q :: P)) (ho:(endD page k lf K V C).2.2=true):
  DropRes k (endD page k lf K V C) h F L X O (page :: P):=by
 unfold endD at ho⊢
 split at ho
 ·next hk=>
  rw [if_pos hk]
  obtain ⟨d1,d2,d3⟩:=zeD hw page (fun x hx=>hX x (by rw [List.mem_singleton] at hx;rw [hx];exact List.mem_cons_self ..))
  exact ⟨Or.inl ⟨rfl,(h0 hk).1,by rw [(h0 hk).2];exact zhO k page⟩,d1,d3 X (fun x hx=>hX x (List.mem_cons_of_mem _ hx)) hp,fun x _=>d2 x,fun x _=>d2 x⟩
 ·next hk=>
  rw [if_neg hk]
  split at ho
  ·cases ho
  ·next hq=>
   rw [if_neg hq];obtain ⟨w1,w2,w3,w4,w5,w6,w7⟩:=zhN hw hq;obtain ⟨l1,l2⟩:=w5 (P++page :: X) (zfU.2 ⟨hP,hX⟩);rw [List.mem_append,not_or,List.mem_cons,not_or] at l2
   obtain ⟨d1,d2,d3⟩:=zeD w1 page (fun x hx=>l1 x (by rw [List.mem_singleton] at hx;rw [hx];simp))
   have hlX:Live (putK k lf K V C) O X:=fun x hx=>l1 x (by simp [hx])
   refine ⟨Or.inr ⟨hq,_,putP k lf K V C :: P,zbq h (ht _ _ w6 (put_ok hq) (fun x hx=>w7 x (fun e=>l2.1 (e▸hx)))) (fun x _=>d2 x),hF hk,d3 _ (fun x hx=>l1 x ?_) (fun e=> ?_),List.nodup_cons.2 ⟨l2.1,hn⟩,fun x hx=> ?_,?_⟩,d1,d3 X hlX hp,fun x hx=>(d2 x).trans (w7 x (fun e=>l2.2.2 (e▸hx))),fun x hx=>(d2 x).trans (w7 x (fun e=>w2 (e▸hx)))⟩
   ·rcases List.mem_cons.1 hx with e | e
    ·rw [e];exact List.mem_cons_self ..
    ·simp [e]
   ·rcases List.mem_cons.1 e with e | e
    ·exact l2.2.1 e.symm
    ·exact hd page e (List.mem_cons_self ..)
   ·rcases List.mem_cons.1 hx with e | e
    ·rw [e];exact l2.2.2
    ·exact fun e'=>hd x e (List.mem_cons_of_mem _ e')
   ·show Acc k (dropS (putK k lf K V C) page) (page :: P) (putP k lf K V C :: P)
    have h5:=zlS hw hq;have h6:=zhO (putK k lf K V C) page
    refine ⟨by have:=h5.1;have:=h6.1;omega,fun x=> ?_⟩
    have e1:=h5.2 x;have e2:=h6.2 x;rw [zfV h5.1 h6.1,List.count_cons,List.count_cons];rw [List.count_singleton,List.count_nil] at e1 e2
    omega
theorem zju {ks vs:List ByteArray} (h:vs.length=ks.length) (a:Nat):(ks.take a++ks.drop (a+1)).zip (vs.take a++vs.drop (a+1))=(ks.zip vs).take a++(ks.zip vs).drop (a+1):=by
 rw [List.zip_append (by rw [List.length_take,List.length_take,h])]
 simp only [List.zip,List.take_zipWith,List.drop_zipWith]
open Go.RowKit
theorem zml {n:Nd} (h:n.ok=true) (hv:n.vs.length=n.ks.length) {key:ByteArray} {a:Nat} (ha:a<n.ks.length) (hk:n.ks.getD a ⟨#[]⟩=key):dropL (n.ks.zip n.vs) key=(n.ks.zip n.vs).take a++(n.ks.zip n.vs).drop (a+1):=by
 have hl:a<(n.ks.zip n.vs).length:=by rw [List.length_zip];omega
 have hasc:=zlW h
 have hka:(n.ks.zip n.vs)[a].1=key:=by
  rw [<-hk,getD_lt _ _ ha]
  simp
 unfold Asc at hasc;rw [zb2 (n.ks.zip n.vs) a hl,List.pairwise_append,List.pairwise_cons] at hasc;obtain ⟨-,⟨h1,-⟩,h2⟩:=hasc
 have hA:ltA ((n.ks.zip n.vs).take a) key:=fun q hq=>by rw [<-hka];exact h2 q hq _ (List.mem_cons_self ..)
 have hC:∀q∈(n.ks.zip n.vs).drop (a+1),lessB key q.1=true:=fun q hq=>by rw [<-hka];exact h1 q hq
 have hs:n.ks.zip n.vs=(n.ks.zip n.vs).take a++ [(n.ks.zip n.vs)[a]]++(n.ks.zip n.vs).drop (a+1):=by
  rw [List.append_assoc];exact zb2 _ a hl
 have hm:dropL [(n.ks.zip n.vs)[a]] key= []:=zlU (fun q hq=>by rw [List.mem_singleton] at hq;rw [hq,hka,zb7];rfl)
 have:=ziO (B:= [(n.ks.zip n.vs)[a]]) hA hC;rw [<-hs,hm,List.append_nil] at this;exact this
theorem zkp {K:List ByteArray} (h:K.length≠0):K.getD 0 ⟨#[]⟩∈K:=by
 cases K with
 | nil=>simp at h
 | cons x K=>exact List.mem_cons_self ..
theorem zmm {R:Wk×Int×Bool} {p:Int} {X O:List Int} {h:Nat} {F:ByteArray} {K:List ByteArray} {C:List Int} {L:Prs} {P:List Int} (hw:WOk R.1 O) (hX:Live R.1 O (p :: X)) (hp:p∉X) (hk:KidsOf (IsTree R.1.rd h) K C L P) (hP:Live R.1 O P) (hn:P.Nodup) (hd:∀x∈P,x∉p :: X)
  (hF:∀y∈K,lessB y F=false) (ho:(endD p R.1 false K [] C).2.2=true):DropRes R.1 (endD p R.1 false K [] C) (h+1) F L X O (p :: P):=by
 exact zko (F:=F) (L:=L) (h:=h+1) hw hX hp P hP hn hd (fun e=>by
   cases K with
   | nil=>
    cases C with
    | nil=>exact hk
    | cons c C=>exact hk.elim
   | cons x K=>simp at e) (fun e=>hF _ (zkp e)) (fun k' q h1 h2 h3=>⟨_,h1,h2,rfl,Or.inr ⟨rfl,P,zcH (T:=IsTree R.1.rd h) (T':=IsTree k'.rd h) (G:=fun x=>k'.rd x=R.1.rd x) (fun _ _ _ _ ht hx=>zbq h ht hx) hk h3,rfl⟩⟩) ho
theorem zhp {k:Wk} {k1:Wk} {R:Wk×Int×Bool} {p:Int} {X O A B C D E:List Int} {h:Nat} {F:ByteArray} {L:Prs} (hs:∀x∈p :: X,k1.rd x=k.rd x) (hod:∀x∈O,k1.rd x=k.rd x) (ha:Acc k k1 A B) (hD:∀x,D.count x=B.count x+C.count x) (hE:∀x,E.count x= [p].count x+A.count x+C.count x) (hr:DropRes k1 R h F L X O (p :: D)):DropRes k R h F L X O E:=by
 obtain ⟨r1,r2,r3,r4,r5⟩:=hr
 have key:∀P',Acc k1 R.1 (p :: D) P'->Acc k R.1 E P':=fun P' h2=>by
  refine ⟨by have:=ha.1;have:=h2.1;omega,fun x=> ?_⟩
  have e1:=ha.2 x;have e2:=h2.2 x;have e3:=hD x;have e4:=hE x;rw [zfV ha.1 h2.1];rw [List.count_cons] at e2;rw [List.count_singleton] at e4
  omega
 refine ⟨?_,r2,r3,fun x hx=>(r4 x hx).trans (hs x (List.mem_cons_of_mem _ hx)),fun x hx=>(r5 x hx).trans (hod x hx)⟩
 rcases r1 with ⟨a,b,c⟩ | ⟨a,F',P',b,c,d,e,f,g⟩
 ·exact Or.inl ⟨a,b,key _ c⟩
 ·exact Or.inr ⟨a,F',P',b,c,d,e,f,key _ g⟩
theorem zee (key:ByteArray):∀(h f:Nat) (k:Wk) (p:Int) (F:ByteArray) (L:Prs) (P X O:List Int),h<=f->WOk k O->Live k O X->Live k O P->P.Nodup->(∀x∈P,x∉X)->IsTree k.rd h p F L P->(goDrop key f k p).2.2=true->
  DropRes k (goDrop key f k p) h F (dropL L key) X O P
 | 0,_,_,_,_,_,_,_,_,_,_,_,_,_,_,ht,_=>ht.elim
 | h+1,0,_,_,_,_,_,_,_,hf,_,_,_,_,_,_,_=>by omega
 | h+1,f+1,k,p,F,L,P,X,O,hf,hw,hX,hP,hnd,hdj,⟨n,h1,h2,h3,h4⟩,ho=>by
  have hr:rdN (readD k.ps k.ls p)=(n,true):=h1;have hall:=zdq (zdp h2);rw [<-h3] at hall
  rcases zcY n.ks key n.ks.length with ⟨e,-⟩ | ⟨a,p1,pa,p2,p3⟩
  ·rw [ziA hr (Or.inr (by rw [e];decide))] at ho;cases ho
  ·rcases h4 with ⟨hl,hh,hLe,hPe⟩ | ⟨hl,P',hk,hPe⟩
   ·subst hh hLe hPe
    have hpX:p∉X:=hdj p (List.mem_singleton.2 rfl)
    have hlv:Live k O (p :: X):=fun x hx=>by
     rcases List.mem_cons.1 hx with e | e
     ·exact hP x (by rw [e];exact List.mem_singleton.2 rfl)
     ·exact hX x e
    have hv:=((zbj h2).1 hl).1
    by_cases hkey:n.ks.getD a ⟨#[]⟩=key
    ·have hK:outK n.ks true a n.ks.length=n.ks.take a++n.ks.drop (a+1):=by rw [zco _ _ _ p1 _ (Nat.le_refl _),if_neg (by rintro (e | e);omega;cases e),List.take_length]
     have hV:outK n.vs true a n.ks.length=n.vs.take a++n.vs.drop (a+1):=by rw [<-hv,zco _ _ _ (by omega) _ (Nat.le_refl _),if_neg (by rintro (e | e);omega;cases e),List.take_length]
     rw [zea hr hl pa hkey,hK,hV] at ho⊢;have hz:=zml h2 hv p1 hkey
     have hsub:∀y∈n.ks.take a++n.ks.drop (a+1),y∈n.ks:=fun y hy=>by
      rcases List.mem_append.1 hy with e | e
      ·exact List.mem_of_mem_take e
      ·exact List.mem_of_mem_drop e
     refine zko hw hlv hpX [] (fun x hx=>(by cases hx)) List.nodup_nil (fun x hx=>(by cases hx)) (fun e=> ?_) (fun e=>hall _ (hsub _ (zkp e))) (fun k' q j1 j2 _=>⟨_,j1,j2,rfl,Or.inl ⟨rfl,rfl,?_,rfl⟩⟩) ho
     ·rw [hz,<-zju hv]
      have:n.ks.take a++n.ks.drop (a+1)= []:=List.eq_nil_of_length_eq_zero e;rw [this];exact ⟨rfl,rfl⟩
     ·rw [hz,<-zju hv]
    ·rw [zfu hr hl pa hkey] at ho;cases ho
   ·subst hPe
    have hlen:=zbx hk
    have hac:a<n.cs.length:=by omega
    have hsp:=hk;rw [zb2 n.ks a p1,zb2 n.cs a hac] at hsp
    obtain ⟨LA,PA,LR,PR,kA,kR,bA,rfl,rfl⟩:=(zbG (by rw [List.length_take,List.length_take];omega)).1 hsp
    obtain ⟨g,La,Pa,LB,PB,tA,gA,bB,kB,rfl,rfl⟩:=kR;rw [List.nodup_cons,List.nodup_append,List.nodup_append] at hnd;obtain ⟨np,nA,⟨na,nB,nab⟩,nAr⟩:=hnd;rw [List.mem_append,List.mem_append,not_or,not_or] at np
    have hlP:Live k O PA/\Live k O Pa/\Live k O PB:=⟨fun x hx=>hP x (by simp [hx]),fun x hx=>hP x (by simp [hx]),fun x hx=>hP x (by simp [hx])⟩
    have hpX:p∉X:=hdj p (List.mem_cons_self ..);obtain ⟨R,hR⟩:∃R,R=goDrop key f k (n.cs.getD a 0):=⟨_,rfl⟩;have hc:n.cs.getD a 0=n.cs[a]:=getD_lt _ _ hac _;rw [zdK hr hl pa hR] at ho⊢
    have hRo:R.2.2=true:=by
     cases e:R.2.2 with
     | true=>rfl
     | false=>rw [if_pos e] at ho;cases ho
    rw [if_neg (by rw [hRo];decide)] at ho⊢
    have hX':Live k O (p :: (PA++PB++X)):=fun x hx=>by
     rcases List.mem_cons.1 hx with e | e
     ·exact hP x (by rw [e];exact List.mem_cons_self ..)
     ·rcases List.mem_append.1 e with e | e
      ·rcases List.mem_append.1 e with e | e
       ·exact hlP.1 x e
       ·exact hlP.2.2 x e
      ·exact hX x e
    have hdj':∀x∈Pa,x∉p :: (PA++PB++X):=fun x hx e=>by
     rcases List.mem_cons.1 e with e | e
     ·exact np.2.1 (e▸hx)
     ·rcases List.mem_append.1 e with e | e
      ·rcases List.mem_append.1 e with e | e
       ·exact nAr x e x (List.mem_append_left _ hx) rfl
       ·exact nab x hx x e rfl
      ·exact hdj x (List.mem_cons_of_mem _ (List.mem_append_right _ (List.mem_append_left _ hx))) e
    have ih:=zee key h f k n.cs[a] g La Pa (p :: (PA++PB++X)) O (by omega) hw hX' hlP.2.1 na hdj' tA (by rw [<-hc,<-hR];exact hRo)
    rw [<-hc,<-hR] at ih;obtain ⟨htree,wn,lvn,sn,on⟩:=ih
    have hTge:∀c f L P,IsTree R.1.rd h c f L P->geA f L:=fun _ _ _ _ ht=>zfb h ht
    have kA':KidsOf (IsTree R.1.rd h) (n.ks.take a) (n.cs.take a) LA PA:=zcH (T:=IsTree k.rd h) (T':=IsTree R.1.rd h) (G:=fun x=>R.1.rd x=k.rd x) (fun _ _ _ _ ht hx=>zbq h ht hx) kA (fun x hx=>sn x (by simp [hx]))
    have kB':KidsOf (IsTree R.1.rd h) (n.ks.drop (a+1)) (n.cs.drop (a+1)) LB PB:=zcH (T:=IsTree k.rd h) (T':=IsTree R.1.rd h) (G:=fun x=>R.1.rd x=k.rd x) (fun _ _ _ _ ht hx=>zbq h ht hx) kB (fun x hx=>sn x (by simp [hx]))
    have hxa:n.ks.getD a ⟨#[]⟩=n.ks[a]:=getD_lt _ _ p1 _;rw [hxa] at p2
    have hLAk:ltA LA key:=fun q hq=>lt_le (bA _ (List.mem_cons_self ..) q hq) p2
    have hBk:∀y∈n.ks.drop (a+1),lessB key y=true:=fun y hy=>by
     obtain ⟨j,hj,e⟩:=List.getElem_of_mem hy;rw [List.getElem_drop] at e;rw [List.length_drop] at hj
     have:=p3 (a+1+j) (by omega) (by omega)
     rw [getD_lt _ _ (by omega),e] at this
     exact this
    have hBq:∀q∈LB,lessB key q.1=true:=fun q hq=>by
     obtain ⟨y,hy,hy2⟩:=zeF hTge kB' q hq;exact lt_le (hBk y hy) hy2
    have hdl:dropL (LA++(La++LB)) key=LA++(dropL La key++LB):=by
     rw [<-List.append_assoc,ziO hLAk hBq,List.append_assoc]
    have hlX:Live R.1 O (p :: X):=fun x hx=>lvn x (by
     rcases List.mem_cons.1 hx with e | e
     ·rw [e];exact List.mem_cons_self ..
     ·exact List.mem_cons_of_mem _ (List.mem_append_right _ e))
    have hsX:∀x∈p :: X,R.1.rd x=k.rd x:=fun x hx=>sn x (by
     rcases List.mem_cons.1 hx with e | e
     ·rw [e];exact List.mem_cons_self ..
     ·exact List.mem_cons_of_mem _ (List.mem_append_right _ e))
    have hAX:∀x∈PA,x∉p :: X:=fun x hx e=>by
     rcases List.mem_cons.1 e with e | e
     ·exact np.1 (e▸hx)
     ·exact hdj x (List.mem_cons_of_mem _ (List.mem_append_left _ hx)) e
    have hBX:∀x∈PB,x∉p :: X:=fun x hx e=>by
     rcases List.mem_cons.1 e with e | e
     ·exact np.2.2 (e▸hx)
     ·exact hdj x (List.mem_cons_of_mem _ (List.mem_append_right _ (List.mem_append_right _ hx))) e
    have hlA:Live R.1 O PA:=fun x hx=>lvn x (by simp [hx])
    have hlB:Live R.1 O PB:=fun x hx=>lvn x (by simp [hx])
    have hnAB:∀x∈PA,∀y∈PB,x≠y:=fun x hx y hy=>nAr x hx y (List.mem_append_right _ hy)
    have hlt:(n.ks.take a).length=(n.cs.take a).length:=by rw [List.length_take,List.length_take];omega
    rw [hdl]
    rcases htree with ⟨e0,eL,an⟩ | ⟨e0,F',Pn,tn,gn,ln,nn,dn,an⟩
    ·have hK:outK n.ks (decide (R.2.1=0)) a n.ks.length=n.ks.take a++n.ks.drop (a+1):=by rw [decide_eq_true e0,zco _ _ _ p1 _ (Nat.le_refl _),if_neg (by rintro (e | e);omega;cases e),List.take_length]
     have hC:outC n.cs a R.2.1 n.ks.length=n.cs.take a++n.cs.drop (a+1):=by rw [hlen,zfl _ _ _ hac _ (Nat.le_refl _),if_neg (by omega),if_pos e0,List.take_length,List.append_nil]
     rw [hK,hC] at ho⊢;rw [eL,List.nil_append]
     refine zhp (B:= []) (C:=PA++PB) hsX on an (fun x=>by simp) (fun x=>by simp [List.count_append,List.count_cons];omega) (zmm wn hlX hpX ((zbG hlt).2 ⟨LA,PA,LB,PB,kA',kB',fun y hy=>bA y (List.mem_cons_of_mem _ hy),rfl,rfl⟩) (zfU.2 ⟨hlA,hlB⟩) (List.nodup_append.2 ⟨nA,nB,hnAB⟩) (fun x hx=> ?_) (fun y hy=>hall y ?_) ho)
     ·rcases List.mem_append.1 hx with e | e
      ·exact hAX x e
      ·exact hBX x e
     ·rcases List.mem_append.1 hy with e | e
      ·exact List.mem_of_mem_take e
      ·exact List.mem_of_mem_drop e
    ·have hK:outK n.ks (decide (R.2.1=0)) a n.ks.length=n.ks.take a++n.ks[a] :: n.ks.drop (a+1):=by rw [decide_eq_false e0,zco _ _ _ p1 _ (Nat.le_refl _),if_pos (Or.inr rfl),List.take_length,<-zb2 _ _ p1]
     have hC:outC n.cs a R.2.1 n.ks.length=n.cs.take a++R.2.1 :: n.cs.drop (a+1):=by
      rw [hlen,zfl _ _ _ hac _ (Nat.le_refl _),if_neg (by omega),if_neg e0,List.take_length,List.append_assoc]
      rfl
     rw [hK,hC] at ho⊢
     refine zhp (B:=Pn) (C:=PA++PB) hsX on an (fun x=>by simp [List.count_append];omega) (fun x=>by simp [List.count_append,List.count_cons];omega) (zmm (P:=PA++(Pn++PB)) wn hlX hpX ((zbG hlt).2 ⟨LA,PA,dropL La key++LB,Pn++PB,kA',⟨F',_,Pn,LB,PB,tn,le_trans gA gn,fun y hy q hq=>bB y hy q (List.mem_filter.1 hq).1,kB',rfl,rfl⟩,bA,rfl,rfl⟩) (zfU.2 ⟨hlA,zfU.2 ⟨ln,hlB⟩⟩) ?_ (fun x hx=> ?_) (fun y hy=>hall y ?_) ho)
     ·rw [List.nodup_append,List.nodup_append]
      refine ⟨nA,⟨nn,nB,fun x hx y hy e=>dn x hx (by rw [e];simp [hy])⟩,fun x hx y hy e=> ?_⟩
      rcases List.mem_append.1 hy with e' | e'
      ·exact dn y e' (by rw [<-e];simp [hx])
      ·exact hnAB x hx y e' e
     ·rcases List.mem_append.1 hx with e | e
      ·exact hAX x e
      ·rcases List.mem_append.1 e with e | e
       ·intro e2
        refine dn x e ?_
        rcases List.mem_cons.1 e2 with e2 | e2
        ·rw [e2];exact List.mem_cons_self ..
        ·exact List.mem_cons_of_mem _ (List.mem_append_right _ e2)
       ·exact hBX x e
     ·rw [zb2 n.ks a p1];exact hy
open Go.RowKit
theorem kid_ne {n:Nd} (h:n.ok=true) {c:Int} (hc:c∈n.cs):c≠0:=by
 obtain ⟨i,hi,e⟩:=List.getElem_of_mem hc;have:=(zam h).2.2.2 i hi;unfold kidB at this;rw [getD_lt _ _ hi,e] at this
 simp only [Bool.and_eq_true,decide_eq_true_eq] at this
 omega
open Go.RowKit
def lookL:Prs->ByteArray->Option ByteArray
 | [],_=>none
 | q :: L,key=>if q.1=key then some q.2 else lookL L key
theorem zef {A B:Prs} {key:ByteArray} (h:∀q∈A,q.1≠key):lookL (A++B) key=lookL B key:=by
 induction A with
 | nil=>rfl
 | cons q A ih=>
  rw [List.cons_append,lookL,if_neg (h q (List.mem_cons_self ..))]
  exact ih (fun r hr=>h r (List.mem_cons_of_mem _ hr))
theorem ziP {A:Prs} {key:ByteArray} (h:∀q∈A,q.1≠key):lookL A key=none:=by
 have:=zef (B:= []) h;rw [List.append_nil] at this;exact this
theorem zhq {A B:Prs} {key:ByteArray} (h:∀q∈B,q.1≠key):lookL (A++B) key=lookL A key:=by
 induction A with
 | nil=>exact ziP h
 | cons q A ih=>rw [List.cons_append,lookL,lookL,ih]
theorem ne_lt {x y:ByteArray} (h:lessB x y=true):x≠y:=fun e=>by
 subst e;rw [zb7] at h
 cases h
theorem zkq {D:Int->ByteArray} (key:ByteArray):∀(h f:Nat) (p:Int) (F:ByteArray) (L:Prs) (P:List Int),h<=f->IsTree (fun q=>rdN (D q)) h p F L P->getL D key f p=lookL L key
 | 0,_,_,_,_,_,_,ht=>ht.elim
 | h+1,0,_,_,_,_,hf,_=>by omega
 | h+1,f+1,p,F,L,P,hf,⟨n,h1,h2,h3,h4⟩=>by
  have hr:rdN (D p)=(n,true):=h1;have hasc:=zdp h2;rw [getL,hr]
  show (if true=false\/placeK n.ks key n.ks.length<0 then none else if n.lf=true then (if n.ks.getD (placeK n.ks key n.ks.length).toNat ⟨#[]⟩=key then some (n.vs.getD (placeK n.ks key n.ks.length).toNat ⟨#[]⟩) else none) else getL D key f (n.cs.getD (placeK n.ks key n.ks.length).toNat 0))=lookL L key
  have hTge:∀c f L P,IsTree (fun q=>rdN (D q)) h c f L P->geA f L:=fun _ _ _ _ ht=>zfb h ht
  rcases zcY n.ks key n.ks.length with ⟨e,p0⟩ | ⟨a,p1,pa,p2,p3⟩
  ·rw [if_pos (Or.inr (by rw [e];decide))]
   have hall:∀y∈n.ks,lessB key y=true:=fun y hy=>by
    obtain ⟨j,hj,e⟩:=List.getElem_of_mem hy;have:=p0 j hj;rw [getD_lt _ _ hj,e] at this;exact this
   refine (ziP (fun q hq e=> ?_)).symm
   rcases h4 with ⟨hl,hh,hLe,hPe⟩ | ⟨hl,P',hk,hPe⟩
   ·rw [hLe] at hq
    exact ne_lt (hall q.1 (List.of_mem_zip hq).1) e.symm
   ·obtain ⟨y,hy,hy2⟩:=zeF hTge hk q hq
    exact ne_lt (lt_le (hall y hy) hy2) e.symm
  ·rw [if_neg (by rintro (e | e);cases e;rw [pa] at e;omega),pa]
   show (if n.lf=true then (if n.ks.getD a ⟨#[]⟩=key then some (n.vs.getD a ⟨#[]⟩) else none) else getL D key f (n.cs.getD a 0))=lookL L key
   have hBk:∀y∈n.ks.drop (a+1),lessB key y=true:=fun y hy=>by
    obtain ⟨j,hj,e⟩:=List.getElem_of_mem hy;rw [List.getElem_drop] at e;rw [List.length_drop] at hj
    have:=p3 (a+1+j) (by omega) (by omega)
    rw [getD_lt _ _ (by omega),e] at this
    exact this
   have hxa:n.ks.getD a ⟨#[]⟩=n.ks[a]:=getD_lt _ _ p1 _;rw [hxa] at p2⊢
   rcases h4 with ⟨hl,hh,hLe,hPe⟩ | ⟨hl,P',hk,hPe⟩
   ·have hv:=((zbj h2).1 hl).1
    have hav:a<n.vs.length:=by omega
    rw [if_pos hl,getD_lt _ _ hav,hLe]
    have hz:n.ks.zip n.vs=(n.ks.take a).zip (n.vs.take a)++([(n.ks[a],n.vs[a])]++(n.ks.drop (a+1)).zip (n.vs.drop (a+1))):=by
     conv=>lhs;rw [zb2 n.ks a p1,zb2 n.vs a hav]
     rw [List.zip_append (by rw [List.length_take,List.length_take];omega)]
     rfl
    rw [hz,zef (fun q hq e=> ?_),zhq (fun q hq e=> ?_)]
    ·rfl
    ·exact ne_lt (hBk q.1 (List.of_mem_zip hq).1) e.symm
    ·have hq1:=(List.of_mem_zip hq).1
     obtain ⟨j,hj,ej⟩:=List.getElem_of_mem hq1;rw [List.length_take] at hj;rw [List.getElem_take] at ej
     have hlt:=(List.pairwise_iff_getElem.1 hasc) j a (by omega) p1 (by omega)
     rw [ej] at hlt;exact ne_lt (lt_le hlt p2) e
   ·have hlen:=zbx hk
    have hac:a<n.cs.length:=by omega
    rw [if_neg (by rw [hl];decide),getD_lt _ _ hac]
    have hsp:=hk;rw [zb2 n.ks a p1,zb2 n.cs a hac] at hsp
    obtain ⟨LA,PA,LR,PR,kA,kR,bA,rfl,rfl⟩:=(zbG (by rw [List.length_take,List.length_take];omega)).1 hsp
    obtain ⟨g,La,Pa,LB,PB,tA,gA,bB,kB,rfl,rfl⟩:=kR
    rw [zef (fun q hq e=>ne_lt (lt_le (bA _ (List.mem_cons_self ..) q hq) p2) e),zhq (fun q hq e=>by
     obtain ⟨y,hy,hy2⟩:=zeF hTge kB q hq
     exact ne_lt (lt_le (hBk y hy) hy2) e.symm)]
    exact zkq key h f _ g La Pa (by omega) tA
theorem znc {D:Int->ByteArray} (key:ByteArray) {root:Int} {L:Prs} {P:List Int} (h:IsRoot (fun q=>rdN (D q)) root L P):getK D root key=lookL L key:=by
 rw [getK]
 rcases h with ⟨a,b,-⟩ | ⟨d,f,h1,h2,h3⟩
 ·rw [if_pos a,b];rfl
 ·rw [if_neg h2]
  exact zkq key d 8 root f L P h1 h3
open Go.RowKit
theorem zmn (n:Nd) (h:n.vs.length=n.ks.length):pairsN n=n.ks.zip n.vs:=by
 unfold pairsN
 apply List.ext_getElem
 ·simp [h]
 ·intro i h1 h2
  simp only [List.length_map,List.length_range] at h1
  simp [List.getD_eq_getElem?_getD,h1,show i<n.ks.length by omega]
theorem zkZ (a b:List Vis):pairsV (a++b)=pairsV a++pairsV b:=by simp [pairsV]
theorem zl0 (a b:List Vis):pagesV (a++b)=pagesV a++pagesV b:=by simp [pagesV]
theorem ziQ {T:Int->ByteArray->Prs->List Int->Prop} {D:Int->List (Nd×Nat)->List Int->List Vis×Option (List Int)} (n:Nd) (way:List (Nd×Nat)) (s0:List Int)
  (hD:∀c f L P w seen,T c f L P->(∀x∈P,x∉seen)->P.Nodup->∃vs,D c w seen=(vs,some (seen++P))/\pairsV vs=L/\pagesV vs=P) (hlen:n.ks.length=n.cs.length):
  ∀(i:Nat) (L:Prs) (P:List Int),i<=n.cs.length->KidsOf T (n.ks.take i) (n.cs.take i) L P->(∀x∈P,x∉s0)->P.Nodup->∃vs,kidsL D n way s0 i=(vs,some (s0++P))/\pairsV vs=L/\pagesV vs=P
 | 0,L,P,_,hk,_,_=>by
  rw [List.take_zero,List.take_zero] at hk;obtain ⟨e1,e2⟩:=hk;subst e1 e2
  exact ⟨[],by rw [kidsL,List.append_nil],rfl,rfl⟩
 | i+1,L,P,hi,hk,hs,hn=>by
  have hk1:i<n.ks.length:=by omega
  rw [List.take_succ_eq_append_getElem hk1,List.take_succ_eq_append_getElem (by omega:i<n.cs.length)] at hk
  obtain ⟨La,Pa,Lb,Pb,kA,kB,-,rfl,rfl⟩:=(zbG (by rw [List.length_take,List.length_take];omega)).1 hk
  obtain ⟨f,L1,P1,L2,P2,t1,-,-,⟨e1,e2⟩,e3,e4⟩:=kB;rw [e1,List.append_nil] at e3;rw [e2,List.append_nil] at e4;subst e3 e4;obtain ⟨n1,n2,n3⟩:=List.nodup_append.1 hn
  obtain ⟨vs,v1,v2,v3⟩:=ziQ n way s0 hD hlen i La Pa (by omega) kA (fun x hx=>hs x (List.mem_append_left _ hx)) n1
  obtain ⟨us,u1,u2,u3⟩:=hD n.cs[i] f Lb Pb (way++ [(n,i)]) (s0++Pa) t1 (fun x hx hx2=>by
   rcases List.mem_append.1 hx2 with e | e
   ·exact hs x (List.mem_append_right _ hx) e
   ·exact n3 x e x hx rfl) n2
  have hg:n.cs.getD i 0=n.cs[i]:=getD_lt _ _ (by omega) _
  refine ⟨vs++us,?_,by rw [zkZ,v2,u2],by rw [zl0,v3,u3]⟩
  rw [zde (s:=s0++Pa) (by rw [v1]),hg,u1,v1,List.append_assoc]
theorem ziR {R:Int->Nd×Bool}:∀(h k:Nat) (p:Int) (f:ByteArray) (L:Prs) (P:List Int) (way:List (Nd×Nat)) (seen:List Int),h<=k->IsTree R h p f L P->(∀x∈P,x∉seen)->P.Nodup->∃vs,downL R k p way seen=(vs,some (seen++P))/\pairsV vs=L/\pagesV vs=P
 | 0,_,_,_,_,_,_,_,_,ht,_,_=>ht.elim
 | h+1,0,_,_,_,_,_,_,hk,_,_,_=>by omega
 | h+1,k+1,p,f,L,P,way,seen,hk,⟨n,h1,h2,h3,h4⟩,hs,hn=>by
  have hps:p∉seen:=by
   rcases h4 with ⟨-,-,-,d⟩ | ⟨-,P',-,d⟩
   ·exact hs p (by rw [d];exact List.mem_singleton.2 rfl)
   ·exact hs p (by rw [d];exact List.mem_cons_self ..)
  rw [downL,h1,if_neg (by rintro (e | e);cases e;exact hps e)]
  show ∃vs,(⟨p,n,way⟩ :: (kidsL (downL R k) n way (seen++ [p]) n.cs.length).1,(kidsL (downL R k) n way (seen++ [p]) n.cs.length).2)=(vs,some (seen++P))/\pairsV vs=L/\pagesV vs=P
  rcases h4 with ⟨hl,hh,hLe,hPe⟩ | ⟨hl,P',hkk,hPe⟩
  ·obtain ⟨e1,e2⟩:=(zbj h2).1 hl
   have ec:n.cs.length=0:=by rw [e2];rfl
   rw [ec]
   refine ⟨[⟨p,n,way⟩],by rw [kidsL,hPe],?_,by rw [hPe];rfl⟩
   show pairsN n++ []=L
   rw [List.append_nil,hLe,zmn n e1]
  ·have hlen:=zbx hkk
   rw [hPe] at hs hn;obtain ⟨m1,m2⟩:=List.nodup_cons.1 hn
   have hkt:KidsOf (IsTree R h) (n.ks.take n.cs.length) (n.cs.take n.cs.length) L P':=by
    rw [<-hlen,List.take_length,hlen,List.take_length];exact hkk
   obtain ⟨vs,v1,v2,v3⟩:=ziQ (D:=downL R k) n way (seen++ [p]) (fun c f L P w s ht hx hd=>ziR h k c f L P w s (by omega) ht hx hd) hlen n.cs.length L P' (Nat.le_refl _) hkt (fun x hx hx2=>by
    rcases List.mem_append.1 hx2 with e | e
    ·exact hs x (List.mem_cons_of_mem _ hx) e
    ·rw [List.mem_singleton] at e;subst e;exact m1 hx) m2
   rw [v1];have ev:n.vs= []:=((zbj h2).2 hl).2
   refine ⟨⟨p,n,way⟩ :: vs,by rw [hPe,List.append_assoc];rfl,?_,by rw [hPe];show p :: pagesV vs=_;rw [v3]⟩
   show pairsN n++pairsV vs=L
   rw [v2];unfold pairsN;rw [ev]
   rfl
theorem znd {R:Int->Nd×Bool} {root:Int} {L:Prs} {P:List Int} (h:IsRoot R root L P) (hn:P.Nodup):allI R root=(L,true)/\(seenI R root).2=true/\pagesV (seenI R root).1=P:=by
 unfold allI seenI
 rcases h with ⟨a,b,c⟩ | ⟨d,f,h1,h2,h3⟩
 ·rw [if_pos a]
  exact ⟨by rw [if_pos rfl,b];rfl,rfl,by rw [c];rfl⟩
 ·rw [if_neg h2]
  obtain ⟨vs,v1,v2,v3⟩:=ziR d 8 root f L P [] [] h1 h3 (fun x _ hx=>by cases hx) hn
  rw [v1];refine ⟨?_,rfl,v3⟩
  show (if true=true then (pairsV vs,true) else ([],false))=(L,true)
  rw [if_pos rfl,v2]
open Go.RowKit
theorem zl1 {w w1 w2:World} {B:Nat} {a:Option Addr} {len cap:Nat} (h:Below w.heap.size w w1) (hd:Drawn w1 w2 w.heap.size B a len cap):Below w.heap.size w w2:=
 h.grown hd.2.1 h.size (fun k hk=>by injection hk with hk;omega)
theorem zhW (a:Option Addr) (len cap:Nat) (w:World) (hd:CodeIn w w.heap.size a len):
  Calls Tryz.prog 6 #[.slice a len cap] w fun e w'=>∃(L:List (ByteArray×ByteArray)) (v:Value),e= .returned v/\DrwP L/\w'.ownsRow w.heap.size 41 2 v L.length (prq L)/\Below w.heap.size w w':=by
 have HD:=hide hd;clear hd;go_enter Tryz.func6,Tryz.ntmps6;go_wp2_with fail;refine (zhb a len cap w HD.out).mono ?_;rintro e w1 ⟨rfl,hc1,hd1,hb1⟩;have HC:=hide (⟨hc1,hd1,hb1⟩:_/\_/\_);clear hc1 hd1 hb1;go_wp2_with fail;refine (ziN w.heap.size w.heap.size a len cap w1 HC.out.1 HC.out.2.1 (Nat.le_refl _)).mono ?_;rintro e w2 ⟨L,v,rfl,hp,ho,hd3⟩;have HP:=hide (⟨hp,zad ho HC.out.2.2.size,zl1 HC.out.2.2 hd3⟩:_/\_/\_);clear hp ho hd3;go_wp2_with fail
 refine bodyPost_ret (v:=v) (by simp [results,Tryz.results6,go_sem]) rfl ⟨L,v,rfl,HP.out.1,HP.out.2.1,HP.out.2.2⟩
theorem zjv {w w':World} {a:Option Addr} {len:Nat} (h:CodeIn w w.heap.size a len) (hb:Below w.heap.size w w'):CodeIn w' w'.heap.size a len:=by
 refine ⟨h.1,?_⟩
 rcases h.2 with h0 | ⟨b,off,e,hlt,hz⟩
 ·exact Or.inl h0
 ·refine Or.inr ⟨b,off,e,Nat.lt_of_lt_of_le hlt hb.size,fun j hj=> ?_⟩
  obtain ⟨z,h1,h2⟩:=hz j hj
  exact ⟨z,h1,by rw [hb.cell (by exact hlt)];exact h2⟩
theorem ziS (w:World):FreesAt w (.slice none 0 0) []:=⟨[],rfl,⟨rfl,none,0,rfl,Or.inl rfl⟩,by simp⟩
def LpSt (w1:World) (g:Nat) (w:World) (k:Wk):Prop:=
 ∃cs,w.heap[g]?=some (.cells cs 34 (0,0))/\WorkOwn w w1.heap.size (.agg cs) k/\(∀j,workBlocks (.agg cs) j->j≠g)/\w1.heap.size<=g
theorem zdS {w1 w w':World} {g:Nat} {k:Wk} (h:LpSt w1 g w k) (hb:Below w.heap.size w w'):LpSt w1 g w' k:=by
 obtain ⟨cs,h1,h2,h3,h4⟩:=h;exact ⟨cs,stays h1 hb,zbu h2 hb,h3,h4⟩
theorem zkr {w1 wx:World} {g B:Nat} {k:Wk} {u0 u1 u2 u3 u4 u5 r0 r1 r2 r3 r4 r5:Value} (hg:wx.heap[g]?=some (.cells #[r0,r1,r2,r3,r4,r5] 34 (0,0))) (ho:WorkOwn wx B (.agg #[u0,u1,u2,u3,u4,u5]) k) (hgB:g<B) (hle:w1.heap.size<=g) (hb:Below w1.heap.size w1 wx):LpSt w1 g (set6 wx g u0 u1 u2 u3 u4 u5) k/\Below w1.heap.size w1 (set6 wx g u0 u1 u2 u3 u4 u5):=by
 have hk:=zaQ wx g u0 u1 u2 u3 u4 u5
 have hne:∀j,workBlocks (.agg #[u0,u1,u2,u3,u4,u5]) j->j≠g:=fun j hj=>by have:=(zal ho j hj).1;omega
 exact ⟨⟨_,zcq hg,zaU (zcp ho hk (fun j hj e=>hne j hj e)) (by omega),hne,hle⟩,hb.trans (zac hk hb.size (fun j e=>by omega))⟩
theorem zhX (ps:List ByteArray) (ls:List (Int×ByteArray)) (hp:ps.length<=1048576) (hl:ls.length<=1048576) (hps:∀s∈ps,s.size<=1048576) (hls:∀p∈ls,p.2.size<=1048576) (v:Value) (root:Int) (L:List (ByteArray×ByteArray)) (hL:allS (fun q=>rdN (readD ps ls q)) root=(L,true)) (w:World) (hd:DiskAt w v ps ls) (hdk:∀k,diskBlocks v k->k<w.heap.size):
  Calls Tryz.prog 12 #[v,.int .i64 root] w fun e w'=>∃u,e= .returned u/\w'.ownsRow w.heap.size 41 2 u L.length (prq L)/\Below w.heap.size w w':=by
 have hx:∀o,Below w.heap.size w (w.alloc o):=fun o=>(Below.refl _ _).alloc (Nat.le_refl _) o
 have HA:=hide (fun o=>zfF ps ls hp hl hps hls v root (w.alloc o) (zak hd (hx o)) (fun k hk=>Nat.lt_of_lt_of_le (hdk k hk) (hx o).size))
 rw [hL] at HA;obtain ⟨v1,v2,rfl,-,-⟩:=id hd;have HX:=hide hx;clear hd hdk hL hx;go_enter Tryz.func12,Tryz.ntmps12;go_wp2_with fail;refine (HA.out _).mono ?_;rintro e w1 ⟨u,rfl,ho,hb⟩;have HO:=hide (⟨zad ho (HX.out _).size,(HX.out _).trans (hb.mono (HX.out _).size)⟩:_/\_);clear ho hb;go_wp2_with fail
 refine bodyPost_ret (v:=u) (by simp [results,Tryz.results12,go_sem]) rfl ⟨u,rfl,HO.out.1,HO.out.2⟩
theorem zh4 {w:World} {B:Nat} {a b c d e f:Value} {k:Wk} (h:WorkOwn w B (.agg #[a,b,c,d,e,f]) k):∀j,diskBlocks (.agg #[a,b]) j->j<w.heap.size:=fun j hj=>
 (zal h j ⟨_,_,_,_,_,_,rfl,Or.inl hj⟩).2
open Go.RowKit
noncomputable def lowS:Nat->Wk->Int->Option (Wk×Int)
 | 0,_,_=>none
 | f+1,k,p=>if (k.rd p).2=false then none else if (k.rd p).1.lf=true\/1<(k.rd p).1.cs.length then some (k,p) else lowS f (dropS k p) ((k.rd p).1.cs.getD 0 0)
theorem zgM {f:Nat} {k:Wk} {p:Int} {n:Nd} (h:rdN (readD k.ps k.ls p)=(n,true)) (hs:n.lf=true\/1<n.cs.length):lowS (f+1) k p=some (k,p):=by
 have h':k.rd p=(n,true):=h
 rw [lowS,h',if_neg (fun e=>by cases e),if_pos hs]
theorem zjw {f:Nat} {k:Wk} {p:Int} {n:Nd} (h:rdN (readD k.ps k.ls p)=(n,true)) (hl:n.lf=false) (hs:¬1<n.cs.length):lowS (f+1) k p=lowS f (dropS k p) (n.cs.getD 0 0):=by
 have h':k.rd p=(n,true):=h
 rw [lowS,h',if_neg (fun e=>by cases e),if_neg (by rw [hl];rintro (e | e);cases e;exact hs e)]
theorem ziT:∀(h f:Nat) (k:Wk) (p:Int) (F:ByteArray) (L:Prs) (P X O:List Int),h<=f->h<=8->p≠0->WOk k O->Live k O X->Live k O P->P.Nodup->(∀x∈P,x∉X)->IsTree k.rd h p F L P->∃T,lowS f k p=some T/\RootRes k T.1 T.2 L X O P
 | 0,_,_,_,_,_,_,_,_,_,_,_,_,_,_,_,_,ht=>ht.elim
 | h+1,0,_,_,_,_,_,_,_,hf,_,_,_,_,_,_,_,_=>by omega
 | h+1,f+1,k,p,F,L,P,X,O,hf,h8,hp,hw,hX,hP,hn,hd,⟨n,h1,h2,h3,h4⟩=>by
  have hr:rdN (readD k.ps k.ls p)=(n,true):=h1
  by_cases hs:n.lf=true\/1<n.cs.length
  ·refine ⟨(k,p),zgM hr hs,⟨P,Or.inr ⟨h+1,F,h8,hp,⟨n,h1,h2,h3,h4⟩⟩,hP,hn,hd,zmT k P⟩,hw,hX,fun _ _=>rfl,fun _ _=>rfl⟩
  ·rw [not_or] at hs
   rcases h4 with ⟨a,-⟩ | ⟨a,P',hk,rfl⟩
   ·exact absurd a hs.1
   ·have hpos:=ziC h2
    have hlen:=zbx hk
    match hC:n.cs,hlen,hs.2 with
    | [],hl,_=>exact absurd hl (by rw [List.length_nil];omega)
    | c :: d :: C,_,hx=>exact absurd (by simp) hx
    | [c],hl,_=>
     match hK:n.ks,hl with
     | [x],_=>
      rw [hK,hC] at hk;obtain ⟨g,L1,P1,L2,P2,t1,-,-,⟨rfl,rfl⟩,rfl,rfl⟩:=hk;rw [List.append_nil] at hP hn hd⊢;rw [List.nodup_cons] at hn;have hpX:p∉X:=hd p (List.mem_cons_self ..)
      obtain ⟨d1,d2,d3⟩:=zeD hw p (fun x hx=>hP x (by rw [List.mem_singleton] at hx;rw [hx];exact List.mem_cons_self ..))
      have hc0:c≠0:=kid_ne h2 (by rw [hC];exact List.mem_singleton.2 rfl)
      obtain ⟨T,hT,r1,r2,r3,r4,r5⟩:=ziT h f (dropS k p) c g L1 P1 X O (by omega) (by omega) hc0 d1 (d3 X hX hpX) (d3 P1 (fun x hx=>hP x (List.mem_cons_of_mem _ hx)) hn.1) hn.2 (fun x hx=>hd x (List.mem_cons_of_mem _ hx)) (zbq h t1 (fun x _=>d2 x))
      have hlf:n.lf=false:=by simpa using hs.1
      obtain ⟨P9,s1,s2,s3,s4,s5⟩:=r1
      refine ⟨T,?_,⟨P9,s1,s2,s3,s4,zmU (zlR (C:=P1) (zhO k p) s5) (fun x=>by rw [List.append_nil];rfl) (fun x=>rfl)⟩,r2,r3,fun x hx=>(r4 x hx).trans (d2 x),fun x hx=>(r5 x hx).trans (d2 x)⟩
      rw [zjw hr hlf hs.2,hC];exact hT
open Go.RowKit
noncomputable def wayD (R:Int->Nd×Bool) (key:ByteArray):Nat->Int->Option (List WLvl)
 | 0,_=>none
 | f+1,p=>if (R p).2=false\/placeK (R p).1.ks key (R p).1.ks.length<0 then none
  else if (R p).1.lf=true then (if (R p).1.ks.getD (placeK (R p).1.ks key (R p).1.ks.length).toNat ⟨#[]⟩=key then some [(p,(R p).1,placeK (R p).1.ks key (R p).1.ks.length)] else none)
  else (wayD R key f ((R p).1.cs.getD (placeK (R p).1.ks key (R p).1.ks.length).toNat 0)).map fun r=>(p,(R p).1,placeK (R p).1.ks key (R p).1.ks.length) :: r
def bkK (n:Nd) (a:Nat) (kid:Int):List ByteArray:=if kid≠0 then n.ks else n.ks.take a++n.ks.drop (a+1)
def bkV (n:Nd) (a:Nat):List ByteArray:=if n.lf=true then n.vs.take a++n.vs.drop (a+1) else []
def bkC (n:Nd) (a:Nat) (kid:Int):List Int:=if n.lf=true then [] else if kid≠0 then n.cs.take a++ [kid]++n.cs.drop (a+1) else n.cs.take a++n.cs.drop (a+1)
noncomputable def backS:List WLvl->Wk->Wk×Int×Bool
 | [],k=>(k,0,true)
 | x :: r,k=>if (backS r k).2.2=false then ((backS r k).1,0,false)
  else endD x.1 (backS r k).1 x.2.1.lf (bkK x.2.1 x.2.2.toNat (backS r k).2.1) (bkV x.2.1 x.2.2.toNat) (bkC x.2.1 x.2.2.toNat (backS r k).2.1)
theorem zhr (key:ByteArray):∀(f:Nat) (k:Wk) (p:Int) (ws:List WLvl),wayD k.rd key f p=some ws->goDrop key f k p=backS ws k
 | 0,_,_,_,h=>by cases h
 | f+1,k,p,ws,h=>by
  obtain ⟨n,ok,hn⟩:∃n ok,rdN (readD k.ps k.ls p)=(n,ok):=⟨_,_,rfl⟩;have hn':k.rd p=(n,ok):=hn;rw [wayD,hn'] at h;dsimp only at h
  split at h
  ·cases h
  ·next hb=>
   rw [not_or] at hb
   have hok:ok=true:=by cases ok with | true=>rfl | false=>exact absurd rfl hb.1
   subst hok
   obtain ⟨a,ha⟩:∃a:Nat,placeK n.ks key n.ks.length=(a:Int):=⟨(placeK n.ks key n.ks.length).toNat,by omega⟩
   have hal:a<n.ks.length:=by
    have:=(zbR n.ks key n.ks.length).2;omega
   have hnk:=zew hn;obtain ⟨ev1,ev2⟩:=zbj hnk;rw [ha,Int.toNat_natCast] at h
   have hK:∀kid:Int,outK n.ks (decide (kid=0)) a n.ks.length=bkK n a kid:=fun kid=>by
    rw [zco _ _ _ hal _ (Nat.le_refl _),List.take_length,bkK]
    by_cases h0:kid=0
    ·rw [if_neg (by simp [h0];omega),if_neg (by simp [h0])]
    ·rw [if_pos (Or.inr (by simp [h0])),if_pos h0]
   split at h
   ·next hl=>
    split at h
    ·next hk=>
     injection h with h
     subst h;rw [zea hn hl ha hk];have hv:=(ev1 hl).1
     have e1:outK n.ks true a n.ks.length=bkK n a 0:=by have:=hK 0;simpa using this
     have e2:outK n.vs true a n.ks.length=bkV n a:=by
      rw [zco _ _ _ (by omega) _ (by omega),if_neg (by simp;omega),bkV,if_pos hl,<-hv,List.take_length]
     rw [e1,e2,backS,if_neg (by rw [backS];exact fun e=>by cases e)]
     show endD p k true _ _ _=endD p (backS [] k).1 n.lf (bkK n (a:Int).toNat (backS [] k).2.1) (bkV n (a:Int).toNat) (bkC n (a:Int).toNat (backS [] k).2.1)
     rw [hl,Int.toNat_natCast,show bkC n a (backS [] k).2.1= [] from by rw [bkC,if_pos hl]]
     rfl
    ·cases h
   ·next hl=>
    obtain ⟨r,hr,rfl⟩:=Option.map_eq_some_iff.1 h
    have hlf:n.lf=false:=by simpa using hl
    have ih:=zhr key f k _ r hr;rw [zdK hn hlf ha ih.symm,backS];have hc:=ev2 hlf
    split
    ·rfl
    ·show endD p _ false _ _ _=endD p _ n.lf (bkK n (a:Int).toNat _) (bkV n (a:Int).toNat) (bkC n (a:Int).toNat _)
     rw [hlf,Int.toNat_natCast,hK,show bkV n a= [] from by rw [bkV,if_neg hl],bkC,if_neg hl]
     congr 1
     rw [<-hc.1,zfl _ _ _ (by rw [hc.1];exact hal) _ (Nat.le_refl _),List.take_length,if_neg (by omega)]
     by_cases h0:(backS r k).2.1=0
     ·rw [if_pos h0,if_neg (by simp [h0]),List.append_nil]
     ·rw [if_neg h0,if_pos h0]
theorem ziU (key:ByteArray):∀(f:Nat) (k:Wk) (p:Int),(goDrop key f k p).2.2=true->∃ws,wayD k.rd key f p=some ws
 | 0,k,p,h=>by rw [goDrop] at h;cases h
 | f+1,k,p,h=>by
  obtain ⟨n,ok,hn⟩:∃n ok,rdN (readD k.ps k.ls p)=(n,ok):=⟨_,_,rfl⟩;have hn':k.rd p=(n,ok):=hn
  by_cases hb:ok=false\/placeK n.ks key n.ks.length<0
  ·rw [ziA hn hb] at h;cases h
  ·rw [wayD,hn']
   dsimp only;rw [if_neg hb];rw [not_or] at hb
   have hok:ok=true:=by cases ok with | true=>rfl | false=>exact absurd rfl hb.1
   subst hok
   obtain ⟨a,ha⟩:∃a:Nat,placeK n.ks key n.ks.length=(a:Int):=⟨(placeK n.ks key n.ks.length).toNat,by omega⟩
   rw [ha,Int.toNat_natCast]
   cases hl:n.lf with
   | true=>
    by_cases hk:n.ks.getD a ⟨#[]⟩=key
    ·exact ⟨_,by rw [if_pos rfl,if_pos hk]⟩
    ·rw [zfu hn hl ha hk] at h;cases h
   | false=>
    rw [zdK hn hl ha rfl] at h
    have hr:(goDrop key f k (n.cs.getD a 0)).2.2=true:=by
     cases e:(goDrop key f k (n.cs.getD a 0)).2.2 with
     | true=>rfl
     | false=>rw [if_pos e] at h;cases h
    obtain ⟨r,hr⟩:=ziU key f k _ hr
    exact ⟨_,by rw [if_neg (by decide),hr];rfl⟩
open Go.RowKit
theorem zgN {R:Int->Nd×Bool} (hR:∀p,(R p).2=true->(R p).1.ok=true) {key:ByteArray}:∀{f:Nat} {p:Int} {ws:List WLvl},wayD R key f p=some ws->WGood ws/\(∀x∈ws,0<=x.2.2)/\ws.length<=f
 | 0,_,_,h=>by cases h
 | f+1,p,ws,h=>by
  rw [wayD] at h
  split at h
  ·cases h
  ·next h1=>
   rw [not_or] at h1
   have hok:(R p).1.ok=true:=hR p (by simpa using h1.1)
   have hr:=zbR (R p).1.ks key (R p).1.ks.length
   have h0:0<=placeK (R p).1.ks key (R p).1.ks.length:=by omega
   split at h
   ·next h2=>
    split at h
    ·injection h with h;subst h
     exact ⟨⟨hok,h2,hr.1,hr.2⟩,fun x hx=>by rw [List.mem_singleton] at hx;subst hx;exact h0,by simp⟩
    ·cases h
   ·next h2=>
    obtain ⟨r,h3,rfl⟩:=Option.map_eq_some_iff.1 h;obtain ⟨g1,g2,g3⟩:=zgN hR h3
    have h2':(R p).1.lf=false:=by simpa using h2
    refine ⟨?_,fun x hx=> ?_,by rw [List.length_cons];omega⟩
    ·cases r with
     | nil=>exact g1.elim
     | cons y r=>exact ⟨⟨hok,h2',h0,hr.2⟩,g1⟩
    ·rcases List.mem_cons.1 hx with e | e
     ·subst e;exact h0
     ·exact g2 x e
theorem zhY:∀{ws:List WLvl} {k:Wk},(backS ws k).2.2=true->∀i,(backS (ws.drop i) k).2.2=true
 | [],_,_,_=>by rw [List.drop_nil,backS]
 | x :: r,k,h,0=>h
 | x :: r,k,h,i+1=>by
  rw [backS] at h
  split at h
  ·cases h
  ·next h1=>exact zhY (by simpa using h1) i
theorem zmo {ws:List WLvl} {i:Nat} (hi:i<ws.length) {k:Wk} (h:(backS (ws.drop (i+1)) k).2.2=true):backS (ws.drop i) k=endD ws[i].1 (backS (ws.drop (i+1)) k).1 ws[i].2.1.lf (bkK ws[i].2.1 ws[i].2.2.toNat (backS (ws.drop (i+1)) k).2.1) (bkV ws[i].2.1 ws[i].2.2.toNat) (bkC ws[i].2.1 ws[i].2.2.toNat (backS (ws.drop (i+1)) k).2.1):=by
 rw [List.drop_eq_getElem_cons hi,backS,if_neg (by rw [h];decide)]
theorem zne {k:Wk} (h:JOk k) (p:Int) (lf:Bool) (K V:List ByteArray) (C:List Int):JOk (endD p k lf K V C).1:=by
 unfold endD
 split
 ·exact zfW h p
 split
 ·exact h
 ·exact zfW (zji h lf K V C) p
theorem zeM {k:Wk} (h:JOk k):∀ws:List WLvl,JOk (backS ws k).1
 | []=>h
 | x :: r=>by
  rw [backS]
  split
  ·exact zeM h r
  ·exact zne (zeM h r) _ _ _ _ _
theorem zhZ:∀(ws:List WLvl) {k:Wk} {m:Nat},k.sm (m+2 * ws.length)->(backS ws k).1.sm m
 | [],k,m,h=>h
 | x :: r,k,m,h=>by
  rw [List.length_cons] at h
  have ih:=zhZ r (m:=m+2) (zaK h (by omega))
  rw [backS]
  split
  ·exact zaK ih (by omega)
  ·exact endD_sm ih _ _ _ _
end Go.Proofs.YtcbogiebfbbmbaaGreatDoor
