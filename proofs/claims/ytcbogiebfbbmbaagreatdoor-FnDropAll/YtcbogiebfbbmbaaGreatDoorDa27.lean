/-
  Facts and contracts that the law's own text rests on, by their texts' names: SpecRead, NodeLawRead, GetSpec, GetImpl.
-/
import Derived.Test.YtcbogiebfbbmbaaGreatDoorDa26
import Derived.Test.YtcbogiebfbbmbaaGreatDoorDa25
import Derived.Test.YtcbogiebfbbmbaaGreatDoorDa24
import Derived.Test.YtcbogiebfbbmbaaGreatDoorDa1
import Derived.Test.YtcbogiebfbbmbaaGreatDoorDa6
import Derived.Test.YtcbogiebfbbmbaaGreatDoorDa7
import Derived.Test.YtcbogiebfbbmbaaGreatDoorDa11
import Derived.Test.YtcbogiebfbbmbaaGreatDoorDa15
set_option maxHeartbeats 16000000
set_option maxRecDepth 100000
namespace Go.Proofs.YtcbogiebfbbmbaaGreatDoor
open Go.RowKit
theorem zeH (t:ByteArray) (ht:t.size<=1048576) (hn:∀m,¬IsNd t m) (hs:isSealed t.data.toList=false\/(isSealed t.data.toList=true/\(t.extract 0 (t.size - 4)).size<2)) (w:World):
  Calls Tryz.prog 65 #[.string t] w fun e w'=>RsPost w t e w':=by
 obtain ⟨wa,hwa⟩:∃wa,wa=w.alloc (Obj.cells #[.bool false,.slice none 0 0,.slice none 0 0,.slice none 0 0] 71):=⟨_,rfl⟩
 have HBa:Hid (Below w.heap.size w wa):=hide (by rw [hwa];exact (Below.refl _ _).alloc (Nat.le_refl _) _)
 have HVa:Hid (wa.heap[w.heap.size]?=some (.cells #[.bool false,.slice none 0 0,.slice none 0 0,.slice none 0 0] 71 (0,0))):=hide (by rw [hwa];exact heap_alloc_new w _)
 have HU:=hide (zbW t ht);have HNo:=hide hn
 obtain ⟨s,ok,hU,hcase⟩:∃(s:ByteArray) (ok:Bool),unOut t= .tuple #[.string s,.bool ok]/\(ok=false\/(ok=true/\s.size<2)):=by
  rcases hs with h | ⟨h,h2⟩
  ·exact ⟨⟨#[]⟩,false,by rw [unOut,if_neg (by rw [h];decide)],Or.inl rfl⟩
  ·exact ⟨_,true,by rw [unOut,if_pos h],Or.inr ⟨rfl,h2⟩⟩
 rw [hU] at HU;clear hs hn hU
 rcases hcase with rfl | ⟨rfl,h2⟩
 all_goals
  try have d2:decide ((s.size:Int)<2)=true:=decide_eq_true (by omega)
  go_enter Tryz.func65,Tryz.ntmps65;go_wp2_with fail;rw [<-hwa];clear hwa;refine (HU.out _).mono ?_;rintro e w1 ⟨rfl,hb1⟩;have hv:=(hb1.block _ (Array.getElem?_eq_some_iff.1 HVa.out).1).trans HVa.out;have HB1:Hid (Below w.heap.size w w1):=hide (HBa.out.trans (hb1.mono HBa.out.size));have o0:w1.cell? ⟨w.heap.size,0,none⟩=some (.bool false):=(za0 hv 0).1;have o1:w1.cell? ⟨w.heap.size,1,none⟩=some (.slice none 0 0):=(za0 hv 1).1;have o2:w1.cell? ⟨w.heap.size,2,none⟩=some (.slice none 0 0):=(za0 hv 2).1;have o3:w1.cell? ⟨w.heap.size,3,none⟩=some (.slice none 0 0):=(za0 hv 3).1;have z0:=(za0 hv 0).2;have z1:=(za0 hv 1).2;have z2:=(za0 hv 2).2;have z3:=(za0 hv 3).2;have HRz:=hide (zaO hv (zba w1 (w.heap.size+1)) (Nat.lt_succ_self _));clear hb1 hv;go_wp2_with fail;have t0:=(za0 HRz.out.1 0).1;have t1:=(za0 HRz.out.1 1).1;have t2:=(za0 HRz.out.1 2).1;have t3:=(za0 HRz.out.1 3).1
  exact bodyPost_ret (v:= .tuple #[.agg #[.bool false,.slice none 0 0,.slice none 0 0,.slice none 0 0],.bool false]) (by simp [results,Tryz.results65,go_sem,t0,t1,t2,t3]) rfl ⟨Nd.none,_,false,rfl,Or.inr ⟨rfl,rfl,HNo.out⟩,zba _ _,HB1.out.trans HRz.out.2.2⟩
theorem zc0 (t:ByteArray) (ht:t.size<=1048576) (w:World):
  Calls Tryz.prog 65 #[.string t] w fun e w'=>RsPost w t e w':=by
 cases hsl:isSealed t.data.toList with
 | false=>exact zeH t ht (zcT hsl) (Or.inl hsl) w
 | true=>
  by_cases h2:(t.extract 0 (t.size - 4)).size<2
  ·exact zeH t ht (fun m hm=>by have:=(zcC ((zbB hsl m).1 hm)).1;omega) (Or.inr ⟨hsl,h2⟩) w
  ·by_cases hy:byt (t.extract 0 (t.size - 4)) 0=108
   ·exact zhR t _ ht hsl rfl (by omega) (decide_eq_true hy).symm w
   ·exact zh2 t _ ht hsl rfl (by omega) (decide_eq_false hy).symm w
open Go.RowKit
theorem ziD {t:ByteArray} {n:Nd} {ok:Bool} (h:ReadN t n ok):n.ks.length<=4/\n.vs.length<=4/\n.cs.length<=4:=by
 rcases h with ⟨-,h,-⟩ | ⟨-,rfl,-⟩
 ·obtain ⟨h1,h2,h3,h4⟩:=zaX (zam h.1).1
  cases hl:n.lf with
  | true=>have:=h3 hl;omega
  | false=>have:=h4 hl;omega
 ·simp [Nd.none]
theorem zb8 {w:World} {B:Nat} {v:Value} {lf:Bool} {ks vs:List ByteArray} {cs:List Int} (h:NodeOwn w B v lf ks vs cs):∃a1 c1 a2 c2 a3 c3,v= .agg #[.bool lf,.slice a1 ks.length c1,.slice a2 vs.length c2,.slice a3 cs.length c3]:=by
 obtain ⟨v1,v2,v3,rfl,h1,h2,h3,-⟩:=h;obtain ⟨a1,c1,rfl⟩:=za4 h1;obtain ⟨a2,c2,rfl⟩:=za4 h2;obtain ⟨a3,c3,rfl⟩:=za4 h3;exact ⟨a1,c1,a2,c2,a3,c3,rfl⟩
theorem stays {w w':World} {a:Nat} {o:Obj} (h:w.heap[a]?=some o) (hb:Below w.heap.size w w'):w'.heap[a]?=some o:=(hb.block _ (Array.getElem?_eq_some_iff.1 h).1).trans h
open Go.RowKit
theorem zbr {ps:List ByteArray} {ls:List (Int×ByteArray)} {M:Nat} (hps:∀s∈ps,s.size<=M) (hls:∀p∈ls,p.2.size<=M) (page:Int):(readD ps ls page).size<=M:=by
 have hlate:∀k t,lateAt ls page k=some t->t.size<=M:=fun k=>by
  induction k with
  | zero=>intro t h;simp [lateAt] at h
  | succ k ih=>
   intro t h;rw [lateAt] at h
   split at h
   ·next p hp=>
    split at h
    ·injection h with h
     rw [<-h];exact hls p (List.mem_of_getElem? hp)
    ·exact ih t h
   ·exact ih t h
 unfold readD
 split
 ·split
  ·next t h=>exact hlate _ _ h
  ·rw [List.getD_eq_getElem?_getD]
   cases h:ps[page.toNat]? with
   | none=>exact Nat.zero_le _
   | some x=>exact hps x (List.mem_of_getElem? h)
 ·exact Nat.zero_le _
theorem zm0 {D:Int->ByteArray} {key:ByteArray} {q:Nat} {p:Int} {n:Nd} {ok:Bool} (h:rdN (D p)=(n,ok)) (hb:ok=false\/placeK n.ks key n.ks.length<0):getL D key (q+1) p=none:=by
 rw [getL,h,if_pos hb]
theorem zm1 {D:Int->ByteArray} {key:ByteArray} {q:Nat} {p:Int} {n:Nd} {i:Nat} (h:rdN (D p)=(n,true)) (hl:n.lf=true) (hi:placeK n.ks key n.ks.length=(i:Int)):getL D key (q+1) p=if n.ks.getD i ⟨#[]⟩=key then some (n.vs.getD i ⟨#[]⟩) else none:=by
 rw [getL,h,if_neg (by rintro (h | h);cases h;rw [hi] at h;omega),if_pos hl]
 simp only [hi,Int.toNat_natCast]
theorem zmY {D:Int->ByteArray} {key:ByteArray} {q:Nat} {p:Int} {n:Nd} {i:Nat} (h:rdN (D p)=(n,true)) (hl:n.lf=false) (hi:placeK n.ks key n.ks.length=(i:Int)):getL D key (q+1) p=getL D key q (n.cs.getD i 0):=by
 rw [getL,h,if_neg (by rintro (h | h);cases h;rw [hi] at h;omega),if_neg (by rw [hl];decide)]
 simp only [hi,Int.toNat_natCast]
theorem kid_pos {n:Nd} (h:n.ok=true) {i:Nat} (hi:i<n.cs.length):2<=n.cs.getD i 0/\n.cs.getD i 0<=39:=by
 have:=(zam h).2.2.2 i hi;unfold kidB at this;rw [Bool.and_eq_true,decide_eq_true_eq] at this;exact this.1
theorem zd0 {w:World} {B n c:Nat} {a:Option Addr} {l:List ByteArray} (h:w.ownsRow B 9 1 (.slice a n c) n (strs l)) {i:Nat} (hi:i<l.length) (hn:n=l.length):∃g,a=some ⟨g,0,none⟩/\w.cell? ⟨g,i,none⟩=some (.string (l.getD i ⟨#[]⟩)):=by
 rcases h.2 with ⟨-,h0⟩ | ⟨g,c',cur,e,-⟩
 ·omega
 ·injection e with e1 _ e2
  subst e1 e2;refine ⟨g,rfl,?_⟩
  rw [h.cellAt i (by omega),zaP l i hi]
  simp [List.getD,hi]
theorem zd1 {w:World} {B n c:Nat} {a:Option Addr} {l:List Int} (h:w.ownsRow B 3 1 (.slice a n c) n (ints l)) {i:Nat} (hi:i<l.length) (hn:n=l.length):∃g,a=some ⟨g,0,none⟩/\w.cell? ⟨g,i,none⟩=some (.int .i64 (l.getD i 0)):=by
 rcases h.2 with ⟨-,h0⟩ | ⟨g,c',cur,e,-⟩
 ·omega
 ·injection e with e1 _ e2
  subst e1 e2;refine ⟨g,rfl,?_⟩
  rw [h.cellAt i (by omega),ints,List.getElem?_map,List.getElem?_eq_getElem hi]
  simp [List.getD,hi]
inductive Lvl (D:Int->ByteArray) (key:ByteArray) (n:Nd) (ok:Bool) (at_:Int) (q:Nat) (p:Int):Prop
 | no (h:(!ok || decide (at_<0))=true) (e:getL D key (q+1) p=none)
 | leaf (i:Nat) (h1:ok=true) (h2:n.lf=true) (h3:at_=(i:Int)) (h4:i<n.ks.length) (h5:i<n.vs.length) (e:getL D key (q+1) p=if n.ks.getD i ⟨#[]⟩=key then some (n.vs.getD i ⟨#[]⟩) else none)
 | kid (i:Nat) (h1:ok=true) (h2:n.lf=false) (h3:at_=(i:Int)) (h4:i<n.cs.length) (h5:n.cs.getD i 0≠0) (e:getL D key (q+1) p=getL D key q (n.cs.getD i 0))
theorem lvl_of {D:Int->ByteArray} {key:ByteArray} {n:Nd} {ok:Bool} {p:Int} (h:ReadN (D p) n ok) (q:Nat):Lvl D key n ok (placeK n.ks key n.ks.length) q p:=by
 have hr:=zgi h;obtain ⟨hp1,hp2⟩:=zbR n.ks key n.ks.length
 cases ok with
 | false=>exact .no rfl (zm0 hr (Or.inl rfl))
 | true=>
  have hok:=zew hr;obtain ⟨e1,e2⟩:=zbj hok
  by_cases hneg:placeK n.ks key n.ks.length<0
  ·exact .no (by simp [hneg]) (zm0 hr (Or.inr hneg))
  ·obtain ⟨i,hi⟩:∃i:Nat,placeK n.ks key n.ks.length=(i:Int):=⟨(placeK n.ks key n.ks.length).toNat,by omega⟩
   cases hl:n.lf with
   | true=>exact .leaf i rfl hl hi (by omega) (by rw [(e1 hl).1];omega) (zm1 hr hl hi)
   | false=>
    have hc:i<n.cs.length:=by rw [(e2 hl).1];omega
    exact .kid i rfl hl hi hc (by have:=kid_pos hok hc;omega) (zmY hr hl hi)
open Go.RowKit
theorem ze0 (v:Value) (ps:List ByteArray) (ls:List (Int×ByteArray)) (hp:ps.length<=1048576) (hl:ls.length<=1048576) (hps:∀s∈ps,s.size<=1048576) (hls:∀p∈ls,p.2.size<=1048576) (root:Int) (key:ByteArray) (w:World) (hT:SumTab w) (hd:DiskAt w v ps ls):
  Calls Tryz.prog 48 #[v,.int .i64 root,.string key] w fun e w'=>e= .returned (getO (getK (readD ps ls) root key))/\Below w.heap.size w w':=by
 have HRP:=hide (fun p wx h=>zbY v ps ls hp hl hps hls p wx h)
 have HRN:=hide (fun p wx h=>zbZ (readD ps ls p) (zbr hps hls p) wx h)
 have HD:=hide hd;have HT:=hide hT;obtain ⟨D,hD⟩:∃D,D=readD ps ls:=⟨_,rfl⟩;rw [<-hD] at HRP HRN⊢;obtain ⟨vp,vl,rfl,-,-⟩:=hd;obtain ⟨w0,hw0⟩:∃w0,w0=w.alloc (.cells #[vp,vl] 29 (0,0)):=⟨_,rfl⟩
 have HB0:Hid (Below w.heap.size w w0):=hide (by rw [hw0];exact (Below.refl w.heap.size w).alloc (Nat.le_refl _) _)
 have HV0:Hid (w0.heap[w.heap.size]?=some (.cells #[vp,vl] 29 (0,0))):=hide (by rw [hw0];exact heap_alloc_new w _)
 obtain ⟨r,hr⟩:∃r,r=getK D root key:=⟨_,rfl⟩;rw [<-hr];have HR0:Hid (r=getK D root key):=hide hr;clear hr
 by_cases hz:root=0
 ·have HO:Hid (r=none):=hide (by rw [HR0.out,getK,if_pos hz])
  subst hz;go_enter Tryz.func48,Tryz.ntmps48;go_wp2_with fail;rw [<-hw0];go_ret2;rw [HO.out];exact ⟨rfl,HB0.out⟩
 have HR:Hid (r=getL D key 8 root):=hide (by rw [HR0.out,getK,if_neg hz])
 have hz0:(root ==0)=false:=by simp [hz]
 clear hz;clear hp hl hps hls hD hT;go_enter Tryz.func48,Tryz.ntmps48;go_wp2_with fail;rw [<-hw0];clear hw0
 go_loopg [15,8] 8 (fun q dv rv wr=>∃(k:Nat) (p:Int),q+k=8/\dv= .int .i64 (k:Int)/\rv= .int .i64 p/\Hid (r=getL D key q p)/\Hid (Below w.heap.size w wr)/\Hid (wr.heap[w.heap.size]?=some (.cells #[vp,vl] 29 (0,0))))
 case atStart=>exact ⟨0,root,rfl,rfl,rfl,HR,HB0,HV0⟩
 case round=>
  obtain ⟨k,p,hq,rfl,rfl,HG,HB,HV⟩:=hrel;have p0:=(za0 HV.out 0).1;have p1:=(za0 HV.out 1).1
  cases gk with
  | zero=>
   have hk:k=8:=by omega
   subst hk
   have HO:Hid (r=none):=hide (by rw [HG.out,getL])
   go_wp2_with fail;go_ret2;rw [HO.out];exact ⟨rfl,HB.out⟩
  | succ q=>
   have hk:(k:Int)<8:=by omega
   go_wp2_with fail;refine (HRP.out p _ (zak HD.out HB.out)).mono ?_;rintro e w1 ⟨rfl,hb1⟩;have HB1:Hid (Below w.heap.size w w1):=hide (HB.out.trans (hb1.mono HB.out.size));have HV1:=hide (stays HV.out hb1);clear hb1 p0 p1;go_wp2_with fail;refine (HRN.out p _ (zag HT.out HB1.out)).mono ?_;rintro e w2 ⟨n,v2,ok,rfl,hrn,hno,hb2⟩;have HB2:Hid (Below w.heap.size w w2):=hide (HB1.out.trans (hb2.mono HB1.out.size));have HV2:=hide (stays HV1.out hb2);have HL:=hide (lvl_of (key:=key) hrn q);have HN:=hide hno;obtain ⟨a1,c1,a2,c2,a3,c3,rfl⟩:=zb8 hno
   have HPl:=hide (fun wx h=>zdm (.agg #[.bool n.lf,.slice a1 n.ks.length c1,.slice a2 n.vs.length c2,.slice a3 n.cs.length c3]) n.lf n.ks n.vs n.cs (by have:=(ziD hrn).1;omega) key wx h)
   obtain ⟨at_,hat⟩:∃at_,at_=placeK n.ks key n.ks.length:=⟨_,rfl⟩;rw [<-hat] at HL HPl;obtain ⟨lf,hlf⟩:∃lf,lf=n.lf:=⟨_,rfl⟩;have HLf:=hide hlf;rw [<-hlf] at HPl HN⊢;obtain ⟨lk,hlk⟩:∃lk,lk=n.ks.length:=⟨_,rfl⟩;obtain ⟨lv,hlv⟩:∃lv,lv=n.vs.length:=⟨_,rfl⟩;obtain ⟨lc,hlc⟩:∃lc,lc=n.cs.length:=⟨_,rfl⟩;rw [<-hlk,<-hlv,<-hlc] at HPl HN⊢;have HLn:=hide (⟨hlk,hlv,hlc⟩:_/\_/\_);obtain ⟨wa,hwa⟩:∃wa,wa=w2.alloc (.cells #[.bool lf,.slice a1 lk c1,.slice a2 lv c2,.slice a3 lc c3] 71 (0,0)):=⟨_,rfl⟩
   have hba:Below w2.heap.size w2 wa:=by rw [hwa];exact (Below.refl _ _).alloc (Nat.le_refl _) _
   obtain ⟨g,hg⟩:∃g,g=w2.heap.size:=⟨_,rfl⟩
   have HNa:Hid (wa.heap[g]?=some (.cells #[.bool lf,.slice a1 lk c1,.slice a2 lv c2,.slice a3 lc c3] 71 (0,0))):=hide (by rw [hwa,hg];exact heap_alloc_new w2 _)
   have HBa:Hid (Below w.heap.size w wa):=hide (HB2.out.trans (hba.mono HB2.out.size));have HVa:=hide (stays HV2.out hba);have HOa:=hide (zaV HN.out hba);clear hrn hb2 hat hlf hba hlk hlv hlc hno;go_wp2_with fail;rw [<-hwa,<-hg];clear hwa hg;refine (HPl.out _ (zbi HOa.out)).mono ?_;rintro e w3 ⟨rfl,hb3⟩;have HB3:Hid (Below w.heap.size w w3):=hide (HBa.out.trans (hb3.mono HBa.out.size));have HV3:=hide (stays HVa.out hb3);have HN3:=stays HNa.out hb3;have n0:=(za0 HN3 0).1;have n1:=(za0 HN3 1).1;have n2:=(za0 HN3 2).1;have n3:=(za0 HN3 3).1;have HO3:=hide (zaV HOa.out hb3);clear hb3 HN3
   rcases HL.out with ⟨h,e⟩ | ⟨i,h1,h2,h3,h4,h5,e⟩ | ⟨i,h1,h2,h3,h4,h5,e⟩
   ·have HO:Hid (r=none):=hide (by rw [HG.out,e])
    clear e
    cases ok with
    | false=>
     go_wp2_with fail;go_ret2;rw [HO.out];exact ⟨rfl,HB3.out⟩
    | true=>
     have hneg:at_<0:=by simpa using h
     go_wp2_with fail;go_ret2;rw [HO.out];exact ⟨rfl,HB3.out⟩
   ·have hl:lf=true:=HLf.out.trans h2
    subst hl;subst h1;subst h3;obtain ⟨vk',vv',vc',eq,o1,o2,-,-⟩:=HO3.out;obtain ⟨-,rfl,rfl,rfl⟩:=agg4 eq;obtain ⟨hlk,hlv,hlc⟩:=HLn.out;rw [<-hlk] at o1 h4;rw [<-hlv] at o2 h5
    obtain ⟨gk',rfl,hck⟩:=zd0 (i:=i) o1 (by omega) hlk
    obtain ⟨gv,rfl,hcv⟩:=zd0 (i:=i) o2 (by omega) hlv
    obtain ⟨x,hx⟩:∃x,x=n.ks.getD i ⟨#[]⟩:=⟨_,rfl⟩;obtain ⟨y,hy⟩:∃y,y=n.vs.getD i ⟨#[]⟩:=⟨_,rfl⟩;rw [<-hx] at hck;rw [<-hy] at hcv
    have HG2:Hid (r=if x=key then some y else none):=hide (by rw [HG.out,e,hx,hy])
    have hbq:=ba_beq x key
    have hi0:(0:Int)<=(i:Int):=by omega
    have hi1:(i:Int)<(lk:Int):=by omega
    have hi2:(i:Int)<(lv:Int):=by omega
    have hi3:¬((i:Int)<0):=by omega
    clear e hx hy o1 o2 eq h2 h4 h5 hlk hlv hlc
    by_cases hxk:x=key
    ·rw [if_pos hxk] at HG2
     rw [decide_eq_true hxk] at hbq;go_wp2_with fail;go_ret2;rw [HG2.out];exact ⟨rfl,HB3.out⟩
    ·rw [if_neg hxk] at HG2
     rw [decide_eq_false hxk] at hbq;go_wp2_with fail;go_ret2;rw [HG2.out];exact ⟨rfl,HB3.out⟩
   ·have hl:lf=false:=HLf.out.trans h2
    subst hl;subst h1;subst h3;obtain ⟨vk',vv',vc',eq,-,-,o3,-⟩:=HO3.out;obtain ⟨-,rfl,rfl,rfl⟩:=agg4 eq;obtain ⟨hlk,hlv,hlc⟩:=HLn.out;rw [<-hlc] at o3 h4
    obtain ⟨gc,rfl,hcc⟩:=zd1 (i:=i) o3 (by omega) hlc
    obtain ⟨c,hc⟩:∃c,c=n.cs.getD i 0:=⟨_,rfl⟩;rw [<-hc] at hcc e h5
    have HG2:Hid (r=getL D key q c):=hide (by rw [HG.out,e])
    have hi0:(0:Int)<=(i:Int):=by omega
    have hi1:(i:Int)<(lc:Int):=by omega
    have hi3:¬((i:Int)<0):=by omega
    clear e hc o3 eq h2 h4 h5 hlk hlv hlc;go_wp2_with fail
    go_roundg q
    case measure=>omega
    case rel=>exact ⟨k+1,c,by omega,by go_num,rfl,HG2,HB3,HV3⟩
end Go.Proofs.YtcbogiebfbbmbaaGreatDoor
