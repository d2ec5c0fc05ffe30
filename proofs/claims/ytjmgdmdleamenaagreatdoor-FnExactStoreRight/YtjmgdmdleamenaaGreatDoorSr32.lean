/-
  Facts and contracts that the law's own text rests on, by their texts' names: PairRow, AllLaw, SpecPages, PgPlain, GetImpl, FldRow, ValRow, Plain12, ThingSpec.
-/
import Derived.Deep.RegionHeld3
import Derived.Test.YtjmgdmdleamenaaGreatDoorSr14
import Derived.Test.YtjmgdmdleamenaaGreatDoorSr3
import Derived.Test.YtjmgdmdleamenaaGreatDoorSr31
import Derived.Test.YtjmgdmdleamenaaGreatDoorSr7
import Derived.Test.YtjmgdmdleamenaaGreatDoorSr24
import Derived.Test.YtjmgdmdleamenaaGreatDoorSr16
import Derived.Test.YtjmgdmdleamenaaGreatDoorSr15
import Derived.Test.YtjmgdmdleamenaaGreatDoorSr5
set_option maxHeartbeats 16000000
set_option maxRecDepth 100000
namespace Go.Proofs.YtjmgdmdleamenaaGreatDoor
open Go.RowKit
theorem prs_cons (p:ByteArray×ByteArray) (l:List (ByteArray×ByteArray)):prs (p :: l)=Value.string p.1 :: .string p.2 :: prs l:=rfl
theorem prs_at (l:List (ByteArray×ByteArray)):∀k (h:k<l.length),(prs l)[k * 2]?=some (.string l[k].1)/\(prs l)[k * 2+1]?=some (.string l[k].2):=by
 induction l with
 | nil=>intro k h;simp at h
 | cons p l ih=>
  intro k h
  cases k with
  | zero=>exact ⟨rfl,rfl⟩
  | succ k=>
   rw [prs_cons,show (k+1) * 2=k * 2+1+1 from by omega]
   exact ih k (by simpa using h)
open Go.RowKit
theorem all_len (ps:List ByteArray) (ls:List (Int×ByteArray)) (root:Int):(allI (fun q=>rdN (readD ps ls q)) root).1.length<=100000:=by
 unfold allI
 split
 ·show (pairsV _).length<=_
  have hv:∀v∈(seenI (fun q=>rdN (readD ps ls q)) root).1,v.nd.vs.length<=4/\True:=fun v hv=>by
   unfold seenI at hv
   split at hv
   ·cases hv
   ·have h:=down_vis (fun q=>rdN (readD ps ls q)) 8 root [] [] v hv
    have h2:(rdN (readD ps ls v.page)).1=v.nd:=by rw [show rdN (readD ps ls v.page)=(v.nd,true) from h]
    have:=rdN_right2 ps ls v.page (by show (rdN (readD ps ls v.page)).2=true;rw [show rdN (readD ps ls v.page)=(v.nd,true) from h])
    rw [<-h2];exact ⟨(ok_cnt this).2.1,trivial⟩
  have h1:=pairsV_len (fun v h=>(hv v h).1)
  have h2:(seenI (fun q=>rdN (readD ps ls q)) root).1.length<=22000:=by
   unfold seenI
   split
   ·exact Nat.zero_le _
   ·exact Nat.le_trans (down_cnt _ (fun p hp=>(ok_cnt (rdN_right2 ps ls p hp)).2.2) 8 root [] []) cntK8A
  omega
 ·exact Nat.zero_le _
open Go.RowKit
def pagesI (R:Int->Nd×Bool) (root:Int):List Int×Bool:=if (seenI R root).2=true then (pagesV (seenI R root).1,true) else ([],false)
def pagesS (R:Int->Nd×Bool) (root:Int):List Int×Bool:=if (seenS R root).bad=true then ([],false) else ((seenS R root).pages,true)
theorem both_pages (R:Int->Nd×Bool) (hR:Right R) (root:Int):pagesI R root=pagesS R root:=by
 obtain ⟨h1,h2⟩:=both_seen R hR root;unfold pagesI pagesS
 cases hs:(seenI R root).2 with
 | true=>rw [h1,hs,(h2 hs).1];rfl
 | false=>rw [h1,hs];rfl
theorem pages_len (ps:List ByteArray) (ls:List (Int×ByteArray)) (root:Int):(pagesI (fun q=>rdN (readD ps ls q)) root).1.length<=22000:=by
 unfold pagesI
 split
 ·show (pagesV _).length<=_
  rw [pagesV,List.length_map];unfold seenI
  split
  ·exact Nat.zero_le _
  ·exact Nat.le_trans (down_cnt _ (fun p hp=>(ok_cnt (rdN_right2 ps ls p hp)).2.2) 8 root [] []) cntK8A
 ·exact Nat.zero_le _
def pgsO (r:List Int×Bool) (w w':World) (e:Ending):Prop:=∃v m,e= .returned (.tuple #[v,.bool r.2])/\w'.ownsRow w.heap.size 3 1 v m.length (ints m)/\m.Perm r.1/\Srt m/\Below w.heap.size w w'
theorem specPagesOf_any (ps:List ByteArray) (ls:List (Int×ByteArray)) (hp:ps.length<=1048576) (hl:ls.length<=1048576) (hps:∀s∈ps,s.size<=1048576) (hls:∀p∈ls,p.2.size<=1048576) (v:Value) (root:Int) (w:World) (hd:DiskAt w v ps ls) (hdk:∀k,diskBlocks v k->k<w.heap.size):
  Calls Tryz.prog 38 #[v,.int .i64 root] w fun e w'=>pgsO (pagesS (fun q=>rdN (readD ps ls q)) root) w w' e:=by
 obtain ⟨v1,v2,rfl,-,-⟩:=id hd;obtain ⟨w0,hw0⟩:∃w0,w0=w.alloc (.cells #[v1,v2] 41 (0,0)):=⟨_,rfl⟩
 have hb0:Below w.heap.size w w0:=by rw [hw0];exact (Below.refl _ _).alloc (Nat.le_refl _) _
 have HB0:=hide hb0
 have HL:=hide (look_any ps ls hp hl hps hls (.agg #[v1,v2]) root w0 (disk_below hd hb0) (fun k hk=>Nat.lt_of_lt_of_le (hdk k hk) hb0.size))
 have HPl:=hide (pages_len ps ls root);rw [both_pages _ (rdN_right2 ps ls) root] at HPl
 obtain ⟨R,hR⟩:∃R,R=(fun q=>rdN (readD ps ls q)):=⟨_,rfl⟩
 rw [<-hR] at HL HPl⊢;clear hp hl hps hls hd hdk hb0 hR;go_enter Tryz.func38,Tryz.ntmps38;go_wp2_with fail;rw [<-hw0];clear hw0;refine HL.out.mono ?_;rintro e w1 ⟨ga,vp,vg,vd,rfl,hga,hal,hb1⟩;have HB1:Hid (Below w.heap.size w w1):=hide (HB0.out.trans (hb1.mono HB0.out.size));have HAl:=hide hal;have q1:=(cell_at hal.1 1).1;have q3:=(cell_at hal.1 3).1
 have HAs:Hid (pagesS R root=if (seenS R root).bad=true then ([],false) else ((seenS R root).pages,true)):=hide rfl
 obtain ⟨bad,hbad⟩:∃b,b=(seenS R root).bad:=⟨_,rfl⟩;rw [<-hbad] at q3;have HBd:=hide hbad;clear hal hb1 hga hbad
 cases bad with
 | true=>
  go_wp2_with fail;go_ret2;rw [HAs.out,if_pos HBd.out.symm]
  have hown:(w1.alloc (Obj.cells #[] 3)).ownsRow w.heap.size 3 1 (.slice (some ⟨w1.heap.size,0,none⟩) 0 0) 0 []:=by simpa using World.ownsRow_lit (base:=w.heap.size) (e:=3) (size:=1) w1 #[] 0 HB1.out.size (by unfold maxLen;omega) (by simp)
  exact ⟨_,[],rfl,hown,List.Perm.refl _,List.Pairwise.nil,HB1.out.alloc HB1.out.size _⟩
 | false=>
  have HE:Hid (pagesS R root=((seenS R root).pages,true)):=hide (by rw [HAs.out,if_neg (by rw [<-HBd.out];decide)])
  have HSo:=hide (l07Sorted_any (seenS R root).pages (by have h:=HPl.out;rw [HE.out] at h;exact Nat.le_trans h (by decide)) vg w1 (row_of_own HAl.out.2.2.1))
  go_wp2_with fail;refine HSo.out.mono ?_;rintro e w2 ⟨u,m,rfl,hown,hpm,hsm,hb2⟩;have HP:=hide hpm;have HS:=hide hsm;have HO:=hide hown;have HB2:=hide hb2;clear hown hpm hsm hb2;go_wp2_with fail;go_ret2;rw [HE.out];exact ⟨u,m,rfl,own_down HO.out HB1.out.size,HP.out,HS.out,HB1.out.trans (HB2.out.mono HB1.out.size)⟩
open Go.RowKit
def flatF (fs:List (Int×List Int)) (i:Nat):List Int:=(fs.take i).flatMap fun f=>f.2
theorem flatF_succ {fs:List (Int×List Int)} {i:Nat} {tx:Int} {pgs:List Int} (h:fs[i]?=some (tx,pgs)):flatF fs (i+1)=flatF fs i++pgs:=by
 obtain ⟨hi,e⟩:=List.getElem?_eq_some_iff.1 h;rw [flatF,flatF,List.take_succ_eq_append_getElem hi,e,List.flatMap_append]
 simp
theorem frees_short:∀{fs:List (Int×List Int)} {tx next:Int} {seen:List Int} {last:Int},freesB tx next seen last fs=true->∀f∈fs,f.2.length<=40
 | [],_,_,_,_,_,_,hf=>by cases hf
 | g :: fs,tx,next,seen,last,h,f,hf=>by
  rw [freesB] at h
  split at h
  ·rename_i hg
   rcases List.mem_cons.1 hf with rfl | hf
   ·exact hg.2.2.2
   ·split at h
    ·cases h
    ·exact frees_short h f hf
  ·cases h
theorem ok_short {m:Mt} (h:m.ok=true):2<=m.next/\m.next<=40/\m.fs.length<=20/\∀f∈m.fs,f.2.length<=40:=by
 rw [Mt.ok,Bool.and_eq_true,headOkB,decide_eq_true_eq] at h;exact ⟨h.1.2.2.1,h.1.2.2.2.1,h.1.2.2.2.2.2,frees_short h.2⟩
theorem flatF_short {fs:List (Int×List Int)} (h:∀f∈fs,f.2.length<=40):∀i,(flatF fs i).length<=i * 40
 | 0=>by simp [flatF]
 | i+1=>by
  by_cases hi:i<fs.length
  ·rw [flatF_succ (tx:=fs[i].1) (pgs:=fs[i].2) (List.getElem?_eq_getElem hi),List.length_append]
   have:=flatF_short h i;have:=h _ (List.getElem_mem hi)
   omega
  ·have e:flatF fs (i+1)=flatF fs i:=by rw [flatF,flatF,List.take_of_length_le (by omega),List.take_of_length_le (by omega)]
   rw [e];have:=flatF_short h i
   omega
def inRow (l:List Int):Bool:=decide (∀j,j<l.length->l.getD j 0=(j:Int)+2)
def PgTold (r:List Int×Bool) (fs:List (Int×List Int)) (next:Int) (b:Bool):Prop:=
 (r.2=false/\b=false)\/(r.2=true/\∃l:List Int,l.Perm (r.1++flatF fs fs.length)/\Srt l/\b=(decide ((l.length:Int)=next - 2) && inRow l))
theorem pgTold_one {r:List Int×Bool} {fs:List (Int×List Int)} {next:Int} {a b:Bool} (h:PgTold r fs next a) (k:PgTold r fs next b):a=b:=by
 rcases h with ⟨h1,rfl⟩ | ⟨h1,l,h2,h3,rfl⟩ <;> rcases k with ⟨k1,rfl⟩ | ⟨k1,m,k2,k3,rfl⟩
 ·rfl
 ·rw [h1] at k1;cases k1
 ·rw [h1] at k1;cases k1
 ·rw [srt_one (h2.trans k2.symm) h3 k3]
theorem inRow_no {l:List Int} {k:Nat} (hk:k<l.length) (h:l.getD k 0≠(k:Int)+2):inRow l=false:=by
 rw [inRow,decide_eq_false]
 exact fun hh=>h (hh k hk)
theorem inRow_yes {l:List Int} (h:∀j,j<l.length->l.getD j 0=(j:Int)+2):inRow l=true:=by
 rw [inRow,decide_eq_true h]
open Go.RowKit
theorem implGetKey_any (v:Value) (ps:List ByteArray) (ls:List (Int×ByteArray)) (hp:ps.length<=1048576) (hl:ls.length<=1048576) (hps:∀s∈ps,s.size<=1048576) (hls:∀p∈ls,p.2.size<=1048576) (root:Int) (key:ByteArray) (w:World) (hT:SumTab w) (hd:DiskAt w v ps ls):
  Calls Tryz.prog 120 #[v,.int .i64 root,.string key] w fun e w'=>e= .returned (getO (getK (readD ps ls) root key))/\Below w.heap.size w w':=by
 have HRP:=hide (fun p wx h=>implReadPage_any v ps ls hp hl hps hls p wx h)
 have HRN:=hide (fun p wx h=>implReadNode_any (readD ps ls p) (readD_smallG hps hls p) wx h)
 have HD:=hide hd;have HT:=hide hT;obtain ⟨D,hD⟩:∃D,D=readD ps ls:=⟨_,rfl⟩;rw [<-hD] at HRP HRN⊢;obtain ⟨vp,vl,rfl,-,-⟩:=hd;obtain ⟨w0,hw0⟩:∃w0,w0=w.alloc (.cells #[vp,vl] 41 (0,0)):=⟨_,rfl⟩
 have HB0:Hid (Below w.heap.size w w0):=hide (by rw [hw0];exact (Below.refl w.heap.size w).alloc (Nat.le_refl _) _)
 have HV0:Hid (w0.heap[w.heap.size]?=some (.cells #[vp,vl] 41 (0,0))):=hide (by rw [hw0];exact heap_alloc_new w _)
 obtain ⟨r,hr⟩:∃r,r=getK D root key:=⟨_,rfl⟩;rw [<-hr];have HR0:Hid (r=getK D root key):=hide hr;clear hr
 by_cases hz:root=0
 ·have HO:Hid (r=none):=hide (by rw [HR0.out,getK,if_pos hz])
  subst hz;go_enter Tryz.func120,Tryz.ntmps120;go_wp2_with fail;rw [<-hw0];go_ret2;rw [HO.out];exact ⟨rfl,HB0.out⟩
 have HR:Hid (r=getL D key 8 root):=hide (by rw [HR0.out,getK,if_neg hz])
 have hz0:(root ==0)=false:=by simp [hz]
 clear hz;clear hp hl hps hls hD hT;go_enter Tryz.func120,Tryz.ntmps120;go_wp2_with fail;rw [<-hw0];clear hw0
 go_loopg [15,8] 8 (fun q dv rv wr=>∃(k:Nat) (p:Int),q+k=8/\dv= .int .i64 (k:Int)/\rv= .int .i64 p/\Hid (r=getL D key q p)/\Hid (Below w.heap.size w wr)/\Hid (wr.heap[w.heap.size]?=some (.cells #[vp,vl] 41 (0,0))))
 case atStart=>exact ⟨0,root,rfl,rfl,rfl,HR,HB0,HV0⟩
 case round=>
  obtain ⟨k,p,hq,rfl,rfl,HG,HB,HV⟩:=hrel;have p0:=(cell_at HV.out 0).1;have p1:=(cell_at HV.out 1).1
  cases gk with
  | zero=>
   have hk:k=8:=by omega
   subst hk
   have HO:Hid (r=none):=hide (by rw [HG.out,getL])
   go_wp2_with fail;go_ret2;rw [HO.out];exact ⟨rfl,HB.out⟩
  | succ q=>
   have hk:(k:Int)<8:=by omega
   go_wp2_with fail;refine (HRP.out p _ (disk_below HD.out HB.out)).mono ?_;rintro e w1 ⟨rfl,hb1⟩;have HB1:Hid (Below w.heap.size w w1):=hide (HB.out.trans (hb1.mono HB.out.size));have HV1:=hide (stays HV.out hb1);clear hb1 p0 p1;go_wp2_with fail;refine (HRN.out p _ (sumTab_below HT.out HB1.out)).mono ?_;rintro e w2 ⟨n,v2,ok,rfl,hrn,hno,hb2⟩;have HB2:Hid (Below w.heap.size w w2):=hide (HB1.out.trans (hb2.mono HB1.out.size));have HV2:=hide (stays HV1.out hb2);have HL:=hide (lvl_of (key:=key) hrn q);have HN:=hide hno;obtain ⟨a1,c1,a2,c2,a3,c3,rfl⟩:=nodeOwn_cells hno
   have HPl:=hide (fun wx h=>implPlaceOf_any (.agg #[.bool n.lf,.slice a1 n.ks.length c1,.slice a2 n.vs.length c2,.slice a3 n.cs.length c3]) n.lf n.ks n.vs n.cs (by have:=(readN_len hrn).1;omega) key wx h)
   obtain ⟨at_,hat⟩:∃at_,at_=placeK n.ks key n.ks.length:=⟨_,rfl⟩;rw [<-hat] at HL HPl;obtain ⟨lf,hlf⟩:∃lf,lf=n.lf:=⟨_,rfl⟩;have HLf:=hide hlf;rw [<-hlf] at HPl HN⊢;obtain ⟨lk,hlk⟩:∃lk,lk=n.ks.length:=⟨_,rfl⟩;obtain ⟨lv,hlv⟩:∃lv,lv=n.vs.length:=⟨_,rfl⟩;obtain ⟨lc,hlc⟩:∃lc,lc=n.cs.length:=⟨_,rfl⟩;rw [<-hlk,<-hlv,<-hlc] at HPl HN⊢;have HLn:=hide (⟨hlk,hlv,hlc⟩:_/\_/\_);obtain ⟨wa,hwa⟩:∃wa,wa=w2.alloc (.cells #[.bool lf,.slice a1 lk c1,.slice a2 lv c2,.slice a3 lc c3] 115 (0,0)):=⟨_,rfl⟩
   have hba:Below w2.heap.size w2 wa:=by rw [hwa];exact (Below.refl _ _).alloc (Nat.le_refl _) _
   obtain ⟨g,hg⟩:∃g,g=w2.heap.size:=⟨_,rfl⟩
   have HNa:Hid (wa.heap[g]?=some (.cells #[.bool lf,.slice a1 lk c1,.slice a2 lv c2,.slice a3 lc c3] 115 (0,0))):=hide (by rw [hwa,hg];exact heap_alloc_new w2 _)
   have HBa:Hid (Below w.heap.size w wa):=hide (HB2.out.trans (hba.mono HB2.out.size));have HVa:=hide (stays HV2.out hba);have HOa:=hide (nodeOwn_below HN.out hba);clear hrn hb2 hat hlf hba hlk hlv hlc hno;go_wp2_with fail;rw [<-hwa,<-hg];clear hwa hg;refine (HPl.out _ (node_of_own HOa.out)).mono ?_;rintro e w3 ⟨rfl,hb3⟩;have HB3:Hid (Below w.heap.size w w3):=hide (HBa.out.trans (hb3.mono HBa.out.size));have HV3:=hide (stays HVa.out hb3);have HN3:=stays HNa.out hb3;have n0:=(cell_at HN3 0).1;have n1:=(cell_at HN3 1).1;have n2:=(cell_at HN3 2).1;have n3:=(cell_at HN3 3).1;have HO3:=hide (nodeOwn_below HOa.out hb3);clear hb3 HN3
   rcases HL.out with ⟨h,e⟩ | ⟨i,h1,h2,h3,h4,h5,e⟩ | ⟨i,h1,h2,h3,h4,h5,e⟩
   ·have HO:Hid (r=none):=hide (by rw [HG.out,e])
    clear e
    cases ok with
    | false=>
     go_wp2_with fail;go_ret2;rw [HO.out];exact ⟨rfl,HB3.out⟩
    | true=>
     have hneg:at_<0:=by simpa using h
     go_wp2_with fail;go_ret2;rw [HO.out];exact ⟨rfl,HB3.out⟩
   ·have hl:lf=true:=HLf.out.trans h2
    subst hl;subst h1;subst h3;obtain ⟨vk',vv',vc',eq,o1,o2,-,-⟩:=HO3.out;obtain ⟨-,rfl,rfl,rfl⟩:=agg4 eq;obtain ⟨hlk,hlv,hlc⟩:=HLn.out;rw [<-hlk] at o1 h4;rw [<-hlv] at o2 h5
    obtain ⟨gk',rfl,hck⟩:=row_getS (i:=i) o1 (by omega) hlk
    obtain ⟨gv,rfl,hcv⟩:=row_getS (i:=i) o2 (by omega) hlv
    obtain ⟨x,hx⟩:∃x,x=n.ks.getD i ⟨#[]⟩:=⟨_,rfl⟩;obtain ⟨y,hy⟩:∃y,y=n.vs.getD i ⟨#[]⟩:=⟨_,rfl⟩;rw [<-hx] at hck;rw [<-hy] at hcv
    have HG2:Hid (r=if x=key then some y else none):=hide (by rw [HG.out,e,hx,hy])
    have hbq:=ba_beq x key
    have hi0:(0:Int)<=(i:Int):=by omega
    have hi1:(i:Int)<(lk:Int):=by omega
    have hi2:(i:Int)<(lv:Int):=by omega
    have hi3:¬((i:Int)<0):=by omega
    clear e hx hy o1 o2 eq h2 h4 h5 hlk hlv hlc
    by_cases hxk:x=key
    ·rw [if_pos hxk] at HG2
     rw [decide_eq_true hxk] at hbq;go_wp2_with fail;go_ret2;rw [HG2.out];exact ⟨rfl,HB3.out⟩
    ·rw [if_neg hxk] at HG2
     rw [decide_eq_false hxk] at hbq;go_wp2_with fail;go_ret2;rw [HG2.out];exact ⟨rfl,HB3.out⟩
   ·have hl:lf=false:=HLf.out.trans h2
    subst hl;subst h1;subst h3;obtain ⟨vk',vv',vc',eq,-,-,o3,-⟩:=HO3.out;obtain ⟨-,rfl,rfl,rfl⟩:=agg4 eq;obtain ⟨hlk,hlv,hlc⟩:=HLn.out;rw [<-hlc] at o3 h4
    obtain ⟨gc,rfl,hcc⟩:=row_getI (i:=i) o3 (by omega) hlc
    obtain ⟨c,hc⟩:∃c,c=n.cs.getD i 0:=⟨_,rfl⟩;rw [<-hc] at hcc e h5
    have HG2:Hid (r=getL D key q c):=hide (by rw [HG.out,e])
    have hi0:(0:Int)<=(i:Int):=by omega
    have hi1:(i:Int)<(lc:Int):=by omega
    have hi3:¬((i:Int)<0):=by omega
    clear e hc o3 eq h2 h4 h5 hlk hlv hlc;go_wp2_with fail
    go_roundg q
    case measure=>omega
    case rel=>exact ⟨k+1,c,by omega,by go_num,rfl,HG2,HB3,HV3⟩
open Go.RowKit
def flds (l:List (ByteArray×Int)):List Value:=l.flatMap fun p=> [.string p.1,.int .i64 p.2]
theorem flds_at (l:List (ByteArray×Int)):∀k (h:k<l.length),(flds l)[k * 2]?=some (.string l[k].1)/\(flds l)[k * 2+1]?=some (.int .i64 l[k].2):=by
 induction l with
 | nil=>intro k h;simp at h
 | cons p l ih=>
  intro k h;have e:flds (p :: l)= [Value.string p.1,.int .i64 p.2]++flds l:=rfl;rw [e]
  cases k with
  | zero=>exact ⟨rfl,rfl⟩
  | succ k=>
   have:=ih k (by simpa using h)
   rw [List.getElem?_append_right (by simp;omega),List.getElem?_append_right (by simp;omega)]
   simp only [List.length_cons,List.length_nil,List.getElem_cons_succ]
   rw [show (k+1) * 2 - (0+1+1)=k * 2 from by omega,show (k+1) * 2+1 - (0+1+1)=k * 2+1 from by omega]
   exact this
theorem Tryz.infoFld:(Tryz.prog.info? 146).map (fun i=>(i.zero,i.size,i.bytes))=some (some (.agg #[.string ⟨#[]⟩,.int .i64 0]),2,24):=by kernel_rfl
open Go.RowKit
theorem Tryz.infoVal:(Tryz.prog.info? 144).map (fun i=>(i.zero,i.size,i.bytes))=some (some (.agg #[.int .i64 0,.string ⟨#[]⟩]),2,24):=by kernel_rfl
open Go.RowKit
def wordB (s:ByteArray) (most:Nat):Bool:=decide (∀i,i<s.size->97<=byt s i/\byt s i<=122) && decide (1<=s.size/\s.size<=most)
theorem word_bad {s:ByteArray} {most k:Nat} (hk:k<s.size) (h:¬(97<=byt s k/\byt s k<=122)):wordB s most=false:=by
 rw [wordB,decide_eq_false (fun hh=>h (hh k hk))];rfl
theorem word_all {s:ByteArray} {most:Nat} (h:∀i,i<s.size->97<=byt s i/\byt s i<=122):wordB s most=decide (1<=s.size/\s.size<=most):=by
 rw [wordB,decide_eq_true h];rfl
def fieldB (f:ByteArray×Int):Bool:=wordB f.1 4 && decide (1<=f.2/\f.2<=2)
def schemaOkB (fs:List (ByteArray×Int)):Bool:=fs.all fieldB && decide (∀i,i<fs.length->∀k,k<i->(fs.getD k (⟨#[]⟩,0)).1≠(fs.getD i (⟨#[]⟩,0)).1) && decide (1<=fs.length/\fs.length<=3)
theorem schema_field {fs:List (ByteArray×Int)} {k:Nat} (hk:k<fs.length) (h:fieldB fs[k]=false):schemaOkB fs=false:=by
 have:fs.all fieldB=false:=by
  rw [List.all_eq_false]
  exact ⟨fs[k],List.getElem_mem hk,by rw [h];decide⟩
 rw [schemaOkB,this];rfl
theorem schema_twice {fs:List (ByteArray×Int)} {i k:Nat} (hi:i<fs.length) (hk:k<i) (h:(fs[k]'(by omega)).1=fs[i].1):schemaOkB fs=false:=by
 have:decide (∀i,i<fs.length->∀k,k<i->(fs.getD k (⟨#[]⟩,0)).1≠(fs.getD i (⟨#[]⟩,0)).1)=false:=decide_eq_false (fun hh=>hh i hi k hk (by simp [List.getD,hi,show k<fs.length by omega];exact h))
 rw [schemaOkB,this];simp
theorem schema_all {fs:List (ByteArray×Int)} (h1:∀i (h:i<fs.length),fieldB fs[i]=true) (h2:∀i (h:i<fs.length),∀k (hk:k<i),(fs[k]'(by omega)).1≠fs[i].1):schemaOkB fs=decide (1<=fs.length/\fs.length<=3):=by
 have e1:fs.all fieldB=true:=by
  rw [List.all_eq_true];intro s hs;obtain ⟨i,hi,rfl⟩:=List.getElem_of_mem hs;exact h1 i hi
 have e2:decide (∀i,i<fs.length->∀k,k<i->(fs.getD k (⟨#[]⟩,0)).1≠(fs.getD i (⟨#[]⟩,0)).1)=true:=decide_eq_true (fun i hi k hk=>by
  have:=h2 i hi k hk
  simpa [List.getD,hi,show k<fs.length by omega] using this)
 rw [schemaOkB,e1,e2];rfl
def valueB (kind num:Int) (t:ByteArray):Bool:=
 if kind=1 then decide (0<=num/\num<=999999) && decide (t=⟨#[]⟩)
 else decide (∀i,i<t.size->byt t i≠0) && decide (kind=2/\num=0/\t.size<=6)
def placeL (name:ByteArray):Nat->List (ByteArray×Int)->Int
 | _,[]=> -1
 | k,f :: l=>if f.1=name then (k:Int) else placeL name (k+1) l
theorem place_hit {name:ByteArray} {fs:List (ByteArray×Int)} {k:Nat} (hk:k<fs.length) (h:fs[k].1=name):placeL name k (fs.drop k)=(k:Int):=by
 rw [List.drop_eq_getElem_cons hk,placeL,if_pos h]
theorem place_miss {name:ByteArray} {fs:List (ByteArray×Int)} {k:Nat} (hk:k<fs.length) (h:fs[k].1≠name):placeL name k (fs.drop k)=placeL name (k+1) (fs.drop (k+1)):=by
 rw [List.drop_eq_getElem_cons hk,placeL,if_neg h]
theorem place_end {name:ByteArray} {fs:List (ByteArray×Int)} {k:Nat} (hk:fs.length<=k):placeL name k (fs.drop k)= -1:=by
 rw [List.drop_eq_nil_of_le hk,placeL]
open Go.RowKit
theorem l01In_all (x a b:Int) (w:World):Calls Tryz.prog 35 #[.int .i64 x,.int .i64 a,.int .i64 b] w fun e w'=>e= .returned (.bool (decide (a<=x/\x<=b)))/\w=w':=by
 by_cases h:a<=x/\x<=b
 ·rw [decide_eq_true h];exact l01In_yes x a b w h.1 h.2
 ·rw [decide_eq_false h];exact l01In_no x a b w (by omega)
theorem l04Word_any (s:ByteArray) (hs:s.size<=1048576) (most:Nat) (w:World):
  Calls Tryz.prog 167 #[.string s,.int .i64 (most:Int)] w fun e w'=>e= .returned (.bool (wordB s most))/\w=w':=by
 go_enter Tryz.func167,Tryz.ntmps167
 go_wp2
 go_loopg [5] s.size (fun g iv wr=>∃k:Nat,k<=s.size/\iv= .int .i64 (k:Int)/\g+k=s.size/\Hid (∀i,i<k->97<=byt s i/\byt s i<=122)/\w=wr)
 case atStart=>exact ⟨0,Nat.zero_le _,rfl,rfl,hide (fun i h=>by omega),rfl⟩
 case round=>
  obtain ⟨k,hk,rfl,hg,HA,rfl⟩:=hrel;have HG:=hide hg;clear hg
  by_cases hlt:k<s.size
  ·obtain ⟨y,hy⟩:∃y,y=byt s k:=⟨_,rfl⟩
   have hyb:y<256:=by rw [hy];exact byt_lt s _
   have hs1:s[k].toNat=y:=by rw [hy];exact byt_eq s _ hlt
   have HY:=hide hy
   have hk0:(0:Int)<=(k:Int):=by omega
   have hk1:(k:Int)<(s.size:Int):=by omega
   clear hy
   by_cases h1:y<97
   ·have HO:Hid (wordB s most=false):=hide (word_bad hlt (by rw [<-HY.out];omega))
    have d1:decide ((y:Int)<97)=true:=by simp;omega
    go_wp2
    go_ret;rw [HO.out];exact ⟨rfl,rfl⟩
   ·have d1:decide ((y:Int)<97)=false:=by simp;omega
    by_cases h2:122<y
    ·have HO:Hid (wordB s most=false):=hide (word_bad hlt (by rw [<-HY.out];omega))
     have d2:decide ((122:Int)<(y:Int))=true:=by simp;omega
     go_wp2
     go_ret;rw [HO.out];exact ⟨rfl,rfl⟩
    ·have d2:decide ((122:Int)<(y:Int))=false:=by simp;omega
     have HA2:Hid (∀i,i<k+1->97<=byt s i/\byt s i<=122):=hide (fun i hi=>by
      by_cases e:i=k
      ·subst e;rw [<-HY.out];omega
      ·exact HA.out i (by omega))
     go_wp2
     go_roundg (gk - 1)
     case measure=>have:=HG.out;omega
     case rel=>exact ⟨k+1,by omega,by go_num,by have:=HG.out;omega,HA2,rfl⟩
  ·have HO:Hid (wordB s most=decide (1<=(s.size:Int)/\(s.size:Int)<=(most:Int))):=hide (by rw [word_all (fun i hi=>HA.out i (by omega))];congr 1;simp;omega)
   have HC:=hide (l01In_all (s.size:Int) 1 (most:Int));obtain ⟨bb,hbb⟩:∃bb,bb=decide (1<=(s.size:Int)/\(s.size:Int)<=(most:Int)):=⟨_,rfl⟩;rw [<-hbb] at HC HO;clear hbb;go_wp2_with fail;refine (HC.out _).mono ?_;rintro e w2 ⟨rfl,rfl⟩;go_wp2_with fail;go_ret;rw [HO.out];exact ⟨rfl,rfl⟩
theorem specSchemaOk_any (fs:List (ByteArray×Int)) (hl:fs.length<=1048576) (hn:∀f∈fs,f.1.size<=1048576) (v:Value) (w:World) (hr:RowAt w 2 v fs.length (flds fs)):
  Calls Tryz.prog 131 #[v] w fun e w'=>e= .returned (.bool (schemaOkB fs))/\Below w.heap.size w w':=by
 obtain ⟨-,a,cap,rfl,h2⟩:=hr;have HR:=hide h2;have HN:=hide hn;clear h2 hn;go_enter Tryz.func131,Tryz.ntmps131;go_wp2_with fail
 go_loopg [3] fs.length (fun g iv wr=>∃i:Nat,i<=fs.length/\iv= .int .i64 (i:Int)/\g+i=fs.length/\Hid ((∀j (h:j<fs.length),j<i->fieldB fs[j]=true)/\∀j (h:j<fs.length),j<i->∀k (hk:k<j),(fs[k]'(by omega)).1≠fs[j].1)/\Hid (Below w.heap.size w wr))
 case atStart=>exact ⟨0,Nat.zero_le _,rfl,rfl,hide ⟨fun j h h0=>by omega,fun j h h0=>by omega⟩,hide (Below.refl _ _)⟩
 case round=>
  obtain ⟨i,hi,rfl,hg,HA,HB⟩:=hrel;have HG:=hide hg;obtain ⟨gq,hgq⟩:∃gq,gq=gk:=⟨_,rfl⟩;have HGQ:=hide hgq;clear hg hgq
  by_cases hlt:i<fs.length
  ·rcases HR.out with h0 | ⟨b,off,rfl,hbl,hc⟩
   ·omega
   ·obtain ⟨x,hx⟩:∃x,x=fs[i].1:=⟨_,rfl⟩
    obtain ⟨q,hq⟩:∃q,q=fs[i].2:=⟨_,rfl⟩
    have HC0:Hid (∀wx,Below w.heap.size w wx->wx.cell? ⟨b,off+i * 2,none⟩=some (.string x)/\wx.cell? ⟨b,off+i * 2+1,none⟩=some (.int .i64 q)):=hide (fun wx hb=>⟨by rw [hb.cell (by exact hbl),hc (i * 2) (by omega),(flds_at fs i hlt).1,hx],by rw [hb.cell (by exact hbl),Nat.add_assoc,hc (i * 2+1) (by omega),(flds_at fs i hlt).2,hq]⟩)
    have HCk:Hid (∀wx,Below w.heap.size w wx->∀k (h:k<fs.length),wx.cell? ⟨b,off+k * 2,none⟩=some (.string fs[k].1)):=hide (fun wx hb k h=>by rw [hb.cell (by exact hbl),hc (k * 2) (by omega),(flds_at fs k h).1])
    have hxs:x.size<=1048576:=by rw [hx];exact HN.out _ (List.getElem_mem hlt)
    have HX:=hide hx;have HQ:=hide hq;obtain ⟨hc0,hc1⟩:=HC0.out wr HB.out
    have hi0:(0:Int)<=(i:Int):=by omega
    have hi1:(i:Int)<(fs.length:Int):=by omega
    have HWd:=hide (l04Word_any x hxs 4);have HIn:=hide (l01In_all q 1 2)
    have HFb:Hid (fieldB fs[i]=(wordB x 4 && decide (1<=q/\q<=2))):=hide (by rw [fieldB,<-HX.out,<-HQ.out])
    clear hc hx hq
    cases hwd:wordB x 4 with
    | false=>
     rw [hwd] at HWd HFb;have HO:Hid (schemaOkB fs=false):=hide (schema_field hlt HFb.out);go_wp2_with fail;refine (HWd.out _).mono ?_;rintro e w2 ⟨rfl,rfl⟩;go_wp2_with fail;go_ret;rw [HO.out];exact ⟨rfl,HB.out⟩
    | true=>
     rw [hwd] at HWd HFb
     cases hkd:decide (1<=q/\q<=2) with
     | false=>
      rw [hkd] at HIn HFb;have HO:Hid (schemaOkB fs=false):=hide (schema_field hlt HFb.out);clear hwd hkd;go_wp2_with fail;refine (HWd.out _).mono ?_;rintro e w2 ⟨rfl,rfl⟩;go_wp2_with fail;refine (HIn.out _).mono ?_;rintro e w2 ⟨rfl,rfl⟩;go_wp2_with fail;go_ret;rw [HO.out];exact ⟨rfl,HB.out⟩
     | true=>
      rw [hkd] at HIn HFb;clear hwd hkd;go_wp2_with fail;refine (HWd.out _).mono ?_;rintro e w2 ⟨rfl,rfl⟩;go_wp2_with fail;refine (HIn.out _).mono ?_;rintro e w2 ⟨rfl,rfl⟩;clear hc0 hc1;go_wp2_with fail
      go_loopg [4] i (fun g kv wq=>∃k:Nat,k<=i/\kv= .int .i64 (k:Int)/\g+k=i/\Hid (∀j (h:j<k) (hj:j<fs.length),fs[j].1≠x)/\Hid (Below w.heap.size w wq))
      case atStart=>exact ⟨0,Nat.zero_le _,rfl,rfl,hide (fun j h=>by omega),HB⟩
      case round=>
       obtain ⟨k,hk,rfl,hg,HT,HBy⟩:=hrel;have HG2:=hide hg;clear hg
       by_cases hki:k<i
       ·obtain ⟨hc0,hc1⟩:=HC0.out wr HBy.out
        have hkl:k<fs.length:=by omega
        obtain ⟨y,hy⟩:∃y,y=fs[k].1:=⟨_,rfl⟩
        have hck:wr.cell? ⟨b,off+k * 2,none⟩=some (.string y):=by rw [hy];exact HCk.out wr HBy.out k hkl
        have hk0:(0:Int)<=(k:Int):=by omega
        have hk1:(k:Int)<(fs.length:Int):=by omega
        have hk2:(k:Int)<(i:Int):=by omega
        have HY:=hide hy;have hbq:=ba_beq y x;clear hy hc1
        by_cases hyx:y=x
        ·have HO:Hid (schemaOkB fs=false):=hide (schema_twice hlt hki (by rw [<-HY.out,<-HX.out];exact hyx))
         rw [decide_eq_true hyx] at hbq;clear hyx;go_wp2_with fail
         go_quiet (fail)
         go_wp2_with fail;go_ret;rw [HO.out];exact ⟨rfl,below_drewN HBy.out _⟩
        ·have HT2:Hid (∀j (h:j<k+1) (hj:j<fs.length),fs[j].1≠x):=hide (fun j h hj=>by
          by_cases e:j=k
          ·subst e;rw [<-HY.out];exact hyx
          ·exact HT.out j (by omega) hj)
         rw [decide_eq_false hyx] at hbq;clear hyx;go_wp2_with fail
         go_quiet (fail)
         have HBz:Hid (Below w.heap.size w (wr.drewN nq)):=hide (below_drewN HBy.out _);go_wp2_with fail
         go_roundg (gk - 1)
         case measure=>have:=HG2.out;omega
         case rel=>exact ⟨k+1,by omega,by go_num,by have:=HG2.out;omega,HT2,HBz⟩
       ·have hA:=HA.out
        have HA2:Hid ((∀j (h:j<fs.length),j<i+1->fieldB fs[j]=true)/\∀j (h:j<fs.length),j<i+1->∀k (hk:k<j),(fs[k]'(by omega)).1≠fs[j].1):=hide ⟨fun j h hj=>by
         by_cases e:j=i
         ·subst e;exact HFb.out
         ·exact hA.1 j h (by omega),fun j h hj k hk=>by
         by_cases e:j=i
         ·subst e;rw [<-HX.out];exact HT.out k (by omega) (by omega)
         ·exact hA.2 j h (by omega) k hk⟩
        clear hA;go_wp2_with fail
        go_roundg (gq - 1)
        case measure=>have h1:=HGQ.out;have h2:=HG.out;omega
        case rel=>exact ⟨i+1,by omega,by go_num,by have h1:=HGQ.out;have h2:=HG.out;omega,HA2,HBy⟩
  ·have HO:Hid (schemaOkB fs=decide (1<=(fs.length:Int)/\(fs.length:Int)<=3)):=hide (by
    have hA:=HA.out
    rw [schema_all (fun j h=>hA.1 j h (by omega)) (fun j h k hk=>hA.2 j h (by omega) k hk)]
    congr 1;simp;omega)
   have HC:=hide (l01In_all (fs.length:Int) 1 3);obtain ⟨bb,hbb⟩:∃bb,bb=decide (1<=(fs.length:Int)/\(fs.length:Int)<=3):=⟨_,rfl⟩;rw [<-hbb] at HC HO;clear hbb;go_wp2_with fail;refine (HC.out _).mono ?_;rintro e w2 ⟨rfl,rfl⟩;go_wp2_with fail;go_ret;rw [HO.out];exact ⟨rfl,HB.out⟩
end Go.Proofs.YtjmgdmdleamenaaGreatDoor
