/-
  Facts and contracts that the law's own text rests on, by their texts' names: SpecTree, StRightS, ShelfSort, SortOwn.
-/
import Derived.BigQuiet
import Derived.Test.YtjmgdmdleamenaaGreatDoorSr32
import Derived.Test.YtjmgdmdleamenaaGreatDoorSr36
import Derived.Test.YtjmgdmdleamenaaGreatDoorSr7
import Derived.Test.YtjmgdmdleamenaaGreatDoorSr41
import Derived.Test.YtjmgdmdleamenaaGreatDoorSr40
import Derived.Shelf.Lays
import Derived.Shelf.Slices.In.SortNone
import Derived.Shelf.Sort.Plain
import Derived.Test.YtjmgdmdleamenaaGreatDoorProg
import Derived.Sort.OwnSortedInts
import Derived.Test.YtjmgdmdleamenaaGreatDoorSr3
import Derived.Test.YtjmgdmdleamenaaGreatDoorSr14
set_option maxHeartbeats 16000000
set_option maxRecDepth 100000
namespace Go.Proofs.YtjmgdmdleamenaaGreatDoor
open Go.RowKit
theorem own_max {w:World} {B e sz n:Nat} {v:Value} {xs:List Value} (h:w.ownsRow B e sz v n xs):n<=maxLen:=by
 rcases h.2 with ⟨_,h0⟩ | ⟨g,cap,cur,_,_,_,h1,h2,_⟩
 ·rw [h0];exact Nat.zero_le _
 ·exact Nat.le_trans h1 h2
theorem upB_iff (l:List (ByteArray×ByteArray)):upB l=true↔∀i,i<l.length->0<i->lessB (l.getD (i - 1) (⟨#[]⟩,⟨#[]⟩)).1 (l.getD i (⟨#[]⟩,⟨#[]⟩)).1=true:=by simp only [upB,decide_eq_true_eq]
theorem evenB_iff (l:List Int):evenB l=true↔∀i,i<l.length->0<i->l.getD i 0=l.getD 0 0:=by simp only [evenB,decide_eq_true_eq]
theorem prs_getD (l:List (ByteArray×ByteArray)) (k:Nat) (h:k<l.length):(prs l)[k * 2]?=some (.string (l.getD k (⟨#[]⟩,⟨#[]⟩)).1):=by
 rw [(prs_at l k h).1];simp [List.getD_eq_getElem?_getD,h]
theorem specTreeOk_any (ps:List ByteArray) (ls:List (Int×ByteArray)) (hp:ps.length<=1048576) (hl:ls.length<=1048576) (hps:∀s∈ps,s.size<=1048576) (hls:∀p∈ls,p.2.size<=1048576) (v:Value) (root:Int) (w:World) (hd:DiskAt w v ps ls) (hdk:∀k,diskBlocks v k->k<w.heap.size):
  Calls Tryz.prog 14 #[v,.int .i64 root] w fun e w'=>e= .returned (.bool (treeS (fun q=>rdN (readD ps ls q)) root))/\Below w.heap.size w w':=by
 obtain ⟨v1,v2,rfl,-,-⟩:=id hd;obtain ⟨w0,hw0⟩:∃w0,w0=w.alloc (.cells #[v1,v2] 41 (0,0)):=⟨_,rfl⟩
 have hb0:Below w.heap.size w w0:=by rw [hw0];exact (Below.refl _ _).alloc (Nat.le_refl _) _
 have HB0:=hide hb0
 have HL:=hide (look_any ps ls hp hl hps hls (.agg #[v1,v2]) root w0 (disk_below hd hb0) (fun k hk=>Nat.lt_of_lt_of_le (hdk k hk) hb0.size))
 obtain ⟨A,hA⟩:∃A,A=seenS (fun q=>rdN (readD ps ls q)) root:=⟨_,rfl⟩
 have HT:Hid (treeS (fun q=>rdN (readD ps ls q)) root=(!(A.bad || A.loose) && upB A.pairs && evenB A.depths)):=hide (by rw [hA];rfl)
 rw [<-hA] at HL;rw [HT.out];clear hp hl hps hls hd hdk hb0 hA HT;obtain ⟨pr,pg,dp,bad,loose⟩:=A
 show Calls _ _ _ _ (fun e w'=>e= .returned (.bool (!(bad || loose) && upB pr && evenB dp))/\_)
 go_enter Tryz.func14,Tryz.ntmps14;go_wp2_with fail;rw [<-hw0];clear hw0;refine HL.out.mono ?_;rintro e w1 ⟨ga,vp,vg,vd,rfl,hga,hal,hb1⟩;have HB1:Hid (Below w.heap.size w w1):=hide (HB0.out.trans (hb1.mono HB0.out.size));have HP:Hid (w1.ownsRow (ga+1) 91 2 vp pr.length (prs pr)):=hide hal.2.1;have HDp:Hid (w1.ownsRow (ga+1) 3 1 vd dp.length (ints dp)):=hide hal.2.2.2.1;obtain ⟨xp,cp,rfl⟩:=own_slice HP.out;obtain ⟨xd,cd,rfl⟩:=own_slice HDp.out;have q0:w1.cell? ⟨ga,0,none⟩=some (.slice xp pr.length cp):=(cell_at hal.1 0).1;have q2:w1.cell? ⟨ga,2,none⟩=some (.slice xd dp.length cd):=(cell_at hal.1 2).1;have q3:w1.cell? ⟨ga,3,none⟩=some (.bool bad):=(cell_at hal.1 3).1;have q4:w1.cell? ⟨ga,4,none⟩=some (.bool loose):=(cell_at hal.1 4).1;have hpl:=own_max HP.out;have hdl:=own_max HDp.out;unfold maxLen at hpl hdl;clear hal hb1 hga HL HB0
 cases bad with
 | true=>
  go_wp2_with fail;go_ret;exact ⟨rfl,HB1.out⟩
 | false=>
  cases loose with
  | true=>
   go_wp2_with fail;go_ret;exact ⟨rfl,HB1.out⟩
  | false=>
   go_wp2_with fail
   go_loopg [6] pr.length (fun q iv wr=>∃(i:Nat),1<=i/\i<=pr.length+1/\q+i=pr.length+1/\iv= .int .i64 (i:Int)/\Hid (∀k,k<i->k<pr.length->0<k->lessB (pr.getD (k - 1) (⟨#[]⟩,⟨#[]⟩)).1 (pr.getD k (⟨#[]⟩,⟨#[]⟩)).1=true)/\Hid ((∀a,wr.cell? a=w1.cell? a)/\Below w.heap.size w wr))
   case atStart=>exact ⟨1,Nat.le_refl _,by omega,rfl,rfl,hide (fun k h1 h2 h3=>by omega),hide ⟨fun _=>rfl,HB1.out⟩⟩
   case round=>
    obtain ⟨i,hi1,hi2,hq,rfl,HU,HW⟩:=hrel
    have e0:wr.cell? ⟨ga,0,none⟩=some (.slice xp pr.length cp):=by rw [HW.out.1];exact q0
    have e2:wr.cell? ⟨ga,2,none⟩=some (.slice xd dp.length cd):=by rw [HW.out.1];exact q2
    have HQ:=hide hq;have HE2:=hide q2;clear hq q0 q3 q4
    by_cases hlt:i<pr.length
    ·obtain ⟨g,rfl⟩:∃g,xp=some ⟨g,0,none⟩:=by
      rcases HP.out.2 with ⟨e,h0⟩ | ⟨g,cc,cur,e,_⟩
      ·omega
      ·injection e with e1;exact ⟨g,e1⟩
     obtain ⟨j,rfl⟩:∃j,i=j+1:=⟨i - 1,by omega⟩
     obtain ⟨x,hx⟩:∃x,x=(pr.getD j (⟨#[]⟩,⟨#[]⟩)).1:=⟨_,rfl⟩;obtain ⟨y,hy⟩:∃y,y=(pr.getD (j+1) (⟨#[]⟩,⟨#[]⟩)).1:=⟨_,rfl⟩
     have c0:wr.cell? ⟨g,j * 2,none⟩=some (.string x):=by rw [HW.out.1,hx,<-prs_getD pr j (by omega)];exact HP.out.cellAt (j * 2) (by omega)
     have c1:wr.cell? ⟨g,(j+1) * 2,none⟩=some (.string y):=by rw [HW.out.1,hy,<-prs_getD pr (j+1) hlt];exact HP.out.cellAt ((j+1) * 2) (by omega)
     obtain ⟨b,hb⟩:∃b,Op.bytesLess x.toList y.toList=b:=⟨_,rfl⟩
     have HN:Hid (lessB (pr.getD j (⟨#[]⟩,⟨#[]⟩)).1 (pr.getD (j+1) (⟨#[]⟩,⟨#[]⟩)).1=b):=hide (by rw [<-hx,<-hy];exact hb)
     have hj0:(0:Int)<=(j:Int):=by omega
     have hj1:(j:Int)+1<(pr.length:Int):=by omega
     have hj2:(j:Int)<(pr.length:Int):=by omega
     clear hx hy
     cases b with
     | true=>
      go_wp2_with fail
      go_quiet (fail)
      go_wp2_with fail
      go_roundg (gk - 1)
      case measure=>have:=HQ.out;omega
      case rel=>exact ⟨j+1+1,by omega,by omega,by have:=HQ.out;omega,by go_num,hide (fun k h1 h2 h3=>by
       by_cases e:k=j+1
       ·subst e;exact HN.out
       ·exact HU.out k (by omega) h2 h3),hide ⟨fun a=>HW.out.1 a,below_drewN HW.out.2 _⟩⟩
     | false=>
      go_wp2_with fail
      go_quiet (fail)
      go_wp2_with fail;go_ret
      have hno:upB pr=false:=by
       cases hu:upB pr with
       | false=>rfl
       | true=>have h:=(upB_iff pr).1 hu (j+1) hlt (by omega);rw [show j+1 - 1=j from rfl,HN.out] at h;cases h
      exact ⟨by rw [hno];simp,below_drewN HW.out.2 _⟩
    ·have HUp:Hid (upB pr=true):=hide ((upB_iff pr).2 fun k h1 h2=>HU.out k (by omega) h1 h2)
     clear HU HP;go_wp2_with fail;clear e0
     go_loopg [7] dp.length (fun q iv wq=>∃(i:Nat),1<=i/\i<=dp.length+1/\q+i=dp.length+1/\iv= .int .i64 (i:Int)/\Hid (∀k,k<i->k<dp.length->0<k->dp.getD k 0=dp.getD 0 0)/\Hid ((∀a,wq.cell? a=w1.cell? a)/\Below w.heap.size w wq))
     case atStart=>exact ⟨1,Nat.le_refl _,by omega,rfl,rfl,hide (fun k h1 h2 h3=>by omega),HW⟩
     case round=>
      clear HW HQ e2;obtain ⟨i,hi1,hi2,hq,rfl,HU,HW⟩:=hrel
      have e2:wr.cell? ⟨ga,2,none⟩=some (.slice xd dp.length cd):=by rw [HW.out.1];exact HE2.out
      have HQ:=hide hq;clear hq
      by_cases hlt:i<dp.length
      ·obtain ⟨g,rfl⟩:∃g,xd=some ⟨g,0,none⟩:=by
        rcases HDp.out.2 with ⟨e,h0⟩ | ⟨g,cc,cur,e,_⟩
        ·omega
        ·injection e with e1;exact ⟨g,e1⟩
       obtain ⟨x,hx⟩:∃x,x=dp.getD i 0:=⟨_,rfl⟩;obtain ⟨z,hz⟩:∃z,z=dp.getD 0 0:=⟨_,rfl⟩
       have c1:wr.cell? ⟨g,i,none⟩=some (.int .i64 x):=by rw [HW.out.1,hx,<-at_getD hlt];exact HDp.out.cellAt i (by omega)
       have c0:wr.cell? ⟨g,0,none⟩=some (.int .i64 z):=by rw [HW.out.1,hz,<-at_getD (by omega)];exact HDp.out.cellAt 0 (by omega)
       have hi0:(0:Int)<=(i:Int):=by omega
       have hil:(i:Int)<(dp.length:Int):=by omega
       have hd0:(0:Int)<(dp.length:Int):=by omega
       have HX:=hide hx;have HZ:=hide hz;clear hx hz
       by_cases hxz:x=z
       ·have HN:Hid (dp.getD i 0=dp.getD 0 0):=hide (by rw [<-HX.out,<-HZ.out];exact hxz)
        subst hxz;go_wp2_with fail
        go_quiet (fail)
        go_wp2_with fail
        go_roundg (gk - 1)
        case measure=>have:=HQ.out;omega
        case rel=>exact ⟨i+1,by omega,by omega,by have:=HQ.out;omega,by go_num,hide (fun k h1 h2 h3=>by
         by_cases e:k=i
         ·subst e;exact HN.out
         ·exact HU.out k (by omega) h2 h3),hide ⟨fun a=>HW.out.1 a,below_drewN HW.out.2 _⟩⟩
       ·have hne:(x !=z)=true:=by simp [hxz]
        go_wp2_with fail
        go_quiet (fail)
        go_wp2_with fail;go_ret
        have hno:evenB dp=false:=by
         cases hu:evenB dp with
         | false=>rfl
         | true=>exact absurd (by rw [HX.out,HZ.out];exact (evenB_iff dp).1 hu i hlt (by omega)) hxz
        exact ⟨by rw [hno];simp,below_drewN HW.out.2 _⟩
      ·have HEv:Hid (evenB dp=true):=hide ((evenB_iff dp).2 fun k h1 h2=>HU.out k (by omega) h1 h2)
       go_wp2_with fail;go_ret
       exact ⟨by rw [HUp.out,HEv.out];rfl,HW.out.2⟩
open Go.RowKit
theorem specStoreRight_any (v:Value) (s:St) (hs:s.small) (w:World) (hd:StAt w v s) (hdk:∀vp vl (r:List Value),v= .agg (vp :: vl :: r).toArray->∀k,diskBlocks (.agg #[vp,vl]) k->k<w.heap.size):
  Calls Tryz.prog 5 #[v] w fun e w'=>∃b,e= .returned (.bool b)/\StTold s (treeS fun q=>rdN (readD s.ps s.ls q)) (fun W H b=>b=finS W H) b/\Below w.heap.size w w':=by
 obtain ⟨vp,vl,vf,vR,vr,up,ul,uu,ug,uf,rfl,h1,h2,h3,-⟩:=hd;obtain ⟨a,cap,rfl⟩:=rds_slice h3;obtain ⟨⟨hp,hps,hl,hls⟩,⟨hf,hfs⟩,⟨hr,-⟩,-⟩:=hs;obtain ⟨L,hL⟩:∃n,n=s.rs.length:=⟨_,rfl⟩;rw [<-hL];rw [<-hL] at hr h3;obtain ⟨cs,hcs⟩:∃cs:Array Value,cs= #[vp,vl,.int .i64 s.m.tx,.int .i64 s.m.root,.int .i64 s.m.next,vf,.slice a L cap,.int .i64 s.tm.tx,.int .i64 s.tm.root,.int .i64 s.tm.next,vr,up,ul,.int .i64 s.tk.next,uu,ug,uf,.int .i64 s.tr,.bool s.wr,.bool s.fl]:=⟨_,rfl⟩;obtain ⟨w0,hw0⟩:∃w0,w0=w.alloc (Obj.cells cs 51):=⟨_,rfl⟩
 have hb0:Below w.heap.size w w0:=by rw [hw0];exact (Below.refl w.heap.size w).alloc (Nat.le_refl _) _
 have hV:w0.heap[w.heap.size]?=some (Obj.cells cs 51):=by rw [hw0];exact heap_alloc_new w _
 have hz0:w0.heap.size=w.heap.size+1:=by rw [hw0];simp
 obtain ⟨mt,e1⟩:∃n,n=s.m.tx:=⟨_,rfl⟩;obtain ⟨mr,e2⟩:∃n,n=s.m.root:=⟨_,rfl⟩;obtain ⟨mn,e3⟩:∃n,n=s.m.next:=⟨_,rfl⟩
 have HX:Hid (∀wx,Below w0.heap.size w0 wx->wx.cell? ⟨w.heap.size,0,none⟩=some vp/\wx.cell? ⟨w.heap.size,1,none⟩=some vl/\wx.cell? ⟨w.heap.size,2,none⟩=some (.int .i64 mt)/\wx.cell? ⟨w.heap.size,3,none⟩=some (.int .i64 mr)/\wx.cell? ⟨w.heap.size,4,none⟩=some (.int .i64 mn)/\wx.cell? ⟨w.heap.size,5,none⟩=some vf/\wx.cell? ⟨w.heap.size,6,none⟩=some (.slice a L cap)):=hide (fun wx hb=>by
  have h:=(hb.block w.heap.size (by omega)).trans hV
  rw [hcs] at h;rw [e1,e2,e3]
  exact ⟨(cell_at h 0).1,(cell_at h 1).1,(cell_at h 2).1,(cell_at h 3).1,(cell_at h 4).1,(cell_at h 5).1,(cell_at h 6).1⟩)
 have HMo:=hide (fun wx h=>specMetaOk_any (.agg #[.int .i64 mt,.int .i64 mr,.int .i64 mn,vf]) s.m hf hfs wx h)
 have HTr:=hide (fun r wx h k=>specTreeOk_any s.ps s.ls hp hl hps hls (.agg #[vp,vl]) r wx h k)
 have HPg:=hide (fun hok wx h k m=>specPagesRight_any s.ps s.ls hp hl hps hls s.m hok (.agg #[vp,vl]) (.agg #[.int .i64 mt,.int .i64 mr,.int .i64 mn,vf]) wx h k m)
 have HIx:=hide (fun wx h k=>specIndexRight_any s.ps s.ls hp hl hps hls (.agg #[vp,vl]) mr wx h k)
 have HD:=hide h1;have HDk:=hide (hdk vp vl _ rfl)
 have HM:Hid (MetaAt w (.agg #[.int .i64 mt,.int .i64 mr,.int .i64 mn,vf]) s.m):=hide (by rw [e1,e2,e3];exact h2)
 have HR:=hide h3;have HE:Hid (mt=s.m.tx/\mr=s.m.root/\mn=s.m.next/\L=s.rs.length):=hide ⟨e1,e2,e3,hL⟩;have HB0:=hide hb0
 obtain ⟨T,hT⟩:∃T,T=treeS fun q=>rdN (readD s.ps s.ls q):=⟨_,rfl⟩
 have HT2:Hid (∀r,treeS (fun q=>rdN (readD s.ps s.ls q)) r=T r):=hide (fun r=>by rw [hT])
 rw [<-hT];rw [<-hcs];clear hp hl hps hls hf hfs h1 h2 h3 hdk hb0 hV hz0 e1 e2 e3 hL hT hcs;obtain ⟨x0,x1,x2,x3,x4,x5,x6⟩:=HX.out w0 (Below.refl _ _);rw [hw0] at x0 x1 x2 x3 x4 x5 x6
 cases hok:s.m.ok with
 | false=>
  have HO:=hide hok;rw [hok] at HMo;clear hok;go_enter Tryz.func5,Tryz.ntmps5;go_wp2_with fail;rw [<-hw0];clear hw0 x0 x1 x2 x3 x4 x5 x6;refine (HMo.out w0 (meta_below HM.out HB0.out)).mono ?_;rintro e w1 ⟨rfl,hb1⟩;have HB1:Hid (Below w.heap.size w w1):=hide (HB0.out.trans (hb1.mono HB0.out.size));clear hb1;go_wp2_with fail;go_ret;exact ⟨false,rfl,Or.inl ⟨HO.out,rfl⟩,HB1.out⟩
 | true=>
  have HO:=hide hok;rw [hok] at HMo;have HPk:=hide (HPg.out hok);clear hok HPg;go_enter Tryz.func5,Tryz.ntmps5;go_wp2_with fail;rw [<-hw0];clear hw0 x0 x1 x2 x3 x4 x5 x6;refine (HMo.out w0 (meta_below HM.out HB0.out)).mono ?_;rintro e w1 ⟨rfl,hb1⟩;have HA1:=hide hb1;have HB1:Hid (Below w.heap.size w w1):=hide (HB0.out.trans (hb1.mono HB0.out.size));obtain ⟨x0,x1,x2,x3,x4,x5,x6⟩:=HX.out w1 hb1;clear hb1;go_wp2_with fail;clear x0 x1 x2 x3 x4 x5 x6
  refine (HTr.out mr w1 (disk_below HD.out HB1.out) (fun k hk=>Nat.lt_of_lt_of_le (HDk.out k hk) HB1.out.size)).mono ?_
  rintro e w2 ⟨rfl,hb2⟩;rw [HT2.out];have hA2:Below w0.heap.size w0 w2:=HA1.out.trans (hb2.mono HA1.out.size);have HA2:=hide hA2;have HB2:Hid (Below w.heap.size w w2):=hide (HB0.out.trans (hA2.mono HB0.out.size));obtain ⟨x0,x1,x2,x3,x4,x5,x6⟩:=HX.out w2 hA2;clear hb2 hA2 HA1 HB1
  cases ht:T mr with
  | false=>
   have HTf:Hid (T s.m.root=false):=hide (by rw [<-HE.out.2.1];exact ht)
   clear ht;go_wp2_with fail;go_ret;exact ⟨false,rfl,Or.inr (Or.inl ⟨HO.out,HTf.out,rfl⟩),HB2.out⟩
  | true=>
   have HTf:Hid (T s.m.root=true):=hide (by rw [<-HE.out.2.1];exact ht)
   clear ht;go_wp2_with fail;clear x0 x1 x2 x3 x4 x5 x6
   refine (HPk.out w2 (disk_below HD.out HB2.out) (fun k hk=>Nat.lt_of_lt_of_le (HDk.out k hk) HB2.out.size) (meta_below HM.out HB2.out)).mono ?_
   rintro e w3 ⟨p,rfl,hpt,hb3⟩;have HPt:=hide hpt;have hA3:Below w0.heap.size w0 w3:=HA2.out.trans (hb3.mono HA2.out.size);have HA3:=hide hA3;have HB3:Hid (Below w.heap.size w w3):=hide (HB0.out.trans (hA3.mono HB0.out.size));obtain ⟨x0,x1,x2,x3,x4,x5,x6⟩:=HX.out w3 hA3;clear hb3 hA3 hpt HA2 HB2
   cases p with
   | false=>
    go_wp2_with fail;go_ret;exact ⟨false,rfl,Or.inr (Or.inr ⟨HO.out,HTf.out,false,HPt.out,Or.inl ⟨rfl,rfl⟩⟩),HB3.out⟩
   | true=>
    go_wp2_with fail;clear x0 x1 x2 x3 x4 x5 x6
    refine (HIx.out w3 (disk_below HD.out HB3.out) (fun k hk=>Nat.lt_of_lt_of_le (HDk.out k hk) HB3.out.size)).mono ?_
    rintro e w4 ⟨i,rfl,hit,hb4⟩;have hA4:Below w0.heap.size w0 w4:=HA3.out.trans (hb4.mono HA3.out.size);have HA4:=hide hA4;have HB4:Hid (Below w.heap.size w w4):=hide (HB0.out.trans (hA4.mono HB0.out.size));rw [HE.out.2.1] at hit
    have HFin:Hid (∀b,(i && s.rs.all fun r=>T r.2.root)=b->StTold s T (fun W H b=>b=finS W H) b):=hide (fun b h=>Or.inr (Or.inr ⟨HO.out,HTf.out,true,HPt.out,Or.inr ⟨rfl,i,hit,h.symm⟩⟩))
    clear hb4 hA4 hit HA3 HB3
    cases i with
    | false=>
     have HF:=hide (HFin.out false rfl);go_wp2_with fail;go_ret;exact ⟨false,rfl,HF.out,HB4.out⟩
    | true=>
     go_wp2_with fail
     go_loopg [3] L (fun q iv wr=>∃j:Nat,j<=L/\q+j=L/\iv= .int .i64 (j:Int)/\Hid (∀(l:Nat) r,l<j->s.rs[l]?=some r->T r.2.root=true)/\Hid (Below w0.heap.size w0 wr))
     case atStart=>exact ⟨0,Nat.zero_le _,by omega,rfl,hide (fun l r h=>by omega),HA4⟩
     case round=>
      clear HA4 HB4;obtain ⟨j,hj,hq,rfl,HAl,HA⟩:=hrel;have HQ:=hide hq;have HB:Hid (Below w.heap.size w wr):=hide (HB0.out.trans (HA.out.mono HB0.out.size));obtain ⟨x0,x1,x2,x3,x4,x5,x6⟩:=HX.out wr HA.out;clear hq x2 x3 x4 x5
      by_cases hlt:j<L
      ·obtain ⟨⟨id,m⟩,hrj⟩:∃r,s.rs[j]?=some r:=⟨s.rs[j]'(by rw [<-HE.out.2.2.2];exact hlt),List.getElem?_eq_getElem _⟩
       obtain ⟨b,off,u,rfl,hbb,⟨c0,c1,c2,c3,c4⟩,-⟩:=rds_get HR.out hrj
       have hcr:wr.cell? ⟨b,off+j * 5+2,none⟩=some (.int .i64 m.root):=(HB.out.cell (by exact hbb)).trans c2
       obtain ⟨rr,hrr⟩:∃n,n=m.root:=⟨_,rfl⟩;rw [<-hrr] at hcr;have HRj:=hide hrj;have hbw:b<wr.heap.size:=Nat.lt_of_lt_of_le hbb HB.out.size
       have hj0:(0:Int)<=(j:Int):=by omega
       have hj1:(j:Int)<(L:Int):=by omega
       have HTj:=hide (fun wx h k=>HTr.out rr wx h k)
       rw [HT2.out rr] at HTj
       have HSx:Hid (∀wx,Below wr.heap.size wr wx->wx.cell? ⟨w.heap.size,0,none⟩=some vp/\wx.cell? ⟨w.heap.size,1,none⟩=some vl/\wx.cell? ⟨w.heap.size,6,none⟩=some (.slice (some ⟨b,off,none⟩) L cap)/\wx.cell? ⟨b,off+j * 5+2,none⟩=some (.int .i64 rr)):=hide (fun wx hb=>by
        obtain ⟨y0,y1,-,-,-,-,y6⟩:=HX.out wx (HA.out.trans (hb.mono HA.out.size))
        exact ⟨y0,y1,y6,(hb.cell (by exact hbw)).trans hcr⟩)
       have hS0:=HSx.out wr (Below.refl _ _);have HMr:=hide hrr;clear hrj c0 c1 c2 c3 c4 hcr hrr x0 x1;go_wp2_with fail
       go_region_held3 (fun wx=>wx.cell? ⟨w.heap.size,0,none⟩=some vp/\wx.cell? ⟨w.heap.size,1,none⟩=some vl/\wx.cell? ⟨w.heap.size,6,none⟩=some (.slice (some ⟨b,off,none⟩) L cap)/\wx.cell? ⟨b,off+j * 5+2,none⟩=some (.int .i64 rr)) (first | exact hS0 | exact hS5) ((go_at_call 14;(with_reducible refine (HTj.out _ ?_ ?_).mono ?_);exact disk_below HD.out HB.out.drew;exact (fun k hk=>Nat.lt_of_lt_of_le (HDk.out k hk) HB.out.size);rintro e w5 ⟨rfl,hb5⟩;have hA5:Below wr.heap.size wr w5:=(Below.refl _ _).drew.trans hb5;have hS5:=HSx.out w5 hA5))
       have HA5:Hid (Below w0.heap.size w0 w5):=hide (HA.out.trans (hA5.mono HA.out.size));have HB5:Hid (Below w.heap.size w w5):=hide (HB.out.trans (hA5.mono HB.out.size));clear hA5 hb5 hS0 hS5 HSx x6
       cases htr:T rr with
       | false=>
        have HF:=hide (HFin.out false (by rw [Bool.true_and];exact all_one HRj.out (by show T m.root=false;rw [<-HMr.out];exact htr)))
        clear htr;go_wp2_with fail;go_ret;exact ⟨false,rfl,HF.out,HB5.out⟩
       | true=>
        have HA2:Hid (∀(l:Nat) r,l<j+1->s.rs[l]?=some r->T r.2.root=true):=hide (fun l r hl hr=>by
         by_cases e:l=j
         ·subst e
          have:=HRj.out.symm.trans hr
          injection this with this
          subst this
          show T m.root=true
          rw [<-HMr.out];exact htr
         ·exact HAl.out l r (by omega) hr)
        clear htr HAl;go_wp2_with fail
        go_roundg (gk - 1)
        case measure=>have:=HQ.out;omega
        case rel=>exact ⟨j+1,by omega,by have:=HQ.out;omega,by go_num,HA2,HA5⟩
      ·have HF:=hide (HFin.out true (by rw [Bool.true_and];exact all_taken (fun l r h=>HAl.out l r (by have:=(List.getElem?_eq_some_iff.1 h).1;have:=HE.out.2.2.2;omega) h)))
       go_wp2_with fail;go_ret;exact ⟨true,rfl,HF.out,HB.out⟩
end Go.Proofs.YtjmgdmdleamenaaGreatDoor
namespace Go.Proofs
open Go.Shelf
def Tryz.lays189_ren:Go.Shelf.Ren:=⟨fun | 189=>54 | 125=>83 | 257=>82 | 128=>117 | 129=>118 | 294=>108 | 295=>109 | 296=>110 | 297=>111 | 298=>112 | 299=>113 | 216=>114 | 300=>115 | 301=>116 | 328=>139 | 329=>140 | 330=>141 | 331=>142 | 332=>143 | 215=>144 | 343=>175 | n=>n,fun | 28=>30 | 3=>3 | 46=>164 | 0=>0 | 51=>196 | 53=>198 | 4=>4 | 183=>188 | 182=>187 | 131=>193 | 5=>5 | 9=>9 | 218=>209 | 222=>213 | 228=>237 | 229=>238 | n=>n,fun | n=>n⟩
theorem Tryz.lays189:Go.Proofs.Lays.n189 Tryz.prog Tryz.lays189_ren:={
 mixed:=by kernel_rfl
 f125:=Tryz.func83.trans (congrArg some (by kernel_rfl))
 f128:=Tryz.func117.trans (congrArg some (by kernel_rfl))
 f129:=Tryz.func118.trans (congrArg some (by kernel_rfl))
 f189:=Tryz.func54.trans (congrArg some (by kernel_rfl))
 f215:=Tryz.func144.trans (congrArg some (by kernel_rfl))
 f216:=Tryz.func114.trans (congrArg some (by kernel_rfl))
 f257:=Tryz.func82.trans (congrArg some (by kernel_rfl))
 f294:=Tryz.func108.trans (congrArg some (by kernel_rfl))
 f295:=Tryz.func109.trans (congrArg some (by kernel_rfl))
 f296:=Tryz.func110.trans (congrArg some (by kernel_rfl))
 f297:=Tryz.func111.trans (congrArg some (by kernel_rfl))
 f298:=Tryz.func112.trans (congrArg some (by kernel_rfl))
 f299:=Tryz.func113.trans (congrArg some (by kernel_rfl))
 f300:=Tryz.func115.trans (congrArg some (by kernel_rfl))
 f301:=Tryz.func116.trans (congrArg some (by kernel_rfl))
 f328:=Tryz.func139.trans (congrArg some (by kernel_rfl))
 f329:=Tryz.func140.trans (congrArg some (by kernel_rfl))
 f330:=Tryz.func141.trans (congrArg some (by kernel_rfl))
 f331:=Tryz.func142.trans (congrArg some (by kernel_rfl))
 f332:=Tryz.func143.trans (congrArg some (by kernel_rfl))
 f343:=Tryz.func175.trans (congrArg some (by kernel_rfl))
 t0:=Tryz.underlying0
 a0:=Tryz.isAgg0
 z0:=Tryz.sizeOf0
 v0:=Tryz.zeroValue0
 t3:=Tryz.underlying3
 a3:=Tryz.isAgg3
 z3:=Tryz.sizeOf3
 v3:=Tryz.zeroValue3
 t4:=Tryz.underlying4
 a4:=Tryz.isAgg4
 z4:=Tryz.sizeOf4
 v4:=Tryz.zeroValue4
 t5:=Tryz.underlying5
 a5:=Tryz.isAgg5
 z5:=Tryz.sizeOf5
 v5:=Tryz.zeroValue5
 t9:=Tryz.underlying9
 a9:=Tryz.isAgg9
 z9:=Tryz.sizeOf9
 v9:=Tryz.zeroValue9
 t28:=Tryz.underlying30
 a28:=Tryz.isAgg30
 z28:=Tryz.sizeOf30
 v28:=Tryz.zeroValue30
 t46:=Tryz.underlying164
 a46:=Tryz.isAgg164
 z46:=Tryz.sizeOf164
 v46:=Tryz.zeroValue164
 t51:=Tryz.underlying196
 a51:=Tryz.isAgg196
 z51:=Tryz.sizeOf196
 v51:=Tryz.zeroValue196
 t53:=Tryz.underlying198
 a53:=Tryz.isAgg198
 z53:=Tryz.sizeOf198
 v53:=Tryz.zeroValue198
 t131:=Tryz.underlying193
 a131:=Tryz.isAgg193
 z131:=Tryz.sizeOf193
 v131:=Tryz.zeroValue193
 t182:=Tryz.underlying187
 a182:=Tryz.isAgg187
 z182:=Tryz.sizeOf187
 v182:=Tryz.zeroValue187
 t183:=Tryz.underlying188
 a183:=Tryz.isAgg188
 z183:=Tryz.sizeOf188
 v183:=Tryz.zeroValue188
 t218:=Tryz.underlying209
 a218:=Tryz.isAgg209
 z218:=Tryz.sizeOf209
 v218:=Tryz.zeroValue209
 t222:=Tryz.underlying213
 a222:=Tryz.isAgg213
 z222:=Tryz.sizeOf213
 v222:=Tryz.zeroValue213
 t228:=Tryz.underlying237
 a228:=Tryz.isAgg237
 z228:=Tryz.sizeOf237
 v228:=Tryz.zeroValue237
 t229:=Tryz.underlying238
 a229:=Tryz.isAgg238
 z229:=Tryz.sizeOf238
 v229:=Tryz.zeroValue238}
open Go.Sort Go.RowKit in
theorem Tryz.slices_Sort_int (blk off cap:Nat) (zs:List Int) (w:World) (hH:Holds (Value.int .i64) w blk off zs.toArray) (hblk:blk<w.heap.size) (hsz:zs.length<4611686018427387904):
  Calls Tryz.prog 54 #[.slice (some ⟨blk,off,none⟩) zs.length cap] w fun e w'=>
   e= .returned (.tuple #[])/\∃n os,w'=grow (putRow (Value.int .i64) (Sort.ahead w n) blk off (zs.mergeSort fun x y=>decide (x<=y)).toArray) os:=Any.slices_Sort_int Tryz.lays189 blk off cap zs w hH hblk hsz
open Go.RowKit Go.Sort in
theorem Tryz.slices_Sort_int_none (p:Option Addr) (cap:Nat) (w:World):
  Calls Tryz.prog 54 #[.slice p 0 cap] w fun e w'=>e= .returned (.tuple #[])/\w'=w:=Any.slices_Sort_int_none Tryz.lays189 p cap w
end Go.Proofs
namespace Go.Proofs.YtjmgdmdleamenaaGreatDoor
open Go.RowKit
theorem srt_merge (l:List Int):Srt (l.mergeSort fun x y=>decide (x<=y)):=by
 have h:=List.pairwise_mergeSort (le:=fun x y:Int=>decide (x<=y)) (fun a b c h1 h2=>by simp at h1 h2⊢;omega) (fun a b=>by simp;omega) l
 exact h.imp (fun h=>by simpa using h)
theorem sort_own (l:List Int) (hl:l.length<=1048576) (B:Nat) (v:Value) (w:World) (h:w.ownsRow B 3 1 v l.length (ints l)):
  Calls Tryz.prog 54 #[v] w fun e w'=>e= .returned (.tuple #[])/\∃m,m.Perm l/\Srt m/\w'.ownsRow B 3 1 v m.length (ints m)/\KeptC (fun k=>v.ownBlock=some k) w w':=by
 rcases h.2 with ⟨rfl,h0⟩ | ⟨g,c,cur,rfl,hg,hb,h1,h2,h3,h4⟩
 ·obtain rfl:l= []:=List.eq_nil_of_length_eq_zero h0
  refine (Tryz.slices_Sort_int_none none 0 w).mono ?_;rintro e w' ⟨he,rfl⟩;exact ⟨he,[],List.Perm.refl _,List.Pairwise.nil,h,keptC_refl _ _⟩
 ·have hH:=holds_of_blockI hb (ss:=l) (by have:=h4;rw [Nat.mul_one] at this;exact this)
  refine (Tryz.slices_Sort_int g 0 c l w hH (Array.getElem?_eq_some_iff.1 hb).1 (by omega)).mono ?_
  rintro e w' ⟨he,n,os,rfl⟩
  refine ⟨he,l.mergeSort fun x y=>decide (x<=y),List.mergeSort_perm _ _,srt_merge l,?_,?_⟩
  ·rw [List.length_mergeSort]
   exact ownsRow_sortedI (by simp) hg hb h1 h2 h3
  ·have gb:=grownBy_sortedI (w:=w) (g:=g) (n:=n) (os:=os) (l.mergeSort fun x y=>decide (x<=y)).toArray
   exact ⟨gb.os,gb.tape,gb.output,gb.size,fun k hk hn=>gb.block k hk (fun e=>hn e.symm)⟩
end Go.Proofs.YtjmgdmdleamenaaGreatDoor
