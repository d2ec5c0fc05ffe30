/-
  Facts and contracts that the law's own text rests on, by their texts' names: NodeSpec.
-/
import Derived.Laws.Cover1
import Derived.Test.YtcbogiebfbbmbaaGreatDoorDa1
import Derived.Test.YtcbogiebfbbmbaaGreatDoorDa3
set_option maxHeartbeats 16000000
set_option maxRecDepth 100000
namespace Go.Proofs.YtcbogiebfbbmbaaGreatDoor
open Go.RowKit
theorem zig (x a b:Int) (w:World):Calls Tryz.prog 20 #[.int .i64 x,.int .i64 a,.int .i64 b] w fun e w'=>e= .returned (.bool (decide (a<=x/\x<=b)))/\w=w':=by
 by_cases h:a<=x/\x<=b
 ·rw [decide_eq_true h];exact zg4 x a b w h.1 h.2
 ·rw [decide_eq_false h];exact zhu x a b w (by omega)
def pairsOk (lf:Bool) (ks vs:List ByteArray) (cs:List Int) (i:Nat):Prop:=∀j,j<i->keyB ks j=true/\(lf=true->(vs.getD j ⟨#[]⟩).size<=24)/\(lf=false->kidB cs j=true)
theorem zih {lf:Bool} {ks vs:List ByteArray} {cs:List Int} (h0:cntB lf ks.length vs.length cs.length=true) (h:pairsOk lf ks vs cs ks.length):nodeOkB lf ks vs cs=true:=by
 obtain ⟨-,-,h3,h4⟩:=zaX h0
 refine zfL h0 (fun i hi=>(h i hi).1) (fun i hi=> ?_) (fun i hi=> ?_)
 ·cases lf with
  | true=>exact (h i (by have:=(h3 rfl).1;omega)).2.1 rfl
  | false=>have:=(h4 rfl).2;omega
 ·cases lf with
  | true=>have:=(h3 rfl).2;omega
  | false=>exact (h i (by have:=(h4 rfl).1;omega)).2.2 rfl
theorem bel_n {w w1:World} (h:Below w.heap.size w w1) {n:Nat}:Below w.heap.size w (w1.drewN n):=below_drewN h n
theorem cnt_no1 {lf:Bool} {nk nv nc:Nat} (h:¬(1<=nk/\nk<=4)):cntB lf nk nv nc=false:=by rw [cntB,decide_eq_false h];rfl
theorem zmB {nk nv nc:Nat} (h:1<=nk/\nk<=4):cntB true nk nv nc=decide (nv=nk/\nc=0):=by rw [cntB,decide_eq_true h,if_pos rfl];rfl
theorem zmC {nk nv nc:Nat} (h:1<=nk/\nk<=4):cntB false nk nv nc=decide (nc=nk/\nv=0):=by rw [cntB,decide_eq_true h,if_neg (by decide)];rfl
theorem zgU (v:Value) (lf:Bool) (ks vs:List ByteArray) (cs:List Int) (hk:ks.length<=1048576) (hv:vs.length<=1048576) (hc:cs.length<=1048576) (hks:∀s∈ks,s.size<=1048576) (hvs:∀s∈vs,s.size<=1048576) (w:World) (hd:NodeAt w v lf ks vs cs):
  Calls Tryz.prog 68 #[v] w fun e w'=>e= .returned (.bool (nodeOkB lf ks vs cs))/\Below w.heap.size w w':=by
 obtain ⟨vk,vv,vc,rfl,h1,h2,h3⟩:=hd
 obtain ⟨xk,ck,rfl⟩:∃a cap,vk= .slice a ks.length cap:=by obtain ⟨-,a,cap,e,-⟩:=h1;exact ⟨a,cap,e⟩
 obtain ⟨xv,cv,rfl⟩:∃a cap,vv= .slice a vs.length cap:=by obtain ⟨-,a,cap,e,-⟩:=h2;exact ⟨a,cap,e⟩
 obtain ⟨xc,cc,rfl⟩:∃a cap,vc= .slice a cs.length cap:=by obtain ⟨-,a,cap,e,-⟩:=h3;exact ⟨a,cap,e⟩
 obtain ⟨w0,hw0⟩:∃w0,w0=w.alloc (Obj.cells #[.bool lf,.slice xk ks.length ck,.slice xv vs.length cv,.slice xc cs.length cc] 71):=⟨_,rfl⟩
 have hb0:Below w.heap.size w w0:=by rw [hw0];exact (Below.refl w.heap.size w).alloc (Nat.le_refl _) _
 have hblk:w0.heap[w.heap.size]?=some (Obj.cells #[.bool lf,.slice xk ks.length ck,.slice xv vs.length cv,.slice xc cs.length cc] 71):=by rw [hw0];exact heap_alloc_new w _
 have c0:w0.cell? ⟨w.heap.size,0,none⟩=some (.bool lf):=(za0 hblk 0).1;have c1:w0.cell? ⟨w.heap.size,1,none⟩=some (.slice xk ks.length ck):=(za0 hblk 1).1;have c2:w0.cell? ⟨w.heap.size,2,none⟩=some (.slice xv vs.length cv):=(za0 hblk 2).1;have c3:w0.cell? ⟨w.heap.size,3,none⟩=some (.slice xc cs.length cc):=(za0 hblk 3).1;have HIn:=hide (zig (ks.length:Int) 1 4);have HB0:=hide hb0;have HR:=hide (⟨za8 h1 hb0,za8 h2 hb0,za8 h3 hb0⟩:_/\_/\_)
 have HPb:Hid (∀wx,Below w0.heap.size w0 wx->wx.cell? ⟨w.heap.size,0,none⟩=some (.bool lf)/\wx.cell? ⟨w.heap.size,1,none⟩=some (.slice xk ks.length ck)/\wx.cell? ⟨w.heap.size,2,none⟩=some (.slice xv vs.length cv)/\wx.cell? ⟨w.heap.size,3,none⟩=some (.slice xc cs.length cc)):=hide (fun wx hb=>by
  have hq:=(hb.block _ (Array.getElem?_eq_some_iff.1 hblk).1).trans hblk
  exact ⟨(za0 hq 0).1,(za0 hq 1).1,(za0 hq 2).1,(za0 hq 3).1⟩)
 have HSz:=hide (⟨hks,hvs⟩:_/\_);clear h1 h2 h3 hb0 hblk hks hvs
 by_cases hn:1<=ks.length/\ks.length<=4
 ·rw [decide_eq_true (show (1:Int)<=(ks.length:Int)/\(ks.length:Int)<=4 from by omega)] at HIn
  cases lf with
  | true=>
   have HCn:=hide (zmB (nv:=vs.length) (nc:=cs.length) hn)
   by_cases hnv:vs.length=ks.length
   ·have d1:((vs.length:Int) !=(ks.length:Int))=false:=by rw [hnv];simp
    by_cases hnc:cs.length=0
    ·have d2:((cs.length:Int) !=0)=false:=by rw [hnc];rfl
     have HCt:Hid (cntB true ks.length vs.length cs.length=true):=hide (by rw [HCn.out];exact decide_eq_true ⟨hnv,hnc⟩)
     have HNv:=hide hnv;have HNc:=hide hnc;clear hnv hnc HCn;go_enter Tryz.func68,Tryz.ntmps68;go_wp2_with fail;rw [<-hw0];clear hw0;refine (HIn.out _).mono ?_;rintro e w1 ⟨rfl,rfl⟩;go_wp2_with fail;clear d1 d2 c0 c1 c2 c3
     go_loopg [4] ks.length (fun q iv wr=>∃i:Nat,i<=ks.length/\iv= .int .i64 (i:Int)/\q+i=ks.length/\Hid (pairsOk true ks vs cs i)/\Hid (Below w0.heap.size w0 wr))
     case atStart=>exact ⟨0,Nat.zero_le _,rfl,rfl,hide (fun j hj=>by omega),hide (Below.refl _ _)⟩
     case round=>
      obtain ⟨i,hi,rfl,hg,HA,HB⟩:=hrel;have HG:=hide hg;clear hg;obtain ⟨p0,p1,p2,p3⟩:=HPb.out wr HB.out
      by_cases hlt:i<ks.length
      ·obtain ⟨-,a1,cp1,e1,h0 | ⟨bk,ok,e0,hbk,hck⟩⟩:=HR.out.1
       ·omega
       injection e1 with e11 _ e12
       subst e11 e12;subst e0;obtain ⟨x,hx⟩:∃x,x=ks.getD i ⟨#[]⟩:=⟨_,rfl⟩
       have hxc:wr.cell? ⟨bk,ok+i,none⟩=some (.string x):=by rw [HB.out.cell (by exact hbk),hck i (by omega),zaP ks i hlt,hx];simp [List.getD,hlt]
       have HX:=hide hx
       have hi0:(0:Int)<=(i:Int):=by omega
       have hi1:(i:Int)<(ks.length:Int):=by omega
       have hxs:x.size<=1048576:=by rw [hx];simp only [List.getD,List.getElem?_eq_getElem hlt,Option.getD_some];exact HSz.out.1 _ (List.getElem_mem hlt)
       have hlv:i<vs.length:=by have:=HNv.out;omega
       obtain ⟨-,a2,cp2,e2,h0 | ⟨bv,ov,e3,hbv,hcv⟩⟩:=HR.out.2.1
       ·omega
       injection e2 with e21 _ e22
       subst e21 e22;subst e3;obtain ⟨z,hz⟩:∃z,z=vs.getD i ⟨#[]⟩:=⟨_,rfl⟩
       have hzc:wr.cell? ⟨bv,ov+i,none⟩=some (.string z):=by rw [HB.out.cell (by exact hbv),hcv i (by omega),zaP vs i hlv,hz];simp [List.getD,hlv]
       have HZ:=hide hz
       have hiv:(i:Int)<(vs.length:Int):=by omega
       have hzs:z.size<=1048576:=by rw [hz];simp only [List.getD,List.getElem?_eq_getElem hlv,Option.getD_some];exact HSz.out.2 _ (List.getElem_mem hlv)
       clear hcv hz
       by_cases hbig:24<x.size
       ·have HO:Hid (nodeOkB true ks vs cs=false):=hide (zfK hlt (by rw [keyB,decide_eq_false (by rw [<-HX.out];omega)];rfl))
        have dx:decide ((24:Int)<(x.size:Int))=true:=by simp;omega
        clear hx hck;go_wp2_with fail
        try (go_quiet (fail);go_wp2_with fail)
        try (go_quiet (fail);go_wp2_with fail)
        go_ret;rw [HO.out];exact ⟨rfl,HB0.out.trans ((bel_n HB.out).mono HB0.out.size)⟩
       ·have dx:decide ((24:Int)<(x.size:Int))=false:=by simp;omega
        by_cases hz0:i=0
        ·subst hz0
         have HKy:Hid (keyB ks 0=true):=hide (by rw [keyB,decide_eq_true (by rw [<-HX.out];omega)];rfl)
         have hxc0:wr.cell? ⟨bk,ok,none⟩=some (.string x):=hxc
         have hl0:(0:Int)<(ks.length:Int):=by omega
         have hzc0:wr.cell? ⟨bv,ov,none⟩=some (.string z):=hzc
         have hlv0:(0:Int)<(vs.length:Int):=by omega
         clear hzc hiv hlv;clear hx hck hxc hi0 hi1
         by_cases hz:24<z.size
         ·have HO:Hid (nodeOkB true ks vs cs=false):=hide (zjL (i:=0) (by have:=HNv.out;omega) (by rw [<-HZ.out];exact hz))
          have dz:decide ((24:Int)<(z.size:Int))=true:=by simp;omega
          go_wp2_with fail
          try (go_quiet (fail);go_wp2_with fail)
          try (go_quiet (fail);go_wp2_with fail)
          go_ret;rw [HO.out];exact ⟨rfl,HB0.out.trans ((bel_n HB.out).mono HB0.out.size)⟩
         ·have dz:decide ((24:Int)<(z.size:Int))=false:=by simp;omega
          have HA2:Hid (pairsOk true ks vs cs (0+1)):=hide (fun t ht=>by
           by_cases e:t=0
           ·rw [e];exact ⟨HKy.out,fun _=>by rw [<-HZ.out];omega,fun h=>by cases h⟩
           ·exact HA.out t (by omega))
          go_wp2_with fail
          try (go_quiet (fail);go_wp2_with fail)
          try (go_quiet (fail);go_wp2_with fail)
          go_roundg (gk - 1)
          case measure=>have:=HG.out;omega
          case rel=>exact ⟨0+1,by omega,by go_num,by have:=HG.out;omega,HA2,hide (bel_n HB.out)⟩
        ·obtain ⟨j,hj⟩:∃j,i=j+1:=⟨i - 1,by omega⟩
         obtain ⟨y,hy⟩:∃y,y=ks.getD j ⟨#[]⟩:=⟨_,rfl⟩
         have hyc:wr.cell? ⟨bk,ok+j,none⟩=some (.string y):=by rw [HB.out.cell (by exact hbk),hck j (by omega),zaP ks j (by omega),hy];simp [List.getD,show j<ks.length by omega]
         have HYy:=hide hy
         have hj0:(0:Int)<=(j:Int):=by omega
         have hj1:(j:Int)<(ks.length:Int):=by omega
         have hpos:0<i:=by omega
         have di:decide ((0:Int)<(i:Int))=true:=decide_eq_true (by omega)
         have hwj:IntKind.i64.wrap ((i:Int) - 1)=(i:Int) - 1:=IntWalk.i64_in _ ⟨by omega,by omega⟩
         have hwk:wrap64 ((i:Int) - 1)=(i:Int) - 1:=zaC _ (by omega) (by omega)
         have hb0:(0:Int)<=(i:Int) - 1:=by omega
         have hb1:(i:Int) - 1<(ks.length:Int):=by omega
         have hb2:(1:Int)<=(i:Int):=by omega
         have hb3:(i:Int)<(ks.length:Int)+1:=by omega
         have hb4:(i:Int)<=(ks.length:Int):=by omega
         have hb5:1<=i:=by omega
         have hyc1:wr.cell? ⟨bk,ok+((i:Int) - 1).toNat,none⟩=some (.string y):=by rw [show ((i:Int) - 1).toNat=j from by omega];exact hyc
         have hyc2:wr.cell? ⟨bk,ok+(i - 1),none⟩=some (.string y):=by rw [show i - 1=j from by omega];exact hyc
         obtain ⟨lt,hlt2⟩:∃lt,Op.bytesLess y.toList x.toList=lt:=⟨_,rfl⟩
         have hKe:keyB ks i=lt:=by
          rw [keyB,decide_eq_true (by rw [<-HX.out];omega),decide_eq_false hz0,hj,Nat.add_sub_cancel,<-hj,<-HX.out,<-HYy.out,hlt2];rfl
         clear hx hck hy hz0 hj
         cases lt with
         | false=>
          have HO:Hid (nodeOkB true ks vs cs=false):=hide (zfK hlt hKe);clear hKe;go_wp2_with fail
          try (go_quiet (fail);go_wp2_with fail)
          try (go_quiet (fail);go_wp2_with fail)
          go_ret;rw [HO.out];exact ⟨rfl,HB0.out.trans ((bel_n HB.out).mono HB0.out.size)⟩
         | true=>
          have HKy:=hide hKe;clear hKe
          by_cases hz:24<z.size
          ·have HO:Hid (nodeOkB true ks vs cs=false):=hide (zjL (i:=i) (by have:=HNv.out;omega) (by rw [<-HZ.out];exact hz))
           have dz:decide ((24:Int)<(z.size:Int))=true:=by simp;omega
           go_wp2_with fail
           try (go_quiet (fail);go_wp2_with fail)
           try (go_quiet (fail);go_wp2_with fail)
           go_ret;rw [HO.out];exact ⟨rfl,HB0.out.trans ((bel_n HB.out).mono HB0.out.size)⟩
          ·have dz:decide ((24:Int)<(z.size:Int))=false:=by simp;omega
           have HA2:Hid (pairsOk true ks vs cs (i+1)):=hide (fun t ht=>by
            by_cases e:t=i
            ·rw [e];exact ⟨HKy.out,fun _=>by rw [<-HZ.out];omega,fun h=>by cases h⟩
            ·exact HA.out t (by omega))
           go_wp2_with fail
           try (go_quiet (fail);go_wp2_with fail)
           try (go_quiet (fail);go_wp2_with fail)
           go_roundg (gk - 1)
           case measure=>have:=HG.out;omega
           case rel=>exact ⟨i+1,by omega,by go_num,by have:=HG.out;omega,HA2,hide (bel_n HB.out)⟩
      ·have HO:Hid (nodeOkB true ks vs cs=true):=hide (zih HCt.out (fun j hj=>HA.out j (by omega)))
       go_wp2_with fail;go_ret;rw [HO.out];exact ⟨rfl,HB0.out.trans (HB.out.mono HB0.out.size)⟩
    ·have d2:((cs.length:Int) !=0)=true:=by rw [bne_iff_ne];omega
     have HO:Hid (nodeOkB true ks vs cs=false):=hide (zcS (by rw [HCn.out];exact decide_eq_false (fun h=>hnc h.2)))
     clear hnv hnc HCn;go_enter Tryz.func68,Tryz.ntmps68;go_wp2_with fail;rw [<-hw0];clear hw0;refine (HIn.out _).mono ?_;rintro e w1 ⟨rfl,rfl⟩;go_wp2_with fail;go_ret;rw [HO.out];exact ⟨rfl,HB0.out⟩
   ·have d1:((vs.length:Int) !=(ks.length:Int))=true:=by simp;omega
    have HO:Hid (nodeOkB true ks vs cs=false):=hide (zcS (by rw [HCn.out];exact decide_eq_false (fun h=>hnv h.1)))
    clear hnv HCn;go_enter Tryz.func68,Tryz.ntmps68;go_wp2_with fail;rw [<-hw0];clear hw0;refine (HIn.out _).mono ?_;rintro e w1 ⟨rfl,rfl⟩;go_wp2_with fail;go_ret;rw [HO.out];exact ⟨rfl,HB0.out⟩
  | false=>
   have HCn:=hide (zmC (nv:=vs.length) (nc:=cs.length) hn)
   by_cases hnv:cs.length=ks.length
   ·have d1:((cs.length:Int) !=(ks.length:Int))=false:=by rw [hnv];simp
    by_cases hnc:vs.length=0
    ·have d2:((vs.length:Int) !=0)=false:=by rw [hnc];rfl
     have HCt:Hid (cntB false ks.length vs.length cs.length=true):=hide (by rw [HCn.out];exact decide_eq_true ⟨hnv,hnc⟩)
     have HNv:=hide hnv;have HNc:=hide hnc;clear hnv hnc HCn;go_enter Tryz.func68,Tryz.ntmps68;go_wp2_with fail;rw [<-hw0];clear hw0;refine (HIn.out _).mono ?_;rintro e w1 ⟨rfl,rfl⟩;go_wp2_with fail;clear d1 d2 c0 c1 c2 c3
     go_loopg [4] ks.length (fun q iv wr=>∃i:Nat,i<=ks.length/\iv= .int .i64 (i:Int)/\q+i=ks.length/\Hid (pairsOk false ks vs cs i)/\Hid (Below w0.heap.size w0 wr))
     case atStart=>exact ⟨0,Nat.zero_le _,rfl,rfl,hide (fun j hj=>by omega),hide (Below.refl _ _)⟩
     case round=>
      obtain ⟨i,hi,rfl,hg,HA,HB⟩:=hrel;have HG:=hide hg;clear hg;obtain ⟨p0,p1,p2,p3⟩:=HPb.out wr HB.out
      by_cases hlt:i<ks.length
      ·obtain ⟨-,a1,cp1,e1,h0 | ⟨bk,ok,e0,hbk,hck⟩⟩:=HR.out.1
       ·omega
       injection e1 with e11 _ e12
       subst e11 e12;subst e0;obtain ⟨x,hx⟩:∃x,x=ks.getD i ⟨#[]⟩:=⟨_,rfl⟩
       have hxc:wr.cell? ⟨bk,ok+i,none⟩=some (.string x):=by rw [HB.out.cell (by exact hbk),hck i (by omega),zaP ks i hlt,hx];simp [List.getD,hlt]
       have HX:=hide hx
       have hi0:(0:Int)<=(i:Int):=by omega
       have hi1:(i:Int)<(ks.length:Int):=by omega
       have hxs:x.size<=1048576:=by rw [hx];simp only [List.getD,List.getElem?_eq_getElem hlt,Option.getD_some];exact HSz.out.1 _ (List.getElem_mem hlt)
       have hlc:i<cs.length:=by have:=HNv.out;omega
       obtain ⟨-,a2,cp2,e2,h0 | ⟨bc,oc,e3,hbc,hcc⟩⟩:=HR.out.2.2
       ·omega
       injection e2 with e21 _ e22
       subst e21 e22;subst e3;obtain ⟨q,hq⟩:∃z,z=cs.getD i 0:=⟨_,rfl⟩
       have HCc:Hid (∀wx,Below w0.heap.size w0 wx->∀t (h:t<cs.length),wx.cell? ⟨bc,oc+t,none⟩=some (.int .i64 (cs.getD t 0))):=hide (fun wx hb t h=>by rw [hb.cell (by exact hbc),hcc t (by omega),ints_at cs t h];simp [List.getD,h])
       have hqc:wr.cell? ⟨bc,oc+i,none⟩=some (.int .i64 q):=by rw [hq];exact HCc.out wr HB.out i hlc
       have HQ:=hide hq
       have hic:(i:Int)<(cs.length:Int):=by omega
       have HIk:=hide (zig q 2 39);clear hcc hq
       by_cases hbig:24<x.size
       ·have HO:Hid (nodeOkB false ks vs cs=false):=hide (zfK hlt (by rw [keyB,decide_eq_false (by rw [<-HX.out];omega)];rfl))
        have dx:decide ((24:Int)<(x.size:Int))=true:=by simp;omega
        clear hx hck;go_wp2_with fail
        try (go_quiet (fail);go_wp2_with fail)
        try (go_quiet (fail);go_wp2_with fail)
        go_ret;rw [HO.out];exact ⟨rfl,HB0.out.trans ((bel_n HB.out).mono HB0.out.size)⟩
       ·have dx:decide ((24:Int)<(x.size:Int))=false:=by simp;omega
        by_cases hz0:i=0
        ·subst hz0
         have HKy:Hid (keyB ks 0=true):=hide (by rw [keyB,decide_eq_true (by rw [<-HX.out];omega)];rfl)
         have hxc0:wr.cell? ⟨bk,ok,none⟩=some (.string x):=hxc
         have hl0:(0:Int)<(ks.length:Int):=by omega
         have hqc0:wr.cell? ⟨bc,oc,none⟩=some (.int .i64 q):=hqc
         have hlc0:(0:Int)<(cs.length:Int):=by omega
         clear hqc hic;clear hx hck hxc hi0 hi1;obtain ⟨gq,hgq⟩:∃gq,gq=gk:=⟨_,rfl⟩;have HGQ:=hide hgq;clear hgq;go_wp2_with fail
         go_quiet (fail)
         go_wp2_with fail;have HBq:Hid (Below w0.heap.size w0 (wr.drewN nq)):=hide (bel_n HB.out)
         cases hkq:decide (2<=q/\q<=39) with
         | false=>
          rw [hkq] at HIk
          have HO:Hid (nodeOkB false ks vs cs=false):=hide (zhB (i:=0) hlc (by rw [kidB,<-HQ.out,hkq];rfl))
          clear hkq;refine (HIk.out _).mono ?_;rintro e w2 ⟨rfl,rfl⟩;go_wp2_with fail;go_ret;rw [HO.out];exact ⟨rfl,HB0.out.trans (HBq.out.mono HB0.out.size)⟩
         | true=>
          rw [hkq] at HIk;have HKq:=hide hkq;clear hkq;refine (HIk.out _).mono ?_;rintro e w2 ⟨rfl,rfl⟩;go_wp2_with fail
          go_loopg [5] 0 (fun g jv wq=>∃t:Nat,t<=0/\jv= .int .i64 (t:Int)/\g+t=0/\Hid (∀r,r<t->cs.getD r 0≠q)/\Hid (Below w0.heap.size w0 wq))
          case atStart=>exact ⟨0,Nat.zero_le _,rfl,by omega,hide (fun r h=>by omega),HBq⟩
          case round=>
           obtain ⟨t,ht,rfl,hg,HT,HBy⟩:=hrel;have HG2:=hide hg;clear hg
           by_cases hti:t<0
           ·omega
           ·have HA2:Hid (pairsOk false ks vs cs (0+1)):=hide (fun r hr=>by
             by_cases e:r=0
             ·rw [e]
              refine ⟨HKy.out,fun h=>(by cases h),fun _=> ?_⟩
              rw [kidB,<-HQ.out,HKq.out,decide_eq_true (fun j hj=>HT.out j (by omega))];rfl
             ·exact HA.out r (by omega))
            go_wp2_with fail
            go_roundg (gq - 1)
            case measure=>have h1:=HGQ.out;have h2:=HG.out;omega
            case rel=>exact ⟨0+1,by omega,by go_num,by have h1:=HGQ.out;have h2:=HG.out;omega,HA2,HBy⟩
        ·obtain ⟨j,hj⟩:∃j,i=j+1:=⟨i - 1,by omega⟩
         obtain ⟨y,hy⟩:∃y,y=ks.getD j ⟨#[]⟩:=⟨_,rfl⟩
         have hyc:wr.cell? ⟨bk,ok+j,none⟩=some (.string y):=by rw [HB.out.cell (by exact hbk),hck j (by omega),zaP ks j (by omega),hy];simp [List.getD,show j<ks.length by omega]
         have HYy:=hide hy
         have hj0:(0:Int)<=(j:Int):=by omega
         have hj1:(j:Int)<(ks.length:Int):=by omega
         have hpos:0<i:=by omega
         have di:decide ((0:Int)<(i:Int))=true:=decide_eq_true (by omega)
         have hwj:IntKind.i64.wrap ((i:Int) - 1)=(i:Int) - 1:=IntWalk.i64_in _ ⟨by omega,by omega⟩
         have hwk:wrap64 ((i:Int) - 1)=(i:Int) - 1:=zaC _ (by omega) (by omega)
         have hb0:(0:Int)<=(i:Int) - 1:=by omega
         have hb1:(i:Int) - 1<(ks.length:Int):=by omega
         have hb2:(1:Int)<=(i:Int):=by omega
         have hb3:(i:Int)<(ks.length:Int)+1:=by omega
         have hb4:(i:Int)<=(ks.length:Int):=by omega
         have hb5:1<=i:=by omega
         have hyc1:wr.cell? ⟨bk,ok+((i:Int) - 1).toNat,none⟩=some (.string y):=by rw [show ((i:Int) - 1).toNat=j from by omega];exact hyc
         have hyc2:wr.cell? ⟨bk,ok+(i - 1),none⟩=some (.string y):=by rw [show i - 1=j from by omega];exact hyc
         obtain ⟨lt,hlt2⟩:∃lt,Op.bytesLess y.toList x.toList=lt:=⟨_,rfl⟩
         have hKe:keyB ks i=lt:=by
          rw [keyB,decide_eq_true (by rw [<-HX.out];omega),decide_eq_false hz0,hj,Nat.add_sub_cancel,<-hj,<-HX.out,<-HYy.out,hlt2];rfl
         clear hx hck hy hz0 hj
         cases lt with
         | false=>
          have HO:Hid (nodeOkB false ks vs cs=false):=hide (zfK hlt hKe);clear hKe;go_wp2_with fail
          try (go_quiet (fail);go_wp2_with fail)
          try (go_quiet (fail);go_wp2_with fail)
          go_ret;rw [HO.out];exact ⟨rfl,HB0.out.trans ((bel_n HB.out).mono HB0.out.size)⟩
         | true=>
          have HKy:=hide hKe;clear hKe;obtain ⟨gq,hgq⟩:∃gq,gq=gk:=⟨_,rfl⟩;have HGQ:=hide hgq;clear hgq;go_wp2_with fail
          go_quiet (fail)
          go_wp2_with fail;have HBq:Hid (Below w0.heap.size w0 (wr.drewN nq)):=hide (bel_n HB.out)
          cases hkq:decide (2<=q/\q<=39) with
          | false=>
           rw [hkq] at HIk
           have HO:Hid (nodeOkB false ks vs cs=false):=hide (zhB (i:=i) hlc (by rw [kidB,<-HQ.out,hkq];rfl))
           clear hkq;refine (HIk.out _).mono ?_;rintro e w2 ⟨rfl,rfl⟩;go_wp2_with fail;go_ret;rw [HO.out];exact ⟨rfl,HB0.out.trans (HBq.out.mono HB0.out.size)⟩
          | true=>
           rw [hkq] at HIk;have HKq:=hide hkq;clear hkq;refine (HIk.out _).mono ?_;rintro e w2 ⟨rfl,rfl⟩;go_wp2_with fail
           go_loopg [5] i (fun g jv wq=>∃t:Nat,t<=i/\jv= .int .i64 (t:Int)/\g+t=i/\Hid (∀r,r<t->cs.getD r 0≠q)/\Hid (Below w0.heap.size w0 wq))
           case atStart=>exact ⟨0,Nat.zero_le _,rfl,by omega,hide (fun r h=>by omega),HBq⟩
           case round=>
            obtain ⟨t,ht,rfl,hg,HT,HBy⟩:=hrel;have HG2:=hide hg;clear hg
            by_cases hti:t<i
            ·obtain ⟨p0,p1,p2,p3⟩:=HPb.out wr HBy.out
             have htc:t<cs.length:=by omega
             obtain ⟨u,hu⟩:∃u,u=cs.getD t 0:=⟨_,rfl⟩
             have huc:wr.cell? ⟨bc,oc+t,none⟩=some (.int .i64 u):=by rw [hu];exact HCc.out wr HBy.out t htc
             have hqd:wr.cell? ⟨bc,oc+i,none⟩=some (.int .i64 q):=by rw [HQ.out];exact HCc.out wr HBy.out i hlc
             have ht0:(0:Int)<=(t:Int):=by omega
             have ht1:(t:Int)<(cs.length:Int):=by omega
             have HU:=hide hu;clear hu
             by_cases huq:u=q
             ·have HO:Hid (nodeOkB false ks vs cs=false):=hide (zhB (i:=i) hlc (by
               rw [kidB,decide_eq_false (show ¬(∀j,j<i->cs.getD j 0≠cs.getD i 0) from fun h=>h t hti (by rw [<-HU.out,<-HQ.out];exact huq)),Bool.and_false]))
              subst huq;go_wp2_with fail
              try (go_quiet (fail);go_wp2_with fail)
              go_ret;rw [HO.out];exact ⟨rfl,HB0.out.trans ((bel_n HBy.out).mono HB0.out.size)⟩
             ·have HT2:Hid (∀r,r<t+1->cs.getD r 0≠q):=hide (fun r hr=>by
               by_cases e:r=t
               ·rw [e,<-HU.out];exact huq
               ·exact HT.out r (by omega))
              have hub:(u ==q)=false:=by rw [beq_eq_false_iff_ne];exact huq
              have hud:decide (u=q)=false:=decide_eq_false huq;clear huq;go_wp2_with fail
              try (go_quiet (fail);go_wp2_with fail)
              go_roundg (gk - 1)
              case measure=>have:=HG2.out;omega
              case rel=>exact ⟨t+1,by omega,by go_num,by have:=HG2.out;omega,HT2,hide (bel_n HBy.out)⟩
            ·have HA2:Hid (pairsOk false ks vs cs (i+1)):=hide (fun r hr=>by
              by_cases e:r=i
              ·rw [e]
               refine ⟨HKy.out,fun h=>(by cases h),fun _=> ?_⟩
               rw [kidB,<-HQ.out,HKq.out,decide_eq_true (fun j hj=>HT.out j (by omega))];rfl
              ·exact HA.out r (by omega))
             go_wp2_with fail
             go_roundg (gq - 1)
             case measure=>have h1:=HGQ.out;have h2:=HG.out;omega
             case rel=>exact ⟨i+1,by omega,by go_num,by have h1:=HGQ.out;have h2:=HG.out;omega,HA2,HBy⟩
      ·have HO:Hid (nodeOkB false ks vs cs=true):=hide (zih HCt.out (fun j hj=>HA.out j (by omega)))
       go_wp2_with fail;go_ret;rw [HO.out];exact ⟨rfl,HB0.out.trans (HB.out.mono HB0.out.size)⟩
    ·have d2:((vs.length:Int) !=0)=true:=by rw [bne_iff_ne];omega
     have HO:Hid (nodeOkB false ks vs cs=false):=hide (zcS (by rw [HCn.out];exact decide_eq_false (fun h=>hnc h.2)))
     clear hnv hnc HCn;go_enter Tryz.func68,Tryz.ntmps68;go_wp2_with fail;rw [<-hw0];clear hw0;refine (HIn.out _).mono ?_;rintro e w1 ⟨rfl,rfl⟩;go_wp2_with fail;go_ret;rw [HO.out];exact ⟨rfl,HB0.out⟩
   ·have d1:((cs.length:Int) !=(ks.length:Int))=true:=by simp;omega
    have HO:Hid (nodeOkB false ks vs cs=false):=hide (zcS (by rw [HCn.out];exact decide_eq_false (fun h=>hnv h.1)))
    clear hnv HCn;go_enter Tryz.func68,Tryz.ntmps68;go_wp2_with fail;rw [<-hw0];clear hw0;refine (HIn.out _).mono ?_;rintro e w1 ⟨rfl,rfl⟩;go_wp2_with fail;go_ret;rw [HO.out];exact ⟨rfl,HB0.out⟩
 ·rw [decide_eq_false (show ¬((1:Int)<=(ks.length:Int)/\(ks.length:Int)<=4) from by omega)] at HIn
  have HO:Hid (nodeOkB lf ks vs cs=false):=hide (zcS (cnt_no1 hn));clear hn;go_enter Tryz.func68,Tryz.ntmps68;go_wp2_with fail;rw [<-hw0];clear hw0;refine (HIn.out _).mono ?_;rintro e w1 ⟨rfl,rfl⟩;go_wp2_with fail;go_ret;rw [HO.out];exact ⟨rfl,HB0.out⟩
end Go.Proofs.YtcbogiebfbbmbaaGreatDoor
