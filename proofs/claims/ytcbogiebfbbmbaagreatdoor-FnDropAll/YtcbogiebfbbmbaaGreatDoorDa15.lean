/-
  Facts and contracts that the law's own text rests on, by their texts' names: ImplNode.
-/
import Derived.Deep.RegionHeld3
import Derived.Laws.Cover1
import Derived.Test.YtcbogiebfbbmbaaGreatDoorDa1
import Derived.Test.YtcbogiebfbbmbaaGreatDoorDa4
set_option maxHeartbeats 16000000
set_option maxRecDepth 100000
namespace Go.Proofs.YtcbogiebfbbmbaaGreatDoor
open Go.RowKit
theorem zaA {w:World} {sz n:Nat} {v:Value} {xs:List Value} (h:RowAt w sz v n xs):∃a cap,v= .slice a n cap:=by
 obtain ⟨-,a,cap,e,-⟩:=h;exact ⟨a,cap,e⟩
def keysB (ks:List ByteArray):Bool:=decide (∀i,i<ks.length->keyB ks i=true)
def valsB (vs:List ByteArray):Bool:=decide (∀i,i<vs.length->(vs.getD i ⟨#[]⟩).size<=24)
def kidsB (cs:List Int):Bool:=decide (∀i,i<cs.length->kidB cs i=true)
def IdxOf (cs:List Int) (x r:Int):Prop:=(∃j:Nat,j<cs.length/\r=(j:Int)/\cs.getD j 0=x/\∀i,i<j->cs.getD i 0≠x)\/(r= -1/\∀j,j<cs.length->cs.getD j 0≠x)
theorem zdl (cs:List Int) (hc:cs.length<=1048576) (x:Int) (v:Value) (w:World) (h:RowAt w 1 v cs.length (ints cs)):
  Calls Tryz.prog 134 #[v,.int .i64 x] w fun e w'=>∃r:Int,e= .returned (.int .i64 r)/\w=w'/\IdxOf cs x r:=by
 obtain ⟨a,cap,rfl⟩:=zaA h;have HR:=hide h;clear h;go_enter Tryz.func134,Tryz.ntmps134;go_wp2_with fail
 go_loopg [8] cs.length (fun q iv wr=>∃i:Nat,i<=cs.length/\iv= .int .i64 (i:Int)/\q+i=cs.length/\Hid (∀j,j<i->cs.getD j 0≠x)/\w=wr)
 case atStart=>exact ⟨0,Nat.zero_le _,rfl,rfl,hide (fun j hj=>by omega),rfl⟩
 case round=>
  obtain ⟨i,hi,rfl,hg,HA,rfl⟩:=hrel;have HG:=hide hg;clear hg
  by_cases hlt:i<cs.length
  ·obtain ⟨-,a1,cp1,e1,h0 | ⟨bk,ok,e0,hbk,hck⟩⟩:=HR.out
   ·omega
   injection e1 with e11 _ e12
   subst e11 e12;subst e0;obtain ⟨z,hz⟩:∃z,z=cs.getD i 0:=⟨_,rfl⟩
   have hzc:w.cell? ⟨bk,ok+i,none⟩=some (.int .i64 z):=by rw [hck i (by omega),ints_at cs i hlt,hz];simp [List.getD,hlt]
   have HZ:=hide hz
   have hi0:(0:Int)<=(i:Int):=by omega
   have hi1:(i:Int)<(cs.length:Int):=by omega
   clear hck hz
   by_cases he:x=z
   ·have hd:(x ==z)=true:=by rw [he];exact beq_self_eq_true _
    go_wp2_with fail;go_ret
    exact ⟨_,rfl,rfl,Or.inl ⟨i,hlt,rfl,HZ.out.symm,fun j hj=>by rw [<-he];exact HA.out j hj⟩⟩
   ·have hd:(x ==z)=false:=beq_eq_false_iff_ne.2 he
    go_wp2_with fail
    go_roundg (gk - 1)
    case measure=>have:=HG.out;omega
    case rel=>exact ⟨i+1,by omega,by go_num,by have:=HG.out;omega,hide (fun j hj=>by
     by_cases e:j=i
     ·rw [e,<-HZ.out];exact fun h=>he h.symm
     ·exact HA.out j (by omega)),rfl⟩
  ·obtain rfl:i=cs.length:=by omega
   go_wp2_with fail;go_ret;exact ⟨_,rfl,rfl,Or.inr ⟨rfl,HA.out⟩⟩
theorem zgY (ks:List ByteArray) (hk:ks.length<=1048576) (hks:∀s∈ks,s.size<=1048576) (v:Value) (w:World) (h:RowAt w 1 v ks.length (strs ks)):
  Calls Tryz.prog 103 #[v] w fun e w'=>e= .returned (.bool (keysB ks))/\w=w':=by
 obtain ⟨a,cap,rfl⟩:=zaA h;have HR:=hide h;have HSz:=hide hks;clear h hks;go_enter Tryz.func103,Tryz.ntmps103;go_wp2_with fail
 go_loopg [7] ks.length (fun q iv wr=>∃i:Nat,i<=ks.length/\iv= .int .i64 (i:Int)/\q+i=ks.length/\Hid (∀j,j<i->keyB ks j=true)/\w=wr)
 case atStart=>exact ⟨0,Nat.zero_le _,rfl,rfl,hide (fun j hj=>by omega),rfl⟩
 case round=>
  obtain ⟨i,hi,rfl,hg,HA,rfl⟩:=hrel;have HG:=hide hg;clear hg
  by_cases hlt:i<ks.length
  ·obtain ⟨-,a1,cp1,e1,h0 | ⟨bk,ok,e0,hbk,hck⟩⟩:=HR.out
   ·omega
   injection e1 with e11 _ e12
   subst e11 e12;subst e0;obtain ⟨x,hx⟩:∃x,x=ks.getD i ⟨#[]⟩:=⟨_,rfl⟩
   have hxc:w.cell? ⟨bk,ok+i,none⟩=some (.string x):=by rw [hck i (by omega),zaP ks i hlt,hx];simp [List.getD,hlt]
   have HX:=hide hx
   have hi0:(0:Int)<=(i:Int):=by omega
   have hi1:(i:Int)<(ks.length:Int):=by omega
   have hxs:x.size<=1048576:=by rw [hx];simp only [List.getD,List.getElem?_eq_getElem hlt,Option.getD_some];exact HSz.out _ (List.getElem_mem hlt)
   by_cases hbig:24<x.size
   ·have HO:Hid (keysB ks=false):=hide (decide_eq_false (fun hh=>by
     have:=hh i hlt
     rw [keyB,decide_eq_false (by rw [<-HX.out];omega)] at this
     cases this))
    have dx:decide ((24:Int)<(x.size:Int))=true:=by simp;omega
    clear hx hck;go_wp2_with fail;go_ret;rw [HO.out];exact ⟨rfl,rfl⟩
   ·have dx:decide ((24:Int)<(x.size:Int))=false:=by simp;omega
    by_cases hz0:i=0
    ·subst hz0
     have HKy:Hid (keyB ks 0=true):=hide (by rw [keyB,decide_eq_true (by rw [<-HX.out];omega)];rfl)
     have hxc0:w.cell? ⟨bk,ok,none⟩=some (.string x):=hxc
     have hl0:(0:Int)<(ks.length:Int):=by omega
     clear hx hck hxc hi0 hi1;go_wp2_with fail
     go_roundg (gk - 1)
     case measure=>have:=HG.out;omega
     case rel=>exact ⟨0+1,by omega,by go_num,by have:=HG.out;omega,hide (fun t ht=>by rw [show t=0 from by omega];exact HKy.out),rfl⟩
    ·obtain ⟨j,hj⟩:∃j,i=j+1:=⟨i - 1,by omega⟩
     obtain ⟨y,hy⟩:∃y,y=ks.getD j ⟨#[]⟩:=⟨_,rfl⟩
     have hyc:w.cell? ⟨bk,ok+j,none⟩=some (.string y):=by rw [hck j (by omega),zaP ks j (by omega),hy];simp [List.getD,show j<ks.length by omega]
     have HYy:=hide hy
     have hpos:0<i:=by omega
     have di:decide ((0:Int)<(i:Int))=true:=decide_eq_true (by omega)
     have hwj:IntKind.i64.wrap ((i:Int) - 1)=(i:Int) - 1:=IntWalk.i64_in _ ⟨by omega,by omega⟩
     have hwk:wrap64 ((i:Int) - 1)=(i:Int) - 1:=zaC _ (by omega) (by omega)
     have hb0:(0:Int)<=(i:Int) - 1:=by omega
     have hb1:(i:Int) - 1<(ks.length:Int):=by omega
     have hb2:(1:Int)<=(i:Int):=by omega
     have hb3:(i:Int)<(ks.length:Int)+1:=by omega
     have hb4:(i:Int)<=(ks.length:Int):=by omega
     have hb5:1<=i:=by omega
     have hyc1:w.cell? ⟨bk,ok+((i:Int) - 1).toNat,none⟩=some (.string y):=by rw [show ((i:Int) - 1).toNat=j from by omega];exact hyc
     have hyc2:w.cell? ⟨bk,ok+(i - 1),none⟩=some (.string y):=by rw [show i - 1=j from by omega];exact hyc
     obtain ⟨lt,hlt2⟩:∃lt,Op.bytesLess y.toList x.toList=lt:=⟨_,rfl⟩
     have hKe:keyB ks i=lt:=by
      rw [keyB,decide_eq_true (by rw [<-HX.out];omega),decide_eq_false hz0,hj,Nat.add_sub_cancel,<-hj,<-HX.out,<-HYy.out,hlt2];rfl
     clear hx hck hy hz0 hj
     cases lt with
     | false=>
      have HO:Hid (keysB ks=false):=hide (decide_eq_false (fun hh=>by
       have:=hh i hlt;rw [hKe] at this
       cases this))
      clear hKe;go_wp2_with fail;go_ret;rw [HO.out];exact ⟨rfl,rfl⟩
     | true=>
      have HKy:=hide hKe;clear hKe;go_wp2_with fail
      go_roundg (gk - 1)
      case measure=>have:=HG.out;omega
      case rel=>exact ⟨i+1,by omega,by go_num,by have:=HG.out;omega,hide (fun t ht=>by
       by_cases e:t=i
       ·rw [e];exact HKy.out
       ·exact HA.out t (by omega)),rfl⟩
  ·obtain rfl:i=ks.length:=by omega
   have HO:Hid (keysB ks=true):=hide (decide_eq_true HA.out);go_wp2_with fail;go_ret;rw [HO.out];exact ⟨rfl,rfl⟩
theorem zgZ (vs:List ByteArray) (hk:vs.length<=1048576) (hks:∀s∈vs,s.size<=1048576) (v:Value) (w:World) (h:RowAt w 1 v vs.length (strs vs)):
  Calls Tryz.prog 104 #[v] w fun e w'=>e= .returned (.bool (valsB vs))/\w=w':=by
 obtain ⟨a,cap,rfl⟩:=zaA h;have HR:=hide h;have HSz:=hide hks;clear h hks;go_enter Tryz.func104,Tryz.ntmps104;go_wp2_with fail
 go_loopg [7] vs.length (fun q iv wr=>∃i:Nat,i<=vs.length/\iv= .int .i64 (i:Int)/\q+i=vs.length/\Hid (∀j,j<i->(vs.getD j ⟨#[]⟩).size<=24)/\w=wr)
 case atStart=>exact ⟨0,Nat.zero_le _,rfl,rfl,hide (fun j hj=>by omega),rfl⟩
 case round=>
  obtain ⟨i,hi,rfl,hg,HA,rfl⟩:=hrel;have HG:=hide hg;clear hg
  by_cases hlt:i<vs.length
  ·obtain ⟨-,a1,cp1,e1,h0 | ⟨bk,ok,e0,hbk,hck⟩⟩:=HR.out
   ·omega
   injection e1 with e11 _ e12
   subst e11 e12;subst e0;obtain ⟨x,hx⟩:∃x,x=vs.getD i ⟨#[]⟩:=⟨_,rfl⟩
   have hxc:w.cell? ⟨bk,ok+i,none⟩=some (.string x):=by rw [hck i (by omega),zaP vs i hlt,hx];simp [List.getD,hlt]
   have HX:=hide hx
   have hi0:(0:Int)<=(i:Int):=by omega
   have hi1:(i:Int)<(vs.length:Int):=by omega
   have hxs:x.size<=1048576:=by rw [hx];simp only [List.getD,List.getElem?_eq_getElem hlt,Option.getD_some];exact HSz.out _ (List.getElem_mem hlt)
   by_cases hbig:24<x.size
   ·have HO:Hid (valsB vs=false):=hide (decide_eq_false (fun hh=>by
     have:=hh i hlt;rw [<-HX.out] at this
     omega))
    have dx:decide ((24:Int)<(x.size:Int))=true:=by simp;omega
    clear hx hck;go_wp2_with fail;go_ret;rw [HO.out];exact ⟨rfl,rfl⟩
   ·have dx:decide ((24:Int)<(x.size:Int))=false:=by simp;omega
    clear hx hck;go_wp2_with fail
    go_roundg (gk - 1)
    case measure=>have:=HG.out;omega
    case rel=>exact ⟨i+1,by omega,by go_num,by have:=HG.out;omega,hide (fun t ht=>by
     by_cases e:t=i
     ·rw [e,<-HX.out];omega
     ·exact HA.out t (by omega)),rfl⟩
  ·obtain rfl:i=vs.length:=by omega
   have HO:Hid (valsB vs=true):=hide (decide_eq_true HA.out);go_wp2_with fail;go_ret;rw [HO.out];exact ⟨rfl,rfl⟩
theorem zh0 (cs:List Int) (hc:cs.length<=1048576) (v:Value) (w:World) (h:RowAt w 1 v cs.length (ints cs)):
  Calls Tryz.prog 105 #[v] w fun e w'=>e= .returned (.bool (kidsB cs))/\w=w':=by
 have HC:=hide (fun x=>zdl cs hc x v w h)
 obtain ⟨a,cap,rfl⟩:=zaA h;have HR:=hide h;clear h;go_enter Tryz.func105,Tryz.ntmps105;go_wp2_with fail
 go_loopg [7] cs.length (fun q iv wr=>∃i:Nat,i<=cs.length/\iv= .int .i64 (i:Int)/\q+i=cs.length/\Hid (∀j,j<i->kidB cs j=true)/\w=wr)
 case atStart=>exact ⟨0,Nat.zero_le _,rfl,rfl,hide (fun j hj=>by omega),rfl⟩
 case round=>
  obtain ⟨i,hi,rfl,hg,HA,rfl⟩:=hrel;have HG:=hide hg;clear hg
  by_cases hlt:i<cs.length
  ·obtain ⟨-,a1,cp1,e1,h0 | ⟨bk,ok,e0,hbk,hck⟩⟩:=HR.out
   ·omega
   injection e1 with e11 _ e12
   subst e11 e12;subst e0;obtain ⟨z,hz⟩:∃z,z=cs.getD i 0:=⟨_,rfl⟩
   have hzc:w.cell? ⟨bk,ok+i,none⟩=some (.int .i64 z):=by rw [hck i (by omega),ints_at cs i hlt,hz];simp [List.getD,hlt]
   have HZ:=hide hz
   have hi0:(0:Int)<=(i:Int):=by omega
   have hi1:(i:Int)<(cs.length:Int):=by omega
   have HCz:=hide (HC.out z);clear hck hz
   by_cases hlo:z<2
   ·have HO:Hid (kidsB cs=false):=hide (decide_eq_false (fun hh=>by
     have:=(zdF (hh i hlt)).1;rw [<-HZ.out] at this
     omega))
    have dx:decide (z<2)=true:=decide_eq_true hlo;go_wp2_with fail;go_ret;rw [HO.out];exact ⟨rfl,rfl⟩
   ·have dx:decide (z<2)=false:=decide_eq_false hlo
    by_cases hhi:40<=z
    ·have HO:Hid (kidsB cs=false):=hide (decide_eq_false (fun hh=>by
      have:=(zdF (hh i hlt)).2;rw [<-HZ.out] at this
      omega))
     have dy:decide (40<=z)=true:=decide_eq_true hhi;go_wp2_with fail;go_ret;rw [HO.out];exact ⟨rfl,rfl⟩
    ·have dy:decide (40<=z)=false:=decide_eq_false hhi
     go_wp2_with fail;refine HCz.out.mono ?_;rintro e w1 ⟨r,rfl,rfl,hr⟩
     have hkid:kidB cs i=(r ==(i:Int)):=by
      rw [kidB,decide_eq_true (by rw [<-HZ.out];omega),Bool.true_and,<-HZ.out]
      rcases hr with ⟨j,hj,rfl,hj2,hj3⟩ | ⟨rfl,hj⟩
      ·by_cases e:j=i
       ·subst e
        rw [decide_eq_true hj3];exact (beq_self_eq_true _).symm
       ·rw [decide_eq_false,beq_eq_false_iff_ne.2 (by omega)]
        intro hh
        rcases Nat.lt_or_ge j i with h1 | h1
        ·exact hh j h1 hj2
        ·exact hj3 i (by omega) HZ.out.symm
      ·exact absurd HZ.out.symm (hj i hlt)
     clear hr
     cases hb:(r ==(i:Int)) with
     | false=>
      have hne:(r !=(i:Int))=true:=by rw [bne,hb];rfl
      rw [hb] at hkid
      have HO:Hid (kidsB cs=false):=hide (decide_eq_false (fun hh=>by rw [hh i hlt] at hkid;cases hkid))
      clear hkid hb;go_wp2_with fail;go_ret;rw [HO.out];exact ⟨rfl,rfl⟩
     | true=>
      have hne:(r !=(i:Int))=false:=by rw [bne,hb];rfl
      rw [hb] at hkid;have HK:=hide hkid;clear hkid hb;go_wp2_with fail
      go_roundg (gk - 1)
      case measure=>have:=HG.out;omega
      case rel=>exact ⟨i+1,by omega,by go_num,by have:=HG.out;omega,hide (fun t ht=>by
       by_cases e:t=i
       ·rw [e];exact HK.out
       ·exact HA.out t (by omega)),rfl⟩
  ·obtain rfl:i=cs.length:=by omega
   have HO:Hid (kidsB cs=true):=hide (decide_eq_true HA.out);go_wp2_with fail;go_ret;rw [HO.out];exact ⟨rfl,rfl⟩
theorem zjd {lf:Bool} {ks vs:List ByteArray} {cs:List Int}:nodeOkB lf ks vs cs=(cntB lf ks.length vs.length cs.length && keysB ks && valsB vs && kidsB cs):=rfl
theorem zlF:valsB []=true:=by decide
theorem zlG:kidsB []=true:=by decide
theorem zbF (v:Value) (lf:Bool) (ks vs:List ByteArray) (cs:List Int) (hk:ks.length<=1048576) (hv:vs.length<=1048576) (hc:cs.length<=1048576) (hks:∀s∈ks,s.size<=1048576) (hvs:∀s∈vs,s.size<=1048576) (w:World) (hd:NodeAt w v lf ks vs cs):
  Calls Tryz.prog 74 #[v] w fun e w'=>e= .returned (.bool (nodeOkB lf ks vs cs))/\Below w.heap.size w w':=by
 obtain ⟨vk,vv,vc,rfl,h1,h2,h3⟩:=hd;obtain ⟨xk,ck,rfl⟩:=zaA h1;obtain ⟨xv,cv,rfl⟩:=zaA h2;obtain ⟨xc,cc,rfl⟩:=zaA h3;obtain ⟨w0,hw0⟩:∃w0,w0=w.alloc (Obj.cells #[.bool lf,.slice xk ks.length ck,.slice xv vs.length cv,.slice xc cs.length cc] 71):=⟨_,rfl⟩
 have hb0:Below w.heap.size w w0:=by rw [hw0];exact (Below.refl w.heap.size w).alloc (Nat.le_refl _) _
 have hblk:w0.heap[w.heap.size]?=some (Obj.cells #[.bool lf,.slice xk ks.length ck,.slice xv vs.length cv,.slice xc cs.length cc] 71):=by rw [hw0];exact heap_alloc_new w _
 have c0:w0.cell? ⟨w.heap.size,0,none⟩=some (.bool lf):=(za0 hblk 0).1;have c1:w0.cell? ⟨w.heap.size,1,none⟩=some (.slice xk ks.length ck):=(za0 hblk 1).1;have c2:w0.cell? ⟨w.heap.size,2,none⟩=some (.slice xv vs.length cv):=(za0 hblk 2).1;have c3:w0.cell? ⟨w.heap.size,3,none⟩=some (.slice xc cs.length cc):=(za0 hblk 3).1;have HK:=hide (zgY ks hk hks _ w0 (za8 h1 hb0));have HV:=hide (zgZ vs hv hvs _ w0 (za8 h2 hb0));have HC:=hide (zh0 cs hc _ w0 (za8 h3 hb0));have HB0:=hide hb0;clear h1 h2 h3 hb0 hblk hks hvs
 by_cases hn1:ks.length<1
 ·have HO:Hid (nodeOkB lf ks vs cs=false):=hide (zcS (by rw [cntB,decide_eq_false (by omega)];rfl))
  have d1:decide ((ks.length:Int)<1)=true:=decide_eq_true (by omega)
  clear hn1;go_enter Tryz.func74,Tryz.ntmps74;go_wp2_with fail;go_ret;rw [HO.out,<-hw0];exact ⟨rfl,HB0.out⟩
 ·have d1:decide ((ks.length:Int)<1)=false:=decide_eq_false (by omega)
  by_cases hn4:4<ks.length
  ·have HO:Hid (nodeOkB lf ks vs cs=false):=hide (zcS (by rw [cntB,decide_eq_false (by omega)];rfl))
   have d2:decide ((4:Int)<(ks.length:Int))=true:=decide_eq_true (by omega)
   clear hn1 hn4;go_enter Tryz.func74,Tryz.ntmps74;go_wp2_with fail;go_ret;rw [HO.out,<-hw0];exact ⟨rfl,HB0.out⟩
  ·have d2:decide ((4:Int)<(ks.length:Int))=false:=decide_eq_false (by omega)
   have hcn:1<=ks.length/\ks.length<=4:=by omega
   cases hkb:keysB ks with
   | false=>
    rw [hkb] at HK
    have HO:Hid (nodeOkB lf ks vs cs=false):=hide (by rw [zjd,hkb];simp)
    clear hn1 hn4 hcn hkb;go_enter Tryz.func74,Tryz.ntmps74;go_wp2_with fail;rw [<-hw0];clear hw0;refine HK.out.mono ?_;rintro e w1 ⟨rfl,rfl⟩;go_wp2_with fail;go_ret;rw [HO.out];exact ⟨rfl,HB0.out⟩
   | true=>
    rw [hkb] at HK
    cases lf with
    | true=>
     have hE:nodeOkB true ks vs cs=(decide (vs.length=ks.length/\cs.length=0) && valsB vs):=by
      rw [zjd,hkb,cntB,decide_eq_true hcn,if_pos rfl]
      by_cases hz:cs.length=0
      ·rw [List.length_eq_zero_iff.1 hz,zlG];simp
      ·rw [decide_eq_false (fun h=>hz h.2)];rfl
     clear hn1 hn4 hcn hkb
     by_cases hz:cs.length=0
     ·have e1:((cs.length:Int) ==0)=true:=by rw [hz];rfl
      by_cases hvl:vs.length=ks.length
      ·have e2:((vs.length:Int) ==(ks.length:Int))=true:=by rw [hvl];exact beq_self_eq_true _
       have HO:Hid (nodeOkB true ks vs cs=valsB vs):=hide (by rw [hE,decide_eq_true ⟨hvl,hz⟩];rfl)
       have HZ:=hide (⟨hz,hvl⟩:_/\_);clear hE hz hvl;go_enter Tryz.func74,Tryz.ntmps74;go_wp2_with fail;rw [<-hw0];clear hw0;refine HK.out.mono ?_;rintro e w1 ⟨rfl,rfl⟩;go_wp2_with fail;refine HV.out.mono ?_;rintro e w1 ⟨rfl,rfl⟩;go_wp2_with fail;go_ret;rw [HO.out];exact ⟨rfl,HB0.out⟩
      ·have e2:((vs.length:Int) ==(ks.length:Int))=false:=beq_eq_false_iff_ne.2 (by omega)
       have HO:Hid (nodeOkB true ks vs cs=false):=hide (by rw [hE,decide_eq_false (fun h=>hvl h.1)];rfl)
       have HZ:=hide hz;clear hE hvl hz;go_enter Tryz.func74,Tryz.ntmps74;go_wp2_with fail;rw [<-hw0];clear hw0;refine HK.out.mono ?_;rintro e w1 ⟨rfl,rfl⟩;go_wp2_with fail;go_ret;rw [HO.out];exact ⟨rfl,HB0.out⟩
     ·have e1:((cs.length:Int) ==0)=false:=beq_eq_false_iff_ne.2 (by omega)
      have HO:Hid (nodeOkB true ks vs cs=false):=hide (by rw [hE,decide_eq_false (fun h=>hz h.2)];rfl)
      clear hE hz;go_enter Tryz.func74,Tryz.ntmps74;go_wp2_with fail;rw [<-hw0];clear hw0;refine HK.out.mono ?_;rintro e w1 ⟨rfl,rfl⟩;go_wp2_with fail;go_ret;rw [HO.out];exact ⟨rfl,HB0.out⟩
    | false=>
     have hE:nodeOkB false ks vs cs=(decide (cs.length=ks.length/\vs.length=0) && kidsB cs):=by
      rw [zjd,hkb,cntB,decide_eq_true hcn,if_neg (by decide)]
      by_cases hz:vs.length=0
      ·rw [List.length_eq_zero_iff.1 hz,zlF];simp
      ·rw [decide_eq_false (fun h=>hz h.2)];rfl
     clear hn1 hn4 hcn hkb
     by_cases hz:vs.length=0
     ·have e1:((vs.length:Int) ==0)=true:=by rw [hz];rfl
      by_cases hvl:cs.length=ks.length
      ·have e2:((cs.length:Int) ==(ks.length:Int))=true:=by rw [hvl];exact beq_self_eq_true _
       have HO:Hid (nodeOkB false ks vs cs=kidsB cs):=hide (by rw [hE,decide_eq_true ⟨hvl,hz⟩];rfl)
       have HZ:=hide (⟨hz,hvl⟩:_/\_);clear hE hz hvl;go_enter Tryz.func74,Tryz.ntmps74;go_wp2_with fail;rw [<-hw0];clear hw0;refine HK.out.mono ?_;rintro e w1 ⟨rfl,rfl⟩;go_wp2_with fail;refine HC.out.mono ?_;rintro e w1 ⟨rfl,rfl⟩;go_wp2_with fail;go_ret;rw [HO.out];exact ⟨rfl,HB0.out⟩
      ·have e2:((cs.length:Int) ==(ks.length:Int))=false:=beq_eq_false_iff_ne.2 (by omega)
       have HO:Hid (nodeOkB false ks vs cs=false):=hide (by rw [hE,decide_eq_false (fun h=>hvl h.1)];rfl)
       have HZ:=hide hz;clear hE hvl hz;go_enter Tryz.func74,Tryz.ntmps74;go_wp2_with fail;rw [<-hw0];clear hw0;refine HK.out.mono ?_;rintro e w1 ⟨rfl,rfl⟩;go_wp2_with fail;go_ret;rw [HO.out];exact ⟨rfl,HB0.out⟩
     ·have e1:((vs.length:Int) ==0)=false:=beq_eq_false_iff_ne.2 (by omega)
      have HO:Hid (nodeOkB false ks vs cs=false):=hide (by rw [hE,decide_eq_false (fun h=>hz h.2)];rfl)
      clear hE hz;go_enter Tryz.func74,Tryz.ntmps74;go_wp2_with fail;rw [<-hw0];clear hw0;refine HK.out.mono ?_;rintro e w1 ⟨rfl,rfl⟩;go_wp2_with fail;go_ret;rw [HO.out];exact ⟨rfl,HB0.out⟩
theorem zdm (v:Value) (lf:Bool) (ks vs:List ByteArray) (cs:List Int) (hk:ks.length<=1048576) (key:ByteArray) (w:World) (hd:NodeAt w v lf ks vs cs):
  Calls Tryz.prog 57 #[v,.string key] w fun e w'=>e= .returned (.int .i64 (placeK ks key ks.length))/\Below w.heap.size w w':=by
 obtain ⟨vk,vv,vc,rfl,h1,-,-⟩:=hd;obtain ⟨xk,ck,rfl⟩:=zaA h1;obtain ⟨w0,hw0⟩:∃w0,w0=w.alloc (Obj.cells #[.bool lf,.slice xk ks.length ck,vv,vc] 71):=⟨_,rfl⟩
 have hb0:Below w.heap.size w w0:=by rw [hw0];exact (Below.refl w.heap.size w).alloc (Nat.le_refl _) _
 have hblk:w0.heap[w.heap.size]?=some (Obj.cells #[.bool lf,.slice xk ks.length ck,vv,vc] 71):=by rw [hw0];exact heap_alloc_new w _
 have HB0:=hide hb0;have HR:=hide (za8 h1 hb0);have p1:w0.cell? ⟨w.heap.size,1,none⟩=some (.slice xk ks.length ck):=(za0 hblk 1).1;clear h1 hb0 hblk;obtain ⟨r,hr⟩:∃r,r=placeK ks key ks.length:=⟨_,rfl⟩;rw [<-hr];have HW:=hide hr;clear hr;go_enter Tryz.func57,Tryz.ntmps57;go_wp2_with fail;rw [<-hw0];clear hw0
 go_loopg [5] ks.length (fun q iv wr=>∃k:Nat,k<=ks.length/\iv= .int .i64 ((k:Int) - 1)/\q=k/\Hid (r=placeK ks key k)/\w0=wr)
 case atStart=>exact ⟨ks.length,Nat.le_refl _,by go_num,rfl,HW,rfl⟩
 case round=>
  obtain ⟨k,hk2,rfl,rfl,HP,rfl⟩:=hrel
  cases gk with
  | zero=>
   have HO:Hid (r= -1):=hide HP.out;go_wp2_with fail;go_ret;rw [HO.out];exact ⟨rfl,HB0.out⟩
  | succ i=>
   obtain ⟨-,a1,cp1,e1,h0 | ⟨bk,ok,e0,hbk,hck⟩⟩:=HR.out
   ·omega
   injection e1 with e11 _ e12
   subst e11 e12;subst e0
   have hlt:i<ks.length:=by omega
   obtain ⟨x,hx⟩:∃x,x=ks.getD i ⟨#[]⟩:=⟨_,rfl⟩
   have hxc:w0.cell? ⟨bk,ok+i,none⟩=some (.string x):=by rw [hck i (by omega),zaP ks i hlt,hx];simp [List.getD,hlt]
   have hi0:(0:Int)<=(i:Int):=by omega
   have hi1:(i:Int)<(ks.length:Int):=by omega
   obtain ⟨le,hle⟩:∃le,(Op.bytesLess x.toList key.toList || x.toList ==key.toList)=le:=⟨_,rfl⟩
   have hK:placeK ks key (i+1)=if le=true then (i:Int) else placeK ks key i:=by rw [placeK,<-hx,hle]
   have hii:((i+1:Nat):Int) - 1=(i:Int):=by omega
   rw [hii];rw [hK] at HP;clear hck hx hK hii
   cases le with
   | true=>
    rw [if_pos rfl] at HP;go_wp2_with fail
    try (go_quiet (fail);go_wp2_with fail)
    go_ret;rw [HP.out];exact ⟨rfl,HB0.out⟩
   | false=>
    rw [if_neg (by decide)] at HP
    go_wp2_with fail
    try (go_quiet (fail);go_wp2_with fail)
    go_roundg i
    case measure=>omega
    case rel=>exact ⟨i,by omega,by go_num,rfl,HP,rfl⟩
end Go.Proofs.YtcbogiebfbbmbaaGreatDoor
