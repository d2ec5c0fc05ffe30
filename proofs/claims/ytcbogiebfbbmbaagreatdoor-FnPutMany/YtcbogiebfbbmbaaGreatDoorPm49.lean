/-
  Facts and contracts that the law's own text rests on, by their texts' names: ModelPl, Draw4, DrawPick, DrawNode, DrawPairs, PutManyPl.
-/
import Derived.Test.YtcbogiebfbbmbaaGreatDoorPm9
import Derived.Test.YtcbogiebfbbmbaaGreatDoorPm48
import Derived.Test.YtcbogiebfbbmbaaGreatDoorPm1
import Derived.Deep.RegionLaw
import Derived.Laws.Cover1
import Derived.Test.YtcbogiebfbbmbaaGreatDoorPm41
import Derived.Test.YtcbogiebfbbmbaaGreatDoorPm47
set_option maxHeartbeats 16000000
set_option maxRecDepth 100000
namespace Go.Proofs.YtcbogiebfbbmbaaGreatDoor
open Go.RowKit
def AscM (l:List (ByteArray×ByteArray)):Prop:=l.Pairwise fun p q=>Op.bytesLess p.1.toList q.1.toList=true
def aftB (key:ByteArray) (p:ByteArray×ByteArray):Bool:= !Op.bytesLess p.1.toList key.toList && !p.1.toList ==key.toList
theorem zkC {key:ByteArray} {p:ByteArray×ByteArray} (h:aftB key p=true):Op.bytesLess key.toList p.1.toList=true:=by
 unfold aftB at h;rw [Bool.and_eq_true,Bool.not_eq_true',Bool.not_eq_true'] at h;exact zc3 _ _ h.1 h.2
theorem zgu (l:List (ByteArray×ByteArray)) (key val:ByteArray):modelP l key val=l.filter (fun p=>Op.bytesLess p.1.toList key.toList)++ [(key,val)]++l.filter (aftB key):=rfl
theorem zlg {l:List (ByteArray×ByteArray)} (h:AscM l) (key val:ByteArray):AscM (modelP l key val):=by
 rw [zgu];unfold AscM at h⊢;rw [List.append_assoc]
 refine List.pairwise_append.2 ⟨h.filter _,List.pairwise_append.2 ⟨List.pairwise_singleton _ _,h.filter _,fun p hp q hq=> ?_⟩,fun p hp q hq=> ?_⟩
 ·obtain rfl:=List.mem_singleton.1 hp
  exact zkC (List.mem_filter.1 hq).2
 ·have h1:Op.bytesLess p.1.toList key.toList=true:=(List.mem_filter.1 hp).2
  rcases List.mem_append.1 hq with hq | hq
  ·obtain rfl:=List.mem_singleton.1 hq
   exact h1
  ·exact zc4 _ _ _ h1 (zkC (List.mem_filter.1 hq).2)
theorem zlh (l:List (ByteArray×ByteArray)) (key val:ByteArray):(modelP l key val).length<=l.length+1:=by
 have:∀l:List (ByteArray×ByteArray),(l.filter (fun p=>Op.bytesLess p.1.toList key.toList)).length+(l.filter (aftB key)).length<=l.length:=fun l=>by
  induction l with
  | nil=>simp
  | cons p l ih=>
   rw [List.filter_cons,List.filter_cons]
   cases h:Op.bytesLess p.1.toList key.toList with
   | true=>
    have h2:aftB key p=false:=by unfold aftB;rw [h];rfl
    rw [h2]
    simp
    omega
   | false=>
    cases h2:aftB key p with
    | true=>simp;omega
    | false=>simp;omega
 rw [zgu]
 simp only [List.length_append,List.length_singleton]
 have:=this l
 omega
theorem zli {l:List (ByteArray×ByteArray)} {key val:ByteArray} {p:ByteArray×ByteArray} (h:p∈modelP l key val):p∈l\/p=(key,val):=by
 rw [zgu] at h
 rcases List.mem_append.1 h with h | h
 ·rcases List.mem_append.1 h with h | h
  ·exact Or.inl (List.mem_filter.1 h).1
  ·exact Or.inr (List.mem_singleton.1 h)
 ·exact Or.inl (List.mem_filter.1 h).1
open Go.RowKit
theorem big_no (a:Option Addr) (len cap:Nat) (h:len<=1048576) (w:World):Calls Tryz.prog 5 #[.slice a len cap] w fun e w'=>e= .returned (.bool false)/\w=w':=by
 have hq:decide ((1048576:Int)<(len:Int))=false:=by simp;omega
 go_enter Tryz.func5,Tryz.ntmps5
 go_wp2
 go_ret;exact ⟨rfl,rfl⟩
theorem big_yes (a:Option Addr) (len cap:Nat) (h:1048576<len) (w:World):Calls Tryz.prog 5 #[.slice a len cap] w fun e w'=>e= .returned (.bool true)/\w=w':=by
 have hq:decide ((1048576:Int)<(len:Int))=true:=by simp;omega
 go_enter Tryz.func5,Tryz.ntmps5
 go_wp2
 go_ret;exact ⟨rfl,rfl⟩
theorem Tryz.infoInt:(Tryz.prog.info? 3).map (fun i=>(i.zero,i.size,i.bytes))=some (some (.int .i64 0),1,8):=by kernel_rfl
def intVs (zs:List Nat):List Value:=zs.map fun (z:Nat)=>Value.int .i64 (z:Int)
theorem znL {w:World} {B B' e sz n:Nat} {v:Value} {xs:List Value} (h:w.ownsRow B e sz v n xs) (hb:B'<=B):w.ownsRow B' e sz v n xs:=by
 refine ⟨h.1,?_⟩
 rcases h.2 with h0 | ⟨g,cap,cur,e1,hg,rest⟩
 ·exact Or.inl h0
 ·exact Or.inr ⟨g,cap,cur,e1,Nat.le_trans hb hg,rest⟩
theorem zgL (a:Option Addr) (len cap:Nat) (w:World) (hd:CodeIn w w.heap.size a len):
  Calls Tryz.prog 9 #[.slice a len cap] w fun e w'=>∃(v:Value) (zs:List Nat),zs.length=12/\(∀z∈zs,z<10000)/\e= .returned v/\w'.ownsRow w.heap.size 3 1 v 12 (intVs zs)/\Below w.heap.size w w':=by
 obtain ⟨i0,hi,hz0,hz1,hz2⟩:=info_parts Tryz.infoInt;have HD:=hide hd;clear hd;go_enter Tryz.func9,Tryz.ntmps9;go_wp2_with fail;refine (zgY a len cap _ HD.out).mono ?_;rintro e w1 ⟨rfl,hc,hd1,hb⟩;have HC:=hide hc;have HD1:=hide hd1;have HB:=hide hb;clear hc hd1 hb;go_wp2_with fail;refine (zc2 w.heap.size w.heap.size a len cap _ HC.out HD1.out (Nat.le_refl _)).mono ?_;rintro e w2 ⟨x,hx,rfl,h2⟩
 have HB2:Hid (Below w.heap.size w w2):=hide (HB.out.grown h2.2.1 HB.out.size (fun k hk=>by cases hk;exact Nat.le_refl _))
 have hgl:w.heap.size<w2.heap.size:=zgX h2.1;have H2:=hide h2;clear h2;go_wp2_with fail
 go_loopg [4,5] 12 (fun q v iv wr=>∃zs:List Nat,zs.length<=12/\iv= .int .i64 (zs.length:Int)/\q+zs.length=12/\wr.ownsRow w2.heap.size 3 1 v zs.length (intVs zs)/\Hid (∀z∈zs,z<10000)/\Hid (CurAt wr w.heap.size a len cap)/\Hid (w2.grownBy wr (some w.heap.size)))
 case atStart=>exact ⟨[],by simp,rfl,rfl,by simpa [intVs] using World.ownsRow_lit (base:=w2.heap.size) (e:=3) (size:=1) w2 #[] 0 (Nat.le_refl _) (by unfold maxLen;omega) (by simp),hide (fun z h=>by cases h),hide (zdb H2.out.1 (World.grownBy_alloc w2 _ none) (by simp)),hide (World.grownBy_alloc w2 _ _)⟩
 case round=>
  obtain ⟨zs,hl,rfl,hg,hown,HZ,HCu,HGr⟩:=hrel;have HG:=hide hg;clear hg;have hws:=HGr.out.size
  by_cases hlt:zs.length<12
  ·go_wp2_with fail
   refine (zda w.heap.size w.heap.size a len cap 10000 (by omega) (by omega) _ HCu.out (zdx H2.out.2.2 HGr.out (Nat.le_refl _) hgl) (Nat.le_refl _)).mono ?_
   rintro e w3 ⟨x,hx,rfl,h1⟩
   have hown2:=hown.kept h1.2.1 (Or.inr (fun e=>by have:=(hown.lt w.heap.size e).1;omega))
   have H1:=hide h1;have hws2:=h1.2.1.size;clear h1 hown
   go_wp2_with (at_builtin;refine wpList_append_own _ rfl _ _ 32 rfl w2.heap.size 3 i0 (.int .i64 0) 1 8 Tryz.underlying32 hi hz0 hz1 hz2 rfl (by decide) _ _ _ rfl (hown2.alloc _) ⟨w3.heap.size,0,none⟩ 1 1 [.int .i64 (x:Int)] rfl rfl ?c1 ?c2 ?c3 ?c4 ?c5 ?_)
   case c1=>
    intro j u hj
    match j,hj with
    | 0,hj=>simp at hj;subst hj;simp [Addr.add]
   case c2=>intro u hu;simp at hu;subst hu;rfl
   case c3=>unfold maxLen;omega
   case c4=>omega
   case c5=>simp;omega
   intro v' w4 hown3 hgrow _
   have hown4:w4.ownsRow w2.heap.size 3 1 v' (zs++ [x]).length (intVs (zs++ [x])):=by
    rw [List.length_append,intVs,List.map_append];exact hown3
   have HGr3:Hid (w2.grownBy w4 (some w.heap.size)):=hide (zlR (za3 HGr.out H1.out.2.1) hgrow (fun k hk=>(hown2.lt k hk).1))
   have HCu3:Hid (CurAt w4 w.heap.size a len cap):=hide (zdb (zdb H1.out.1 (World.grownBy_alloc w3 _ none) (by simp)) hgrow (fun e=>by have:=(hown2.lt w.heap.size e.symm).1;omega))
   have HZ3:Hid (∀z∈zs++ [x],z<10000):=hide (fun z hz=>by rcases List.mem_append.1 hz with h | h;exact HZ.out z h;(simp at h;omega))
   clear hown3 hgrow hown2;go_wp2_with fail
   go_roundg (gk - 1)
   case measure=>have:=HG.out;omega
   case rel=>exact ⟨zs++ [x],by simp;omega,by rw [List.length_append];go_num,by have:=HG.out;simp;omega,hown4,HZ3,HCu3,HGr3⟩
  ·have hl12:zs.length=12:=by omega
   rw [hl12] at hown;go_wp2_with fail;go_ret
   exact ⟨_,zs,hl12,HZ.out,rfl,znL hown (by omega),HB2.out.grown HGr.out HB2.out.size (fun k hk=>by cases hk;exact Nat.le_refl _)⟩
open Go.RowKit
theorem zjL (g B:Nat) (a:Option Addr) (len cap:Nat) (zs:List ByteArray) (n:Nat) (hzn:zs.length=n) (hz:0<n) (hz1:n<=1000) (r c:Nat) (w:World) (hc:CurAt w g a len cap) (hd:CodeIn w B a len) (hB:B<=g) (hr:r≠g) (hrl:r<w.heap.size)
  (hrow:∀j,j<n->w.cell? ⟨r,j,none⟩=some (.string (zs.getD j ⟨#[]⟩))):
  Calls Tryz.prog 36 #[.pointer (some ⟨g,0,none⟩),.slice (some ⟨r,0,none⟩) n c] w fun e w'=>∃z:ByteArray,z∈zs/\e= .returned (.string z)/\Drawn w w' g B a len cap:=by
 have HD:=hide hd;have HC:=hide hc;have HR:=hide hrow;have HZn:=hide hzn;clear hd hc hrow hzn;go_enter Tryz.func36,Tryz.ntmps36;go_wp2_with fail
 refine (zda g B a len cap n hz (by omega) _ HC.out HD.out hB).mono ?_
 rintro e w1 ⟨x,hx,rfl,h1⟩
 have hcell:w1.cell? ⟨r,x,none⟩=some (.string (zs.getD x ⟨#[]⟩)):=by
  rw [World.cell?_of_block (h1.2.1.block r hrl (by simpa using hr))];exact HR.out x hx
 have hm:zs.getD x ⟨#[]⟩∈zs:=by
  have hx':x<zs.length:=by rw [HZn.out];exact hx
  rw [List.getD,List.getElem?_eq_getElem hx'];exact List.getElem_mem hx'
 obtain ⟨y,hy⟩:∃y,y=zs.getD x ⟨#[]⟩:=⟨_,rfl⟩;rw [<-hy] at hcell hm;have HM:=hide hm;have H1:=hide h1
 have hi0:(0:Int)<=(x:Int):=by omega
 have hi1:(x:Int)<(n:Int):=by omega
 clear h1 hm hy hr;go_wp2_with fail;go_ret;exact ⟨y,HM.out,rfl,H1.out⟩
theorem zgv (g B:Nat) (a:Option Addr) (len cap:Nat) (zs:List ByteArray) (n:Nat) (hn:zs.length=n) (h0:0<n) (h1:n<=1000) (w:World) (r:Nat) (hr:r=w.heap.size) (hc:CurAt w g a len cap) (hd:CodeIn w B a len) (hB:B<=g) (cs:Array Value) (he:cs=(zs.map Value.string).toArray):
  Calls Tryz.prog 36 #[.pointer (some ⟨g,0,none⟩),.slice (some ⟨r,0,none⟩) n n] (w.alloc (Obj.cells cs 9)) fun e w'=>∃z:ByteArray,z∈zs/\e= .returned (.string z)/\Drawn w w' g B a len cap:=by
 have hgl:=zgX hc;have hg:=World.grownBy_alloc w (Obj.cells cs 9) (some g);subst he hn hr
 refine (zjL g B a len cap zs zs.length rfl h0 h1 w.heap.size zs.length _ (zdb hc (World.grownBy_alloc w _ none) (by simp)) (zdx hd hg hB hgl) hB (by omega) (by simp) (fun j hj=> ?_)).mono ?_
 ·rw [(za0 (heap_alloc_new w _) j).1]
  simp [List.getD,hj]
 ·rintro e w2 ⟨z,hz,rfl,h2⟩
  exact ⟨z,hz,rfl,h2.1,za3 hg h2.2.1,h2.2.2⟩
open Go.RowKit
theorem zlj (g B:Nat) (a:Option Addr) (len cap:Nat) (w:World) (hc:CurAt w g a len cap) (hd:CodeIn w B a len) (hB:B<=g):
  Calls Tryz.prog 35 #[.pointer (some ⟨g,0,none⟩)] w fun e w'=>∃z:ByteArray,z∈bases/\e= .returned (.string z)/\Drawn w w' g B a len cap:=by
 have HP:=hide (zgv g B a len cap bases 16 rfl (by omega) (by omega) w w.heap.size rfl hc hd hB _ rfl)
 clear hc hd;go_enter Tryz.func35,Tryz.ntmps35;go_wp2_with fail;refine HP.out.mono ?_;rintro e w1 ⟨z,hz,rfl,h1⟩;have H1:=hide h1;have HZ:=hide hz;clear h1 hz;go_wp2_with fail;go_ret;exact ⟨z,HZ.out,rfl,H1.out⟩
open Go.RowKit
def DrwP (L:List (ByteArray×ByteArray)):Prop:=AscM L/\L.length<=20/\∀p∈L,p.1.size<=8/\p.2.size<=8
theorem zex {w w':World} {B e sz n g:Nat} {v:Value} {xs:List Value} (h:w.ownsRow B e sz v n xs) (hg:w.grownBy w' (some g)) (hB:g<B):w'.ownsRow B e sz v n xs:=by
 refine ⟨h.1,?_⟩
 rcases h.2 with ⟨rfl,hn⟩ | ⟨b,cap,cur,rfl,hb,hh,rest⟩
 ·exact Or.inl ⟨rfl,hn⟩
 ·refine Or.inr ⟨b,cap,cur,rfl,hb,?_,rest⟩
  rw [hg.block b (Array.getElem?_eq_some_iff.1 hh).1 (fun e=>by injection e with e;omega)]
  exact hh
theorem zh8 {w w1 w2:World} {g B:Nat} {a:Option Addr} {len cap:Nat} (h:Drawn w w1 g B a len cap) (hb:Below w1.heap.size w1 w2) (hB:B<=g):Drawn w w2 g B a len cap:=by
 have hg:w1.grownBy w2 none:=⟨hb.os,hb.tape,hb.output,hb.size,fun k hk _=>hb.block k hk⟩
 have hg':w1.grownBy w2 (some g):=⟨hb.os,hb.tape,hb.output,hb.size,fun k hk _=>hb.block k hk⟩
 exact ⟨zdb h.1 hg (by simp),za3 h.2.1 hg',zdx h.2.2 hg' hB (zgX h.1)⟩
theorem zj1 (g B:Nat) (a:Option Addr) (len cap:Nat) (w:World) (hc:CurAt w g a len cap) (hd:CodeIn w B a len) (hB:B<=g):
  Calls Tryz.prog 18 #[.pointer (some ⟨g,0,none⟩)] w fun e w'=>∃(L:List (ByteArray×ByteArray)) (v':Value),e= .returned v'/\DrwP L/\w'.ownsRow w.heap.size 41 2 v' L.length (prq L)/\Drawn w w' g B a len cap:=by
 have hgl:=zgX hc
 have hD0:Drawn w w g B a len cap:=⟨hc,⟨rfl,rfl,rfl,Nat.le_refl _,fun _ _ _=>rfl⟩,hd⟩
 have hS0:=zkB (zbC (zeJ w.heap.size w) (Obj.cells #[] 41) (Nat.le_refl _));have HO0:=hide (za5 hS0 0 rfl:(w.alloc (Obj.cells #[] 41)).ownsRow w.heap.size 41 2 (.slice (some ⟨w.heap.size,0,none⟩) 0 0) 0 []);have HD0:=hide (zh8 hD0 ((Below.refl w.heap.size w).alloc (Nat.le_refl _) (Obj.cells #[] 41)) hB);clear hS0 hD0 hc hd;go_enter Tryz.func18,Tryz.ntmps18;go_wp2_with fail
 go_loopg [3,4] 20 (fun q lv iv wr=>∃(i:Nat) (L:List (ByteArray×ByteArray)) (v:Value),i<=20/\q+i=20/\iv= .int .i64 (i:Int)/\v=lv/\Hid (DrwP L/\L.length<=i)/\Hid (wr.ownsRow w.heap.size 41 2 v L.length (prq L))/\Hid (Drawn w wr g B a len cap))
 case atStart=>exact ⟨0,[],_,Nat.zero_le _,rfl,rfl,rfl,hide ⟨⟨List.Pairwise.nil,Nat.zero_le _,fun p hp=>by cases hp⟩,Nat.le_refl _⟩,HO0,HD0⟩
 case round=>
  clear HO0 HD0;obtain ⟨i,L,v,hi20,hq,rfl,rfl,HL,HO,HD⟩:=hrel;have HQ:=hide hq;clear hq;go_wp2_with fail
  refine (zda g B a len cap 20 (by omega) (by omega) wr HD.out.1 HD.out.2.2 hB).mono ?_
  rintro e w2 ⟨x,hx,rfl,hd2⟩;have HO2:=hide (zex HO.out hd2.2.1 hgl);have HD2:=hide (zbn HD.out hd2);clear HO HD hd2
  by_cases hlt:i<x
  ·have hlt':(i:Int)<(x:Int):=by omega
   go_wp2_with fail;refine (zlj g B a len cap w2 HD2.out.1 HD2.out.2.2 hB).mono ?_;rintro e w3 ⟨z,hz,rfl,hd3⟩;have hzs:=zkV hz;have HO3:=hide (zex HO2.out hd3.2.1 hgl);have HD3:=hide (zbn HD2.out hd3)
   have HPk:=hide (zgv g B a len cap [⟨#[]⟩,⟨#[49]⟩] 2 rfl (by omega) (by omega) w3 w3.heap.size rfl HD3.out.1 HD3.out.2.2 hB #[.string ⟨#[]⟩,.string ⟨#[49]⟩] rfl)
   clear HO2 HD2 hd3 hz;go_wp2_with fail;refine HPk.out.mono ?_;rintro e w4 ⟨y,hy,rfl,hd4⟩
   have hys:y.size<=1:=by simp at hy;rcases hy with rfl | rfl <;> decide
   have HO4:=hide (zex HO3.out hd4.2.1 hgl);have HD4:=hide (zbn HD3.out hd4)
   have HPk2:=hide (zgv g B a len cap [⟨#[]⟩,⟨#[118]⟩] 2 rfl (by omega) (by omega) w4 w4.heap.size rfl HD4.out.1 HD4.out.2.2 hB #[.string ⟨#[]⟩,.string ⟨#[118]⟩] rfl)
   clear HO3 HD3 hd4 hy HPk;go_wp2_with fail;refine HPk2.out.mono ?_;rintro e w5 ⟨u,hu,rfl,hd5⟩
   have hus:u.size<=1:=by simp at hu;rcases hu with rfl | rfl <;> decide
   have HO5:=hide (zex HO4.out hd5.2.1 hgl);have HD5:=hide (zbn HD4.out hd5);clear HO4 HD4 hd5 hu HPk2
   have HMp:=hide (zfc L (by have:=HL.out.2;omega) (z++y) u v w5 (zac HO5.out))
   have HL6:Hid (DrwP (modelP L (z++y) u)/\(modelP L (z++y) u).length<=i+1):=hide (by
    obtain ⟨⟨q1,q2,q3⟩,q4⟩:=HL.out;have hm:=zlh L (z++y) u
    refine ⟨⟨zlg q1 _ _,by omega,fun p hp=> ?_⟩,by omega⟩
    rcases zli hp with hp | rfl
    ·exact q3 p hp
    ·refine ⟨?_,?_⟩
     ·show (z++y).size<=8
      rw [ByteArray.size_append]
      omega
     ·show u.size<=8
      omega)
   go_wp2_with fail;refine HMp.out.mono ?_;rintro e w6 ⟨v6,rfl,ho6,hb6⟩
   have HO6:=hide (zaa ho6 (by have:=HD5.out.2.1.size;exact this))
   have HD6:=hide (zh8 HD5.out hb6 hB);clear ho6 hb6 HO5 HD5 HMp;go_wp2_with fail
   go_roundg (gk - 1)
   case measure=>have:=HQ.out;omega
   case rel=>exact ⟨i+1,_,_,by omega,by have:=HQ.out;omega,by go_num,rfl,HL6,HO6,HD6⟩
  ·have hlt':¬(i:Int)<(x:Int):=by omega
   go_wp2_with fail;go_ret;exact ⟨L,v,rfl,HL.out.1,HO2.out,HD2.out⟩
open Go.RowKit
def manyI (n t i:Nat):Nat:=if n % 7=0 then (i+t) % n else (i * 7+t) % n
theorem zlk:∀n<21,n % 7≠0->∀s<n,∃i<n,(i * 7) % n=s:=by decide
theorem znM {n t m:Nat} (hn:n<=20) (hm:m<n):∃i<n,manyI n t i=m:=by
 obtain ⟨s,hs⟩:∃s,s=(m+(n - t % n)) % n:=⟨_,rfl⟩
 have htn:=Nat.mod_lt t (show 0<n by omega)
 have hst:(s+t) % n=m:=by
  rw [hs,Nat.mod_add_mod,Nat.add_assoc]
  have h1:(n - t % n+t) % n=0:=by
   have h2:n - t % n+t=n * (1+t / n):=by
    have:=Nat.div_add_mod t n;rw [Nat.mul_add,Nat.mul_one]
    omega
   rw [h2,Nat.mul_mod_right]
  rw [Nat.add_mod,h1,Nat.add_zero,Nat.mod_mod,Nat.mod_eq_of_lt hm]
 have hsn:s<n:=by rw [hs];exact Nat.mod_lt _ (by omega)
 unfold manyI
 split
 ·exact ⟨s,hsn,hst⟩
 ·next h=>
  obtain ⟨i,hi,e⟩:=zlk n (by omega) h s hsn
  refine ⟨i,hi,?_⟩;rw [Nat.add_mod,e,<-hst,Nat.add_mod s t n,Nat.mod_eq_of_lt hsn]
theorem zhV {n t i:Nat} (hn:0<n):manyI n t i<n:=by
 unfold manyI
 split <;> exact Nat.mod_lt _ hn
noncomputable def manyS (l:Prs) (t:Nat):Nat->Wk×Int
 | 0=>(newS (newP 40) [] ⟨0,0,2,[]⟩ 0,0)
 | i+1=>((putS (manyS l t i).1 (manyS l t i).2 (l.getD (manyI l.length t i) (⟨#[]⟩,⟨#[]⟩)).1 (l.getD (manyI l.length t i) (⟨#[]⟩,⟨#[]⟩)).2).1,(putS (manyS l t i).1 (manyS l t i).2 (l.getD (manyI l.length t i) (⟨#[]⟩,⟨#[]⟩)).1 (l.getD (manyI l.length t i) (⟨#[]⟩,⟨#[]⟩)).2).2.1)
theorem zmK:diskOkB (newP 40) []=true:=by decide
theorem zll (l:Prs) (t:Nat):PutSt (manyS l t 0).1 (manyS l t 0).2 [] [] 20:=by
 have e:(manyS l t 0).1=⟨newP 40,[],2,[],[],[]⟩:=by
  have h:srtL ([]:List Int)= []:=List.mergeSort_nil
  show newS (newP 40) [] ⟨0,0,2,[]⟩ 0=_
  unfold newS
  rw [show upF (⟨0,0,2,[]⟩:Mt).fs 0 (⟨0,0,2,[]⟩:Mt).fs.length= [] from rfl,h]
 have hp:(newP 40).length=40:=by decide
 rw [show (manyS l t 0).2=0 from rfl,e]
 refine ⟨⟨by simp,List.nodup_nil,List.nodup_nil,(fun x hx=>by cases hx),(fun x hx=>by cases hx),(fun x hx=>by cases hx),(fun x hx=>by cases hx),(fun x hx=>by cases hx),fun x hx=> ?_,by show (newP 40).length<=_;rw [hp];omega,(fun x hx=>by cases hx),by show (2:Int)<=((newP 40).length:Int);rw [hp];decide,(fun x hx=>by cases hx)⟩,⟨List.Pairwise.nil,(fun x hx=>by cases hx),(fun x hx=>by cases hx),(fun x hx=>by cases hx),by show (newP 40).length<=_;rw [hp];omega,by show (0:Int)<=2;decide⟩,(fun x hx=>by cases hx),List.nodup_nil,Or.inl ⟨rfl,rfl,rfl⟩,fun x=> ?_,zmK,hp,rfl,by show (2:Int)<=2;decide,?_,by simp,by simp,List.Pairwise.nil⟩
 ·simp at hx
  show 0<=x/\x<2
  omega
 ·show 0+0=newC 2 2 x
  unfold newC
  rw [if_neg (by omega)]
 ·refine ⟨by show (newP 40).length<=_;rw [hp];omega,fun s hs=> ?_,by simp,(fun p hp=>by cases hp),by simp,by simp,by simp⟩
  have hs:s∈newP 40:=hs
  rw [show newP 40=List.replicate 40 ⟨#[]⟩ from rfl] at hs
  rw [List.eq_of_mem_replicate hs]
  decide
theorem zkD:∀{l m:Prs},Asc l->Asc m->(∀q,q∈l↔q∈m)->l=m
 | [],[],_,_,_=>rfl
 | [],q :: m,_,_,h=>by have:=(h q).2 (List.mem_cons_self ..);cases this
 | q :: l,[],_,_,h=>by have:=(h q).1 (List.mem_cons_self ..);cases this
 | q :: l,q' :: m,hl,hm,h=>by
  obtain ⟨a1,a2⟩:=List.pairwise_cons.1 hl;obtain ⟨b1,b2⟩:=List.pairwise_cons.1 hm
  have e:q=q':=by
   rcases List.mem_cons.1 ((h q).1 (List.mem_cons_self ..)) with e | e
   ·exact e
   ·rcases List.mem_cons.1 ((h q').2 (List.mem_cons_self ..)) with e' | e'
    ·exact e'.symm
    ·have h1:=b1 q e
     have h2:=zbu h1;rw [a1 q' e'] at h2
     cases h2
  subst e
  congr 1
  refine zkD a2 b2 (fun x=>⟨fun hx=> ?_,fun hx=> ?_⟩)
  ·rcases List.mem_cons.1 ((h x).1 (List.mem_cons_of_mem _ hx)) with e | e
   ·subst e;have:=a1 x hx;rw [zao] at this;cases this
   ·exact e
  ·rcases List.mem_cons.1 ((h x).2 (List.mem_cons_of_mem _ hx)) with e | e
   ·subst e;have:=b1 x hx;rw [zao] at this;cases this
   ·exact e
theorem asc_key {l:Prs} (h:Asc l) {p q:ByteArray×ByteArray} (hp:p∈l) (hq:q∈l) (e:p.1=q.1):p=q:=by
 obtain ⟨i,hi,ei⟩:=List.getElem_of_mem hp;obtain ⟨j,hj,ej⟩:=List.getElem_of_mem hq;have hw:=List.pairwise_iff_getElem.1 h
 rcases Nat.lt_trichotomy i j with hij | hij | hij
 ·have:=hw i j hi hj hij
  rw [ei,ej,e,zao] at this
  cases this
 ·subst hij
  rw [<-ei,<-ej]
 ·have:=hw j i hj hi hij
  rw [ei,ej,e,zao] at this
  cases this
theorem znN {l L:Prs} (hl:Asc l) (hL:∀q∈L,q∈l) {x:ByteArray×ByteArray} (hx:x∈l) (q:ByteArray×ByteArray):q∈putL L x.1 x.2↔q=x\/q∈L:=by
 constructor
 ·exact fun h=>zhA h
 ·rintro (h | h)
  ·subst h
   unfold putL
   simp
  ·unfold putL
   by_cases e:q.1=x.1
   ·have:=asc_key hl (hL q h) hx e
    subst this
    simp
   ·rw [List.mem_append,List.mem_append]
    cases h1:lessB q.1 x.1 with
    | true=>exact Or.inl (Or.inl (List.mem_filter.2 ⟨h,h1⟩))
    | false=>
     cases h2:lessB x.1 q.1 with
     | true=>exact Or.inr (List.mem_filter.2 ⟨h,h2⟩)
     | false=>exact absurd (zg5 h1 h2) e
theorem zjM {l:Prs} (hl:Asc l) (hn:l.length<=20) (hz:∀p∈l,p.1.size<=24/\p.2.size<=24) (t:Nat):∀i,i<=l.length->∃L P,PutSt (manyS l t i).1 (manyS l t i).2 L P (20 - i)/\(∀q,q∈L↔∃j,j<i/\q=l.getD (manyI l.length t j) (⟨#[]⟩,⟨#[]⟩))
 | 0,_=>⟨[],[],zll l t,fun q=>by simp⟩
 | i+1,hi=>by
  obtain ⟨L,P,h1,h2⟩:=zjM hl hn hz t i (by omega)
  have hlt:manyI l.length t i<l.length:=zhV (by omega)
  have hx:l.getD (manyI l.length t i) (⟨#[]⟩,⟨#[]⟩)∈l:=by rw [getD_lt _ _ hlt];exact List.getElem_mem hlt
  have hsub:∀q∈L,q∈l:=fun q hq=>by
   obtain ⟨j,hj,e⟩:=(h2 q).1 hq
   have hjl:manyI l.length t j<l.length:=zhV (by omega)
   rw [e,getD_lt _ _ hjl];exact List.getElem_mem hjl
  rw [show 20 - i=(20 - (i+1))+1 by omega] at h1
  obtain ⟨-,P',h3⟩:=zmE h1 (hz _ hx).1 (hz _ hx).2
  refine ⟨_,P',h3,fun q=> ?_⟩
  rw [znN hl hsub hx,h2]
  constructor
  ·rintro (e | ⟨j,hj,e⟩)
   ·exact ⟨i,by omega,e⟩
   ·exact ⟨j,by omega,e⟩
  ·rintro ⟨j,hj,e⟩
   by_cases h:j=i
   ·subst h;exact Or.inl e
   ·exact Or.inr ⟨j,by omega,e⟩
theorem znO {l:Prs} (hl:Asc l) (hn:l.length<=20) (hz:∀p∈l,p.1.size<=24/\p.2.size<=24) (t:Nat):∃P,PutSt (manyS l t l.length).1 (manyS l t l.length).2 l P (20 - l.length):=by
 obtain ⟨L,P,h1,h2⟩:=zjM hl hn hz t l.length (Nat.le_refl _)
 have:L=l:=zkD h1.asc hl (fun q=>by
  rw [h2]
  constructor
  ·rintro ⟨j,hj,e⟩
   have hjl:manyI l.length t j<l.length:=zhV (by omega)
   rw [e,getD_lt _ _ hjl];exact List.getElem_mem hjl
  ·intro hq
   obtain ⟨m,hm,e⟩:=List.getElem_of_mem hq;obtain ⟨i,hi,e2⟩:=znM (t:=t) hn hm
   exact ⟨i,hi,by rw [e2,getD_lt _ _ hm,e]⟩)
 subst this;exact ⟨P,h1⟩
end Go.Proofs.YtcbogiebfbbmbaaGreatDoor
