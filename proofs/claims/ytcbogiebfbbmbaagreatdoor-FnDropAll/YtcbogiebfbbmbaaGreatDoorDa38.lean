/-
  Facts and contracts that the law's own text rests on, by their texts' names: ModelPl, Draw4, DrawPick, DrawNode, DrawPairs, PutManyPl.
-/
import Derived.Test.YtcbogiebfbbmbaaGreatDoorDa21
import Derived.Test.YtcbogiebfbbmbaaGreatDoorDa37
import Derived.Test.YtcbogiebfbbmbaaGreatDoorDa7
import Derived.Test.YtcbogiebfbbmbaaGreatDoorDa1
import Derived.Deep.RegionLaw
import Derived.Laws.Cover1
import Derived.Test.YtcbogiebfbbmbaaGreatDoorDa35
import Derived.Test.YtcbogiebfbbmbaaGreatDoorDa36
set_option maxHeartbeats 16000000
set_option maxRecDepth 100000
namespace Go.Proofs.YtcbogiebfbbmbaaGreatDoor
open Go.RowKit
def AscM (l:List (ByteArray×ByteArray)):Prop:=l.Pairwise fun p q=>Op.bytesLess p.1.toList q.1.toList=true
def aftB (key:ByteArray) (p:ByteArray×ByteArray):Bool:= !Op.bytesLess p.1.toList key.toList && !p.1.toList ==key.toList
theorem zkm {key:ByteArray} {p:ByteArray×ByteArray} (h:aftB key p=true):Op.bytesLess key.toList p.1.toList=true:=by
 unfold aftB at h;rw [Bool.and_eq_true,Bool.not_eq_true',Bool.not_eq_true'] at h;exact zcb _ _ h.1 h.2
theorem zgJ (l:List (ByteArray×ByteArray)) (key val:ByteArray):modelP l key val=l.filter (fun p=>Op.bytesLess p.1.toList key.toList)++ [(key,val)]++l.filter (aftB key):=rfl
theorem zkV {l:List (ByteArray×ByteArray)} (h:AscM l) (key val:ByteArray):AscM (modelP l key val):=by
 rw [zgJ];unfold AscM at h⊢;rw [List.append_assoc]
 refine List.pairwise_append.2 ⟨h.filter _,List.pairwise_append.2 ⟨List.pairwise_singleton _ _,h.filter _,fun p hp q hq=> ?_⟩,fun p hp q hq=> ?_⟩
 ·obtain rfl:=List.mem_singleton.1 hp
  exact zkm (List.mem_filter.1 hq).2
 ·have h1:Op.bytesLess p.1.toList key.toList=true:=(List.mem_filter.1 hp).2
  rcases List.mem_append.1 hq with hq | hq
  ·obtain rfl:=List.mem_singleton.1 hq
   exact h1
  ·exact zcc _ _ _ h1 (zkm (List.mem_filter.1 hq).2)
theorem zkW (l:List (ByteArray×ByteArray)) (key val:ByteArray):(modelP l key val).length<=l.length+1:=by
 have:∀l:List (ByteArray×ByteArray),(l.filter (fun p=>Op.bytesLess p.1.toList key.toList)).length+(l.filter (aftB key)).length<=l.length:=fun l=>by
  induction l with
  | nil=>simp
  | cons p l ih=>
   rw [List.filter_cons,List.filter_cons]
   cases h:Op.bytesLess p.1.toList key.toList with
   | true=>
    have h2:aftB key p=false:=by unfold aftB;rw [h];rfl
    rw [h2]
    simp
    omega
   | false=>
    cases h2:aftB key p with
    | true=>simp;omega
    | false=>simp;omega
 rw [zgJ]
 simp only [List.length_append,List.length_singleton]
 have:=this l
 omega
theorem zkX {l:List (ByteArray×ByteArray)} {key val:ByteArray} {p:ByteArray×ByteArray} (h:p∈modelP l key val):p∈l\/p=(key,val):=by
 rw [zgJ] at h
 rcases List.mem_append.1 h with h | h
 ·rcases List.mem_append.1 h with h | h
  ·exact Or.inl (List.mem_filter.1 h).1
  ·exact Or.inr (List.mem_singleton.1 h)
 ·exact Or.inl (List.mem_filter.1 h).1
open Go.RowKit
theorem big_no (a:Option Addr) (len cap:Nat) (h:len<=1048576) (w:World):Calls Tryz.prog 5 #[.slice a len cap] w fun e w'=>e= .returned (.bool false)/\w=w':=by
 have hq:decide ((1048576:Int)<(len:Int))=false:=by simp;omega
 go_enter Tryz.func5,Tryz.ntmps5
 go_wp2
 go_ret;exact ⟨rfl,rfl⟩
theorem big_yes (a:Option Addr) (len cap:Nat) (h:1048576<len) (w:World):Calls Tryz.prog 5 #[.slice a len cap] w fun e w'=>e= .returned (.bool true)/\w=w':=by
 have hq:decide ((1048576:Int)<(len:Int))=true:=by simp;omega
 go_enter Tryz.func5,Tryz.ntmps5
 go_wp2
 go_ret;exact ⟨rfl,rfl⟩
theorem Tryz.infoInt:(Tryz.prog.info? 3).map (fun i=>(i.zero,i.size,i.bytes))=some (some (.int .i64 0),1,8):=by kernel_rfl
def intVs (zs:List Nat):List Value:=zs.map fun (z:Nat)=>Value.int .i64 (z:Int)
theorem zna {w:World} {B B' e sz n:Nat} {v:Value} {xs:List Value} (h:w.ownsRow B e sz v n xs) (hb:B'<=B):w.ownsRow B' e sz v n xs:=by
 refine ⟨h.1,?_⟩
 rcases h.2 with h0 | ⟨g,cap,cur,e1,hg,rest⟩
 ·exact Or.inl h0
 ·exact Or.inr ⟨g,cap,cur,e1,Nat.le_trans hb hg,rest⟩
theorem zh3 (a:Option Addr) (len cap:Nat) (w:World) (hd:CodeIn w w.heap.size a len):
  Calls Tryz.prog 9 #[.slice a len cap] w fun e w'=>∃(v:Value) (zs:List Nat),zs.length=12/\(∀z∈zs,z<10000)/\e= .returned v/\w'.ownsRow w.heap.size 3 1 v 12 (intVs zs)/\Below w.heap.size w w':=by
 obtain ⟨i0,hi,hz0,hz1,hz2⟩:=info_parts Tryz.infoInt;have HD:=hide hd;clear hd;go_enter Tryz.func9,Tryz.ntmps9;go_wp2_with fail;refine (zhb a len cap _ HD.out).mono ?_;rintro e w1 ⟨rfl,hc,hd1,hb⟩;have HC:=hide hc;have HD1:=hide hd1;have HB:=hide hb;clear hc hd1 hb;go_wp2_with fail;refine (zca w.heap.size w.heap.size a len cap _ HC.out HD1.out (Nat.le_refl _)).mono ?_;rintro e w2 ⟨x,hx,rfl,h2⟩
 have HB2:Hid (Below w.heap.size w w2):=hide (HB.out.grown h2.2.1 HB.out.size (fun k hk=>by cases hk;exact Nat.le_refl _))
 have hgl:w.heap.size<w2.heap.size:=zha h2.1;have H2:=hide h2;clear h2;go_wp2_with fail
 go_loopg [4,5] 12 (fun q v iv wr=>∃zs:List Nat,zs.length<=12/\iv= .int .i64 (zs.length:Int)/\q+zs.length=12/\wr.ownsRow w2.heap.size 3 1 v zs.length (intVs zs)/\Hid (∀z∈zs,z<10000)/\Hid (CurAt wr w.heap.size a len cap)/\Hid (w2.grownBy wr (some w.heap.size)))
 case atStart=>exact ⟨[],by simp,rfl,rfl,by simpa [intVs] using World.ownsRow_lit (base:=w2.heap.size) (e:=3) (size:=1) w2 #[] 0 (Nat.le_refl _) (by unfold maxLen;omega) (by simp),hide (fun z h=>by cases h),hide (zdi H2.out.1 (World.grownBy_alloc w2 _ none) (by simp)),hide (World.grownBy_alloc w2 _ _)⟩
 case round=>
  obtain ⟨zs,hl,rfl,hg,hown,HZ,HCu,HGr⟩:=hrel;have HG:=hide hg;clear hg;have hws:=HGr.out.size
  by_cases hlt:zs.length<12
  ·go_wp2_with fail
   refine (zdh w.heap.size w.heap.size a len cap 10000 (by omega) (by omega) _ HCu.out (zdJ H2.out.2.2 HGr.out (Nat.le_refl _) hgl) (Nat.le_refl _)).mono ?_
   rintro e w3 ⟨x,hx,rfl,h1⟩
   have hown2:=hown.kept h1.2.1 (Or.inr (fun e=>by have:=(hown.lt w.heap.size e).1;omega))
   have H1:=hide h1;have hws2:=h1.2.1.size;clear h1 hown
   go_wp2_with (at_builtin;refine wpList_append_own _ rfl _ _ 32 rfl w2.heap.size 3 i0 (.int .i64 0) 1 8 Tryz.underlying32 hi hz0 hz1 hz2 rfl (by decide) _ _ _ rfl (hown2.alloc _) ⟨w3.heap.size,0,none⟩ 1 1 [.int .i64 (x:Int)] rfl rfl ?c1 ?c2 ?c3 ?c4 ?c5 ?_)
   case c1=>
    intro j u hj
    match j,hj with
    | 0,hj=>simp at hj;subst hj;simp [Addr.add]
   case c2=>intro u hu;simp at hu;subst hu;rfl
   case c3=>unfold maxLen;omega
   case c4=>omega
   case c5=>simp;omega
   intro v' w4 hown3 hgrow _
   have hown4:w4.ownsRow w2.heap.size 3 1 v' (zs++ [x]).length (intVs (zs++ [x])):=by
    rw [List.length_append,intVs,List.map_append];exact hown3
   have HGr3:Hid (w2.grownBy w4 (some w.heap.size)):=hide (zlw (za3 HGr.out H1.out.2.1) hgrow (fun k hk=>(hown2.lt k hk).1))
   have HCu3:Hid (CurAt w4 w.heap.size a len cap):=hide (zdi (zdi H1.out.1 (World.grownBy_alloc w3 _ none) (by simp)) hgrow (fun e=>by have:=(hown2.lt w.heap.size e.symm).1;omega))
   have HZ3:Hid (∀z∈zs++ [x],z<10000):=hide (fun z hz=>by rcases List.mem_append.1 hz with h | h;exact HZ.out z h;(simp at h;omega))
   clear hown3 hgrow hown2;go_wp2_with fail
   go_roundg (gk - 1)
   case measure=>have:=HG.out;omega
   case rel=>exact ⟨zs++ [x],by simp;omega,by rw [List.length_append];go_num,by have:=HG.out;simp;omega,hown4,HZ3,HCu3,HGr3⟩
  ·have hl12:zs.length=12:=by omega
   rw [hl12] at hown;go_wp2_with fail;go_ret
   exact ⟨_,zs,hl12,HZ.out,rfl,zna hown (by omega),HB2.out.grown HGr.out HB2.out.size (fun k hk=>by cases hk;exact Nat.le_refl _)⟩
open Go.RowKit
theorem zjt (g B:Nat) (a:Option Addr) (len cap:Nat) (zs:List ByteArray) (n:Nat) (hzn:zs.length=n) (hz:0<n) (hz1:n<=1000) (r c:Nat) (w:World) (hc:CurAt w g a len cap) (hd:CodeIn w B a len) (hB:B<=g) (hr:r≠g) (hrl:r<w.heap.size)
  (hrow:∀j,j<n->w.cell? ⟨r,j,none⟩=some (.string (zs.getD j ⟨#[]⟩))):
  Calls Tryz.prog 36 #[.pointer (some ⟨g,0,none⟩),.slice (some ⟨r,0,none⟩) n c] w fun e w'=>∃z:ByteArray,z∈zs/\e= .returned (.string z)/\Drawn w w' g B a len cap:=by
 have HD:=hide hd;have HC:=hide hc;have HR:=hide hrow;have HZn:=hide hzn;clear hd hc hrow hzn;go_enter Tryz.func36,Tryz.ntmps36;go_wp2_with fail
 refine (zdh g B a len cap n hz (by omega) _ HC.out HD.out hB).mono ?_
 rintro e w1 ⟨x,hx,rfl,h1⟩
 have hcell:w1.cell? ⟨r,x,none⟩=some (.string (zs.getD x ⟨#[]⟩)):=by
  rw [World.cell?_of_block (h1.2.1.block r hrl (by simpa using hr))];exact HR.out x hx
 have hm:zs.getD x ⟨#[]⟩∈zs:=by
  have hx':x<zs.length:=by rw [HZn.out];exact hx
  rw [List.getD,List.getElem?_eq_getElem hx'];exact List.getElem_mem hx'
 obtain ⟨y,hy⟩:∃y,y=zs.getD x ⟨#[]⟩:=⟨_,rfl⟩;rw [<-hy] at hcell hm;have HM:=hide hm;have H1:=hide h1
 have hi0:(0:Int)<=(x:Int):=by omega
 have hi1:(x:Int)<(n:Int):=by omega
 clear h1 hm hy hr;go_wp2_with fail;go_ret;exact ⟨y,HM.out,rfl,H1.out⟩
theorem zgK (g B:Nat) (a:Option Addr) (len cap:Nat) (zs:List ByteArray) (n:Nat) (hn:zs.length=n) (h0:0<n) (h1:n<=1000) (w:World) (r:Nat) (hr:r=w.heap.size) (hc:CurAt w g a len cap) (hd:CodeIn w B a len) (hB:B<=g) (cs:Array Value) (he:cs=(zs.map Value.string).toArray):
  Calls Tryz.prog 36 #[.pointer (some ⟨g,0,none⟩),.slice (some ⟨r,0,none⟩) n n] (w.alloc (Obj.cells cs 9)) fun e w'=>∃z:ByteArray,z∈zs/\e= .returned (.string z)/\Drawn w w' g B a len cap:=by
 have hgl:=zha hc;have hg:=World.grownBy_alloc w (Obj.cells cs 9) (some g);subst he hn hr
 refine (zjt g B a len cap zs zs.length rfl h0 h1 w.heap.size zs.length _ (zdi hc (World.grownBy_alloc w _ none) (by simp)) (zdJ hd hg hB hgl) hB (by omega) (by simp) (fun j hj=> ?_)).mono ?_
 ·rw [(za0 (heap_alloc_new w _) j).1]
  simp [List.getD,hj]
 ·rintro e w2 ⟨z,hz,rfl,h2⟩
  exact ⟨z,hz,rfl,h2.1,za3 hg h2.2.1,h2.2.2⟩
open Go.RowKit
theorem zkY (g B:Nat) (a:Option Addr) (len cap:Nat) (w:World) (hc:CurAt w g a len cap) (hd:CodeIn w B a len) (hB:B<=g):
  Calls Tryz.prog 35 #[.pointer (some ⟨g,0,none⟩)] w fun e w'=>∃z:ByteArray,z∈bases/\e= .returned (.string z)/\Drawn w w' g B a len cap:=by
 have HP:=hide (zgK g B a len cap bases 16 rfl (by omega) (by omega) w w.heap.size rfl hc hd hB _ rfl)
 clear hc hd;go_enter Tryz.func35,Tryz.ntmps35;go_wp2_with fail;refine HP.out.mono ?_;rintro e w1 ⟨z,hz,rfl,h1⟩;have H1:=hide h1;have HZ:=hide hz;clear h1 hz;go_wp2_with fail;go_ret;exact ⟨z,HZ.out,rfl,H1.out⟩
open Go.RowKit
def DrwP (L:List (ByteArray×ByteArray)):Prop:=AscM L/\L.length<=20/\∀p∈L,p.1.size<=8/\p.2.size<=8
theorem zeL {w w':World} {B e sz n g:Nat} {v:Value} {xs:List Value} (h:w.ownsRow B e sz v n xs) (hg:w.grownBy w' (some g)) (hB:g<B):w'.ownsRow B e sz v n xs:=by
 refine ⟨h.1,?_⟩
 rcases h.2 with ⟨rfl,hn⟩ | ⟨b,cap,cur,rfl,hb,hh,rest⟩
 ·exact Or.inl ⟨rfl,hn⟩
 ·refine Or.inr ⟨b,cap,cur,rfl,hb,?_,rest⟩
  rw [hg.block b (Array.getElem?_eq_some_iff.1 hh).1 (fun e=>by injection e with e;omega)]
  exact hh
theorem zhn {w w1 w2:World} {g B:Nat} {a:Option Addr} {len cap:Nat} (h:Drawn w w1 g B a len cap) (hb:Below w1.heap.size w1 w2) (hB:B<=g):Drawn w w2 g B a len cap:=by
 have hg:w1.grownBy w2 none:=⟨hb.os,hb.tape,hb.output,hb.size,fun k hk _=>hb.block k hk⟩
 have hg':w1.grownBy w2 (some g):=⟨hb.os,hb.tape,hb.output,hb.size,fun k hk _=>hb.block k hk⟩
 exact ⟨zdi h.1 hg (by simp),za3 h.2.1 hg',zdJ h.2.2 hg' hB (zha h.1)⟩
theorem ziN (g B:Nat) (a:Option Addr) (len cap:Nat) (w:World) (hc:CurAt w g a len cap) (hd:CodeIn w B a len) (hB:B<=g):
  Calls Tryz.prog 18 #[.pointer (some ⟨g,0,none⟩)] w fun e w'=>∃(L:List (ByteArray×ByteArray)) (v':Value),e= .returned v'/\DrwP L/\w'.ownsRow w.heap.size 41 2 v' L.length (prq L)/\Drawn w w' g B a len cap:=by
 have hgl:=zha hc
 have hD0:Drawn w w g B a len cap:=⟨hc,⟨rfl,rfl,rfl,Nat.le_refl _,fun _ _ _=>rfl⟩,hd⟩
 have hS0:=zg1 (zaB (zcV w.heap.size w) (Obj.cells #[] 41) (Nat.le_refl _));have HO0:=hide (za2 hS0 0 rfl:(w.alloc (Obj.cells #[] 41)).ownsRow w.heap.size 41 2 (.slice (some ⟨w.heap.size,0,none⟩) 0 0) 0 []);have HD0:=hide (zhn hD0 ((Below.refl w.heap.size w).alloc (Nat.le_refl _) (Obj.cells #[] 41)) hB);clear hS0 hD0 hc hd;go_enter Tryz.func18,Tryz.ntmps18;go_wp2_with fail
 go_loopg [3,4] 20 (fun q lv iv wr=>∃(i:Nat) (L:List (ByteArray×ByteArray)) (v:Value),i<=20/\q+i=20/\iv= .int .i64 (i:Int)/\v=lv/\Hid (DrwP L/\L.length<=i)/\Hid (wr.ownsRow w.heap.size 41 2 v L.length (prq L))/\Hid (Drawn w wr g B a len cap))
 case atStart=>exact ⟨0,[],_,Nat.zero_le _,rfl,rfl,rfl,hide ⟨⟨List.Pairwise.nil,Nat.zero_le _,fun p hp=>by cases hp⟩,Nat.le_refl _⟩,HO0,HD0⟩
 case round=>
  clear HO0 HD0;obtain ⟨i,L,v,hi20,hq,rfl,rfl,HL,HO,HD⟩:=hrel;have HQ:=hide hq;clear hq;go_wp2_with fail
  refine (zdh g B a len cap 20 (by omega) (by omega) wr HD.out.1 HD.out.2.2 hB).mono ?_
  rintro e w2 ⟨x,hx,rfl,hd2⟩;have HO2:=hide (zeL HO.out hd2.2.1 hgl);have HD2:=hide (zbl HD.out hd2);clear HO HD hd2
  by_cases hlt:i<x
  ·have hlt':(i:Int)<(x:Int):=by omega
   go_wp2_with fail;refine (zkY g B a len cap w2 HD2.out.1 HD2.out.2.2 hB).mono ?_;rintro e w3 ⟨z,hz,rfl,hd3⟩;have hzs:=zkL hz;have HO3:=hide (zeL HO2.out hd3.2.1 hgl);have HD3:=hide (zbl HD2.out hd3)
   have HPk:=hide (zgK g B a len cap [⟨#[]⟩,⟨#[49]⟩] 2 rfl (by omega) (by omega) w3 w3.heap.size rfl HD3.out.1 HD3.out.2.2 hB #[.string ⟨#[]⟩,.string ⟨#[49]⟩] rfl)
   clear HO2 HD2 hd3 hz;go_wp2_with fail;refine HPk.out.mono ?_;rintro e w4 ⟨y,hy,rfl,hd4⟩
   have hys:y.size<=1:=by simp at hy;rcases hy with rfl | rfl <;> decide
   have HO4:=hide (zeL HO3.out hd4.2.1 hgl);have HD4:=hide (zbl HD3.out hd4)
   have HPk2:=hide (zgK g B a len cap [⟨#[]⟩,⟨#[118]⟩] 2 rfl (by omega) (by omega) w4 w4.heap.size rfl HD4.out.1 HD4.out.2.2 hB #[.string ⟨#[]⟩,.string ⟨#[118]⟩] rfl)
   clear HO3 HD3 hd4 hy HPk;go_wp2_with fail;refine HPk2.out.mono ?_;rintro e w5 ⟨u,hu,rfl,hd5⟩
   have hus:u.size<=1:=by simp at hu;rcases hu with rfl | rfl <;> decide
   have HO5:=hide (zeL HO4.out hd5.2.1 hgl);have HD5:=hide (zbl HD4.out hd5);clear HO4 HD4 hd5 hu HPk2
   have HMp:=hide (zfE L (by have:=HL.out.2;omega) (z++y) u v w5 (zaa HO5.out))
   have HL6:Hid (DrwP (modelP L (z++y) u)/\(modelP L (z++y) u).length<=i+1):=hide (by
    obtain ⟨⟨q1,q2,q3⟩,q4⟩:=HL.out;have hm:=zkW L (z++y) u
    refine ⟨⟨zkV q1 _ _,by omega,fun p hp=> ?_⟩,by omega⟩
    rcases zkX hp with hp | rfl
    ·exact q3 p hp
    ·refine ⟨?_,?_⟩
     ·show (z++y).size<=8
      rw [ByteArray.size_append]
      omega
     ·show u.size<=8
      omega)
   go_wp2_with fail;refine HMp.out.mono ?_;rintro e w6 ⟨v6,rfl,ho6,hb6⟩
   have HO6:=hide (zad ho6 (by have:=HD5.out.2.1.size;exact this))
   have HD6:=hide (zhn HD5.out hb6 hB);clear ho6 hb6 HO5 HD5 HMp;go_wp2_with fail
   go_roundg (gk - 1)
   case measure=>have:=HQ.out;omega
   case rel=>exact ⟨i+1,_,_,by omega,by have:=HQ.out;omega,by go_num,rfl,HL6,HO6,HD6⟩
  ·have hlt':¬(i:Int)<(x:Int):=by omega
   go_wp2_with fail;go_ret;exact ⟨L,v,rfl,HL.out.1,HO2.out,HD2.out⟩
open Go.RowKit
def manyI (n t i:Nat):Nat:=if n % 7=0 then (i+t) % n else (i * 7+t) % n
noncomputable def manyS (l:Prs) (t:Nat):Nat->Wk×Int
 | 0=>(newS (newP 40) [] ⟨0,0,2,[]⟩ 0,0)
 | i+1=>((putS (manyS l t i).1 (manyS l t i).2 (l.getD (manyI l.length t i) (⟨#[]⟩,⟨#[]⟩)).1 (l.getD (manyI l.length t i) (⟨#[]⟩,⟨#[]⟩)).2).1,(putS (manyS l t i).1 (manyS l t i).2 (l.getD (manyI l.length t i) (⟨#[]⟩,⟨#[]⟩)).1 (l.getD (manyI l.length t i) (⟨#[]⟩,⟨#[]⟩)).2).2.1)
theorem zmi:diskOkB (newP 40) []=true:=by decide
theorem zho (l:Prs) (t:Nat):PutSt (manyS l t 0).1 (manyS l t 0).2 [] [] 20:=by
 have e:(manyS l t 0).1=⟨newP 40,[],2,[],[],[]⟩:=by
  have h:srtL ([]:List Int)= []:=List.mergeSort_nil
  show newS (newP 40) [] ⟨0,0,2,[]⟩ 0=_
  unfold newS
  rw [show upF (⟨0,0,2,[]⟩:Mt).fs 0 (⟨0,0,2,[]⟩:Mt).fs.length= [] from rfl,h]
 have hp:(newP 40).length=40:=by decide
 rw [show (manyS l t 0).2=0 from rfl,e]
 refine ⟨⟨by simp,List.nodup_nil,List.nodup_nil,(fun x hx=>by cases hx),(fun x hx=>by cases hx),(fun x hx=>by cases hx),(fun x hx=>by cases hx),(fun x hx=>by cases hx),fun x hx=> ?_,by show (newP 40).length<=_;rw [hp];omega,(fun x hx=>by cases hx),by show (2:Int)<=((newP 40).length:Int);rw [hp];decide,(fun x hx=>by cases hx)⟩,⟨List.Pairwise.nil,(fun x hx=>by cases hx),(fun x hx=>by cases hx),(fun x hx=>by cases hx),by show (newP 40).length<=_;rw [hp];omega,by show (0:Int)<=2;decide⟩,(fun x hx=>by cases hx),List.nodup_nil,Or.inl ⟨rfl,rfl,rfl⟩,fun x=> ?_,zmi,hp,rfl,by show (2:Int)<=2;decide,?_,by simp,by simp,List.Pairwise.nil⟩
 ·simp at hx
  show 0<=x/\x<2
  omega
 ·show 0+0=newC 2 2 x
  unfold newC
  rw [if_neg (by omega)]
 ·refine ⟨by show (newP 40).length<=_;rw [hp];omega,fun s hs=> ?_,by simp,(fun p hp=>by cases hp),by simp,by simp,by simp⟩
  have hs:s∈newP 40:=hs
  rw [show newP 40=List.replicate 40 ⟨#[]⟩ from rfl] at hs
  rw [List.eq_of_mem_replicate hs]
  decide
end Go.Proofs.YtcbogiebfbbmbaaGreatDoor
