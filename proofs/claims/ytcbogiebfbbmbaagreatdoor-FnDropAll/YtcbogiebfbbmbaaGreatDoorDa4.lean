/-
  Facts and contracts that the law's own text rests on, by their texts' names: Plain16.
-/
import Derived.Test.YtcbogiebfbbmbaaGreatDoorDa3
set_option maxHeartbeats 16000000
set_option maxRecDepth 100000
namespace Go.Proofs.YtcbogiebfbbmbaaGreatDoor
open Go.RowKit
structure Nd where
 lf:Bool
 ks:List ByteArray
 vs:List ByteArray
 cs:List Int
def Nd.ok (n:Nd):Bool:=nodeOkB n.lf n.ks n.vs n.cs
def Nd.none:Nd:=⟨false,[],[],[]⟩
def IsIn (s:ByteArray) (n:Nd):Prop:=n.ok=true/\nodeB n.lf n.ks n.vs n.cs=s
def IsNd (t:ByteArray) (n:Nd):Prop:=n.ok=true/\nodeT n.lf n.ks n.vs n.cs=t
theorem zf3 (lf:Bool) (ks vs:List ByteArray) (cs:List Int):(nodeT lf ks vs cs).data.toList=sealL (nodeB lf ks vs cs).data.toList:=by rw [nodeT]
theorem zcT {t:ByteArray} (h:isSealed t.data.toList=false):∀n,¬IsNd t n:=fun n hn=>by
 have h1:=(zdG hn.1).1
 have h2:=zmy (nodeB n.lf n.ks n.vs n.cs).data.toList (by rw [zch];omega)
 rw [<-zf3,hn.2,h] at h2
 cases h2
theorem zbB {t:ByteArray} (h:isSealed t.data.toList=true) (n:Nd):IsNd t n↔IsIn (t.extract 0 (t.size - 4)) n:=by
 have h':=h;rw [isSealed,decide_eq_true_eq] at h';obtain ⟨h4,-,hs⟩:=h';rw [zch] at h4 hs
 have he:(t.extract 0 (t.size - 4)).data.toList=t.data.toList.take (t.size - 4):=by rw [Lib.extract_data,List.drop_zero,Nat.sub_zero]
 have ht:t.data.toList=sealL (t.extract 0 (t.size - 4)).data.toList:=by
  rw [he,sealL,<-hs,List.take_append_drop]
 constructor
 ·rintro ⟨h1,h2⟩
  refine ⟨h1,?_⟩;have h3:=zf3 n.lf n.ks n.vs n.cs;rw [h2] at h3
  have h5:(nodeB n.lf n.ks n.vs n.cs).size=t.size - 4:=by
   have:=congrArg List.length h3;rw [zdd,zch,zch] at this
   omega
  apply ByteArray.ext
  apply Array.toList_inj.1
  rw [he,h3,sealL,List.take_left' (by rw [zch,h5])]
 ·rintro ⟨h1,h2⟩
  refine ⟨h1,?_⟩
  apply ByteArray.ext
  apply Array.toList_inj.1
  rw [zf3,h2,<-ht]
def Nd.even (n:Nd):Prop:=(n.lf=true->n.vs.length=n.ks.length/\n.cs= [])/\(n.lf=false->n.cs.length=n.ks.length/\n.vs= [])
theorem zbj {n:Nd} (h:n.ok=true):n.even:=by
 obtain ⟨-,-,h3,h4⟩:=zaX (zam h).1
 exact ⟨fun e=>⟨(h3 e).1,List.length_eq_zero_iff.1 (h3 e).2⟩,fun e=>⟨(h4 e).1,List.length_eq_zero_iff.1 (h4 e).2⟩⟩
theorem zhC {α:Type} (l m:List α) (k:Nat) (d:α) (h:k<l.length):(l++m).getD k d=l.getD k d:=by
 simp only [List.getD_eq_getElem?_getD,List.getElem?_append_left h]
theorem zci {α:Type} (l m:List α) (x d:α):(l++x :: m).getD l.length d=x:=by
 simp [List.getD_eq_getElem?_getD]
theorem zlh (lf:Bool) (vs us:List ByteArray) (cs ds:List Int) (k:Nat) (h1:lf=true->k<vs.length) (h2:lf=false->k<cs.length):sideT lf (vs++us) (cs++ds) k=sideT lf vs cs k:=by
 cases lf with
 | true=>rw [sideT,sideT,if_pos rfl,if_pos rfl,zhC _ _ _ _ (h1 rfl)]
 | false=>rw [sideT,sideT,if_neg (by decide),if_neg (by decide),zhC _ _ _ _ (h2 rfl)]
theorem zeq (lf:Bool) (cnt:Nat) (ks ls vs us:List ByteArray) (cs ds:List Int):∀k,k<=ks.length->(lf=true->k<=vs.length)->(lf=false->k<=cs.length)->nodeP lf cnt (ks++ls) (vs++us) (cs++ds) k=nodeP lf cnt ks vs cs k
 | 0,_,_,_=>rfl
 | k+1,h,h1,h2=>by
  rw [nodeP,nodeP,zeq lf cnt ks ls vs us cs ds k (by omega) (fun e=>by have:=h1 e;omega) (fun e=>by have:=h2 e;omega),zhC _ _ _ _ (by omega),zlh lf vs us cs ds k (fun e=>by have:=h1 e;omega) (fun e=>by have:=h2 e;omega)]
def Nd.pre (n:Nd) (cnt:Nat):ByteArray:=nodeP n.lf cnt n.ks n.vs n.cs n.ks.length
def Nd.snocV (n:Nd) (x y:ByteArray):Nd:=⟨n.lf,n.ks++ [x],n.vs++ [y],n.cs⟩
def Nd.snocC (n:Nd) (x:ByteArray) (z:Int):Nd:=⟨n.lf,n.ks++ [x],n.vs,n.cs++ [z]⟩
theorem zdH {n:Nd} (h:n.even) (hl:n.lf=true) (x y:ByteArray):(n.snocV x y).even:=
 ⟨fun _=>by simp [Nd.snocV,(h.1 hl).1,(h.1 hl).2],fun e=>by rw [show (n.snocV x y).lf=n.lf from rfl,hl] at e;cases e⟩
theorem zdI {n:Nd} (h:n.even) (hl:n.lf=false) (x:ByteArray) (z:Int):(n.snocC x z).even:=
 ⟨fun e=>by rw [show (n.snocC x z).lf=n.lf from rfl,hl] at e;(cases e),fun _=>by simp [Nd.snocC,(h.2 hl).1,(h.2 hl).2]⟩
theorem zga {n:Nd} (h:n.even) (hl:n.lf=true) (cnt:Nat) (x y:ByteArray):(n.snocV x y).pre cnt=n.pre cnt++shortB x++shortB y:=by
 have h1:=(h.1 hl).1
 have ha:=zeq n.lf cnt n.ks [x] n.vs [y] n.cs [] n.ks.length (Nat.le_refl _) (fun _=>by omega) (fun e=>by rw [hl] at e;cases e)
 rw [List.append_nil] at ha;unfold Nd.pre Nd.snocV;rw [List.length_append,List.length_singleton,nodeP,ha,zci,sideT,if_pos hl,<-h1,zci]
theorem zgb {n:Nd} (h:n.even) (hl:n.lf=false) (cnt:Nat) (x:ByteArray) (z:Nat):(n.snocC x (z:Int)).pre cnt=n.pre cnt++shortB x++⟨(vtext z).toArray⟩:=by
 have h1:=(h.2 hl).1
 have ha:=zeq n.lf cnt n.ks [x] n.vs [] n.cs [(z:Int)] n.ks.length (Nat.le_refl _) (fun e=>by rw [hl] at e;cases e) (fun _=>by omega)
 rw [List.append_nil] at ha;unfold Nd.pre Nd.snocC
 rw [List.length_append,List.length_singleton,nodeP,ha,zci,sideT,if_neg (by rw [hl];decide),<-h1,zci,Int.toNat_natCast]
def Goes (n m:Nd):Prop:=m.lf=n.lf/\(∃l,m.ks=n.ks++l)/\(∃l,m.vs=n.vs++l)/\∃l,m.cs=n.cs++l
theorem zfM {n m:Nd} (h:Goes n m) (he:n.even) (cnt:Nat):∀d,∃X,nodeP m.lf cnt m.ks m.vs m.cs (n.ks.length+d)=n.pre cnt++X
 | 0=>by
  obtain ⟨h0,⟨l,h1⟩,⟨u,h2⟩,⟨c,h3⟩⟩:=h;refine ⟨⟨#[]⟩,?_⟩
  rw [h0,h1,h2,h3,Nat.add_zero,zeq n.lf cnt n.ks l n.vs u n.cs c n.ks.length (Nat.le_refl _) (fun e=>by rw [(he.1 e).1];omega) (fun e=>by rw [(he.2 e).1];omega)]
  exact (ByteArray.append_empty).symm
 | d+1=>by
  obtain ⟨X,hX⟩:=zfM h he cnt d;rw [<-Nat.add_assoc,nodeP,hX,ByteArray.append_assoc,ByteArray.append_assoc];exact ⟨_,rfl⟩
def NTry (s:ByteArray) (cnt:Nat) (n:Nd) (p:Nat):Prop:=∀m,IsIn s m->m.ks.length=cnt/\Goes n m/\p=(n.pre cnt).size
theorem zcC {s:ByteArray} {m:Nd} (h:IsIn s m):2<=s.size/\byt s 0=(if m.lf=true then 108 else 98)/\rdV s 1=some (m.ks.length,(Nd.pre ⟨m.lf,[],[],[]⟩ m.ks.length).size):=by
 have h2:=(zdG h.1).2;rw [h.2] at h2;obtain ⟨c1,c2,-,-⟩:=zaX (zam h.1).1;have hg:Goes ⟨m.lf,[],[],[]⟩ m:=⟨rfl,⟨_,rfl⟩,⟨_,rfl⟩,⟨_,rfl⟩⟩
 obtain ⟨X,hX⟩:=zfM hg ⟨fun _=>⟨rfl,rfl⟩,fun _=>⟨rfl,rfl⟩⟩ m.ks.length m.ks.length
 have hs:s=headB m.lf++⟨(vtext m.ks.length).toArray⟩++X:=by
  rw [<-h.2,nodeB]
  rw [show (⟨m.lf,[],[],[]⟩:Nd).ks.length+m.ks.length=m.ks.length from Nat.zero_add _] at hX
  rw [hX];rfl
 refine ⟨h2,?_,?_⟩
 ·have h0:=zg9 ⟨#[]⟩ (headB m.lf) (⟨(vtext m.ks.length).toArray⟩++X)
  have hs':s=(⟨#[]⟩:ByteArray)++headB m.lf++(⟨(vtext m.ks.length).toArray⟩++X):=by
   rw [hs]
   rw [show (⟨#[]⟩:ByteArray)++headB m.lf=headB m.lf from ByteArray.empty_append,ByteArray.append_assoc]
  rw [<-hs',zc8] at h0
  have hb:=zd8 s 0 (by omega)
  have h3:(s.extract 0 1)[0]'(by rw [ByteArray.size_extract];omega)=(headB m.lf)[0]'(by rw [zc8];omega):=by
   congr 1
  rw [ByteArray.getElem_extract] at h3;rw [<-hb]
  simp only [Nat.zero_add] at h3
  rw [h3]
  cases m.lf <;> rfl
 ·have:=zlf s (headB m.lf) X m.ks.length (by omega) hs
  rw [zc8] at this;rw [this]
  rfl
theorem zfN {s:ByteArray} {cnt q:Nat} {lf:Bool} (hl:lf=decide (byt s 0=108)) (hr:rdV s 1=some (cnt,q)):NTry s cnt ⟨lf,[],[],[]⟩ q:=fun m hm=>by
 obtain ⟨h1,h2,h3⟩:=zcC hm;rw [hr] at h3
 simp only [Option.some.injEq,Prod.mk.injEq] at h3
 obtain ⟨rfl,rfl⟩:=h3
 have hml:m.lf=lf:=by
  rw [hl,h2]
  cases m.lf <;> rfl
 exact ⟨rfl,⟨hml,⟨_,rfl⟩,⟨_,rfl⟩,⟨_,rfl⟩⟩,by rw [hml]⟩
theorem zhD {s:ByteArray} (hr:rdV s 1=none):∀m,¬IsIn s m:=fun m hm=>by
 have h3:=(zcC hm).2.2;rw [hr] at h3
 cases h3
theorem zli {s:ByteArray} (h1:byt s 0≠108) (h2:byt s 0≠98):∀m,¬IsIn s m:=fun m hm=>by
 have h3:=(zcC hm).2.1
 split at h3
 ·exact h1 h3
 ·exact h2 h3
theorem zf4 {s:ByteArray} {cnt:Nat} {n m:Nd} {p:Nat} (h:NTry s cnt n p) (he:n.even) (hk:n.ks.length<cnt) (hm:IsIn s m):
  ∃x,rdS s p=some (x,(n.pre cnt++shortB x).size)/\
   ((n.lf=true/\∃y,rdS s (n.pre cnt++shortB x).size=some (y,((n.snocV x y).pre cnt).size)/\Goes (n.snocV x y) m)\/
   (n.lf=false/\∃z:Nat,rdV s (n.pre cnt++shortB x).size=some (z,((n.snocC x z).pre cnt).size)/\Goes (n.snocC x z) m)):=by
 obtain ⟨hc,hg,rfl⟩:=h m hm;have hg':=hg;obtain ⟨h0,⟨l,h1⟩,⟨u,h2⟩,⟨c,h3⟩⟩:=hg;obtain ⟨o1,o2,o3,o4⟩:=zam hm.1;have hme:=zbj hm.1
 cases l with
 | nil=>rw [List.append_nil] at h1;rw [h1] at hc;omega
 | cons x l=>
  have hx24:x.size<=20000:=by
   have:=zbQ (o2 n.ks.length (by rw [h1];simp))
   rw [h1,zci] at this
   omega
  refine ⟨x,?_⟩
  cases hl:n.lf with
  | true=>
   have hv:=(hme.1 (by rw [h0,hl])).1
   cases u with
   | nil=>rw [h1,h2,List.append_nil,(he.1 hl).1] at hv;simp at hv
   | cons y u=>
    have hy:y.size<=20000:=by
     have:=o3 n.vs.length (by rw [h2];simp)
     rw [h2,zci] at this
     omega
    have hgs:Goes (n.snocV x y) m:=⟨h0,⟨l,by rw [h1];simp [Nd.snocV]⟩,⟨u,by rw [h2];simp [Nd.snocV]⟩,⟨c,h3⟩⟩
    obtain ⟨X,hX⟩:=zfM hgs (zdH he hl x y) cnt (cnt - (n.snocV x y).ks.length)
    have hlen:(n.snocV x y).ks.length+(cnt - (n.snocV x y).ks.length)=cnt:=by simp [Nd.snocV];omega
    rw [hlen] at hX
    have hs:s=(n.snocV x y).pre cnt++X:=by rw [<-hm.2,nodeB,hc];exact hX
    rw [zga he hl] at hs
    refine ⟨zlg s (n.pre cnt) x (shortB y++X) hx24 (by rw [hs];simp only [ByteArray.append_assoc]),Or.inl ⟨rfl,y,?_,hgs⟩⟩
    rw [zga he hl];exact zlg s (n.pre cnt++shortB x) y X hy hs
  | false=>
   have hv:=(hme.2 (by rw [h0,hl])).1
   cases c with
   | nil=>rw [h1,h3,List.append_nil,(he.2 hl).1] at hv;simp at hv
   | cons z c=>
    have hz:=zdF (o4 n.cs.length (by rw [h3];simp))
    rw [h3,zci] at hz
    obtain ⟨k,rfl⟩:=Int.eq_ofNat_of_zero_le (show 0<=z by omega)
    have hgs:Goes (n.snocC x k) m:=⟨h0,⟨l,by rw [h1];simp [Nd.snocC]⟩,⟨u,h2⟩,⟨c,by rw [h3];simp [Nd.snocC]⟩⟩
    obtain ⟨X,hX⟩:=zfM hgs (zdI he hl x k) cnt (cnt - (n.snocC x k).ks.length)
    have hlen:(n.snocC x k).ks.length+(cnt - (n.snocC x k).ks.length)=cnt:=by simp [Nd.snocC];omega
    rw [hlen] at hX
    have hs:s=(n.snocC x k).pre cnt++X:=by rw [<-hm.2,nodeB,hc];exact hX
    rw [zgb he hl] at hs
    refine ⟨zlg s (n.pre cnt) x (⟨(vtext k).toArray⟩++X) hx24 (by rw [hs];simp only [ByteArray.append_assoc]),Or.inr ⟨rfl,k,?_,hgs⟩⟩
    rw [zgb he hl]
    exact zlf s (n.pre cnt++shortB x) X k (by omega) hs
theorem zfO {s:ByteArray} {cnt:Nat} {n:Nd} {p:Nat} (h:NTry s cnt n p) (he:n.even) (hk:n.ks.length<cnt) (hr:rdS s p=none):∀m,¬IsIn s m:=fun m hm=>by
 obtain ⟨x,h1,-⟩:=zf4 h he hk hm;rw [hr] at h1
 cases h1
theorem zjM {s:ByteArray} {cnt:Nat} {n:Nd} {p q:Nat} {x:ByteArray} (h:NTry s cnt n p) (he:n.even) (hk:n.ks.length<cnt) (hl:n.lf=true) (hr:rdS s p=some (x,q)) (hr2:rdS s q=none):∀m,¬IsIn s m:=fun m hm=>by
 obtain ⟨x',h1,⟨-,y,h2,-⟩ | ⟨h2,-⟩⟩:=zf4 h he hk hm
 ·rw [hr] at h1
  simp only [Option.some.injEq,Prod.mk.injEq] at h1
  rw [<-h1.2,hr2] at h2
  cases h2
 ·rw [hl] at h2;cases h2
theorem zjN {s:ByteArray} {cnt:Nat} {n:Nd} {p q:Nat} {x:ByteArray} (h:NTry s cnt n p) (he:n.even) (hk:n.ks.length<cnt) (hl:n.lf=false) (hr:rdS s p=some (x,q)) (hr2:rdV s q=none):∀m,¬IsIn s m:=fun m hm=>by
 obtain ⟨x',h1,⟨h2,-⟩ | ⟨-,z,h2,-⟩⟩:=zf4 h he hk hm
 ·rw [hl] at h2;cases h2
 ·rw [hr] at h1
  simp only [Option.some.injEq,Prod.mk.injEq] at h1
  rw [<-h1.2,hr2] at h2
  cases h2
theorem zlj {s:ByteArray} {cnt:Nat} {n:Nd} {p q r:Nat} {x y:ByteArray} (h:NTry s cnt n p) (he:n.even) (hk:n.ks.length<cnt) (hl:n.lf=true) (hr:rdS s p=some (x,q)) (hr2:rdS s q=some (y,r)):NTry s cnt (n.snocV x y) r:=fun m hm=>by
 obtain ⟨x',h1,⟨-,y',h2,h3⟩ | ⟨h2,-⟩⟩:=zf4 h he hk hm
 ·rw [hr] at h1
  simp only [Option.some.injEq,Prod.mk.injEq] at h1
  obtain ⟨rfl,h1⟩:=h1;rw [<-h1,hr2] at h2
  simp only [Option.some.injEq,Prod.mk.injEq] at h2
  obtain ⟨rfl,h2⟩:=h2;exact ⟨(h m hm).1,h3,h2⟩
 ·rw [hl] at h2;cases h2
theorem zlk {s:ByteArray} {cnt:Nat} {n:Nd} {p q r z:Nat} {x:ByteArray} (h:NTry s cnt n p) (he:n.even) (hk:n.ks.length<cnt) (hl:n.lf=false) (hr:rdS s p=some (x,q)) (hr2:rdV s q=some (z,r)):NTry s cnt (n.snocC x z) r:=fun m hm=>by
 obtain ⟨x',h1,⟨h2,-⟩ | ⟨-,z',h2,h3⟩⟩:=zf4 h he hk hm
 ·rw [hl] at h2;cases h2
 ·rw [hr] at h1
  simp only [Option.some.injEq,Prod.mk.injEq] at h1
  obtain ⟨rfl,h1⟩:=h1;rw [<-h1,hr2] at h2
  simp only [Option.some.injEq,Prod.mk.injEq] at h2
  obtain ⟨rfl,h2⟩:=h2;exact ⟨(h m hm).1,h3,h2⟩
theorem zh7 {s:ByteArray} {cnt:Nat} {n:Nd} {p:Nat} (h:NTry s cnt n p) (he:n.even) (hk:cnt<=n.ks.length):∀m,IsIn s m->m=n/\p=s.size:=fun m hm=>by
 obtain ⟨hc,⟨h0,⟨l,h1⟩,⟨u,h2⟩,⟨c,h3⟩⟩,rfl⟩:=h m hm;have hme:=zbj hm.1
 have hl:l= []:=List.eq_nil_of_length_eq_zero (by rw [h1,List.length_append] at hc;omega)
 subst hl;rw [List.append_nil] at h1
 have hu:u= []:=List.eq_nil_of_length_eq_zero (by
  cases hl:n.lf with
  | true=>have a:=(hme.1 (by rw [h0,hl])).1;have b:=(he.1 hl).1;rw [h2,h1,List.length_append] at a;omega
  | false=>have a:=(hme.2 (by rw [h0,hl])).2;rw [h2] at a;simp at a;rw [a.2];rfl)
 have hcc:c= []:=List.eq_nil_of_length_eq_zero (by
  cases hl:n.lf with
  | true=>have a:=(hme.1 (by rw [h0,hl])).2;rw [h3] at a;simp at a;rw [a.2];rfl
  | false=>have a:=(hme.2 (by rw [h0,hl])).1;have b:=(he.2 hl).1;rw [h3,h1,List.length_append] at a;omega)
 subst hu hcc;rw [List.append_nil] at h2 h3;obtain ⟨mlf,mks,mvs,mcs⟩:=m;obtain ⟨nlf,nks,nvs,ncs⟩:=n
 simp only at h0 h1 h2 h3 hc
 subst h0 h1 h2 h3;refine ⟨rfl,?_⟩;rw [<-hm.2,nodeB,<-hc,Nd.pre]
theorem zjO {s:ByteArray} {cnt:Nat} {n:Nd} {p:Nat} (h:NTry s cnt n p) (hk:4<cnt):∀m,¬IsIn s m:=fun m hm=>by
 have h1:=(h m hm).1;have h2:=(zaX (zam hm.1).1).2.1
 omega
def NHas (s:ByteArray) (cnt:Nat) (n:Nd) (p:Nat):Prop:=p<=s.size/\n.pre cnt=s.extract 0 p
theorem zjP {s:ByteArray} {cnt q:Nat} {lf:Bool} (hl:byt s 0=if lf=true then 108 else 98) (hr:rdV s 1=some (cnt,q)):NHas s cnt ⟨lf,[],[],[]⟩ q:=by
 obtain ⟨h1,h2,h3,h4⟩:=zcs hr;refine ⟨h2,?_⟩
 rw [zbA s 0 1 q (by omega) (by omega),h4]
 have:s.extract 0 1=headB lf:=by
  have h:=zcN s 0 1 (by omega)
  apply ByteArray.ext
  apply Array.toList_inj.1
  rw [h]
  have e:bytesTo (fun i=>byt s (0+i)) 1= [UInt8.ofNat (byt s 0)]:=rfl
  rw [e,hl]
  cases lf <;> rfl
 rw [this]
 rfl
theorem nh_val {s:ByteArray} {cnt:Nat} {n:Nd} {p q r:Nat} {x y:ByteArray} (h:NHas s cnt n p) (he:n.even) (hl:n.lf=true) (hr:rdS s p=some (x,q)) (hr2:rdS s q=some (y,r)):NHas s cnt (n.snocV x y) r:=by
 obtain ⟨a1,a2,a3,a4⟩:=zbf hr;obtain ⟨b1,b2,b3,b4⟩:=zbf hr2;refine ⟨b2,?_⟩
 rw [zga he hl,h.2,<-a4,<-b4,<-zbA s 0 p q (by omega) (by omega),<-zbA s 0 q r (by omega) (by omega)]
theorem nh_kid {s:ByteArray} {cnt:Nat} {n:Nd} {p q r z:Nat} {x:ByteArray} (h:NHas s cnt n p) (he:n.even) (hl:n.lf=false) (hr:rdS s p=some (x,q)) (hr2:rdV s q=some (z,r)):NHas s cnt (n.snocC x z) r:=by
 obtain ⟨a1,a2,a3,a4⟩:=zbf hr;obtain ⟨b1,b2,b3,b4⟩:=zcs hr2;refine ⟨b2,?_⟩
 rw [zgb he hl,h.2,<-a4,<-b4,<-zbA s 0 p q (by omega) (by omega),<-zbA s 0 q r (by omega) (by omega)]
theorem extract_all (t:ByteArray) (p:Nat) (h:t.size<=p):t.extract 0 p=t:=by
 apply ByteArray.ext
 apply Array.toList_inj.1
 rw [Lib.extract_data,List.drop_zero,List.take_of_length_le (by rw [zch];omega)]
theorem nh_end {s:ByteArray} {n:Nd} {p:Nat} (h:NHas s n.ks.length n p) (hp:p=s.size) (ho:n.ok=true):IsIn s n:=by
 refine ⟨ho,?_⟩;have:=h.2;rw [hp,extract_all s s.size (Nat.le_refl _)] at this;exact this
def ReadN (t:ByteArray) (n:Nd) (ok:Bool):Prop:=(ok=true/\IsNd t n/\∀m,IsNd t m->m=n)\/(ok=false/\n=Nd.none/\∀m,¬IsNd t m)
end Go.Proofs.YtcbogiebfbbmbaaGreatDoor
