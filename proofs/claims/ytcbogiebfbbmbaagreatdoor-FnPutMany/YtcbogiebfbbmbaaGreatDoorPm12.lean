/-
  Facts and contracts that the law's own text rests on, by their texts' names: TreePl5.
-/
import Derived.Test.YtcbogiebfbbmbaaGreatDoorPm11
set_option maxHeartbeats 16000000
set_option maxRecDepth 100000
namespace Go.Proofs.YtcbogiebfbbmbaaGreatDoor
open Go.RowKit
theorem zg5 {x y:ByteArray} (h:lessB x y=false) (k:lessB y x=false):x=y:=by
 have hg:=zjl x y;rw [k] at hg
 have hc:(Op.bytesLess x.toList y.toList || x.toList ==y.toList)=true:=by
  cases e:(Op.bytesLess x.toList y.toList || x.toList ==y.toList) with
  | true=>rfl
  | false=>rw [e] at hg;cases hg
 have hx:Op.bytesLess x.toList y.toList=false:=h;rw [hx,Bool.false_or] at hc;have:=zi1 x y;rw [hc] at this;exact of_decide_eq_true this.symm
theorem zel {n:Nd} (h:n.ok=true):0<n.ks.length:=(zaP (zan h).1).1
theorem zg6 {n:Nd} (h:n.ok=true):Asc (n.ks.zip n.vs):=by
 have ha:=zhx h;unfold AscK at ha;unfold Asc;rw [List.pairwise_iff_getElem] at ha⊢;intro i j hi hj hij;rw [List.length_zip] at hi hj
 simpa using ha i j (by omega) (by omega) hij
theorem zhF {R:Int->Nd×Bool}:∀(h:Nat) {p:Int} {f:ByteArray} {L:Prs} {P:List Int},IsTree R h p f L P->L≠ []
 | 0,_,_,_,_,ht=>ht.elim
 | h+1,p,f,L,P,⟨n,h1,h2,h3,h4⟩=>by
  have hp:=zel h2
  rcases h4 with ⟨a,b,c,d⟩ | ⟨a,P',c,d⟩
  ·have hv:=((zaY h2).1 a).1
   rw [c];intro e;have:=congrArg List.length e;rw [List.length_zip,List.length_nil] at this
   omega
  ·cases hk:n.ks with
   | nil=>rw [hk] at hp;simp at hp
   | cons x ks=>
    rw [hk] at c
    cases hc:n.cs with
    | nil=>rw [hc] at c;exact c.elim
    | cons y cs=>
     rw [hc] at c;obtain ⟨f,L1,P1,L2,P2,k1,-,-,-,e1,-⟩:=c;rw [e1];intro e;exact zhF h k1 (List.append_eq_nil_iff.1 e).1
theorem zkZ {T:Int->ByteArray->Prs->List Int->Prop} {y y':ByteArray} {ks:List ByteArray} {cs:List Int} {L:Prs} {P:List Int} (h:KidsOf T (y :: ks) cs L P) (hy:lessB y y'=false):KidsOf T (y' :: ks) cs L P:=by
 cases cs with
 | nil=>exact h.elim
 | cons c cs=>
  obtain ⟨f,L1,P1,L2,P2,k1,k2,k3⟩:=h;exact ⟨f,L1,P1,L2,P2,k1,le_trans hy k2,k3⟩
theorem zkf {T:Int->ByteArray->Prs->List Int->Prop} (hT:∀c f L P,T c f L P->geA f L):∀{ks:List ByteArray} {cs:List Int} {L:Prs} {P:List Int},KidsOf T ks cs L P->∀q∈L,∃y∈ks,lessB q.1 y=false
 | [],[],_,_,⟨e,_⟩,q,hq=>by rw [e] at hq;cases hq
 | y :: ks,c :: cs,_,_,⟨f,L1,P1,L2,P2,h1,h2,_,h4,e1,_⟩,q,hq=>by
  rw [e1] at hq
  rcases List.mem_append.1 hq with e | e
  ·exact ⟨y,List.mem_cons_self ..,le_trans h2 (hT _ _ _ _ h1 q e)⟩
  ·obtain ⟨z,hz,hz2⟩:=zkf hT h4 q e
   exact ⟨z,List.mem_cons_of_mem _ hz,hz2⟩
 | [],_ :: _,_,_,h,_,_=>h.elim
 | _ :: _,[],_,_,h,_,_=>h.elim
theorem zem {p:Int} {R:Wk×List ByteArray×List Int×Bool} (h:(finK p R).2.2.2=true):R.2.2.2=true:=by
 unfold finK at h
 split at h
 ·next e=>exact e
 ·cases h
theorem zl0 {q:ByteArray×ByteArray} {L:Prs} (h:Asc (q :: L)) (key val:ByteArray):((putL (q :: L) key val).map Prod.fst).getD 0 ⟨#[]⟩=if lessB key q.1=true then key else q.1:=by
 have h1:∀x∈L,lessB q.1 x.1=true:=(List.pairwise_cons.1 h).1;unfold putL
 by_cases e:lessB q.1 key=true
 ·rw [List.filter_cons_of_pos (p:=fun x:ByteArray×ByteArray=>lessB x.1 key) e,if_neg (by rw [zbu e];decide)]
  rfl
 ·have e':lessB q.1 key=false:=by simpa using e
  have hn:L.filter (fun x=>lessB x.1 key)= []:=zce (fun x hx=>by
   cases e2:lessB x.1 key with
   | false=>rfl
   | true=>rw [zap (h1 x hx) e2] at e';cases e')
  rw [List.filter_cons_of_neg (p:=fun x:ByteArray×ByteArray=>lessB x.1 key) e,hn]
  show key=_
  split
  ·rfl
  ·next hk=>exact zg5 (by simpa using hk) e'
theorem zit {α:Type} (l:List α) (a:Nat) (h:a<l.length):l=l.take a++l[a] :: l.drop (a+1):=by
 rw [<-List.drop_eq_getElem_cons h,List.take_append_drop]
theorem getD_lt {α:Type} (l:List α) (a:Nat) (h:a<l.length) (d:α):l.getD a d=l[a]:=by simp [List.getD_eq_getElem?_getD,h]
def FatT (R:Int->Nd×Bool):Nat->Int->Prop
 | 0,_=>True
 | h+1,p=>2<=(R p).1.ks.length/\((R p).1.lf=false->∀c∈(R p).1.cs,FatT R h c)
theorem zcA {T:Int->ByteArray->Prs->List Int->Prop}:∀{ks:List ByteArray} {cs:List Int} {L:Prs} {P:List Int},KidsOf T ks cs L P->∀c∈cs,∃f L1 P1,T c f L1 P1/\(∀x∈P1,x∈P)/\∀q∈L1,q∈L
 | [],[],_,_,_,c,hc=>by cases hc
 | _ :: _,y :: cs,_,_,⟨f,L1,P1,L2,P2,h1,_,_,h4,e1,e2⟩,c,hc=>by
  rcases List.mem_cons.1 hc with e | e
  ·subst e
   exact ⟨f,L1,P1,h1,fun x hx=>by rw [e2];exact List.mem_append_left _ hx,fun x hx=>by rw [e1];exact List.mem_append_left _ hx⟩
  ·obtain ⟨g,M1,Q1,k1,k2,k3⟩:=zcA h4 c e
   exact ⟨g,M1,Q1,k1,fun x hx=>by rw [e2];exact List.mem_append_right _ (k2 x hx),fun x hx=>by rw [e1];exact List.mem_append_right _ (k3 x hx)⟩
 | [],_ :: _,_,_,h,_,_=>h.elim
 | _ :: _,[],_,_,h,_,_=>h.elim
theorem zg7 {R R':Int->Nd×Bool}:∀(h:Nat) {p:Int} {f:ByteArray} {L:Prs} {P:List Int},IsTree R h p f L P->(∀x∈P,R' x=R x)->FatT R h p->FatT R' h p
 | 0,_,_,_,_,ht,_,_=>ht.elim
 | h+1,p,f,L,P,⟨n,h1,h2,h3,h4⟩,hG,⟨f1,f2⟩=>by
  rcases h4 with ⟨a,b,c,d⟩ | ⟨a,P',c,d⟩
  ·have e:=hG p (by rw [d];exact List.mem_singleton.2 rfl)
   refine ⟨by rw [e];exact f1,fun hl=> ?_⟩
   rw [e,h1] at hl;rw [a] at hl;cases hl
  ·have e:=hG p (by rw [d];exact List.mem_cons_self ..)
   refine ⟨by rw [e];exact f1,fun hl x hx=> ?_⟩
   rw [e,h1] at hx;obtain ⟨g,L1,P1,k1,k2,-⟩:=zcA c x hx
   exact zg7 h k1 (fun y hy=>hG y (by rw [d];exact List.mem_cons_of_mem _ (k2 y hy))) (f2 (by rw [h1];exact a) x (by rw [h1];exact hx))
theorem zhG {R R':Int->Nd×Bool} {h:Nat} {ks:List ByteArray} {cs:List Int} {L:Prs} {P:List Int} (hk:KidsOf (IsTree R h) ks cs L P) (hG:∀x∈P,R' x=R x) {c:Int} (hc:c∈cs) (hf:FatT R h c):FatT R' h c:=by
 obtain ⟨g,L1,P1,k1,k2,-⟩:=zcA hk c hc
 exact zg7 h k1 (fun y hy=>hG y (k2 y hy)) hf
theorem zjr (key val:ByteArray) {h:Nat} {k:Wk} {p:Int} {n:Nd} {F:ByteArray} {L:Prs} {P' X O:List Int} {a:Nat} (hX:Live k O X) (hP:Live k O (p :: P')) (hnd:(p :: P').Nodup) (hdj:∀x∈p :: P',x∉X) (h2:n.ok=true) (h3:F=n.ks.getD 0 ⟨#[]⟩) (hk:KidsOf (IsTree k.rd h) n.ks n.cs L P') (ha:a=(placeK n.ks key n.ks.length).toNat):
  a<n.cs.length/\∃g La Pa Y,IsTree k.rd h (n.cs.getD a 0) g La Pa/\Live k O (p :: Y)/\Live k O Pa/\Pa.Nodup/\(∀x∈Pa,x∉p :: Y)/\(∀x∈Pa,x∈P')/\
   ∀R,PutRes k R h (putL La key val) (p :: Y) O (if lessB key g=true then key else g) Pa->
    (∃PP,KidsOf (IsTree R.1.rd h) (midK n.ks a R.2.1 n.ks.length) (midC n.cs a R.2.2.1 n.ks.length) (putL L key val) PP/\Live R.1 O PP/\PP.Nodup/\∀x∈PP,x∉p :: X)/\0<(midK n.ks a R.2.1 n.ks.length).length/\Live R.1 O (p :: X)/\
    ((∀c∈n.cs,FatT k.rd h c)->(∀c∈R.2.2.1,FatT R.1.rd h c)->∀c∈midC n.cs a R.2.2.1 n.ks.length,FatT R.1.rd h c)/\
    ((halfS R.1 false (midK n.ks a R.2.1 n.ks.length) [] (midC n.cs a R.2.2.1 n.ks.length)).2.2.2=true->PutRes k (halfS R.1 false (midK n.ks a R.2.1 n.ks.length) [] (midC n.cs a R.2.2.1 n.ks.length)) (h+1) (putL L key val) (p :: X) O (if lessB key F=true then key else F) P'):=by
 have hlen:=zbj hk;have hpos:=zel h2;obtain ⟨p1,p2,p3⟩:=zg3 key hpos;rw [<-ha] at p1 p2 p3
 have hac:a<n.cs.length:=by omega
 have hsp:=hk;rw [zit n.ks a p1,zit n.cs a hac] at hsp
 obtain ⟨LA,PA,LR,PR,kA,kR,bA,rfl,rfl⟩:=(zcm (by rw [List.length_take,List.length_take];omega)).1 hsp
 obtain ⟨g,La,Pa,LB,PB,tA,gA,bB,kB,rfl,rfl⟩:=kR;rw [List.nodup_cons,List.nodup_append,List.nodup_append] at hnd;obtain ⟨np,nA,⟨na,nB,nab⟩,nAr⟩:=hnd;rw [List.mem_append,List.mem_append,not_or,not_or] at np
 have hlP:Live k O PA/\Live k O Pa/\Live k O PB:=⟨fun x hx=>hP x (by simp [hx]),fun x hx=>hP x (by simp [hx]),fun x hx=>hP x (by simp [hx])⟩
 have hpX:p∉X:=hdj p (List.mem_cons_self ..);have hc:n.cs.getD a 0=n.cs[a]:=getD_lt _ _ hac _
 have hX':Live k O (p :: (PA++PB++X)):=fun x hx=>by
  rcases List.mem_cons.1 hx with e | e
  ·exact hP x (by rw [e];exact List.mem_cons_self ..)
  ·rcases List.mem_append.1 e with e | e
   ·rcases List.mem_append.1 e with e | e
    ·exact hlP.1 x e
    ·exact hlP.2.2 x e
   ·exact hX x e
 have hdj':∀x∈Pa,x∉p :: (PA++PB++X):=fun x hx e=>by
  rcases List.mem_cons.1 e with e | e
  ·exact np.2.1 (e▸hx)
  ·rcases List.mem_append.1 e with e | e
   ·rcases List.mem_append.1 e with e | e
    ·exact nAr x e x (List.mem_append_left _ hx) rfl
    ·exact nab x hx x e rfl
   ·exact hdj x (List.mem_cons_of_mem _ (List.mem_append_right _ (List.mem_append_left _ hx))) e
 refine ⟨hac,g,La,Pa,PA++PB++X,by rw [hc];exact tA,hX',hlP.2.1,na,hdj',fun x hx=>by simp [hx],fun R hR=> ?_⟩
 obtain ⟨⟨Pn,kn,ln,nn,dn,an⟩,wn,lvn,sn,fn,-,on⟩:=hR
 have hTge:∀c f L P,IsTree R.1.rd h c f L P->geA f L:=fun _ _ _ _ ht=>zg2 h ht
 have kA':KidsOf (IsTree R.1.rd h) (n.ks.take a) (n.cs.take a) LA PA:=zcd (T:=IsTree k.rd h) (T':=IsTree R.1.rd h) (G:=fun x=>R.1.rd x=k.rd x) (fun _ _ _ _ ht hx=>zc5 h ht hx) kA (fun x hx=>sn x (by simp [hx]))
 have kB':KidsOf (IsTree R.1.rd h) (n.ks.drop (a+1)) (n.cs.drop (a+1)) LB PB:=zcd (T:=IsTree k.rd h) (T':=IsTree R.1.rd h) (G:=fun x=>R.1.rd x=k.rd x) (fun _ _ _ _ ht hx=>zc5 h ht hx) kB (fun x hx=>sn x (by simp [hx]))
 have hxa:n.ks.getD a ⟨#[]⟩=n.ks[a]:=getD_lt _ _ p1 _
 have hAkey:0<a->lessB key n.ks[a]=false:=fun h0=>by rw [<-hxa];exact p2 h0
 have hA0:a=0->LA= []:=fun h0=>by
  subst h0;exact kA.1
 have hLAx:ltA LA n.ks[a]:=bA _ (List.mem_cons_self ..)
 have hLAk:ltA LA key:=fun q hq=>by
  by_cases h0:a=0
  ·rw [hA0 h0] at hq;cases hq
  ·exact lt_le (hLAx q hq) (hAkey (by omega))
 have hBk:∀y∈n.ks.drop (a+1),lessB key y=true:=fun y hy=>by
  obtain ⟨j,hj,e⟩:=List.getElem_of_mem hy;rw [List.getElem_drop] at e;rw [List.length_drop] at hj
  have:=p3 (a+1+j) (by omega) (by omega)
  rw [getD_lt _ _ (by omega),e] at this
  exact this
 have hBq:∀q∈LB,lessB key q.1=true:=fun q hq=>by
  obtain ⟨y,hy,hy2⟩:=zkf hTge kB' q hq;exact lt_le (hBk y hy) hy2
 have hputL:putL (LA++(La++LB)) key val=LA++(putL La key val++LB):=by
  rw [<-List.append_assoc,znh hLAk hBq,List.append_assoc]
 have hkl:=zbj kn
 have hKne:∃k0 K1,R.2.1=k0 :: K1:=by
  cases hK:R.2.1 with
  | cons k0 K1=>exact ⟨k0,K1,rfl⟩
  | nil=>
   rw [hK] at kn
   cases hC:R.2.2.1 with
   | nil=>
    rw [hC] at kn;have:=kn.1;unfold putL at this
    simp at this
   | cons c C=>rw [hC] at kn;exact kn.elim
 obtain ⟨k0,K1,hK⟩:=hKne;rw [hK] at kn fn hkl
 have fn':k0=if lessB key g=true then key else g:=fn
 have hk0a:0<a->lessB k0 n.ks[a]=false:=fun h0=>by
  rw [fn']
  split
  ·exact hAkey h0
  ·exact gA
 obtain ⟨y',hy'⟩:∃y,y=firstK n.ks a R.2.1:=⟨_,rfl⟩
 have hyd:y'=if lessB k0 n.ks[a]=true then k0 else n.ks[a]:=by rw [hy',firstK,hK,hxa];rfl
 have hyk:lessB k0 y'=false:=by
  rw [hyd]
  split
  ·exact zao _
  ·next e=>simpa using e
 have kn':=zkZ kn hyk
 have hLAy:∀y∈(y' :: K1)++n.ks.drop (a+1),ltA LA y:=fun y hy=>by
  by_cases h0:a=0
  ·rw [hA0 h0];exact fun q hq=>by cases hq
  ·have hka:=hk0a (by omega)
   rcases List.mem_append.1 hy with e | e
   ·rcases List.mem_cons.1 e with e | e
    ·rw [e,hyd,if_neg (by rw [hka];decide)]
     exact hLAx
    ·cases hC:R.2.2.1 with
     | nil=>rw [hC] at kn;exact kn.elim
     | cons c C=>
      rw [hC] at kn;obtain ⟨f0,L0,P0,L9,P9,t0,u0,v0,-,-,-⟩:=kn;have hne:=zhF h t0
      cases hL0:L0 with
      | nil=>exact absurd hL0 hne
      | cons q0 M0=>
       have hq0:q0∈L0:=by rw [hL0];exact List.mem_cons_self ..
       have h5:lessB q0.1 n.ks[a]=false:=le_trans hka (le_trans u0 (zg2 h t0 q0 hq0))
       exact fun q hq=>zap (lt_le (hLAx q hq) h5) (v0 y e q0 hq0)
   ·exact bA y (List.mem_cons_of_mem _ e)
 have hNB:∀y∈n.ks.drop (a+1),ltA (putL La key val) y:=fun y hy q hq=>by
  rcases zhA hq with e | e
  ·rw [e];exact hBk y hy
  ·exact bB y hy q e
 have kall:KidsOf (IsTree R.1.rd h) (n.ks.take a++((y' :: K1)++n.ks.drop (a+1))) (n.cs.take a++(R.2.2.1++n.cs.drop (a+1))) (LA++(putL La key val++LB)) (PA++(Pn++PB)):=
  (zcm (by rw [List.length_take,List.length_take];omega)).2 ⟨LA,PA,_,_,kA',(zcm (by simpa using hkl)).2 ⟨_,Pn,LB,PB,kn',kB',hNB,rfl,rfl⟩,hLAy,rfl,rfl⟩
 have hmK:midK n.ks a R.2.1 n.ks.length=n.ks.take a++((y' :: K1)++n.ks.drop (a+1)):=by
  rw [zg4 _ _ _ _ (Nat.le_refl _),if_neg (by omega),<-hy',hK,List.take_length,List.append_assoc]
  rfl
 have hmC:midC n.cs a R.2.2.1 n.ks.length=n.cs.take a++(R.2.2.1++n.cs.drop (a+1)):=by
  rw [hlen,zhB _ _ _ _ (Nat.le_refl _),if_neg (by omega),List.take_length,List.append_assoc]
 rw [hmK,hmC]
 have hlvP:Live R.1 O (PA++(Pn++PB)):=zdA.2 ⟨fun x hx=>lvn x (by simp [hx]),zdA.2 ⟨ln,fun x hx=>lvn x (by simp [hx])⟩⟩
 have hndP:(PA++(Pn++PB)).Nodup:=by
  rw [List.nodup_append,List.nodup_append]
  refine ⟨nA,⟨nn,nB,fun x hx y hy e=>dn x hx (by rw [e];simp [hy])⟩,fun x hx y hy e=> ?_⟩
  rcases List.mem_append.1 hy with e' | e'
  ·exact dn y e' (by rw [<-e];simp [hx])
  ·exact nAr x hx y (List.mem_append_right _ e') e
 have hdjP:∀x∈PA++(Pn++PB),x∉p :: X:=fun x hx e=>by
  rcases List.mem_append.1 hx with hx | hx
  ·rcases List.mem_cons.1 e with e | e
   ·exact np.1 (e▸hx)
   ·exact hdj x (List.mem_cons_of_mem _ (List.mem_append_left _ hx)) e
  ·rcases List.mem_append.1 hx with hx | hx
   ·refine dn x hx ?_
    rcases List.mem_cons.1 e with e | e
    ·rw [e];exact List.mem_cons_self ..
    ·exact List.mem_cons_of_mem _ (List.mem_append_right _ e)
   ·rcases List.mem_cons.1 e with e | e
    ·exact np.2.2 (e▸hx)
    ·exact hdj x (List.mem_cons_of_mem _ (List.mem_append_right _ (List.mem_append_right _ hx))) e
 have hlX:Live R.1 O (p :: X):=fun x hx=>lvn x (by
  rcases List.mem_cons.1 hx with e | e
  ·rw [e];exact List.mem_cons_self ..
  ·exact List.mem_cons_of_mem _ (List.mem_append_right _ e))
 rw [hputL]
 refine ⟨⟨_,kall,hlvP,hndP,hdjP⟩,by simp;omega,hlX,fun f1 f2 c hc=> ?_,fun ho=> ?_⟩
 ·rcases List.mem_append.1 hc with e | e
  ·exact zhG kA (fun x hx=>sn x (by simp [hx])) e (f1 c (List.mem_of_mem_take e))
  ·rcases List.mem_append.1 e with e | e
   ·exact f2 c e
   ·exact zhG kB (fun x hx=>sn x (by simp [hx])) e (f1 c (List.mem_of_mem_drop e))
 have hres:=znk wn hlX kall hlvP hndP hdjP (by simp;omega) ho
 obtain ⟨r1,r2,r3,r4,r5,r6,r7⟩:=hres
 have hres':PutRes k (halfS R.1 false (n.ks.take a++((y' :: K1)++n.ks.drop (a+1))) [] (n.cs.take a++(R.2.2.1++n.cs.drop (a+1)))) (h+1) (LA++(putL La key val++LB)) (p :: X) O (if lessB key F=true then key else F) (PA++(Pa++PB)):=by
  refine ⟨?_,r2,r3,fun x hx=>(r4 x hx).trans (sn x ?_),r5.trans ?_,r6,fun x hx=>(r7 x hx).trans (on x hx)⟩
  ·obtain ⟨P9,s1,s2,s3,s4,s5⟩:=r1
   refine ⟨P9,s1,s2,s3,s4,by have:=an.1;have:=s5.1;omega,fun x=> ?_⟩
   have e1:=an.2 x;have e2:=s5.2 x;rw [zei an.1 s5.1,List.count_append,List.count_append];rw [List.count_append,List.count_append] at e2
   omega
  ·rcases List.mem_cons.1 hx with e | e
   ·rw [e];exact List.mem_cons_self ..
   ·exact List.mem_cons_of_mem _ (List.mem_append_right _ e)
  ·rw [h3]
   by_cases h0:a=0
   ·subst h0
    have e0:n.ks.getD 0 ⟨#[]⟩=n.ks[0]:=getD_lt _ _ p1 _
    show y'=_
    rw [e0,hyd,fn']
    by_cases e1:lessB key n.ks[0]=true
    ·have e2:lessB key g=true:=lt_le e1 gA
     rw [if_pos e2,if_pos e1]
    ·rw [if_neg e1]
     by_cases e2:lessB key g=true
     ·rw [if_pos e2,if_neg e1]
     ·rw [if_neg e2,if_neg (by rw [gA];decide)]
   ·have e0:n.ks.getD 0 ⟨#[]⟩=n.ks[0]:=getD_lt _ _ hpos _
    have e1:(n.ks.take a++((y' :: K1)++n.ks.drop (a+1))).getD 0 ⟨#[]⟩=n.ks[0]:=by
     rw [List.getD_eq_getElem?_getD,List.getElem?_append_left (by rw [List.length_take];omega),List.getElem?_take,if_pos (by omega),List.getElem?_eq_getElem hpos]
     rfl
    rw [e1,e0]
    have e2:lessB n.ks[0] n.ks[a]=true:=by
     have:=zhx h2;unfold AscK at this;rw [List.pairwise_iff_getElem] at this
     exact this 0 a hpos p1 (by omega)
    rw [if_neg];intro e3;have:=zap e3 e2
    rw [hAkey (by omega)] at this
    cases this
 exact hres'
theorem zdD (key val:ByteArray):∀(h f:Nat) (k:Wk) (p:Int) (F:ByteArray) (L:Prs) (P X O:List Int),h<=f->WOk k O->Live k O X->Live k O P->P.Nodup->(∀x∈P,x∉X)->IsTree k.rd h p F L P->(goPut key val f k p).2.2.2=true->
  PutRes k (goPut key val f k p) h (putL L key val) X O (if lessB key F=true then key else F) P
 | 0,_,_,_,_,_,_,_,_,_,_,_,_,_,_,ht,_=>ht.elim
 | h+1,0,_,_,_,_,_,_,_,hf,_,_,_,_,_,_,_=>by omega
 | h+1,f+1,k,p,F,L,P,X,O,hf,hw,hX,hP,hnd,hdj,⟨n,h1,h2,h3,h4⟩,ho=>by
  have hr:rdN (readD k.ps k.ls p)=(n,true):=h1
  rcases h4 with ⟨hl,hh,hLe,hPe⟩ | ⟨hl,P',hk,hPe⟩
  ·subst hh hLe hPe
   have hpX:p∉X:=hdj p (List.mem_singleton.2 rfl)
   have hlv:Live k O (p :: X):=fun x hx=>by
    rcases List.mem_cons.1 hx with e | e
    ·exact hP x (by rw [e];exact List.mem_singleton.2 rfl)
    ·exact hX x e
   have hne:n.ks.zip n.vs≠ []:=zhF 1 (R:=k.rd) (p:=p) (f:=F) (P:= [p]) ⟨n,h1,h2,h3,Or.inl ⟨hl,rfl,rfl,rfl⟩⟩;rw [zba hr hl,zhy] at ho⊢;have hres:=zir hw hlv (zhz (zg6 h2) key val) (zem ho);have hfin:=(zlX hres hpX (zem ho)).1
   have hfk:((putL (n.ks.zip n.vs) key val).map Prod.fst).getD 0 ⟨#[]⟩=if lessB key F=true then key else F:=by
    have ha:=zg6 h2
    cases hz:n.ks.zip n.vs with
    | nil=>exact absurd hz hne
    | cons q M=>
     rw [hz] at ha;rw [zl0 ha,h3]
     have hq:q.1=n.ks.getD 0 ⟨#[]⟩:=by
      cases hks:n.ks with
      | nil=>rw [hks] at hz;simp at hz
      | cons x ks=>
       cases hvs:n.vs with
       | nil=>rw [hks,hvs] at hz;simp at hz
       | cons y vs=>
        rw [hks,hvs] at hz
        simp only [List.zip_cons_cons,List.cons.injEq] at hz
        rw [<-hz.1]
        rfl
     rw [hq]
   rw [hfk] at hfin;exact hfin
  ·subst hPe
   obtain ⟨-,g,La,Pa,Y,tA,hY,hPa,na,hdj',-,hall⟩:=zjr key val hX hP hnd hdj h2 h3 hk rfl;obtain ⟨R,hR⟩:∃R,R=goPut key val f k (n.cs.getD (placeK n.ks key n.ks.length).toNat 0):=⟨_,rfl⟩;rw [zbd hr hl rfl hR] at ho⊢
   have hRo:R.2.2.2=true:=by
    cases e:R.2.2.2 with
    | true=>rfl
    | false=>rw [if_pos e,e] at ho;cases ho
   rw [if_neg (by rw [hRo];decide)] at ho⊢
   have ih:=zdD key val h f k _ g La Pa (p :: Y) O (by omega) hw hY hPa na hdj' tA (by rw [<-hR];exact hRo)
   rw [<-hR] at ih;exact (zlX ((hall R ih).2.2.2.2 (zem ho)) (hdj p (List.mem_cons_self ..)) (zem ho)).1
end Go.Proofs.YtcbogiebfbbmbaaGreatDoor
