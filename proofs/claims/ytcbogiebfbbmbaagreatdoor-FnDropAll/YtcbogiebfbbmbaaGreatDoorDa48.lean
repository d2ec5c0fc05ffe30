/-
  Facts and contracts that the law's own text rests on, by their texts' names: BuildOk.
-/
import Derived.Test.YtcbogiebfbbmbaaGreatDoorDa7
import Derived.Test.YtcbogiebfbbmbaaGreatDoorDa46
import Derived.Test.YtcbogiebfbbmbaaGreatDoorDa38
set_option maxHeartbeats 16000000
set_option maxRecDepth 100000
namespace Go.Proofs.YtcbogiebfbbmbaaGreatDoor
open Go.RowKit
structure BSt (k:Wk) (A:List Int) (m q:Nat):Prop where
 rq:Rmq k [0,1] m q
 jok:JOk k
 live:Live k [0,1] A
 nd:A.Nodup
 cnt:∀x,A.count x+k.us.count x=newC 2 k.next x
 ps:k.ps.length=40
 nx:2<=k.next
 sm:k.sm (61600+q)
theorem zku {k:Wk} {A A':List Int} {m q:Nat} (h:BSt k A m q) (hp:A.Perm A'):BSt k A' m q:=
 ⟨h.rq,h.jok,fun x hx=>h.live x (hp.mem_iff.2 hx),hp.nodup_iff.1 h.nd,fun x=>by rw [<-hp.count_eq];exact h.cnt x,h.ps,h.nx,h.sm⟩
theorem zmr {k:Wk} {A:List Int} {m q:Nat} (h:BSt k A (m+1) (q+1)) {lf:Bool} {ks vs:List ByteArray} {cs:List Int} (hn:nodeOkB lf ks vs cs=true):
  putP k lf ks vs cs≠0/\BSt (putK k lf ks vs cs) (putP k lf ks vs cs :: A) m q/\(putK k lf ks vs cs).rd (putP k lf ks vs cs)=(⟨lf,ks,vs,cs⟩,true)/\∀x∈A,(putK k lf ks vs cs).rd x=k.rd x:=by
 obtain ⟨hrq,hj,hl,hnd,hc,hps,hnx,hsm⟩:=h;obtain ⟨h1,h2⟩:=zka hrq hn;obtain ⟨-,-,-,-,w5,w6,w7⟩:=zhN hrq.wok h1;obtain ⟨l1,l2⟩:=w5 A hl;have ha:=zlS hrq.wok h1
 have hcc:(∀x,(putP k lf ks vs cs :: A).count x+(putK k lf ks vs cs).us.count x=newC 2 (putK k lf ks vs cs).next x)/\2<=(putK k lf ks vs cs).next:=by
  refine zhU (k:=k) (P:=A) ⟨ha.1,fun x=> ?_⟩ hc hnx hrq.gn h2.gn
  have e1:=ha.2 x;rw [List.count_cons];rw [List.count_singleton,List.count_nil] at e1
  omega
 exact ⟨h1,⟨h2,zji hj _ _ _ _,l1,List.nodup_cons.2 ⟨l2,hnd⟩,hcc.1,by rw [put_ps];exact hps,hcc.2,zlp hsm _ _ _ _⟩,w6,fun x hx=>w7 x (fun e=>l2 (e▸hx))⟩
theorem zms {k:Wk} {A:List Int} {m q:Nat} (h:BSt k A m q):∀x∈A,2<=x/\x<=39:=fun x hx=>by
 have h1:=zjC h.cnt x hx;have h2:=zlQ h.rq.wok h.live x hx;have h3:=h.rq.wok.nl;have h4:=h.ps
 simp at h1
 omega
theorem zdT {R R':Int->Nd×Bool} {h:Nat} {ks:List ByteArray} {cs:List Int} {L:Prs} {P:List Int} (hk:KidsOf (IsTree R h) ks cs L P) (hG:∀x∈P,R' x=R x):KidsOf (IsTree R' h) ks cs L P:=
 zcH (T:=IsTree R h) (T':=IsTree R' h) (G:=fun x=>R' x=R x) (fun _ _ _ _ ht hx=>zbq h ht hx) hk hG
theorem zj1 {T:Int->ByteArray->Prs->List Int->Prop} {ks:List ByteArray} {cs:List Int} {La Lj:Prs} {Pa Pj:List Int} {x:ByteArray} {c:Int} (h:KidsOf T ks cs La Pa) (ht:T c x Lj Pj) (hx:ltA La x):KidsOf T (ks++ [x]) (cs++ [c]) (La++Lj) (Pa++Pj):=
 (zbG (zbx h)).2 ⟨La,Pa,Lj,Pj,h,⟨x,Lj,Pj,[],[],ht,zb7 x,(fun y hy=>by cases hy),⟨rfl,rfl⟩,(List.append_nil _).symm,(List.append_nil _).symm⟩,fun y hy=>by rw [List.mem_singleton] at hy;rw [hy];exact hx,rfl,rfl⟩
theorem zeR {α:Type} (l:List α) (i:Nat):l.drop (4 * i)=four l i++l.drop (4 * (i+1)):=by
 have h:=(List.take_append_drop 4 (l.drop (4 * i))).symm;rw [List.drop_drop] at h;exact h
theorem zkv {L:Prs} (ha:Asc L) (hz:∀p∈L,p.1.size<=24/\p.2.size<=24):∀(n i:Nat) (st:Bst) (Pa:List Int) (r q:Nat),i+n=fours L.length->BSt st.1 Pa (r+n) (q+n)->KidsOf (IsTree st.1.rd 1) st.2.1 st.2.2 (L.take (4 * i)) Pa->
  ∃st' Pa',lvlR (lfN L) n i st=some st'/\BSt st'.1 Pa' r q/\KidsOf (IsTree st'.1.rd 1) st'.2.1 st'.2.2 L Pa'
 | 0,i,st,Pa,r,q,hi,hb,hk=>by
  rw [List.take_of_length_le (by unfold fours at hi;omega)] at hk
  exact ⟨st,Pa,rfl,hb,hk⟩
 | n+1,i,st,Pa,r,q,hi,hb,hk=>by
  have hlt:4 * i<L.length:=zfQ.2 (by omega)
  have hfl:=zcu L i;have hsub:(four L i).Sublist L:=(List.take_sublist _ _).trans (List.drop_sublist _ _)
  have hn:nodeOkB true ((four L i).map Prod.fst) ((four L i).map Prod.snd) []=true:=ziL (ha.sublist hsub) (by omega) (by omega) (fun x hx=>hz x (hsub.subset hx))
  obtain ⟨b1,b2,b3,b4⟩:=zmr (m:=r+n) (q:=q+n) hb hn
  have hx:(((four L i).map Prod.fst).getD 0 ⟨#[]⟩)=(L[4 * i]'hlt).1:=by
   rw [zmD,zij,getD_lt _ _ (by rw [List.length_map];exact hlt),List.getElem_map]
  have hz2:((four L i).map Prod.fst).zip ((four L i).map Prod.snd)=four L i:=(List.zip_of_prod rfl rfl).symm
  have ht:IsTree (putK st.1 true ((four L i).map Prod.fst) ((four L i).map Prod.snd) []).rd 1 (putP st.1 true ((four L i).map Prod.fst) ((four L i).map Prod.snd) []) (((four L i).map Prod.fst).getD 0 ⟨#[]⟩) (four L i) [putP st.1 true ((four L i).map Prod.fst) ((four L i).map Prod.snd) []]:=
   ⟨_,b3,hn,rfl,Or.inl ⟨rfl,rfl,hz2.symm,rfl⟩⟩
  have hlta:ltA (L.take (4 * i)) (((four L i).map Prod.fst).getD 0 ⟨#[]⟩):=fun p hp=>by
   obtain ⟨j,hj,e⟩:=List.getElem_of_mem hp;rw [List.length_take] at hj;rw [List.getElem_take] at e;rw [hx,<-e]
   exact List.pairwise_iff_getElem.1 ha j (4 * i) (by omega) hlt (by omega)
  have hk2:=zj1 (zdT hk b4) ht hlta
  have ht2:L.take (4 * i)++four L i=L.take (4 * (i+1)):=by
   unfold four
   rw [show 4 * (i+1)=4 * i+4 by omega,List.take_add]
  rw [ht2] at hk2
  obtain ⟨st',Pa',c1,c2,c3⟩:=zkv ha hz n (i+1) (putK st.1 true ((four L i).map Prod.fst) ((four L i).map Prod.snd) [],st.2.1++ [((four L i).map Prod.fst).getD 0 ⟨#[]⟩],st.2.2++ [putP st.1 true ((four L i).map Prod.fst) ((four L i).map Prod.snd) []]) (Pa++ [putP st.1 true ((four L i).map Prod.fst) ((four L i).map Prod.snd) []]) r q (by omega) (zku b2 (List.perm_append_comm (l₁:= [_]))) hk2
  refine ⟨st',Pa',?_,c2,c3⟩;rw [lvlR]
  show (oneS st true ((four L i).map Prod.fst) ((four L i).map Prod.snd) []).bind _=_
  unfold oneS;rw [if_neg b1];exact c1
theorem zmt {h:Nat} {ks:List ByteArray} {cs:List Int} (hl:ks.length=cs.length) (hs:∀s∈ks,s.size<=24):∀(n i:Nat) (st:Bst) (La Lr:Prs) (Pa Pr:List Int) (r q:Nat),i+n=fours cs.length->BSt st.1 (Pa++Pr) (r+n) (q+n)->KidsOf (IsTree st.1.rd (h+1)) st.2.1 st.2.2 La Pa->KidsOf (IsTree st.1.rd h) (ks.drop (4 * i)) (cs.drop (4 * i)) Lr Pr->(∀y∈ks.drop (4 * i),ltA La y)->
  ∃st' Pa',lvlR (mdN ks cs) n i st=some st'/\BSt st'.1 Pa' r q/\KidsOf (IsTree st'.1.rd (h+1)) st'.2.1 st'.2.2 (La++Lr) Pa'
 | 0,i,st,La,Lr,Pa,Pr,r,q,hi,hb,hk,hr,hy=>by
  rw [List.drop_eq_nil_of_le (by unfold fours at hi;omega),List.drop_eq_nil_of_le (by unfold fours at hi;omega)] at hr
  obtain ⟨rfl,rfl⟩:=hr;rw [List.append_nil] at hb⊢;exact ⟨st,Pa,rfl,hb,hk⟩
 | n+1,i,st,La,Lr,Pa,Pr,r,q,hi,hb,hk,hr,hy=>by
  have hlt:4 * i<cs.length:=zfQ.2 (by omega)
  have hfk:=zcu ks i;have hfc:=zcu cs i;rw [zeR ks i,zeR cs i] at hr
  obtain ⟨Lj,Pj,L2,P2,kj,k2,bj,rfl,rfl⟩:=(zbG (by omega)).1 hr
  have hpj:∀x∈Pj,x∈Pa++(Pj++P2):=fun x hx=>by simp [hx]
  have hnd:=hb.nd;rw [List.nodup_append,List.nodup_append] at hnd;have hcj:=zfi kj hnd.2.1.1
  have hn:nodeOkB false (four ks i) [] (four cs i)=true:=zme kj hnd.2.1.1 (fun c hc=>zms hb c (hpj c (hcj.2 c hc))) (fun s hs'=>hs s (zc2 hs')) (by omega) (by omega)
  obtain ⟨b1,b2,b3,b4⟩:=zmr (m:=r+n) (q:=q+n) hb hn
  have ht:IsTree (putK st.1 false (four ks i) [] (four cs i)).rd (h+1) (putP st.1 false (four ks i) [] (four cs i)) ((four ks i).getD 0 ⟨#[]⟩) Lj (putP st.1 false (four ks i) [] (four cs i) :: Pj):=
   ⟨_,b3,hn,rfl,Or.inr ⟨rfl,Pj,zdT kj (fun x hx=>b4 x (hpj x hx)),rfl⟩⟩
  have hh:(four ks i).getD 0 ⟨#[]⟩∈ks.drop (4 * i):=by
   rw [zeR ks i];refine List.mem_append_left _ ?_
   cases hf:four ks i with
   | nil=>rw [hf] at hfk;simp at hfk;omega
   | cons x t=>exact List.mem_cons_self ..
  have hk2:=zj1 (zdT hk (fun x hx=>b4 x (List.mem_append_left _ hx))) ht (hy _ hh)
  have hy2:∀y∈ks.drop (4 * (i+1)),ltA (La++Lj) y:=fun y hm=>zhP.2 ⟨hy y (by rw [zeR ks i];exact List.mem_append_right _ hm),bj y hm⟩
  obtain ⟨st',Pa',c1,c2,c3⟩:=zmt hl hs n (i+1) (putK st.1 false (four ks i) [] (four cs i),st.2.1++ [(four ks i).getD 0 ⟨#[]⟩],st.2.2++ [putP st.1 false (four ks i) [] (four cs i)]) (La++Lj) L2 (Pa++(putP st.1 false (four ks i) [] (four cs i) :: Pj)) P2 r q (by omega) (zku b2 (by
   refine (List.perm_middle (a:=putP st.1 false (four ks i) [] (four cs i)) (l₁:=Pa) (l₂:=Pj++P2)).symm.trans ?_
   rw [List.append_assoc,List.cons_append])) hk2 (zdT k2 (fun x hx=>b4 x (by simp [hx]))) hy2
  refine ⟨st',Pa',?_,c2,by rw [<-List.append_assoc];exact c3⟩
  rw [lvlR]
  show (oneS st false (four ks i) [] (four cs i)).bind _=_
  unfold oneS;rw [if_neg b1];exact c1
theorem zkw:∀(d:Nat) (h:Nat) (st:Bst) (L:Prs) (P:List Int) (r q:Nat),st.2.2.length<=4 ^ d->st.2.2.length<=1048576->st.2.2.length≠0->(∀s∈st.2.1,s.size<=24)->BSt st.1 P (r+st.2.2.length) (q+st.2.2.length)->KidsOf (IsTree st.1.rd h) st.2.1 st.2.2 L P->
  ∃st' P' h',its (lup 21 st.2.2.length) st=some st'/\h'<=h+d/\st'.2.2.length=1/\BSt st'.1 P' r q/\KidsOf (IsTree st'.1.rd h') st'.2.1 st'.2.2 L P'
 | 0,h,st,L,P,r,q,hd,hd2,h0,hs,hb,hk=>by
  have hd:st.2.2.length<=1:=hd;rw [zgh hd]
  exact ⟨st,P,h,rfl,by omega,by omega,⟨zbH hb.rq (by omega) (by omega),hb.jok,hb.live,hb.nd,hb.cnt,hb.ps,hb.nx,zaK hb.sm (by omega)⟩,hk⟩
 | d+1,h,st,L,P,r,q,hd,hd2,h0,hs,hb,hk=>by
  by_cases h1:st.2.2.length<=1
  ·rw [zgh h1]
   exact ⟨st,P,h,rfl,by omega,by omega,⟨zbH hb.rq (by omega) (by omega),hb.jok,hb.live,hb.nd,hb.cnt,hb.ps,hb.nx,zaK hb.sm (by omega)⟩,hk⟩
  ·have hl:=zbx hk
   have h2:=zev (c:=st.2.2.length) (by omega)
   obtain ⟨st',P',c1,c2,c3⟩:=zmt (h:=h) hl hs (fours st.2.2.length) 0 (st.1,[],[]) [] L [] P (r+fours st.2.2.length) (q+fours st.2.2.length) (Nat.zero_add _) ⟨zbH hb.rq (by omega) (by omega),hb.jok,hb.live,hb.nd,hb.cnt,hb.ps,hb.nx,zaK hb.sm (by omega)⟩ ⟨rfl,rfl⟩ hk (fun y _ q hq=>by cases hq)
   rw [List.nil_append] at c3;have hm:mds st=some st':=c1
   have hlen:st'.2.2.length=fours st.2.2.length/\∀s∈st'.2.1,s.size<=24:=by
    have hb1:∀(m i:Nat) (s0 s1:Bst),(∀s∈s0.2.1,s.size<=24)->lvlR (mdN st.2.1 st.2.2) m i s0=some s1->s1.2.2.length=s0.2.2.length+m/\∀s∈s1.2.1,s.size<=24:=by
     intro m
     induction m with
     | zero=>intro i s0 s1 h9 e;injection e with e;subst e;exact ⟨rfl,h9⟩
     | succ m ih=>
      intro i s0 s1 h9 e;rw [lvlR] at e
      cases e2:oneS s0 (mdN st.2.1 st.2.2 i).1 (mdN st.2.1 st.2.2 i).2.1 (mdN st.2.1 st.2.2 i).2.2.1 (mdN st.2.1 st.2.2 i).2.2.2 with
      | none=>rw [e2] at e;cases e
      | some s2=>
       rw [e2] at e;obtain ⟨-,rfl⟩:=zhF e2
       obtain ⟨g1,g2⟩:=ih (i+1) _ s1 (fun s hm=>by
        rcases List.mem_append.1 hm with e5 | e5
        ·exact h9 s e5
        ·rw [List.mem_singleton] at e5
         rw [e5]
         show ((four st.2.1 i).getD 0 ⟨#[]⟩).size<=24
         cases hf:four st.2.1 i with
         | nil=>exact Nat.zero_le _
         | cons x t=>exact hs x (zc2 (by rw [hf];exact List.mem_cons_self ..))) e
       refine ⟨?_,g2⟩;rw [g1]
       simp
       omega
    have:=hb1 (fours st.2.2.length) 0 (st.1,[],[]) st' (fun s hs=>by cases hs) c1
    simpa using this
   obtain ⟨st2,P2,h',g1,g2,g3,g4,g5⟩:=zkw d (h+1) st' L P' r q (by rw [hlen.1,Nat.pow_succ] at *;unfold fours;omega) (by rw [hlen.1];omega) (by rw [hlen.1];unfold fours;omega) hlen.2 (by rw [hlen.1];exact c2) c3
   refine ⟨st2,P2,h',?_,by omega,g3,g4,g5⟩
   rw [zlq (by omega) hd2,its,hm,<-hlen.1]
   exact g1
theorem zkx {k:Wk} {A:List Int} {m q m' q':Nat} (h:BSt k A m q) (h1:m'<=m) (h2:q'<=q):BSt k A m' q':=
 ⟨zbH h.rq h1 h2,h.jok,h.live,h.nd,h.cnt,h.ps,h.nx,zaK h.sm (by omega)⟩
theorem zl6 {L:Prs} (hz:∀p∈L,p.1.size<=24/\p.2.size<=24):∀{m i:Nat} {k:Wk} {st:Bst},lvlR (lfN L) m i (k,[],[])=some st->∀s∈st.2.1,s.size<=24:=by
 have hb:∀(m i:Nat) (s0 s1:Bst),(∀s∈s0.2.1,s.size<=24)->lvlR (lfN L) m i s0=some s1->∀s∈s1.2.1,s.size<=24:=by
  intro m
  induction m with
  | zero=>intro i s0 s1 h9 e;injection e with e;subst e;exact h9
  | succ m ih=>
   intro i s0 s1 h9 e;rw [lvlR] at e
   cases e2:oneS s0 (lfN L i).1 (lfN L i).2.1 (lfN L i).2.2.1 (lfN L i).2.2.2 with
   | none=>rw [e2] at e;cases e
   | some s2=>
    rw [e2] at e;obtain ⟨-,rfl⟩:=zhF e2
    refine ih (i+1) _ s1 (fun s hm=> ?_) e
    rcases List.mem_append.1 hm with e5 | e5
    ·exact h9 s e5
    ·rw [List.mem_singleton] at e5
     rw [e5]
     show (((four L i).map Prod.fst).getD 0 ⟨#[]⟩).size<=24
     cases hf:four L i with
     | nil=>exact Nat.zero_le _
     | cons x t=>exact (hz x (zc2 (by rw [hf];exact List.mem_cons_self ..))).1
 intro m i k st h
 exact hb m i (k,[],[]) st (fun s hs=>by cases hs) h
theorem znl {L:Prs} (ha:Asc L) (hn:L.length<=20) (hz:∀p∈L,p.1.size<=24/\p.2.size<=24):
  (bldS (newS (newP 40) [] ⟨0,0,2,[]⟩ 0) L).2.2=true/\∃P,DropSt (bldS (newS (newP 40) [] ⟨0,0,2,[]⟩ 0) L).1 (bldS (newS (newP 40) [] ⟨0,0,2,[]⟩ 0) L).2.1 L P L.length:=by
 obtain ⟨k,hk⟩:∃k,k=newS (newP 40) [] ⟨0,0,2,[]⟩ 0:=⟨_,rfl⟩;have hs0:=zho [] 0;have e0:(manyS [] 0 0).1=k:=hk.symm;rw [e0] at hs0;rw [<-hk];have hroom:=zkT hs0
 have hls:k.ls= []:=by rw [hk];rfl
 have hb0:BSt k [] 38 200:=⟨⟨hs0.wok,by simp,hs0.dk,by rw [hroom];simp,by rw [hls];simp,hs0.gn⟩,hs0.jok,hs0.live,List.nodup_nil,hs0.cnt,hs0.ps,hs0.nx,zaK hs0.sm (by omega)⟩
 have hasc:ascB L=true:=(zhE L).2 (fun i hi h0=>by
  have:=List.pairwise_iff_getElem.1 ha (i - 1) i (by omega) hi (by omega)
  rw [getD_lt _ _ hi,getD_lt _ _ (by omega:i - 1<L.length)]
  exact this)
 have hout:∀(k':Wk) (root:Int) (P:List Int),BSt k' P 1 180->IsRoot k'.rd root L P->DropSt k' root L P L.length:=fun k' root P h h2=>
  ⟨zbH h.rq (Nat.le_refl _) (by omega),h.jok,h.live,h.nd,h2,h.cnt,h.ps,h.nx,zaK h.sm (by omega)⟩
 by_cases hL0:L.length=0
 ·obtain rfl:L= []:=List.eq_nil_of_length_eq_zero hL0
  rw [zfR hasc (zjU k)]
  exact ⟨rfl,[],hout _ _ _ (zkx hb0 (by omega) (by omega)) (Or.inl ⟨rfl,rfl,rfl⟩)⟩
 ·have hc5:fours L.length<=5/\1<=fours L.length:=by unfold fours;omega
  obtain ⟨st,P,l1,l2,l3⟩:=zkv ha hz (fours L.length) 0 (k,[],[]) [] (1+fours L.length) (180+fours L.length) (Nat.zero_add _) (zkx hb0 (by omega) (by omega)) ⟨rfl,rfl⟩
  have hl1:lvs k L=some st:=l1
  obtain ⟨f1,f2,f3,-⟩:=zjV (lfN L) (fun i s hs=>by
   obtain ⟨p,hp,rfl⟩:=List.mem_map.1 hs;have:=(hz p (zc2 hp)).1
   omega) (fours L.length) 0 0 (zeu (m:=0+fours L.length) (by obtain ⟨a1,a2,a3,a4,a5,a6,a7⟩:=hs0.sm;exact ⟨a1,a2,by omega,a4,by omega,by omega,by omega⟩)) l1
  have hsz:=zl6 hz l1
  obtain ⟨st',P',h',g1,g2,g3,g4,g5⟩:=zkw 2 1 st L P 1 180 (by rw [f2];omega) (by rw [f2];omega) (by rw [f2];omega) hsz (by rw [f2,Nat.zero_add];exact l2) l3
  have hb:bldO k L=some st':=by rw [bldO,hl1];exact g1
  rw [zfR hasc hb];refine ⟨rfl,P',hout _ _ _ g4 ?_⟩;have hl5:=zbx g5;rw [g3] at hl5;obtain ⟨x,hK⟩:=List.length_eq_one_iff.1 hl5;obtain ⟨c,hC⟩:=List.length_eq_one_iff.1 g3;rw [hK,hC] at g5;rw [hC];obtain ⟨f,L1,P1,L2,P2,t1,-,-,⟨rfl,rfl⟩,e1,e2⟩:=g5;rw [List.append_nil] at e1 e2;subst e1 e2;obtain ⟨Q,hQ⟩:=zgw t1
  have hc:=zms g4 c (by rw [hQ];exact List.mem_cons_self ..)
  exact Or.inr ⟨h',f,by omega,by show c≠0;omega,t1⟩
end Go.Proofs.YtcbogiebfbbmbaaGreatDoor
