/-
  Facts and contracts that the law's own text rests on, by their texts' names: DropOk.
-/
import Derived.Test.YtcbogiebfbbmbaaGreatDoorDa40
import Derived.Test.YtcbogiebfbbmbaaGreatDoorDa35
set_option maxHeartbeats 16000000
set_option maxRecDepth 100000
namespace Go.Proofs.YtcbogiebfbbmbaaGreatDoor
open Go.RowKit
theorem zks {k:Wk} {O:List Int} {m q:Nat} (h:Rmq k O (m+1) (q+1)) {p:Int} (hp:p∈k.fs) (hu:p∉k.us) (hO:p∉O) {lf:Bool} {K V:List ByteArray} {C:List Int} (hn:K.length≠0->nodeOkB lf K V C=true):(endD p k lf K V C).2.2=true/\Rmq (endD p k lf K V C).1 O (m+1) q/\((endD p k lf K V C).2.1=0\/(endD p k lf K V C).2.1∉O):=by
 unfold endD
 split
 ·exact ⟨rfl,zbH (zgx h hp hu) (by omega) (by omega),Or.inl rfl⟩
 ·next hk=>
  obtain ⟨h1,h2⟩:=zka h (hn hk);rw [if_neg h1];obtain ⟨-,w2,-,-,w5,-,-⟩:=zhN h.wok h1
  have h3:=(w5 [p] (fun x hx=>by rw [List.mem_singleton] at hx;rw [hx];exact ⟨hu,Or.inr hp⟩)).1 p (by simp)
  exact ⟨rfl,zgx h2 (h3.2.resolve_left hO) h3.1,Or.inr w2⟩
theorem zdz {cs:List Int} (h:cs.Nodup) (a:Nat):(cs.take a++cs.drop (a+1)).Nodup:=by
 have h2:(cs.take a++cs.drop (a+1)).Sublist cs:=by
  have h3:=(List.Sublist.refl (cs.take a)).append (List.drop_sublist_drop_left cs (Nat.le_succ a))
  rwa [List.take_append_drop] at h3
 exact h2.nodup h
theorem zkt {ks:List ByteArray} {cs:List Int} (ha:AscK ks) (hs:∀s∈ks,s.size<=24) (hl:cs.length=ks.length) (h1:1<=ks.length) (h4:ks.length<=4) (hn:cs.Nodup) (hp:∀c∈cs,2<=c/\c<=39):nodeOkB false ks [] cs=true:=by
 refine zfL ?_ (zjp ha hs) (fun i hi=>by simp at hi) (fun i hi=> ?_)
 ·unfold cntB
  rw [decide_eq_true (show 1<=ks.length/\ks.length<=4 from ⟨h1,h4⟩),if_neg (by decide),decide_eq_true (show cs.length=ks.length/\([]:List ByteArray).length=0 from ⟨hl,rfl⟩)]
  rfl
 ·unfold kidB
  rw [getD_lt cs i hi,decide_eq_true (hp _ (List.getElem_mem hi)),Bool.true_and,decide_eq_true_eq];intro j hj e
  rw [getD_lt cs j (by omega)] at e
  exact List.pairwise_iff_getElem.1 hn j i (by omega) hi hj e
theorem zgP (key:ByteArray):∀(h f:Nat) (k:Wk) (p:Int) (F:ByteArray) (L:Prs) (P X O:List Int) (m q:Nat),h<=f->WOk k O->Live k O X->Live k O P->P.Nodup->(∀x∈P,x∉X)->(∀x∈P,x∉O)->IsTree k.rd h p F L P->(∃x∈L,x.1=key)->Rmq k O (m+1) (q+h)->
  (goDrop key f k p).2.2=true/\Rmq (goDrop key f k p).1 O (m+1) q/\((goDrop key f k p).2.1=0\/(goDrop key f k p).2.1∉O)
 | 0,_,_,_,_,_,_,_,_,_,_,_,_,_,_,_,_,_,ht,_,_=>ht.elim
 | h+1,0,_,_,_,_,_,_,_,_,_,hf,_,_,_,_,_,_,_,_,_=>by omega
 | h+1,f+1,k,p,F,L,P,X,O,m,q,hf,hw,hX,hP,hnd,hdj,hO,⟨n,h1,h2,h3,h4⟩,⟨z,hz,hzk⟩,hm=>by
  have hr:rdN (readD k.ps k.ls p)=(n,true):=h1
  have hpP:p∈P:=by rcases h4 with ⟨-,-,-,d⟩ | ⟨-,P',-,d⟩ <;> rw [d] <;> simp
  have hall:=zdq (zdp h2);have hge:=zfb (h+1) (R:=k.rd) (p:=p) (f:=F) (L:=L) (P:=P) ⟨n,h1,h2,h3,h4⟩;obtain ⟨s1,s2,s3,s4⟩:=zjq h2;have hpos:=ziC h2
  rcases zcY n.ks key n.ks.length with ⟨-,e⟩ | ⟨a,p1,pa,p2,p3⟩
  ·have h5:=hge z hz
   rw [hzk,h3] at h5;rw [e 0 hpos] at h5
   cases h5
  ·have hpf:p∈k.fs/\p∉k.us:=by
    obtain ⟨b1,b2⟩:=hP p hpP;exact ⟨b2.resolve_left (hO p hpP),b1⟩
   rcases h4 with ⟨hl,hh,hLe,hPe⟩ | ⟨hl,P',hk,hPe⟩
   ·subst hh hLe hPe
    have hv:=((zbj h2).1 hl).1;obtain ⟨j,hj,ej⟩:=List.getElem_of_mem hz;rw [List.length_zip] at hj
    have hzj:n.ks[j]'(by omega)=key:=by rw [<-hzk,<-ej];simp
    have hja:j=a:=by
     rcases Nat.lt_trichotomy j a with hlt | heq | hgt
     ·have h6:=List.pairwise_iff_getElem.1 (zdp h2) j a (by omega) p1 hlt
      rw [hzj] at h6;rw [getD_lt _ _ p1,h6] at p2
      cases p2
     ·exact heq
     ·have h6:=p3 j hgt (by omega)
      rw [getD_lt _ _ (by omega),hzj,zb7] at h6
      cases h6
    subst hja
    have hkey:n.ks.getD j ⟨#[]⟩=key:=by rw [getD_lt _ _ p1];exact hzj
    have hK:outK n.ks true j n.ks.length=n.ks.take j++n.ks.drop (j+1):=by rw [zco _ _ _ p1 _ (Nat.le_refl _),if_neg (by rintro (e | e);omega;cases e),List.take_length]
    have hV:outK n.vs true j n.ks.length=n.vs.take j++n.vs.drop (j+1):=by rw [<-hv,zco _ _ _ (by omega) _ (Nat.le_refl _),if_neg (by rintro (e | e);omega;cases e),List.take_length]
    rw [zea hr hl pa hkey,hK,hV]
    refine zks hm hpf.1 hpf.2 (hO p hpP) (fun h0=> ?_)
    have hzp:=zju hv j;obtain ⟨M,hM⟩:∃M,M=(n.ks.zip n.vs).take j++(n.ks.zip n.vs).drop (j+1):=⟨_,rfl⟩;rw [<-hM] at hzp
    have hMl:(n.vs.take j++n.vs.drop (j+1)).length=(n.ks.take j++n.ks.drop (j+1)).length:=by simp only [List.length_append,List.length_take,List.length_drop];omega
    have e1:n.ks.take j++n.ks.drop (j+1)=M.map Prod.fst:=by rw [<-hzp,List.map_fst_zip (by omega)]
    have e2:n.vs.take j++n.vs.drop (j+1)=M.map Prod.snd:=by rw [<-hzp,List.map_snd_zip (by omega)]
    have hMs:M.Sublist (n.ks.zip n.vs):=by
     have h6:=(List.Sublist.refl ((n.ks.zip n.vs).take j)).append (List.drop_sublist_drop_left (n.ks.zip n.vs) (Nat.le_succ j));rw [List.take_append_drop] at h6;rw [hM];exact h6
    have hlen:=hMs.length_le;rw [List.length_zip] at hlen;rw [e1,List.length_map] at h0;rw [e1,e2]
    refine ziL ((zlW h2).sublist hMs) (by omega) (by omega) (fun x hx=> ?_)
    have hx2:=hMs.subset hx;exact ⟨s1 _ (List.of_mem_zip hx2).1,s2 _ (List.of_mem_zip hx2).2⟩
   ·subst hPe
    have hlen:=zbx hk
    have hac:a<n.cs.length:=by omega
    obtain ⟨cn,cP⟩:=zfi hk (List.nodup_cons.1 hnd).2;have hsp:=hk;rw [zb2 n.ks a p1,zb2 n.cs a hac] at hsp
    obtain ⟨LA,PA,LR,PR,kA,kR,bA,rfl,rfl⟩:=(zbG (by rw [List.length_take,List.length_take];omega)).1 hsp
    obtain ⟨g,La,Pa,LB,PB,tA,gA,bB,kB,rfl,rfl⟩:=kR;have hnd0:=hnd;rw [List.nodup_cons,List.nodup_append,List.nodup_append] at hnd;obtain ⟨np,nA,⟨na,nB,nab⟩,nAr⟩:=hnd;rw [List.mem_append,List.mem_append,not_or,not_or] at np
    have hlP:Live k O PA/\Live k O Pa/\Live k O PB:=⟨fun x hx=>hP x (by simp [hx]),fun x hx=>hP x (by simp [hx]),fun x hx=>hP x (by simp [hx])⟩
    obtain ⟨R,hR⟩:∃R,R=goDrop key f k (n.cs.getD a 0):=⟨_,rfl⟩;have hc:n.cs.getD a 0=n.cs[a]:=getD_lt _ _ hac _;have hxa:n.ks.getD a ⟨#[]⟩=n.ks[a]:=getD_lt _ _ p1 _;rw [hxa] at p2
    have hX':Live k O (p :: (PA++PB++X)):=fun x hx=>by
     rcases List.mem_cons.1 hx with e | e
     ·exact hP x (by rw [e];exact List.mem_cons_self ..)
     ·rcases List.mem_append.1 e with e | e
      ·rcases List.mem_append.1 e with e | e
       ·exact hlP.1 x e
       ·exact hlP.2.2 x e
      ·exact hX x e
    have hdj':∀x∈Pa,x∉p :: (PA++PB++X):=fun x hx e=>by
     rcases List.mem_cons.1 e with e | e
     ·exact np.2.1 (e▸hx)
     ·rcases List.mem_append.1 e with e | e
      ·rcases List.mem_append.1 e with e | e
       ·exact nAr x e x (List.mem_append_left _ hx) rfl
       ·exact nab x hx x e rfl
      ·exact hdj x (List.mem_cons_of_mem _ (List.mem_append_right _ (List.mem_append_left _ hx))) e
    have hzL:z∈La:=by
     rcases List.mem_append.1 hz with e | e
     ·have h6:=bA _ (List.mem_cons_self ..) z e
      rw [hzk] at h6;rw [h6] at p2
      cases p2
     ·rcases List.mem_append.1 e with e | e
      ·exact e
      ·obtain ⟨y,hy,hy2⟩:=zeF (fun _ _ _ _ ht=>zfb h ht) kB z e
       obtain ⟨j,hj,ej⟩:=List.getElem_of_mem hy;rw [List.getElem_drop] at ej;rw [List.length_drop] at hj
       have h6:=p3 (a+1+j) (by omega) (by omega)
       rw [getD_lt _ _ (by omega),ej,<-hzk] at h6
       rw [hy2] at h6
       cases h6
    obtain ⟨r1,r2,r3⟩:=zgP key h f k n.cs[a] g La Pa (p :: (PA++PB++X)) O m (q+1) (by omega) hw hX' hlP.2.1 na hdj' (fun x hx=>hO x (by simp [hx])) tA ⟨z,hzL,hzk⟩ (zbH hm (by omega) (by omega))
    have ih:=zee key h f k n.cs[a] g La Pa (p :: (PA++PB++X)) O (by omega) hw hX' hlP.2.1 na hdj' tA r1
    rw [zdK hr hl pa hR];rw [<-hc,<-hR] at ih r1 r2 r3
    rw [if_neg (by rw [r1];decide)]
    obtain ⟨htree,wn,lvn,-,-⟩:=ih;have hpl:=lvn p (List.mem_cons_self ..)
    refine zks r2 (hpl.2.resolve_left (hO p hpP)) hpl.1 (hO p hpP) (fun h0=> ?_)
    rcases htree with ⟨e0,-⟩ | ⟨e0,F',Pn,tn,-,ln,nn,dn,-⟩
    ·have hK:outK n.ks (decide (R.2.1=0)) a n.ks.length=n.ks.take a++n.ks.drop (a+1):=by rw [decide_eq_true e0,zco _ _ _ p1 _ (Nat.le_refl _),if_neg (by rintro (e | e);omega;cases e),List.take_length]
     have hC:outC n.cs a R.2.1 n.ks.length=n.cs.take a++n.cs.drop (a+1):=by rw [hlen,zfl _ _ _ hac _ (Nat.le_refl _),if_neg (by omega),if_pos e0,List.take_length,List.append_nil]
     rw [hK] at h0;rw [hK,hC]
     have hsub:(n.ks.take a++n.ks.drop (a+1)).Sublist n.ks:=by
      have h6:=(List.Sublist.refl (n.ks.take a)).append (List.drop_sublist_drop_left n.ks (Nat.le_succ a))
      rwa [List.take_append_drop] at h6
     refine zkt ((zdp h2).sublist hsub) (fun s hs=>s1 s (hsub.subset hs)) ?_ (by omega) (by have:=hsub.length_le;omega) (zdz cn a) (fun c hc=> ?_)
     ·simp only [List.length_append,List.length_take,List.length_drop];omega
     ·rcases List.mem_append.1 hc with e | e
      ·exact s3 c (List.mem_of_mem_take e)
      ·exact s3 c (List.mem_of_mem_drop e)
    ·have hK:outK n.ks (decide (R.2.1=0)) a n.ks.length=n.ks:=by rw [decide_eq_false e0,zco _ _ _ p1 _ (Nat.le_refl _),if_pos (Or.inr rfl),List.take_length]
     have hC:outC n.cs a R.2.1 n.ks.length=n.cs.take a++R.2.1 :: n.cs.drop (a+1):=by
      rw [hlen,zfl _ _ _ hac _ (Nat.le_refl _),if_neg (by omega),if_neg e0,List.take_length,List.append_assoc]
      rfl
     rw [hK,hC];obtain ⟨Q,hQ⟩:=zgw tn
     have hq:R.2.1∈Pn:=by rw [hQ];exact List.mem_cons_self ..
     have hqX:=dn _ hq;have hcA:=(zfi kA nA).2;have hcB:=(zfi kB nB).2;have hnn:=zdz cn a;rw [List.nodup_append] at hnn
     refine zkt (zdp h2) s1 ?_ hpos s4 ?_ (fun c hc=> ?_)
     ·simp only [List.length_append,List.length_take,List.length_cons,List.length_drop];omega
     ·rw [List.nodup_append,List.nodup_cons]
      refine ⟨hnn.1,⟨fun e=>hqX (by have:=hcB _ e;simp [this]),hnn.2.1⟩,fun x hx y hy e=> ?_⟩
      rcases List.mem_cons.1 hy with e2 | e2
      ·subst e
       rw [e2] at hx
       exact hqX (by have:=hcA _ hx;simp [this])
      ·exact hnn.2.2 x hx y e2 e
     ·rcases List.mem_append.1 hc with e | e
      ·exact s3 c (List.mem_of_mem_take e)
      ·rcases List.mem_cons.1 e with e | e
       ·have h7:=zlQ wn ln c (by rw [e];exact hq)
        have h8:=wn.nl;have h9:=(zeX r2.dk).2.2.2.1
        have h10:c≠0:=fun e2=>e0 (by rw [<-e,e2])
        have h11:c≠1:=fun e2=>by
         exact r3.resolve_left e0 (by rw [<-e,e2];exact r2.one)
        omega
       ·exact s3 c (List.mem_of_mem_drop e)
theorem zni (p:Int) (k:Wk) (lf:Bool) (K V:List ByteArray) (C:List Int):(endD p k lf K V C).1.ps=k.ps:=by
 have hd:∀k':Wk,(dropS k' p).ps=k'.ps:=fun k'=>by unfold dropS;split <;> rfl
 unfold endD
 split
 ·exact hd _
 ·split
  ·rfl
  ·exact (hd _).trans (put_ps k lf K V C)
theorem zi3 (k:Wk):∀ws:List WLvl,(backS ws k).1.ps=k.ps
 | []=>rfl
 | x :: r=>by
  rw [backS]
  split
  ·exact zi3 k r
  ·exact (zni _ _ _ _ _ _).trans (zi3 k r)
theorem ziY:∀(f:Nat) {k:Wk} {p:Int} {T:Wk×Int},lowS f k p=some T->T.1.ps=k.ps/\(JOk k->JOk T.1)/\∀m,k.sm (m+f)->T.1.sm m
 | 0,_,_,_,h=>by cases h
 | f+1,k,p,T,h=>by
  rw [lowS] at h
  split at h
  ·cases h
  ·split at h
   ·injection h with h
    subst h
    exact ⟨rfl,fun h=>h,fun m h=>zaK h (by omega)⟩
   ·obtain ⟨h1,h2,h3⟩:=ziY f h
    refine ⟨h1.trans (by unfold dropS;split <;> rfl),fun hj=>h2 (zfW hj p),fun m hm=>h3 m (zhL hm p)⟩
theorem ziZ:∀(h f:Nat) (k:Wk) (p:Int) (F:ByteArray) (L:Prs) (P O:List Int) (m q:Nat) (T:Wk×Int),Live k O P->P.Nodup->(∀x∈P,x∉O)->IsTree k.rd h p F L P->Rmq k O m q->lowS f k p=some T->Rmq T.1 O m q
 | 0,_,_,_,_,_,_,_,_,_,_,_,_,_,ht,_,_=>ht.elim
 | h+1,0,_,_,_,_,_,_,_,_,_,_,_,_,_,_,hT=>by cases hT
 | h+1,f+1,k,p,F,L,P,O,m,q,T,hP,hn,hO,⟨n,h1,h2,h3,h4⟩,hm,hT=>by
  have hr:rdN (readD k.ps k.ls p)=(n,true):=h1
  by_cases hs:n.lf=true\/1<n.cs.length
  ·rw [zgM hr hs] at hT
   injection hT with hT
   subst hT;exact hm
  ·rw [not_or] at hs
   rcases h4 with ⟨a,-⟩ | ⟨a,P',hk,rfl⟩
   ·exact absurd a hs.1
   ·have hpos:=ziC h2
    have hlen:=zbx hk
    match hC:n.cs,hlen,hs.2 with
    | [],hl,_=>exact absurd hl (by rw [List.length_nil];omega)
    | c :: d :: C,_,hx=>exact absurd (by simp) hx
    | [c],hl,_=>
     match hK:n.ks,hl with
     | [x],_=>
      rw [hK,hC] at hk;obtain ⟨g,L1,P1,L2,P2,t1,-,-,⟨rfl,rfl⟩,rfl,rfl⟩:=hk;rw [List.append_nil] at hP hn hO;rw [List.nodup_cons] at hn;obtain ⟨b1,b2⟩:=hP p (List.mem_cons_self ..);have hpf:=b2.resolve_left (hO p (List.mem_cons_self ..))
      obtain ⟨d1,d2,d3⟩:=zeD hm.wok p (fun x hx=>by rw [List.mem_singleton] at hx;rw [hx];exact ⟨b1,b2⟩)
      have hlf:n.lf=false:=by simpa using hs.1
      rw [zjw hr hlf hs.2,hC] at hT
      exact ziZ h f (dropS k p) c g L1 P1 O m q T (d3 P1 (fun x hx=>hP x (List.mem_cons_of_mem _ hx)) hn.1) hn.2 (fun x hx=>hO x (List.mem_cons_of_mem _ hx)) (zbq h t1 (fun x _=>d2 x)) (zbH (zgx hm hpf b1) (by omega) (Nat.le_refl _)) hT
structure DropSt (k:Wk) (root:Int) (L:Prs) (P:List Int) (M:Nat):Prop where
 rq:Rmq k [0,1] 1 (9 * M)
 jok:JOk k
 live:Live k [0,1] P
 nd:P.Nodup
 tree:IsRoot k.rd root L P
 cnt:∀x,P.count x+k.us.count x=newC 2 k.next x
 ps:k.ps.length=40
 nx:2<=k.next
 sm:k.sm (61000+30 * M)
theorem zjC {P us:List Int} {next:Int} (h:∀x,P.count x+us.count x=newC 2 next x):∀x∈P,x∉([0,1]:List Int):=fun x hx e=>by
 have h1:=h x;have h2:=List.count_pos_iff.2 hx;unfold newC at h1
 rw [if_neg (by simp at e;omega)] at h1
 omega
theorem zmq {k:Wk} {root:Int} {L:Prs} {P:List Int} {M:Nat} (h:DropSt k root L P (M+1)) {key:ByteArray} (hk:∃x∈L,x.1=key):
  root≠0/\∃ws T P',wayD k.rd key 8 root=some ws/\(backS ws k).2.2=true/\(((backS ws k).2.1=0/\T=((backS ws k).1,0))\/((backS ws k).2.1≠0/\lowS 9 (backS ws k).1 (backS ws k).2.1=some T))/\DropSt T.1 T.2 (dropL L key) P' M:=by
 obtain ⟨hrq,hj,hl,hn,ht,hc,hps,hnx,hsm⟩:=h;have hout:=zjC hc
 rcases ht with ⟨-,e,-⟩ | ⟨hh,f,h8,h0,ht⟩
 ·obtain ⟨x,hx,-⟩:=hk
  rw [e] at hx
  cases hx
 ·refine ⟨h0,?_⟩
  obtain ⟨r1,r2,-⟩:=zgP key hh 8 k root f L P [] [0,1] 0 (9 * M) h8 hrq.wok (fun x hx=>by cases hx) hl hn (fun x _ e=>by cases e) hout ht hk (zbH hrq (by omega) (by omega))
  have r3:=zee key hh 8 k root f L P [] [0,1] h8 hrq.wok (fun x hx=>by cases hx) hl hn (fun x _ e=>by cases e) ht r1
  obtain ⟨ws,hws⟩:=ziU key 8 k root r1;have hgw:=zhr key 8 k root ws hws
  obtain ⟨-,-,hwl⟩:=zgN (fun p hp=>zew (t:=readD k.ps k.ls p) (by
   have:rdN (readD k.ps k.ls p)=((k.rd p).1,(k.rd p).2):=rfl
   rw [this,hp])) hws
  rw [hgw] at r1 r2 r3;have hjb:=zeM hj ws
  have hsb:(backS ws k).1.sm (61000+30 * M+14):=zhZ ws (zaK hsm (by omega))
  have hpb:=zi3 k ws;obtain ⟨u1,u2,u3,u4,u5⟩:=r3
  rcases u1 with ⟨e0,eL,ac⟩ | ⟨e0,F',P',t,-,l,nd,dj,ac⟩
  ·have hacc:=zhU ac hc hnx hrq.gn r2.gn
   exact ⟨ws,_,[],hws,r1,Or.inl ⟨e0,rfl⟩,r2,hjb,(fun x hx=>by cases hx),List.nodup_nil,Or.inl ⟨rfl,eL,rfl⟩,hacc.1,by rw [<-hps];exact congrArg List.length hpb,hacc.2,zaK hsb (by omega)⟩
  ·obtain ⟨T,hT,s1,s2,s3,s4,s5⟩:=ziT hh 9 _ _ F' _ P' [] [0,1] (by omega) h8 e0 u2 (fun x hx=>by cases hx) l nd (fun x _ e=>by cases e) t
   obtain ⟨P9,v1,v2,v3,v4,v5⟩:=s1;have hP'c:=zhU ac hc hnx hrq.gn r2.gn;have hrT:=ziZ hh 9 _ _ F' _ P' [0,1] 1 (9 * M) T l nd (zjC hP'c.1) t r2 hT;obtain ⟨w1,w2,w3⟩:=ziY 9 hT;have hacc:=zhU v5 hP'c.1 hP'c.2 r2.gn hrT.gn
   exact ⟨ws,T,P9,hws,r1,Or.inr ⟨e0,hT⟩,hrT,w2 hjb,v2,v3,v1,hacc.1,by rw [<-hps,w1,hpb],hacc.2,zaK (w3 (61000+30 * M+5) (zaK hsb (by omega))) (by omega)⟩
theorem znj {k:Wk} {root:Int} {P:List Int} {M:Nat} (h:DropSt k root [] P M):root=0/\k.fs= []/\k.gs= []/\(k.us.length:Int)=k.next - 2:=by
 obtain ⟨hrq,hj,hl,hn,ht,hc,hps,hnx,hsm⟩:=h
 rcases ht with ⟨e1,-,e2⟩ | ⟨hh,f,h8,h0,ht⟩
 ·subst e2
  refine ⟨e1,?_,hrq.gn,?_⟩
  ·cases hf:k.fs with
   | nil=>rfl
   | cons x t=>
    exfalso
    have hx:x∈k.fs:=by rw [hf];exact List.mem_cons_self ..
    have h1:=hrq.wok.fo x hx;have h2:=hrq.wok.lf x hx;have h3:=hc x;unfold newC at h3
    rw [if_pos (by simp at h1;omega),List.count_nil,Nat.zero_add] at h3
    exact hj.uf x (List.count_pos_iff.1 (by omega)) hx
  ·have h1:=zjr (a:=2) (k.next - 2).toNat k.us (fun x=>by
    have h2:=hc x;rw [List.count_nil,Nat.zero_add] at h2
    rw [h2,Int.toNat_of_nonneg (by omega)]
    congr 1
    omega)
   omega
 ·exact absurd rfl (zjj hh ht)
end Go.Proofs.YtcbogiebfbbmbaaGreatDoor
