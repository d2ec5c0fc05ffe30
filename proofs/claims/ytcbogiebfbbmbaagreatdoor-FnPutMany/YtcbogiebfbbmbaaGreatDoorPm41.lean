/-
  Facts and contracts that the law's own text rests on, by their texts' names: PutOk.
-/
import Derived.Test.YtcbogiebfbbmbaaGreatDoorPm40
set_option maxHeartbeats 16000000
set_option maxRecDepth 100000
namespace Go.Proofs.YtcbogiebfbbmbaaGreatDoor
open Go.RowKit
theorem zks {R:Int->Nd×Bool} {h:Nat}:∀{ks:List ByteArray} {cs:List Int} {L:Prs} {P:List Int},KidsOf (IsTree R h) ks cs L P->AscK ks
 | [],_,_,_,_=>List.Pairwise.nil
 | x :: ks,[],_,_,h=>h.elim
 | x :: ks,c :: cs,_,_,⟨f,L1,P1,L2,P2,h1,h2,h3,h4,_,_⟩=>by
  refine List.pairwise_cons.2 ⟨fun y hy=> ?_,zks h4⟩
  cases hL:L1 with
  | nil=>exact absurd hL (zhF h h1)
  | cons q M=>
   have hq:q∈L1:=by rw [hL];exact List.mem_cons_self ..
   have e1:=h3 y hy q hq;have e2:lessB q.1 x=false:=le_trans h2 (zg2 h h1 q hq)
   cases e3:lessB x y with
   | true=>rfl
   | false=>rw [le_trans e3 e2] at e1;cases e1
theorem zjB {R:Int->Nd×Bool} {h:Nat}:∀{ks:List ByteArray} {cs:List Int} {L:Prs} {P:List Int},KidsOf (IsTree R h) ks cs L P->P.Nodup->cs.Nodup/\∀c∈cs,c∈P
 | [],[],_,_,_,_=>⟨List.nodup_nil,fun c hc=>by cases hc⟩
 | [],_ :: _,_,_,h,_=>h.elim
 | _ :: _,[],_,_,h,_=>h.elim
 | x :: ks,c :: cs,_,_,⟨f,L1,P1,L2,P2,h1,h2,h3,h4,_,e2⟩,hn=>by
  subst e2;rw [List.nodup_append] at hn;obtain ⟨i1,i2⟩:=zjB h4 hn.2.1;obtain ⟨Q,hQ⟩:=ziq h1
  have hc:c∈P1:=by rw [hQ];exact List.mem_cons_self ..
  refine ⟨List.nodup_cons.2 ⟨fun e=>hn.2.2 c hc c (i2 c e) rfl,i1⟩,fun y hy=> ?_⟩
  rcases List.mem_cons.1 hy with e | e
  ·rw [e];exact List.mem_append_left _ hc
  ·exact List.mem_append_right _ (i2 y e)
theorem zmv {ks:List ByteArray} (ha:AscK ks) (hs:∀s∈ks,s.size<=24) (i:Nat) (hi:i<ks.length):keyB ks i=true:=by
 unfold keyB;rw [getD_lt ks i hi,decide_eq_true (hs _ (List.getElem_mem hi))]
 by_cases h0:i=0
 ·subst h0;rfl
 ·have:=List.pairwise_iff_getElem.1 ha (i - 1) i (by omega) hi (by omega)
  rw [getD_lt ks (i - 1) (by omega),show Op.bytesLess (ks[i - 1]'(by omega)).toList ks[i].toList=true from this]
  simp
theorem zeu {R:Int->Nd×Bool} {h:Nat} {ks:List ByteArray} {cs:List Int} {L:Prs} {P:List Int} (hk:KidsOf (IsTree R h) ks cs L P) (hn:P.Nodup) (hp:∀c∈cs,2<=c/\c<=39) (hs:∀s∈ks,s.size<=24) (h1:1<=ks.length) (h4:ks.length<=4):nodeOkB false ks [] cs=true:=by
 have hl:=zbj hk;obtain ⟨c1,-⟩:=zjB hk hn
 refine zhn ?_ (zmv (zks hk) hs) (fun i hi=>by simp at hi) (fun i hi=> ?_)
 ·unfold cntB
  rw [decide_eq_true (show 1<=ks.length/\ks.length<=4 from ⟨h1,h4⟩),if_neg (by decide),decide_eq_true (show cs.length=ks.length/\([]:List ByteArray).length=0 from ⟨hl.symm,rfl⟩)]
  rfl
 ·unfold kidB
  rw [getD_lt cs i hi,decide_eq_true (hp _ (List.getElem_mem hi)),Bool.true_and,decide_eq_true_eq];intro j hj e
  rw [getD_lt cs j (by omega)] at e
  exact List.pairwise_iff_getElem.1 c1 j i (by omega) hi hj e
theorem zev {M:Prs} (ha:Asc M) (h1:1<=M.length) (h4:M.length<=4) (hs:∀q∈M,q.1.size<=24/\q.2.size<=24):nodeOkB true (M.map Prod.fst) (M.map Prod.snd) []=true:=by
 refine zhn ?_ (zmv ?_ (fun s hm=> ?_)) (fun i hi=> ?_) (fun i hi=>by simp at hi)
 ·unfold cntB
  rw [List.length_map,List.length_map,decide_eq_true (show 1<=M.length/\M.length<=4 from ⟨h1,h4⟩),if_pos rfl,decide_eq_true (show M.length=M.length/\([]:List Int).length=0 from ⟨rfl,rfl⟩)]
  rfl
 ·unfold AscK
  rw [List.pairwise_map];exact ha
 ·obtain ⟨q,hq,e⟩:=List.mem_map.1 hm
  rw [<-e];exact (hs q hq).1
 ·rw [getD_lt _ _ hi,List.getElem_map]
  exact (hs _ (List.getElem_mem _)).2
theorem zmw (q:ByteArray×ByteArray) (L:Prs) (key val:ByteArray) (hq:lessB q.1 key=true):putL (q :: L) key val=q :: putL L key val:=by
 unfold putL
 rw [List.filter_cons_of_pos (p:=fun x:ByteArray×ByteArray=>lessB x.1 key) hq,List.filter_cons_of_neg (p:=fun x:ByteArray×ByteArray=>lessB key x.1) (by rw [zbu hq];decide)]
 rfl
theorem zfx {key val:ByteArray}:∀{L:Prs},Asc L->L.length<=(putL L key val).length/\(putL L key val).length<=L.length+1
 | [],_=>by simp [putL]
 | q :: L,h=>by
  obtain ⟨h1,h2⟩:=List.pairwise_cons.1 h
  cases e:lessB q.1 key with
  | true=>
   rw [zmw q L key val e];have:=zfx (key:=key) (val:=val) h2
   simp
   omega
  | false=>
   have hn:(q :: L).filter (fun x=>lessB x.1 key)= []:=zce (fun x hx=>by
    rcases List.mem_cons.1 hx with e2 | e2
    ·rw [e2];exact e
    ·cases e3:lessB x.1 key with
     | false=>rfl
     | true=>rw [zap (h1 x e2) e3] at e;cases e)
   have ha:L.filter (fun x=>lessB key x.1)=L:=zdC (fun x hx=>by
    cases e3:lessB key q.1 with
    | true=>exact zap e3 (h1 x hx)
    | false=>rw [zg5 e3 e];exact h1 x hx)
   unfold putL;rw [hn]
   cases e3:lessB key q.1 with
   | true=>
    rw [List.filter_cons_of_pos (p:=fun x:ByteArray×ByteArray=>lessB key x.1) e3,ha]
    simp
   | false=>
    rw [List.filter_cons_of_neg (p:=fun x:ByteArray×ByteArray=>lessB key x.1) (by rw [e3];decide),ha]
    simp
theorem drop_rd (k:Wk) (p:Int):(dropS k p).rd=k.rd:=by
 funext x
 unfold Wk.rd dropS
 split <;> rfl
theorem fin_rd (R:Wk×List ByteArray×List Int×Bool) (p:Int):(finK p R).1.rd=R.1.rd/\(finK p R).2.2.1=R.2.2.1:=by
 unfold finK
 split
 ·exact ⟨drop_rd _ _,rfl⟩
 ·exact ⟨rfl,rfl⟩
theorem zgl {n:Nd} (h:n.ok=true):(∀s∈n.ks,s.size<=24)/\(∀s∈n.vs,s.size<=24)/\(∀c∈n.cs,2<=c/\c<=39)/\n.ks.length<=4:=by
 obtain ⟨h1,h2,h3,h4⟩:=zan h
 refine ⟨fun s hs=> ?_,fun s hs=> ?_,fun c hc=> ?_,(zaP h1).2.1⟩
 ·obtain ⟨i,hi,e⟩:=List.getElem_of_mem hs
  have:=h2 i hi;unfold keyB at this;rw [Bool.and_eq_true,decide_eq_true_eq,getD_lt _ _ hi,e] at this;exact this.1
 ·obtain ⟨i,hi,e⟩:=List.getElem_of_mem hs
  have:=h3 i hi
  rwa [getD_lt _ _ hi,e] at this
 ·obtain ⟨i,hi,e⟩:=List.getElem_of_mem hc
  have:=h4 i hi;unfold kidB at this;rw [Bool.and_eq_true,decide_eq_true_eq,getD_lt _ _ hi,e] at this;exact this.1
theorem zgm (key val:ByteArray):∀(f:Nat) (k:Wk) (page:Int),(goPut key val f k page).2.1.length<=2
 | 0,k,page=>by rw [goPut];exact Nat.zero_le _
 | f+1,k,page=>by
  obtain ⟨n,ok,hn⟩:∃n ok,rdN (readD k.ps k.ls page)=(n,ok):=⟨_,_,rfl⟩
  cases ok with
  | false=>rw [zdz hn];exact Nat.zero_le _
  | true=>
   cases hl:n.lf with
   | true=>rw [zba hn hl];exact (zdd (zcl _ _ _ _ _)).2.1
   | false=>
    rw [zbd hn hl rfl rfl]
    split
    ·exact zgm key val f k _
    ·exact (zdd (zcl _ _ _ _ _)).2.1
theorem zh6 (key val:ByteArray) (hk:key.size<=24) (hv:val.size<=24):∀(h f:Nat) (k:Wk) (p:Int) (F:ByteArray) (L:Prs) (P X O:List Int) (m q:Nat),h<=f->WOk k O->Live k O X->Live k O P->P.Nodup->(∀x∈P,x∉X)->(∀x∈P,x∉O)->IsTree k.rd h p F L P->Rmq k O (m+h+1) (q+2 * h)->
  (goPut key val f k p).2.2.2=true/\Rmq (goPut key val f k p).1 O (m+1) q
 | 0,_,_,_,_,_,_,_,_,_,_,_,_,_,_,_,_,_,ht,_=>ht.elim
 | h+1,0,_,_,_,_,_,_,_,_,_,hf,_,_,_,_,_,_,_,_=>by omega
 | h+1,f+1,k,p,F,L,P,X,O,m,q,hf,hw,hX,hP,hnd,hdj,hO,⟨n,h1,h2,h3,h4⟩,hm=>by
  have hr:rdN (readD k.ps k.ls p)=(n,true):=h1
  have hpP:p∈P:=by rcases h4 with ⟨-,-,-,d⟩ | ⟨-,P',-,d⟩ <;> rw [d] <;> simp
  have hlv:Live k O (p :: X):=fun x hx=>by
   rcases List.mem_cons.1 hx with e | e
   ·rw [e];exact hP p hpP
   ·exact hX x e
  have hpf:∀k':Wk,Live k' O (p :: X)->p∈k'.fs/\p∉k'.us:=fun k' hl=>by
   obtain ⟨a,b⟩:=hl p (List.mem_cons_self ..);exact ⟨b.resolve_left (hO p hpP),a⟩
  obtain ⟨s1,s2,s3,s4⟩:=zgl h2
  rcases h4 with ⟨hl,hh,hLe,hPe⟩ | ⟨hl,P',hkd,hPe⟩
  ·subst hh hLe hPe
   rw [zba hr hl,zhy];obtain ⟨M,hM⟩:∃M,M=putL (n.ks.zip n.vs) key val:=⟨_,rfl⟩
   have hA:Asc M:=by rw [hM];exact zhz (zg6 h2) key val
   have hlen:M.length<=5:=by
    have:=(zfx (key:=key) (val:=val) (zg6 h2)).2;rw [<-hM,List.length_zip] at this
    omega
   have hpos:1<=M.length:=by rw [hM];unfold putL;simp;omega
   have hsz:∀x∈M,x.1.size<=24/\x.2.size<=24:=fun x hx=>by
    rw [hM] at hx
    rcases zhA hx with e | e
    ·rw [e];exact ⟨hk,hv⟩
    ·exact ⟨s1 _ (List.of_mem_zip e).1,s2 _ (List.of_mem_zip e).2⟩
   rw [<-hM]
   have hparts:∀x∈halfParts true (M.map Prod.fst) (M.map Prod.snd) [],nodeOkB true x.1 x.2.1 x.2.2=true:=fun x hx=>by
    unfold halfParts at hx
    split at hx
    ·next h5=>
     rw [List.length_map] at h5;rw [if_pos rfl,<-List.map_take,<-List.map_take,<-List.map_drop,<-List.map_drop,List.mem_cons,List.mem_singleton] at hx
     rcases hx with e | e <;> rw [e]
     ·exact zev (hA.sublist (List.take_sublist 3 M)) (by rw [List.length_take];omega) (by rw [List.length_take];omega) (fun y hy=>hsz y (List.mem_of_mem_take hy))
     ·exact zev (hA.sublist (List.drop_sublist 3 M)) (by rw [List.length_drop];omega) (by rw [List.length_drop];omega) (fun y hy=>hsz y (List.mem_of_mem_drop hy))
    ·next h5=>
     rw [List.length_map] at h5;rw [List.mem_singleton] at hx;rw [hx]
     exact zev hA hpos (by omega) hsz
   obtain ⟨r1,r2⟩:=zis (zfr hm (by omega) (by omega):Rmq k O (m+2) (q+2)) hparts
   have hres:=zir hw hlv hA r1;obtain ⟨f1,f2⟩:=hpf _ hres.live;exact zke r2 f1 f2 r1
  ·subst hPe
   obtain ⟨a,haa⟩:∃a,a=(placeK n.ks key n.ks.length).toNat:=⟨_,rfl⟩;obtain ⟨ha,g,La,Pa,Y,tA,hY,hPa,na,hdj',hsub,hall⟩:=zjr key val hX hP hnd hdj h2 h3 hkd haa;obtain ⟨R,hR⟩:∃R,R=goPut key val f k (n.cs.getD a 0):=⟨_,rfl⟩
   obtain ⟨r1,r2⟩:=zh6 key val hk hv h f k _ g La Pa (p :: Y) O (m+1) (q+2) (by omega) hw hY hPa na hdj' (fun x hx=>hO x (List.mem_cons_of_mem _ (hsub x hx))) tA (zfr hm (by omega) (by omega))
   have ih:=zdD key val h f k _ g La Pa (p :: Y) O (by omega) hw hY hPa na hdj' tA r1
   have hK:=zeL key val f k (n.cs.getD a 0);rw [zbd hr hl haa hR];rw [<-hR] at r1 r2 ih hK;obtain ⟨⟨PP,k1,k2,k3,k4⟩,k5,k6,-,k7⟩:=hall R ih
   rw [if_neg (by rw [r1];decide)]
   obtain ⟨⟨Pn,kn,ln,-⟩,wn,-,-,-,hfr,-⟩:=ih;have hlenc:=zbj hkd
   have hC2:R.2.1.length<=2:=by
    have:=(zgm key val f k (n.cs.getD a 0));rw [<-hR] at this;exact this
   have hcs:∀c∈midC n.cs a R.2.2.1 n.ks.length,2<=c/\c<=39:=fun c hc=>by
    rw [hlenc,zhB _ _ _ _ (Nat.le_refl _),if_neg (by omega),List.take_length,List.mem_append,List.mem_append] at hc
    rcases hc with (e | e) | e
    ·exact s3 c (List.mem_of_mem_take e)
    ·have h5:=hfr c e
     have h6:=zcA kn c e;obtain ⟨g1,L1,P1,t1,t2,-⟩:=h6;obtain ⟨Q,hQ⟩:=ziq t1
     have h7:=zlV wn ln c (t2 c (by rw [hQ];exact List.mem_cons_self ..))
     have h8:=wn.nl;have h9:=(zgR r2.dk).2.2.2.1
     have h10:c≠0:=fun e=>h5 (e▸wn.zero)
     have h11:c≠1:=fun e=>h5 (e▸r2.one)
     omega
    ·exact s3 c (List.mem_of_mem_drop e)
   have hks:∀s∈midK n.ks a R.2.1 n.ks.length,s.size<=24:=zil s1 hK _
   have hl5:(midK n.ks a R.2.1 n.ks.length).length<=5:=by
    rw [zg4 _ _ _ _ (Nat.le_refl _),if_neg (by omega)]
    simp only [List.length_append,List.length_take,List.length_cons,List.length_drop,List.take_length]
    omega
   generalize midK n.ks a R.2.1 n.ks.length=KK at k1 k5 k7 hks hl5⊢
   generalize midC n.cs a R.2.2.1 n.ks.length=CC at k1 k7 hcs⊢
   have hparts:∀x∈halfParts false KK [] CC,nodeOkB false x.1 x.2.1 x.2.2=true:=fun x hx=>by
    unfold halfParts at hx
    split at hx
    ·next h5=>
     have hsp:=k1;have hl6:=zbj k1;rw [<-List.take_append_drop 3 KK,<-List.take_append_drop 3 CC] at hsp
     obtain ⟨L1,P1,L2,P2,a1,a2,a3,-,e2⟩:=(zcm (by rw [List.length_take,List.length_take,hl6])).1 hsp
     rw [e2,List.nodup_append] at k3
     rw [if_neg (by decide),List.mem_cons,List.mem_singleton] at hx
     rcases hx with e | e <;> rw [e]
     ·exact zeu a1 k3.1 (fun c hc=>hcs c (List.mem_of_mem_take hc)) (fun s hs=>hks s (List.mem_of_mem_take hs)) (by rw [List.length_take];omega) (by rw [List.length_take];omega)
     ·exact zeu a2 k3.2.1 (fun c hc=>hcs c (List.mem_of_mem_drop hc)) (fun s hs=>hks s (List.mem_of_mem_drop hs)) (by rw [List.length_drop];omega) (by rw [List.length_drop];omega)
    ·next h5=>
     rw [List.mem_singleton] at hx;rw [hx]
     exact zeu k1 k3 hcs hks k5 (by show KK.length<=4;omega)
   obtain ⟨t1,t2⟩:=zis r2 hparts;obtain ⟨f1,f2⟩:=hpf _ (k7 t1).live;exact zke t2 f1 f2 t1
theorem zmx {lf:Bool} {ks vs:List ByteArray} {cs:List Int} (h2:2<=ks.length):∀p∈halfParts lf ks vs cs,2<=p.1.length/\∀c∈p.2.2,c∈cs:=fun p hp=>by
 unfold halfParts at hp
 split at hp
 ·split at hp <;> rw [List.mem_cons,List.mem_singleton] at hp <;> rcases hp with e | e <;> subst e
  ·exact ⟨by simp;omega,fun c hc=>by cases hc⟩
  ·exact ⟨by simp;omega,fun c hc=>by cases hc⟩
  ·exact ⟨by simp;omega,fun c hc=>List.mem_of_mem_take hc⟩
  ·exact ⟨by simp;omega,fun c hc=>List.mem_of_mem_drop hc⟩
 ·rw [List.mem_singleton] at hp
  subst hp
  exact ⟨h2,fun c hc=>hc⟩
theorem zkt {k:Wk} {O:List Int} {h:Nat} {lf:Bool} {ks vs:List ByteArray} {cs:List Int} {P:List Int} (hw:WOk k O) (hP:Live k O P) (hc:∀c∈cs,FatT k.rd h c/\∃f L1 P1,IsTree k.rd h c f L1 P1/\∀x∈P1,x∈P) (h2:2<=ks.length) (ho:(halfS k lf ks vs cs).2.2.2=true):∀c∈(halfS k lf ks vs cs).2.2.1,FatT (halfS k lf ks vs cs).1.rd (h+1) c:=by
 unfold halfS at ho⊢;obtain ⟨i0,i1,i2,i3,i4,i5,i6,i7,i8⟩:=zek lf _ k O P hw hP ho;intro c hm;obtain ⟨i,hi,e⟩:=List.getElem_of_mem hm
 have hi2:i<(halfParts lf ks vs cs).length:=by omega
 obtain ⟨⟨j1,-⟩,-⟩:=i8 i _ c (List.getElem?_eq_getElem hi2) (by rw [List.getElem?_eq_getElem hi,e])
 obtain ⟨f1,f2⟩:=zmx h2 _ (List.getElem_mem hi2)
 refine ⟨by rw [j1];exact f1,fun _ x hx=> ?_⟩
 rw [j1] at hx;obtain ⟨ft,f,L1,P1,t1,t2⟩:=hc x (f2 x hx)
 exact zg7 h t1 (fun y hy=>i7 y (fun e=>i5 y e (t2 y hy))) ft
theorem zmy {R:Wk×List ByteArray×List Int×Bool} {p:Int} {h:Nat} (hf:∀c∈R.2.2.1,FatT R.1.rd h c):∀c∈(finK p R).2.2.1,FatT (finK p R).1.rd h c:=by
 obtain ⟨e1,e2⟩:=fin_rd R p;rw [e1,e2];exact hf
theorem znE {k:Wk} {lf:Bool} {ks vs:List ByteArray} {cs:List Int} (ho:(halfS k lf ks vs cs).2.2.2=true) (h:(halfS k lf ks vs cs).2.2.1.length≠1):2<=ks.length:=by
 have h1:=zfV lf (halfParts lf ks vs cs) k;unfold halfS at h ho;rw [<-h1.1,h1.2.2 ho] at h;unfold halfParts at h
 split at h
 ·omega
 ·exact absurd rfl h
theorem ziV (key val:ByteArray):∀(h f:Nat) (k:Wk) (p:Int) (F:ByteArray) (L:Prs) (P X O:List Int),h<=f->WOk k O->Live k O X->Live k O P->P.Nodup->(∀x∈P,x∉X)->IsTree k.rd h p F L P->(goPut key val f k p).2.2.2=true->
  (FatT k.rd h p\/(h=1/\(goPut key val f k p).2.2.1.length≠1))->∀c∈(goPut key val f k p).2.2.1,FatT (goPut key val f k p).1.rd h c
 | 0,_,_,_,_,_,_,_,_,_,_,_,_,_,_,ht,_,_=>ht.elim
 | h+1,0,_,_,_,_,_,_,_,hf,_,_,_,_,_,_,_,_=>by omega
 | h+1,f+1,k,p,F,L,P,X,O,hf,hw,hX,hP,hnd,hdj,⟨n,h1,h2,h3,h4⟩,ho,hft=>by
  have hr:rdN (readD k.ps k.ls p)=(n,true):=h1
  rcases h4 with ⟨hl,hh,hLe,hPe⟩ | ⟨hl,P',hkd,hPe⟩
  ·subst hh hLe hPe
   rw [zba hr hl,zhy] at ho hft⊢
   refine zmy (zkt (P:= []) hw (fun x hx=>by cases hx) (fun c hc=>by cases hc) ?_ (zem ho))
   rcases hft with hft | ⟨-,hft⟩
   ·have h5:=hft.1
    rw [h1] at h5;have h6:=(zfx (key:=key) (val:=val) (zg6 h2)).1;have h7:=((zaY h2).1 hl).1;rw [List.length_zip] at h6;rw [List.length_map];have h5:2<=n.ks.length:=h5
    omega
   ·rw [(fin_rd _ _).2] at hft
    exact znE (zem ho) hft
  ·subst hPe
   obtain ⟨ha,g,La,Pa,Y,tA,hY,hPa,na,hdj',hsub,hall⟩:=zjr key val hX hP hnd hdj h2 h3 hkd rfl;obtain ⟨R,hR⟩:∃R,R=goPut key val f k (n.cs.getD (placeK n.ks key n.ks.length).toNat 0):=⟨_,rfl⟩
   have hfp:FatT k.rd (h+1) p:=by
    rcases hft with hft | ⟨hh,-⟩
    ·exact hft
    ·obtain rfl:h=0:=by omega
     exact tA.elim
   obtain ⟨f1,f2⟩:=hfp;rw [h1] at f1 f2;have f1:2<=n.ks.length:=f1;have f2:∀c∈n.cs,FatT k.rd h c:=f2 hl;rw [zbd hr hl rfl hR] at ho⊢
   have hRo:R.2.2.2=true:=by
    cases e:R.2.2.2 with
    | true=>rfl
    | false=>rw [if_pos e,e] at ho;cases ho
   rw [if_neg (by rw [hRo];decide)] at ho⊢
   have ih:=zdD key val h f k _ g La Pa (p :: Y) O (by omega) hw hY hPa na hdj' tA (by rw [<-hR];exact hRo)
   have ifat:=ziV key val h f k _ g La Pa (p :: Y) O (by omega) hw hY hPa na hdj' tA (by rw [<-hR];exact hRo) (Or.inl (f2 _ (by rw [getD_lt _ _ ha];exact List.getElem_mem ha)))
   rw [<-hR] at ih ifat;obtain ⟨⟨PP,k1,k2,k3,k4⟩,k5,k6,k7,-⟩:=hall R ih
   have hlen:2<=(midK n.ks (placeK n.ks key n.ks.length).toNat R.2.1 n.ks.length).length:=by
    have hlc:=zbj hkd
    rw [zg4 _ _ _ _ (Nat.le_refl _),if_neg (by omega)]
    simp only [List.length_append,List.length_take,List.length_cons,List.length_drop,List.take_length]
    omega
   refine zmy (zkt ih.wok k2 (fun c hc=>⟨k7 f2 ifat c hc,?_⟩) hlen (zem ho))
   obtain ⟨g1,L1,P1,t1,t2,-⟩:=zcA k1 c hc;exact ⟨g1,L1,P1,t1,t2⟩
theorem ziW {T:Int->ByteArray->Prs->List Int->Prop} {G:Int->Prop} {B:Nat} (hT:∀c f L P,T c f L P->G c->P.length+1<=L.length/\B<=L.length):∀{ks:List ByteArray} {cs:List Int} {L:Prs} {P:List Int},KidsOf T ks cs L P->(∀c∈cs,G c)->P.length+ks.length<=L.length/\B * ks.length<=L.length
 | [],[],_,_,⟨e1,e2⟩,_=>by rw [e1,e2];simp
 | [],_ :: _,_,_,h,_=>h.elim
 | _ :: _,[],_,_,h,_=>h.elim
 | x :: ks,c :: cs,_,_,⟨f,L1,P1,L2,P2,h1,h2,h3,h4,e1,e2⟩,hg=>by
  obtain ⟨i1,i2⟩:=ziW hT h4 (fun y hy=>hg y (List.mem_cons_of_mem _ hy))
  obtain ⟨j1,j2⟩:=hT _ _ _ _ h1 (hg c (List.mem_cons_self ..));rw [e1,e2]
  simp only [List.length_append,List.length_cons,Nat.mul_add,Nat.mul_one]
  omega
theorem zku {R:Int->Nd×Bool}:∀(h:Nat) {p:Int} {f:ByteArray} {L:Prs} {P:List Int},IsTree R h p f L P->FatT R h p->P.length+1<=L.length/\2 ^ h<=L.length
 | 0,_,_,_,_,ht,_=>ht.elim
 | h+1,p,f,L,P,⟨n,h1,h2,h3,h4⟩,⟨f1,f2⟩=>by
  rw [h1] at f1 f2;have f1:2<=n.ks.length:=f1
  rcases h4 with ⟨a,b,c,d⟩ | ⟨a,P',c,d⟩
  ·subst b
   have h7:=((zaY h2).1 a).1;rw [c,d,List.length_zip]
   simp
   omega
  ·obtain ⟨i1,i2⟩:=ziW (G:=fun x=>FatT R h x) (B:=2 ^ h) (fun _ _ _ _ ht hg=>zku h ht hg) c (f2 a)
   rw [d,List.length_cons,Nat.pow_succ];have:=Nat.mul_le_mul_left (2 ^ h) f1
   omega
theorem zgn (key val:ByteArray):∀(f:Nat) {k:Wk} (p:Int),JOk k->JOk (goPut key val f k p).1
 | 0,k,p,h=>by rw [goPut];exact h
 | f+1,k,p,h=>by
  obtain ⟨n,ok,hn⟩:∃n ok,rdN (readD k.ps k.ls p)=(n,ok):=⟨_,_,rfl⟩
  cases ok with
  | false=>rw [zdz hn];exact h
  | true=>
   cases hl:n.lf with
   | true=>rw [zba hn hl];exact zhE (zde _ _ h) p
   | false=>
    rw [zbd hn hl rfl rfl]
    split
    ·exact zgn key val f _ h
    ·exact zhE (zde _ _ (zgn key val f _ h)) p
theorem zmz {a:Int}:∀(n:Nat) (l:List Int),(∀x,l.count x=newC a (a+n) x)->l.length=n
 | 0,l,h=>by
  cases l with
  | nil=>rfl
  | cons x t=>
   have:=h x;rw [List.count_cons_self] at this;unfold newC at this
   rw [if_neg (by omega)] at this
   omega
 | n+1,l,h=>by
  have hm:(a+n:Int)∈l:=by
   rw [<-List.count_pos_iff,h];unfold newC
   rw [if_pos (by omega)]
   decide
  have:=zmz n (l.erase (a+n)) (fun x=>by
   rw [List.count_erase,h];unfold newC
   by_cases e:x=a+n
   ·subst e
    rw [if_pos (show a<=a+(n:Int)/\a+(n:Int)<a+((n+1:Nat):Int) by omega),if_neg (show ¬(a<=a+(n:Int)/\a+(n:Int)<a+(n:Int)) by omega)]
    simp
   ·rw [show ((a+(n:Int) ==x)=false) from by simpa using fun e2=>e e2.symm]
    by_cases e1:a<=x/\x<a+n
    ·rw [if_pos (show a<=x/\x<a+((n+1:Nat):Int) by omega),if_pos e1];rfl
    ·rw [if_neg (show ¬(a<=x/\x<a+((n+1:Nat):Int)) by omega),if_neg e1];rfl)
  rw [List.length_erase_of_mem hm] at this;have:=List.length_pos_of_mem hm
  omega
structure PutSt (k:Wk) (root:Int) (L:Prs) (P:List Int) (M:Nat):Prop where
 wok:WOk k [0,1]
 jok:JOk k
 live:Live k [0,1] P
 nd:P.Nodup
 tree:(root=0/\L= []/\P= [])\/∃h f,root≠0/\IsTree k.rd h root f L P/\(h=1\/FatT k.rd h root)
 cnt:∀x,P.count x+k.us.count x=newC 2 k.next x
 dk:diskOkB k.ps k.ls=true
 ps:k.ps.length=40
 gn:k.gs= []
 nx:2<=k.next
 sm:k.sm (70000+25 * M)
 lt:k.ls.length+9 * M<=200
 len:L.length+M<=20
 asc:Asc L
theorem zlc {k:Wk} {root:Int} {L:Prs} {P:List Int} {M:Nat} (h:PutSt k root L P M):k.room=38 - (P.length:Int):=by
 have h1:=zmz (a:=2) (k.next - 2).toNat (P++k.us) (fun x=>by
  rw [List.count_append,h.cnt,Int.toNat_of_nonneg (by have:=h.nx;omega)]
  congr 1
  omega)
 rw [List.length_append] at h1;have:=h.nx;unfold Wk.room;rw [h.ps]
 omega
theorem zmA {k:Wk} {root:Int} {L:Prs} {P:List Int} {M:Nat} (h:PutSt k root L P M):∀x∈P,x∉([0,1]:List Int):=fun x hx e=>by
 have h1:=h.cnt x;have h2:=List.count_pos_iff.2 hx;unfold newC at h1
 rw [if_neg (by simp at e;omega)] at h1
 omega
theorem zgo {R:Int->Nd×Bool} {h:Nat} {p:Int} {f:ByteArray} {L:Prs} {P:List Int} (ht:IsTree R h p f L P) (hf:h=1\/FatT R h p) (hL:L.length<=20):P.length<=20/\h<=4/\1<=h:=by
 rcases hf with e | e
 ·subst e
  obtain ⟨n,h1,h2,h3,h4⟩:=ht
  rcases h4 with ⟨a,b,c,d⟩ | ⟨a,P',c,d⟩
  ·rw [d];simp
  ·have hp:=zel h2
   cases hk:n.ks with
   | nil=>rw [hk] at hp;simp at hp
   | cons x ks=>
    rw [hk] at c
    cases hc:n.cs with
    | nil=>rw [hc] at c;exact c.elim
    | cons y cs=>
     rw [hc] at c;obtain ⟨g,L1,P1,L2,P2,k1,-⟩:=c;exact k1.elim
 ·obtain ⟨h1,h2⟩:=zku h ht e
  refine ⟨by omega,?_,?_⟩
  ·by_cases h5:5<=h
   ·have:=Nat.pow_le_pow_right (n:=2) (by decide) h5
    omega
   ·omega
  ·cases h with
   | zero=>exact ht.elim
   | succ h=>omega
theorem zmB (k:Wk) (lf:Bool) (ks vs:List ByteArray) (cs:List Int):(putK k lf ks vs cs).ps=k.ps:=by
 unfold putK
 split
 ·exact (zd8 k).1
 ·rfl
theorem zgp (lf:Bool):∀(r:List Part) (k:Wk),(halfL lf k r).1.ps=k.ps
 | [],k=>rfl
 | p :: r,k=>by
  rw [halfL]
  split
  ·rfl
  ·exact (zgp lf r _).trans (zmB k _ _ _ _)
theorem fin_ps (R:Wk×List ByteArray×List Int×Bool) (p:Int):(finK p R).1.ps=R.1.ps:=by
 unfold finK dropS
 split
 ·split <;> rfl
 ·rfl
theorem zgq (key val:ByteArray):∀(f:Nat) (k:Wk) (p:Int),(goPut key val f k p).1.ps.length=k.ps.length
 | 0,k,p=>by rw [goPut]
 | f+1,k,p=>by
  obtain ⟨n,ok,hn⟩:∃n ok,rdN (readD k.ps k.ls p)=(n,ok):=⟨_,_,rfl⟩
  cases ok with
  | false=>rw [zdz hn]
  | true=>
   cases hl:n.lf with
   | true=>rw [zba hn hl,fin_ps];exact congrArg List.length (zgp _ _ _)
   | false=>
    rw [zbd hn hl rfl rfl]
    split
    ·exact zgq key val f k _
    ·rw [fin_ps];exact (congrArg List.length (zgp _ _ _)).trans (zgq key val f k _)
theorem zmC {k:Wk} {root:Int} {key val:ByteArray} (hk:¬(24<key.size\/24<val.size)) (h0:root≠0) {R:Wk×List ByteArray×List Int×Bool} (hR:R=goPut key val 8 k root) (hok:R.2.2.2=true) (h1:R.2.2.1.length≠1) (h8:¬8<=deepD (fun q=>rdN (readD R.1.ps R.1.ls q)) (R.2.2.1.getD 0 0)) (hp:putP R.1 false R.2.1 [] R.2.2.1≠0):
  putS k root key val=(putK R.1 false R.2.1 [] R.2.2.1,putP R.1 false R.2.1 [] R.2.2.1,true):=by
 subst hR;unfold putS
 rw [if_neg hk,if_neg h0,if_neg (by rw [hok];decide),if_neg h1,if_neg h8,if_neg hp]
theorem zmD {k:Wk} {root:Int} {key val:ByteArray} (hk:¬(24<key.size\/24<val.size)) (h0:root≠0) {R:Wk×List ByteArray×List Int×Bool} (hR:R=goPut key val 8 k root) (hok:R.2.2.2=true) (h1:R.2.2.1.length=1):
  putS k root key val=(R.1,R.2.2.1.getD 0 0,true):=by
 subst hR;unfold putS
 rw [if_neg hk,if_neg h0,if_neg (by rw [hok];decide),if_pos h1]
theorem zjC {k k':Wk} {P P':List Int} (ha:Acc k k' P P') (hc:∀x,P.count x+k.us.count x=newC 2 k.next x) (hn:2<=k.next) (h1:k.gs= []) (h2:k'.gs= []):(∀x,P'.count x+k'.us.count x=newC 2 k'.next x)/\2<=k'.next:=by
 refine ⟨fun x=> ?_,by have:=ha.1;omega⟩
 have e1:=ha.2 x;have e2:=hc x;rw [h1,h2,List.count_nil] at e1;rw [zei hn ha.1]
 omega
theorem zmE {k:Wk} {root:Int} {L:Prs} {P:List Int} {M:Nat} (h:PutSt k root L P (M+1)) {key val:ByteArray} (hk:key.size<=24) (hv:val.size<=24):
  (putS k root key val).2.2=true/\∃P',PutSt (putS k root key val).1 (putS k root key val).2.1 (putL L key val) P' M:=by
 have hsz:¬(24<key.size\/24<val.size):=by omega
 have hroom:=zlc h;have hout:=zmA h;have hasc:Asc (putL L key val):=zhz h.asc key val;have hlen:=(zfx (key:=key) (val:=val) h.asc).2;have hL:=h.len;have hlt:=h.lt
 by_cases h0:root=0
 ·have hnil:L= []/\P= []:=by
   rcases h.tree with ⟨-,a,b⟩ | ⟨-,-,a,-⟩
   ·exact ⟨a,b⟩
   ·exact absurd h0 a
  obtain ⟨rfl,rfl⟩:=hnil
  have hn:nodeOkB true [key] [val] []=true:=zev (M:= [(key,val)]) (List.pairwise_singleton _ _) (by simp) (by simp) (fun q hq=>by rw [List.mem_singleton] at hq;rw [hq];exact ⟨hk,hv⟩)
  obtain ⟨hp,hr⟩:=zhC (m:=0) (q:=9 * M+8) (⟨h.wok,by simp,h.dk,by rw [hroom];simp,by omega,h.gn⟩:Rmq k [0,1] (0+1) (9 * M+8+1)) hn
  have e:putS k root key val=(putK k true [key] [val] [],putP k true [key] [val] [],true):=by
   unfold putS;rw [if_neg hsz,if_pos h0,if_neg hp]
  obtain ⟨w1,w2,w3,w4,w5,w6,w7⟩:=zhw h.wok hp;have hacc:=zjC (zjo h.wok hp) h.cnt h.nx h.gn hr.gn;rw [e]
  refine ⟨rfl,[putP k true [key] [val] []],hr.wok,zhD h.jok _ _ _ _,fun x hx=>(w5 [] (fun y hy=>by cases hy)).1 x hx,by simp,Or.inr ⟨1,key,hp,⟨_,w6,hn,rfl,Or.inl ⟨rfl,rfl,rfl,rfl⟩⟩,Or.inl rfl⟩,hacc.1,hr.dk,?_,hr.gn,hacc.2,?_,?_,?_,hasc⟩
  ·show (putK k true [key] [val] []).ps.length=40
   rw [zmB];exact h.ps
  ·exact zii (zaD h.sm (by omega)) _ _ _ _
  ·have:=hr.lt
   show (putK k true [key] [val] []).ls.length+9 * M<=200
   omega
  ·omega
 ·obtain ⟨hh,f,-,ht,hf⟩:∃h f,root≠0/\IsTree k.rd h root f L P/\(h=1\/FatT k.rd h root):=by
   rcases h.tree with ⟨a,-⟩ | a
   ·exact absurd a h0
   ·exact a
  obtain ⟨l1,l2,l3⟩:=zgo ht hf (by omega)
  obtain ⟨R,hR⟩:∃R,R=goPut key val 8 k root:=⟨_,rfl⟩
  obtain ⟨g1,g2⟩:=zh6 key val hk hv hh 8 k root f L P [] [0,1] 1 (9 * M+9 - 2 * hh) (by omega) h.wok (fun x hx=>by cases hx) h.live h.nd (fun x _ e=>by cases e) hout ht ⟨h.wok,by simp,h.dk,by rw [hroom];omega,by omega,h.gn⟩
  have g3:=zdD key val hh 8 k root f L P [] [0,1] (by omega) h.wok (fun x hx=>by cases hx) h.live h.nd (fun x _ e=>by cases e) ht g1
  have g4:=ziV key val hh 8 k root f L P [] [0,1] (by omega) h.wok (fun x hx=>by cases hx) h.live h.nd (fun x _ e=>by cases e) ht g1
  have g5:=(zfW key val 8 k root (70000+25 * M+1) (zaD h.sm (by omega))).2.2.2
  have g6:=zgn key val 8 root h.jok;have g7:=zgm key val 8 k root;have g8:=zeL key val 8 k root;rw [<-hR] at g1 g2 g3 g4 g5 g6 g7 g8
  have g9:R.1.ps.length=40:=by
   have:=zgq key val 8 k root;rw [<-hR,h.ps] at this;exact this
  obtain ⟨⟨P',k1,k2,k3,k4,k5⟩,q1,q2,q3,-,q4,q5⟩:=g3;have hkl:=zbj k1;have hacc:=zjC k5 h.cnt h.nx h.gn g2.gn
  by_cases h1:R.2.2.1.length=1
  ·rw [zmD hsz h0 hR g1 h1]
   match hC:R.2.2.1,h1 with
   | [c],_=>
    rw [hC] at k1 hkl g4
    match hK:R.2.1,hkl with
    | [x],_=>
     rw [hK] at k1;obtain ⟨g,L1,P1,L2,P2,t1,-,-,⟨rfl,rfl⟩,e1,e2⟩:=k1;rw [List.append_nil] at e1 e2;subst e2;rw [<-e1] at t1
     have hc0:c≠0:=fun e=>q4 c (by rw [hC];exact List.mem_singleton.2 rfl) (by rw [e];simp)
     refine ⟨rfl,P',q1,g6,k2,k3,Or.inr ⟨hh,g,hc0,t1,hf.imp id (fun e=>g4 (Or.inl e) c (List.mem_singleton.2 rfl))⟩,hacc.1,g2.dk,g9,g2.gn,hacc.2,zaD g5 (by omega),?_,by omega,hasc⟩
     have:=g2.lt
     show R.1.ls.length+9 * M<=200
     omega
  ·have hd:¬8<=deepD (fun q=>rdN (readD R.1.ps R.1.ls q)) (R.2.2.1.getD 0 0):=by
    match hK:R.2.1,hC:R.2.2.1,hkl with
    | [],[],_=>
     rw [hK,hC] at k1;have:=k1.1;unfold putL at this
     simp at this
    | x :: K,c :: C,_=>
     rw [hK,hC] at k1;obtain ⟨g,L1,P1,L2,P2,t1,-⟩:=k1
     have:=ziU hh 8 1 t1 (by omega)
     show ¬8<=deepL R.1.rd 8 c 1
     omega
   have hcs:∀c∈R.2.2.1,2<=c/\c<=39:=fun c hc=>by
    have h5:=q4 c hc;have h7:=zlV q1 k2 c ((zjB k1 k3).2 c hc);have h8:=q1.nl
    simp at h5
    omega
   have hpos:1<=R.2.1.length:=by
    match hK:R.2.1,hC:R.2.2.1,hkl with
    | [],[],_=>
     rw [hK,hC] at k1;have:=k1.1;unfold putL at this
     simp at this
    | x :: K,c :: C,_=>simp
   have hn:=zeu k1 k3 hcs g8 hpos (by omega)
   obtain ⟨hp,hr⟩:=zhC (m:=1) (q:=9 * M+8 - 2 * hh) (zfr g2 (by omega) (by omega)) hn
   rw [zmC hsz h0 hR g1 h1 hd hp];obtain ⟨w1,w2,w3,w4,w5,w6,w7⟩:=zhw q1 hp;obtain ⟨v1,v2⟩:=w5 P' k2
   have hne:∀x∈P',(putK R.1 false R.2.1 [] R.2.2.1).rd x=R.1.rd x:=fun x hx=>w7 x (fun e=>v2 (e▸hx))
   have hacc2:Acc k (putK R.1 false R.2.1 [] R.2.2.1) P (putP R.1 false R.2.1 [] R.2.2.1 :: P'):=by
    have h5:=zjo q1 hp
    refine ⟨by have:=k5.1;have:=h5.1;omega,fun x=> ?_⟩
    have e1:=k5.2 x;have e2:=h5.2 x;rw [zei k5.1 h5.1,List.count_cons];rw [List.count_singleton,List.count_nil] at e2
    omega
   have hacc3:=zjC hacc2 h.cnt h.nx h.gn hr.gn
   have k1':KidsOf (IsTree (putK R.1 false R.2.1 [] R.2.2.1).rd hh) R.2.1 R.2.2.1 (putL L key val) P':=zcd (T:=IsTree R.1.rd hh) (T':=IsTree (putK R.1 false R.2.1 [] R.2.2.1).rd hh) (G:=fun x=>(putK R.1 false R.2.1 [] R.2.2.1).rd x=R.1.rd x) (fun _ _ _ _ ht hx=>zc5 hh ht hx) k1 hne
   refine ⟨rfl,_ :: P',hr.wok,zhD g6 _ _ _ _,v1,List.nodup_cons.2 ⟨v2,k3⟩,Or.inr ⟨hh+1,_,hp,⟨_,w6,hn,rfl,Or.inr ⟨rfl,P',k1',rfl⟩⟩,Or.inr ⟨by rw [w6];show 2<=R.2.1.length;omega,fun _ c hc=> ?_⟩⟩,hacc3.1,hr.dk,?_,hr.gn,hacc3.2,zaD (zii (m:=70000+25 * M) g5 _ _ _ _) (by omega),?_,by omega,hasc⟩
   ·rw [w6] at hc
    have hc:c∈R.2.2.1:=hc;refine zhG k1 hne hc (g4 ?_ c hc)
    rcases hf with e | e
    ·exact Or.inr ⟨e,h1⟩
    ·exact Or.inl e
   ·show (putK R.1 false R.2.1 [] R.2.2.1).ps.length=40
    rw [zmB];exact g9
   ·have:=hr.lt
    show (putK R.1 false R.2.1 [] R.2.2.1).ls.length+9 * M<=200
    omega
end Go.Proofs.YtcbogiebfbbmbaaGreatDoor
