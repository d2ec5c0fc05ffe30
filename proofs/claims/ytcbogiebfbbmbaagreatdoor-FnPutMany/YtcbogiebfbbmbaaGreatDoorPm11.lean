/-
  Facts and contracts that the law's own text rests on, by their texts' names: TreePl1, TreePl2, TreePl3, TreePl4, PutRoom.
-/
import Derived.Test.YtcbogiebfbbmbaaGreatDoorPm9
import Derived.Test.YtcbogiebfbbmbaaGreatDoorPm10
set_option maxHeartbeats 16000000
set_option maxRecDepth 100000
namespace Go.Proofs.YtcbogiebfbbmbaaGreatDoor
open Go.RowKit
theorem zjn {s:ByteArray} {cnt:Nat}:∀(d:Nat) {n:Nd} {p:Nat},NTry s cnt n p->n.even->n.ks.length+d=cnt->∀m m',IsIn s m->IsIn s m'->m=m'
 | 0,n,p,h,he,hc,m,m',hm,hm'=>by
  rw [(zgS h he (by omega) m hm).1,(zgS h he (by omega) m' hm').1]
 | d+1,n,p,h,he,hc,m,m',hm,hm'=>by
  obtain ⟨x,h1,⟨hl,y,h2,h3⟩ | ⟨hl,z,h2,h3⟩⟩:=zeH h he (by omega) hm
  ·exact zjn d (zlF h he (by omega) hl h1 h2) (zdu he hl x y) (by simp [Nd.snocV];omega) m m' hm hm'
  ·exact zjn d (zlG h he (by omega) hl h1 h2) (zdv he hl x z) (by simp [Nd.snocC];omega) m m' hm hm'
theorem znc {s:ByteArray} {m m':Nd} (h:IsIn s m) (h':IsIn s m'):m=m':=by
 obtain ⟨-,h1,h2⟩:=zcw h
 have hl:m.lf=decide (byt s 0=108):=by
  rw [h1]
  cases m.lf <;> decide
 have hs:=zfk (s:=s) hl h2
 exact zjn m.ks.length hs ⟨fun _=>⟨rfl,rfl⟩,fun _=>⟨rfl,rfl⟩⟩ (by simp) m m' h h'
theorem znd {t:ByteArray} {m m':Nd} (h:IsNd t m) (h':IsNd t m'):m=m':=by
 cases hs:isSealed t.data.toList with
 | false=>exact absurd h (zcK hs m)
 | true=>exact znc ((zbB hs m).1 h) ((zbB hs m').1 h')
theorem zlU {n:Nd} (h:n.ok=true):rdN (nodeO n.lf n.ks n.vs n.cs)=(n,true):=by
 have h':nodeOkB n.lf n.ks n.vs n.cs=true:=h
 have hm:IsNd (nodeO n.lf n.ks n.vs n.cs) n:=⟨h,by rw [nodeO,if_pos h']⟩
 exact zh0 (Or.inl ⟨rfl,hm,fun m hx=>znd hx hm⟩)
noncomputable def Wk.rd (k:Wk) (p:Int):Nd×Bool:=rdN (readD k.ps k.ls p)
structure WOk (k:Wk) (O:List Int):Prop where
 zero:(0:Int)∈O
 un:k.us.Nodup
 fn:k.fs.Nodup
 uf:∀x∈k.us,x∉k.fs
 uo:∀x∈k.us,x∉O
 fo:∀x∈k.fs,x∉O
 lu:∀x∈k.us,0<=x/\x<k.next
 lf:∀x∈k.fs,0<=x/\x<k.next
 lo:∀x∈O,0<=x/\x<k.next
 sz:k.ps.length<=1048576
 go:∀x∈k.gs,x∈O
 nl:k.next<=(k.ps.length:Int)
 lw:∀e∈k.ls,e.1∉O
def Live (k:Wk) (O X:List Int):Prop:=∀x∈X,x∉k.us/\(x∈O\/x∈k.fs)
theorem zlV {k:Wk} {O X:List Int} (hw:WOk k O) (h:Live k O X):∀x∈X,0<=x/\x<k.next:=fun x hx=>by
 rcases (h x hx).2 with e | e
 ·exact hw.lo x e
 ·exact hw.lf x e
theorem zdA {k:Wk} {O X Y:List Int}:Live k O (X++Y)↔Live k O X/\Live k O Y:=by
 unfold Live
 constructor
 ·exact fun h=>⟨fun x hx=>h x (List.mem_append_left _ hx),fun x hx=>h x (List.mem_append_right _ hx)⟩
 ·rintro ⟨h1,h2⟩ x hx
  rcases List.mem_append.1 hx with e | e
  ·exact h1 x e
  ·exact h2 x e
theorem zkb {k:Wk} {O:List Int} (h:WOk k O) (hp:giveP k≠0):
  WOk (giveK k) O/\giveP k∉O/\giveP k∉k.fs/\(giveK k).fs=k.fs++ [giveP k]/\giveP k∉(giveK k).us/\(∀x∈(giveK k).us,x∈k.us)/\0<=giveP k/\(giveP k∈k.us\/giveP k=k.next):=by
 cases hu:k.us with
 | cons x t=>
  obtain ⟨e1,e2⟩:=zcu hu;rw [e1,e2]
  have hx:x∈k.us:=by rw [hu];exact List.mem_cons_self ..
  have ht:∀y∈t,y∈k.us:=fun y hy=>by rw [hu];exact List.mem_cons_of_mem _ hy
  have hn:=h.un;rw [hu,List.nodup_cons] at hn
  refine ⟨⟨h.zero,hn.2,?_,fun y hy=> ?_,fun y hy=>h.uo y (ht y hy),fun y hy=> ?_,fun y hy=>h.lu y (ht y hy),fun y hy=> ?_,h.lo,h.sz,h.go,h.nl,h.lw⟩,h.uo x hx,h.uf x hx,rfl,hn.1,fun y hy=>List.mem_cons_of_mem _ hy,(h.lu x hx).1,Or.inl (List.mem_cons_self ..)⟩
  ·rw [List.nodup_append]
   exact ⟨h.fn,by simp,fun a ha b hb=>by rw [List.mem_singleton] at hb;subst hb;exact fun e=>h.uf b hx (e▸ha)⟩
  ·show y∉k.fs++ [x]
   rw [List.mem_append,List.mem_singleton];rintro (e | e)
   ·exact h.uf y (ht y hy) e
   ·exact hn.1 (e▸hy)
  ·rcases List.mem_append.1 hy with e | e
   ·exact h.fo y e
   ·rw [List.mem_singleton] at e;subst e;exact h.uo y hx
  ·rcases List.mem_append.1 hy with e | e
   ·exact h.lf y e
   ·rw [List.mem_singleton] at e;subst e;exact h.lu y hx
 | nil=>
  by_cases hn:k.next<(k.ps.length:Int)
  ·obtain ⟨e1,e2⟩:=zcv hu hn
   rw [e1,e2];have h0:=h.lo 0 h.zero;have hsz:=h.sz
   have hw:wrap64 (k.next+1)=k.next+1:=zas _ (by omega) (by omega)
   refine ⟨⟨h.zero,h.un,?_,fun y hy=> ?_,h.uo,fun y hy=> ?_,fun y hy=> ?_,fun y hy=> ?_,fun y hy=> ?_,h.sz,h.go,(by show wrap64 (k.next+1)<=(k.ps.length:Int);rw [hw];omega),h.lw⟩,fun e=> ?_,fun e=> ?_,rfl,fun e=> ?_,fun y hy=>by rw [<-hu];exact hy,by omega,Or.inr rfl⟩
   ·rw [List.nodup_append]
    exact ⟨h.fn,by simp,fun a ha b hb=>by rw [List.mem_singleton] at hb;subst hb;exact fun e=>by have:=(h.lf a ha).2;omega⟩
   ·have hy':y∈k.us:=hy
    rw [hu] at hy';cases hy'
   ·rcases List.mem_append.1 hy with e | e
    ·exact h.fo y e
    ·rw [List.mem_singleton] at e;subst e;exact fun e=>by have:=(h.lo _ e).2;omega
   ·have hy':y∈k.us:=hy
    rw [hu] at hy';cases hy'
   ·show 0<=y/\y<wrap64 (k.next+1)
    rw [hw]
    rcases List.mem_append.1 hy with e | e
    ·have:=h.lf y e;omega
    ·rw [List.mem_singleton] at e;subst e;omega
   ·show 0<=y/\y<wrap64 (k.next+1)
    rw [hw];have:=h.lo y hy;omega
   ·have:=(h.lo _ e).2;omega
   ·have:=(h.lf _ e).2;omega
   ·have e':k.next∈k.us:=e
    rw [hu] at e';cases e'
  ·exact absurd (zd5 hu hn).2 hp
theorem zhw {k:Wk} {O:List Int} (h:WOk k O) {lf:Bool} {ks vs:List ByteArray} {cs:List Int} (hp:putP k lf ks vs cs≠0):
  WOk (putK k lf ks vs cs) O/\putP k lf ks vs cs∉O/\putP k lf ks vs cs∉k.fs/\(putK k lf ks vs cs).fs=k.fs++ [putP k lf ks vs cs]/\(∀X,Live k O X->Live (putK k lf ks vs cs) O (putP k lf ks vs cs :: X)/\putP k lf ks vs cs∉X)/\
  (putK k lf ks vs cs).rd (putP k lf ks vs cs)=(⟨lf,ks,vs,cs⟩,true)/\∀x,x≠putP k lf ks vs cs->(putK k lf ks vs cs).rd x=k.rd x:=by
 cases hb:putB k lf ks vs cs with
 | false=>exact absurd (zgU hb).2 hp
 | true=>
  obtain ⟨e1,e2⟩:=zhq hb;rw [e2] at hp;obtain ⟨g1,g2,g3,g4,g5,g6,g7,g8⟩:=zkb h hp;unfold putB at hb;rw [Bool.and_eq_true,Bool.and_eq_true] at hb;obtain ⟨⟨hn,-⟩,hwo⟩:=hb;have hwl:writeL k.ps k.ls (giveP k) (nodeO lf ks vs cs)=k.ls++ [(giveP k,nodeO lf ks vs cs)]:=if_pos hwo
  have hrg:0<=giveP k/\giveP k<(k.ps.length:Int):=by
   unfold writeOk at hwo;rw [Bool.and_eq_true,Bool.and_eq_true,Bool.and_eq_true,decide_eq_true_eq] at hwo;have:=hwo.1.1.2
   omega
  rw [e1,e2,hwl]
  refine ⟨⟨g1.zero,g1.un,g1.fn,g1.uf,g1.uo,g1.fo,g1.lu,g1.lf,g1.lo,g1.sz,g1.go,g1.nl,(fun e he=>by
   rcases List.mem_append.1 he with e1 | e1
   ·exact h.lw e e1
   ·rw [List.mem_singleton] at e1;subst e1;exact g2)⟩,g2,g3,g4,fun X hX=>⟨fun x hx=> ?_,fun e=> ?_⟩,?_,fun x hx=> ?_⟩
  ·show x∉(giveK k).us/\(x∈O\/x∈(giveK k).fs)
   rw [g4]
   rcases List.mem_cons.1 hx with e | e
   ·subst e
    exact ⟨g5,Or.inr (List.mem_append_right _ (List.mem_singleton.2 rfl))⟩
   ·obtain ⟨h1,h2⟩:=hX x e
    refine ⟨fun e'=>h1 (g6 x e'),?_⟩
    rcases h2 with h2 | h2
    ·exact Or.inl h2
    ·exact Or.inr (List.mem_append_left _ h2)
  ·obtain ⟨h1,h2⟩:=hX _ e
   rcases h2 with h2 | h2
   ·exact g2 h2
   ·exact g3 h2
  ·show rdN (readD (giveK k).ps (k.ls++ [(giveP k,nodeO lf ks vs cs)]) (giveP k))=_
   rw [(zd8 k).1,zim hrg];exact zlU (n:=⟨lf,ks,vs,cs⟩) hn
  ·show rdN (readD (giveK k).ps (k.ls++ [(giveP k,nodeO lf ks vs cs)]) x)=_
   rw [(zd8 k).1,zkW hx]
   rfl
theorem zdB {l:List Int} {x:Int}:x∈srtL l↔x∈l:=(List.mergeSort_perm l _).mem_iff
theorem zkc {k:Wk} {O:List Int} (h:WOk k O) (p:Int) (hp:Live k O [p]):
  WOk (dropS k p) O/\(∀x,(dropS k p).rd x=k.rd x)/\∀X,Live k O X->p∉X->Live (dropS k p) O X:=by
 obtain ⟨p1,p2⟩:=hp p (List.mem_singleton.2 rfl);unfold dropS
 split
 ·next hf=>
  refine ⟨⟨h.zero,?_,h.fn.filter _,fun x hx=> ?_,fun x hx=> ?_,fun x hx=> ?_,fun x hx=> ?_,fun x hx=> ?_,h.lo,h.sz,h.go,h.nl,h.lw⟩,fun _=>rfl,fun X hX hn x hx=> ?_⟩
  ·have hpm:(k.us++ [p]).Nodup:=by
    rw [List.nodup_append]
    exact ⟨h.un,by simp,fun a ha b hb=>by rw [List.mem_singleton] at hb;subst hb;exact fun e=>p1 (e▸ha)⟩
   exact (List.mergeSort_perm _ _).nodup_iff.2 hpm
  ·have hx:=zdB.1 hx
   show x∉k.fs.filter (fun y=>y !=p)
   rw [List.mem_filter];rintro ⟨e1,e2⟩
   rcases List.mem_append.1 hx with e | e
   ·exact h.uf x e e1
   ·rw [List.mem_singleton] at e;subst e;simp at e2
  ·rcases List.mem_append.1 (zdB.1 hx) with e | e
   ·exact h.uo x e
   ·rw [List.mem_singleton] at e;subst e;exact h.fo x hf
  ·exact h.fo x ((List.mem_filter.1 hx).1)
  ·rcases List.mem_append.1 (zdB.1 hx) with e | e
   ·exact h.lu x e
   ·rw [List.mem_singleton] at e;subst e;exact h.lf x hf
  ·exact h.lf x ((List.mem_filter.1 hx).1)
  ·obtain ⟨h1,h2⟩:=hX x hx
   refine ⟨fun e=> ?_,?_⟩
   ·rcases List.mem_append.1 (zdB.1 e) with e | e
    ·exact h1 e
    ·rw [List.mem_singleton] at e;subst e;exact hn hx
   ·rcases h2 with h2 | h2
    ·exact Or.inl h2
    ·exact Or.inr (List.mem_filter.2 ⟨h2,by simp;exact fun e=>hn (e▸hx)⟩)
 ·next hf=>
  refine ⟨⟨h.zero,h.un,h.fn,h.uf,h.uo,h.fo,h.lu,h.lf,h.lo,h.sz,fun x hx=> ?_,h.nl,h.lw⟩,fun _=>rfl,fun X hX _ x hx=>hX x hx⟩
  rcases List.mem_append.1 hx with e | e
  ·exact h.go x e
  ·rw [List.mem_singleton] at e
   subst e
   rcases p2 with e | e
   ·exact e
   ·exact absurd e hf
def newC (a b x:Int):Nat:=if a<=x/\x<b then 1 else 0
def Acc (k k':Wk) (A P:List Int):Prop:=k.next<=k'.next/\∀x,P.count x+k'.us.count x+k'.gs.count x=A.count x+k.us.count x+k.gs.count x+newC k.next k'.next x
theorem zei {a b c:Int} (h1:a<=b) (h2:b<=c) (x:Int):newC a c x=newC a b x+newC b c x:=by
 unfold newC
 split <;> split <;> split <;> omega
theorem zej (a x:Int):newC a a x=0:=by
 unfold newC
 rw [if_neg (by omega)]
theorem zne (k:Wk) (A:List Int):Acc k k A A:=⟨by omega,fun x=>by rw [zej];omega⟩
theorem zjo {k:Wk} {O:List Int} (h:WOk k O) {lf:Bool} {ks vs:List ByteArray} {cs:List Int} (hp:putP k lf ks vs cs≠0):Acc k (putK k lf ks vs cs) [] [putP k lf ks vs cs]:=by
 cases hb:putB k lf ks vs cs with
 | false=>exact absurd (zgU hb).2 hp
 | true=>
  obtain ⟨e1,e2⟩:=zhq hb;rw [e2] at hp;rw [e1,e2]
  cases hu:k.us with
  | cons x t=>
   obtain ⟨g1,g2⟩:=zcu hu;rw [g1,g2]
   refine ⟨by show k.next<=k.next;omega,fun y=> ?_⟩
   show [x].count y+t.count y+k.gs.count y= [].count y+k.us.count y+k.gs.count y+newC k.next k.next y
   rw [hu,zej,List.count_cons,List.count_cons,List.count_nil]
   omega
  | nil=>
   by_cases hn:k.next<(k.ps.length:Int)
   ·obtain ⟨g1,g2⟩:=zcv hu hn
    rw [g1,g2];have h0:=h.lo 0 h.zero;have hsz:=h.sz
    have hw:wrap64 (k.next+1)=k.next+1:=zas _ (by omega) (by omega)
    refine ⟨by show k.next<=wrap64 (k.next+1);omega,fun y=> ?_⟩
    show [k.next].count y+k.us.count y+k.gs.count y= [].count y+k.us.count y+k.gs.count y+newC k.next (wrap64 (k.next+1)) y
    have hN:newC k.next (k.next+1) y= [k.next].count y:=by
     unfold newC;rw [List.count_singleton]
     by_cases e:k.next=y
     ·subst e
      rw [if_pos (show k.next<=k.next/\k.next<k.next+1 by omega)]
      simp
     ·rw [if_neg (show ¬(k.next<=y/\y<k.next+1) by omega)]
      simp [e]
    rw [hw,hN,List.count_nil]
    omega
   ·exact absurd (zd5 hu hn).2 hp
theorem znf (k:Wk) (p:Int):Acc k (dropS k p) [p] []:=by
 unfold dropS
 split
 ·refine ⟨by show k.next<=k.next;omega,fun x=> ?_⟩
  show [].count x+(srtL (k.us++ [p])).count x+k.gs.count x= [p].count x+k.us.count x+k.gs.count x+newC k.next k.next x
  have hc:(srtL (k.us++ [p])).count x=(k.us++ [p]).count x:=(List.mergeSort_perm _ _).count_eq x;rw [zej,hc,List.count_append,List.count_nil]
  omega
 ·refine ⟨by show k.next<=k.next;omega,fun x=> ?_⟩
  show [].count x+k.us.count x+(k.gs++ [p]).count x= [p].count x+k.us.count x+k.gs.count x+newC k.next k.next x
  rw [zej,List.count_append,List.count_nil]
  omega
open Go.RowKit
abbrev Prs:=List (ByteArray×ByteArray)
def ltA (A:Prs) (x:ByteArray):Prop:=∀q∈A,lessB q.1 x=true
def geA (x:ByteArray) (A:Prs):Prop:=∀q∈A,lessB q.1 x=false
theorem zjp {A B:Prs} {x:ByteArray}:ltA (A++B) x↔ltA A x/\ltA B x:=by
 unfold ltA
 constructor
 ·exact fun h=>⟨fun q hq=>h q (List.mem_append_left _ hq),fun q hq=>h q (List.mem_append_right _ hq)⟩
 ·rintro ⟨h1,h2⟩ q hq
  rcases List.mem_append.1 hq with e | e
  ·exact h1 q e
  ·exact h2 q e
theorem geA_app {A B:Prs} {x:ByteArray}:geA x (A++B)↔geA x A/\geA x B:=by
 unfold geA
 constructor
 ·exact fun h=>⟨fun q hq=>h q (List.mem_append_left _ hq),fun q hq=>h q (List.mem_append_right _ hq)⟩
 ·rintro ⟨h1,h2⟩ q hq
  rcases List.mem_append.1 hq with e | e
  ·exact h1 q e
  ·exact h2 q e
theorem le_trans {x y z:ByteArray} (h:lessB y x=false) (k:lessB z y=false):lessB z x=false:=by
 cases e:lessB z x with
 | false=>rfl
 | true=>rw [zn9 k e] at h;cases h
theorem lt_le {x y z:ByteArray} (h:lessB x y=true) (k:lessB z y=false):lessB x z=true:=by
 cases e:lessB z x with
 | false=>exact zeh k h
 | true=>rw [zap e h] at k;cases k
def KidsOf (T:Int->ByteArray->Prs->List Int->Prop):List ByteArray->List Int->Prs->List Int->Prop
 | [],[],L,P=>L= []/\P= []
 | x :: ks,c :: cs,L,P=>∃f L1 P1 L2 P2,T c f L1 P1/\lessB f x=false/\(∀y∈ks,ltA L1 y)/\KidsOf T ks cs L2 P2/\L=L1++L2/\P=P1++P2
 | [],_ :: _,_,_=>False
 | _ :: _,[],_,_=>False
def IsTree (R:Int->Nd×Bool):Nat->Int->ByteArray->Prs->List Int->Prop
 | 0,_,_,_,_=>False
 | h+1,p,f,L,P=>∃n,R p=(n,true)/\n.ok=true/\f=n.ks.getD 0 ⟨#[]⟩/\
   ((n.lf=true/\h=0/\L=n.ks.zip n.vs/\P= [p])\/(n.lf=false/\∃P',KidsOf (IsTree R h) n.ks n.cs L P'/\P=p :: P'))
theorem zbj {T:Int->ByteArray->Prs->List Int->Prop}:∀{ks:List ByteArray} {cs:List Int} {L:Prs} {P:List Int},KidsOf T ks cs L P->ks.length=cs.length
 | [],[],_,_,_=>rfl
 | _ :: _,_ :: _,_,_,⟨_,_,_,_,_,_,_,_,h,_,_⟩=>by simp [zbj h]
 | [],_ :: _,_,_,h=>h.elim
 | _ :: _,[],_,_,h=>h.elim
theorem zcd {T T':Int->ByteArray->Prs->List Int->Prop} {G:Int->Prop} (hT:∀c f L P,T c f L P->(∀x∈P,G x)->T' c f L P):
  ∀{ks:List ByteArray} {cs:List Int} {L:Prs} {P:List Int},KidsOf T ks cs L P->(∀x∈P,G x)->KidsOf T' ks cs L P
 | [],[],_,_,h,_=>h
 | _ :: _,_ :: _,_,_,⟨f,L1,P1,L2,P2,h1,h2,h3,h4,e1,e2⟩,hG=>⟨f,L1,P1,L2,P2,hT _ _ _ _ h1 (fun x hx=>hG x (by rw [e2];exact List.mem_append_left _ hx)),h2,h3,zcd hT h4 (fun x hx=>hG x (by rw [e2];exact List.mem_append_right _ hx)),e1,e2⟩
 | [],_ :: _,_,_,h,_=>h.elim
 | _ :: _,[],_,_,h,_=>h.elim
theorem zc5 {R R':Int->Nd×Bool}:∀(h:Nat) {p:Int} {f:ByteArray} {L:Prs} {P:List Int},IsTree R h p f L P->(∀x∈P,R' x=R x)->IsTree R' h p f L P
 | 0,_,_,_,_,ht,_=>ht.elim
 | h+1,p,f,L,P,⟨n,h1,h2,h3,h4⟩,hG=>by
  rcases h4 with ⟨a,b,c,d⟩ | ⟨a,P',c,d⟩
  ·exact ⟨n,by rw [hG p (by rw [d];exact List.mem_singleton.2 rfl)];exact h1,h2,h3,Or.inl ⟨a,b,c,d⟩⟩
  ·exact ⟨n,by rw [hG p (by rw [d];exact List.mem_cons_self ..)];exact h1,h2,h3,Or.inr ⟨a,P',zcd (T:=IsTree R h) (T':=IsTree R' h) (G:=fun x=>R' x=R x) (fun _ _ _ _ ht hx=>zc5 h ht hx) c (fun x hx=>hG x (by rw [d];exact List.mem_cons_of_mem _ hx)),d⟩⟩
theorem zcm {T:Int->ByteArray->Prs->List Int->Prop}:∀{ks1 ks2:List ByteArray} {cs1 cs2:List Int} {L:Prs} {P:List Int},ks1.length=cs1.length->
  (KidsOf T (ks1++ks2) (cs1++cs2) L P↔∃L1 P1 L2 P2,KidsOf T ks1 cs1 L1 P1/\KidsOf T ks2 cs2 L2 P2/\(∀y∈ks2,ltA L1 y)/\L=L1++L2/\P=P1++P2)
 | [],ks2,[],cs2,L,P,_=>by
  constructor
  ·exact fun h=>⟨[],[],L,P,⟨rfl,rfl⟩,h,(fun _ _ q hq=>by cases hq),rfl,rfl⟩
  ·rintro ⟨L1,P1,L2,P2,⟨rfl,rfl⟩,h,-,rfl,rfl⟩
   exact h
 | x :: ks1,ks2,c :: cs1,cs2,L,P,hl=>by
  have hl':ks1.length=cs1.length:=by simpa using hl
  constructor
  ·rintro ⟨f,L1,P1,L2,P2,h1,h2,h3,h4,rfl,rfl⟩
   obtain ⟨M1,Q1,M2,Q2,k1,k2,k3,rfl,rfl⟩:=(zcm hl').1 h4
   refine ⟨L1++M1,P1++Q1,M2,Q2,⟨f,L1,P1,M1,Q1,h1,h2,fun y hy=>h3 y (List.mem_append_left _ hy),k1,rfl,rfl⟩,k2,fun y hy=>zjp.2 ⟨h3 y (List.mem_append_right _ hy),k3 y hy⟩,by rw [List.append_assoc],by rw [List.append_assoc]⟩
  ·rintro ⟨N1,S1,M2,Q2,⟨f,L1,P1,M1,Q1,h1,h2,h3,k1,rfl,rfl⟩,k2,k3,rfl,rfl⟩
   refine ⟨f,L1,P1,M1++M2,Q1++Q2,h1,h2,fun y hy=> ?_,(zcm hl').2 ⟨M1,Q1,M2,Q2,k1,k2,fun y hy=>(zjp.1 (k3 y hy)).2,rfl,rfl⟩,by rw [List.append_assoc],by rw [List.append_assoc]⟩
   rcases List.mem_append.1 hy with e | e
   ·exact h3 y e
   ·exact (zjp.1 (k3 y e)).1
 | [],_,_ :: _,_,_,_,hl=>by simp at hl
 | _ :: _,_,[],_,_,_,hl=>by simp at hl
def AscK (ks:List ByteArray):Prop:=ks.Pairwise fun x y=>lessB x y=true
theorem zhx {n:Nd} (h:n.ok=true):AscK n.ks:=by
 unfold AscK;rw [List.pairwise_iff_getElem];intro i j hi hj hij
 have:=zdX h i (j - i - 1) (by omega)
 rw [show i+(j - i - 1)+1=j from by omega] at this
 simpa [List.getD_eq_getElem?_getD,hi,hj] using this
theorem zlW {T:Int->ByteArray->Prs->List Int->Prop} (hT:∀c f L P,T c f L P->geA f L):∀{ks:List ByteArray} {cs:List Int} {L:Prs} {P:List Int} (x:ByteArray),KidsOf T ks cs L P->(∀y∈ks,lessB y x=false)->geA x L
 | [],[],_,_,x,⟨e,_⟩,_=>by rw [e];exact fun q hq=>by cases hq
 | y :: ks,c :: cs,_,_,x,⟨f,L1,P1,L2,P2,h1,h2,_,h4,e1,_⟩,hx=>by
  rw [e1,geA_app]
  exact ⟨fun q hq=>le_trans (hx y (List.mem_cons_self ..)) (le_trans h2 (hT _ _ _ _ h1 q hq)),zlW hT x h4 (fun z hz=>hx z (List.mem_cons_of_mem _ hz))⟩
 | [],_ :: _,_,_,_,h,_=>h.elim
 | _ :: _,[],_,_,_,h,_=>h.elim
theorem zio {ks:List ByteArray} (h:AscK ks):∀y∈ks,lessB y (ks.getD 0 ⟨#[]⟩)=false:=by
 cases ks with
 | nil=>exact fun y hy=>by cases hy
 | cons x ks=>
  intro y hy
  rcases List.mem_cons.1 hy with e | e
  ·subst e;exact zao y
  ·have hp:lessB x y=true:=(List.pairwise_cons.1 h).1 y e
   show lessB y x=false
   cases e2:lessB y x with
   | false=>rfl
   | true=>have:=zap e2 hp;rw [zao] at this;cases this
theorem zng {ks vs:List ByteArray} {q:ByteArray×ByteArray} (h:q∈ks.zip vs):q.1∈ks:=(List.of_mem_zip h).1
theorem zg2 {R:Int->Nd×Bool}:∀(h:Nat) {p:Int} {f:ByteArray} {L:Prs} {P:List Int},IsTree R h p f L P->geA f L
 | 0,_,_,_,_,ht=>ht.elim
 | h+1,p,f,L,P,⟨n,h1,h2,h3,h4⟩=>by
  have hf:=zio (zhx h2);rw [<-h3] at hf
  rcases h4 with ⟨a,b,c,d⟩ | ⟨a,P',c,d⟩
  ·rw [c]
   exact fun q hq=>hf q.1 (zng hq)
  ·exact zlW (fun _ _ _ _ ht=>zg2 h ht) f c hf
theorem ziq {R:Int->Nd×Bool} {h:Nat} {p:Int} {f:ByteArray} {L:Prs} {P:List Int} (ht:IsTree R h p f L P):∃P',P=p :: P':=by
 cases h with
 | zero=>exact ht.elim
 | succ h=>
  obtain ⟨n,-,-,-,⟨-,-,-,d⟩ | ⟨-,P',-,d⟩⟩:=ht
  ·exact ⟨[],d⟩
  ·exact ⟨P',d⟩
def putL (L:Prs) (key val:ByteArray):Prs:=L.filter (fun q=>lessB q.1 key)++ [(key,val)]++L.filter (fun q=>lessB key q.1)
theorem zdC {L:Prs} {p:ByteArray×ByteArray->Bool} (h:∀q∈L,p q=true):L.filter p=L:=List.filter_eq_self.2 h
theorem zce {L:Prs} {p:ByteArray×ByteArray->Bool} (h:∀q∈L,p q=false):L.filter p= []:=List.filter_eq_nil_iff.2 (fun q hq=>by rw [h q hq];decide)
theorem zbu {x y:ByteArray} (h:lessB x y=true):lessB y x=false:=by
 cases e:lessB y x with
 | false=>rfl
 | true=>have:=zap h e;rw [zao] at this;cases this
theorem znh {A B C:Prs} {key val:ByteArray} (hA:ltA A key) (hC:∀q∈C,lessB key q.1=true):putL (A++B++C) key val=A++putL B key val++C:=by
 unfold putL
 simp only [List.filter_append]
 rw [zdC (L:=A) (p:=fun q=>lessB q.1 key) hA,zce (L:=C) (p:=fun q=>lessB q.1 key) (fun q hq=>zbu (hC q hq)),zce (L:=A) (p:=fun q=>lessB key q.1) (fun q hq=>zbu (hA q hq)),zdC (L:=C) (p:=fun q=>lessB key q.1) hC]
 simp
theorem zhy {ks vs:List ByteArray} (key val:ByteArray):setP ks vs key val=putL (ks.zip vs) key val:=by
 unfold setP lowP highP putL
 rw [List.take_of_length_le (by rw [List.length_zip];omega)]
theorem zhz {L:Prs} (h:Asc L) (key val:ByteArray):Asc (putL L key val):=by
 unfold putL Asc;rw [List.append_assoc,List.pairwise_append]
 refine ⟨h.filter _,?_,fun a ha b hb=> ?_⟩
 ·rw [List.singleton_append,List.pairwise_cons]
  exact ⟨fun b hb=>(List.mem_filter.1 hb).2,h.filter _⟩
 ·have h1:lessB a.1 key=true:=(List.mem_filter.1 ha).2
  rw [List.singleton_append] at hb
  rcases List.mem_cons.1 hb with e | e
  ·subst e;exact h1
  ·exact zap h1 (List.mem_filter.1 e).2
theorem zhA {L:Prs} {key val:ByteArray} {q:ByteArray×ByteArray} (h:q∈putL L key val):q=(key,val)\/q∈L:=by
 unfold putL at h;rw [List.append_assoc,List.singleton_append,List.mem_append,List.mem_cons] at h
 rcases h with e | e | e
 ·exact Or.inr (List.mem_filter.1 e).1
 ·exact Or.inl e
 ·exact Or.inr (List.mem_filter.1 e).1
open Go.RowKit
theorem zni {k k1 k2:Wk} {q:Int} {C:List Int} (h1:Acc k k1 [] [q]) (h2:Acc k1 k2 [] C):Acc k k2 [] (q :: C):=by
 refine ⟨by have:=h1.1;have:=h2.1;omega,fun x=> ?_⟩
 have e1:=h1.2 x;have e2:=h2.2 x;rw [zei h1.1 h2.1,List.count_cons,List.count_nil];rw [List.count_singleton,List.count_nil] at e1;rw [List.count_nil] at e2
 omega
theorem zek (lf:Bool):∀(r:List Part) (k:Wk) (O X:List Int),WOk k O->Live k O X->(halfL lf k r).2.2.2=true->
  Acc k (halfL lf k r).1 [] (halfL lf k r).2.2.1/\WOk (halfL lf k r).1 O/\(halfL lf k r).2.2.1.length=r.length/\(halfL lf k r).2.1=r.map (fun p=>p.1.getD 0 ⟨#[]⟩)/\(halfL lf k r).2.2.1.Nodup/\(∀x∈(halfL lf k r).2.2.1,x∉X)/\Live (halfL lf k r).1 O ((halfL lf k r).2.2.1++X)/\
  (∀x,x∉(halfL lf k r).2.2.1->(halfL lf k r).1.rd x=k.rd x)/\∀(i:Nat) (p:Part) (c:Int),r[i]?=some p->(halfL lf k r).2.2.1[i]?=some c->((halfL lf k r).1.rd c=(⟨lf,p.1,p.2.1,p.2.2⟩,true)/\nodeOkB lf p.1 p.2.1 p.2.2=true)/\c∉O
 | [],k,O,X,hw,hX,_=>⟨zne k [],hw,rfl,rfl,List.nodup_nil,fun x hx=>(by cases hx),hX,fun _ _=>rfl,fun i p c hi=>by simp at hi⟩
 | p :: r,k,O,X,hw,hX,ho=>by
  rw [halfL] at ho⊢
  split at ho
  ·cases ho
  ·next hp=>
   rw [if_neg hp];obtain ⟨w1,w2,w3,w4,w5,w6,w7⟩:=zhw hw hp;obtain ⟨hl,hnX⟩:=w5 X hX;obtain ⟨i0,i1,i2,i3,i4,i5,i6,i7,i8⟩:=zek lf r (putK k lf p.1 p.2.1 p.2.2) O (putP k lf p.1 p.2.1 p.2.2 :: X) w1 hl ho
   have hq:putP k lf p.1 p.2.1 p.2.2∉(halfL lf (putK k lf p.1 p.2.1 p.2.2) r).2.2.1:=fun e=>i5 _ e (List.mem_cons_self ..)
   refine ⟨zni (zjo hw hp) i0,i1,by simp [i2],by simp [i3],List.nodup_cons.2 ⟨hq,i4⟩,fun x hx=> ?_,fun x hx=> ?_,fun x hx=> ?_,fun i p' c hi hc=> ?_⟩
   ·rcases List.mem_cons.1 hx with e | e
    ·subst e;exact hnX
    ·exact fun e'=>i5 x e (List.mem_cons_of_mem _ e')
   ·refine i6 x ?_
    rcases List.mem_append.1 hx with e | e
    ·rcases List.mem_cons.1 e with e | e
     ·exact List.mem_append_right _ (by rw [e];exact List.mem_cons_self ..)
     ·exact List.mem_append_left _ e
    ·exact List.mem_append_right _ (List.mem_cons_of_mem _ e)
   ·rw [List.mem_cons,not_or] at hx
    show (halfL lf (putK k lf p.1 p.2.1 p.2.2) r).1.rd x=k.rd x
    rw [i7 x hx.2,w7 x hx.1]
   ·cases i with
    | zero=>
     simp only [List.getElem?_cons_zero,Option.some.injEq] at hi hc
     subst hi hc;refine ⟨⟨?_,zlK hp⟩,w2⟩
     show (halfL lf (putK k lf p.1 p.2.1 p.2.2) r).1.rd (putP k lf p.1 p.2.1 p.2.2)=_
     rw [i7 _ hq,w6]
    | succ i=>
     simp only [List.getElem?_cons_succ] at hi hc
     exact i8 i p' c hi hc
theorem zkd {r:List Part} {C O:List Int} {A:Nat->Part->Int->Prop} (h1:C.length=r.length) (h2:∀(i:Nat) (p:Part) (c:Int),r[i]?=some p->C[i]?=some c->A i p c/\c∉O):∀c∈C,c∉O:=fun c hc=>by
 obtain ⟨i,hi,e⟩:=List.getElem_of_mem hc
 exact (h2 i r[i] c (List.getElem?_eq_getElem (by omega)) (by rw [List.getElem?_eq_getElem hi,e])).2
structure PutRes (k:Wk) (R:Wk×List ByteArray×List Int×Bool) (h:Nat) (L:Prs) (X O:List Int) (F:ByteArray) (A:List Int):Prop where
 kids:∃P',KidsOf (IsTree R.1.rd h) R.2.1 R.2.2.1 L P'/\Live R.1 O P'/\P'.Nodup/\(∀x∈P',x∉X)/\Acc k R.1 A P'
 wok:WOk R.1 O
 live:Live R.1 O X
 same:∀x∈X,R.1.rd x=k.rd x
 first:R.2.1.getD 0 ⟨#[]⟩=F
 fresh:∀c∈R.2.2.1,c∉O
 old:∀x∈O,R.1.rd x=k.rd x
theorem znj {k k1:Wk} {A P:List Int} (h:Acc k k1 A P) (p:Int):Acc k (dropS k1 p) (p :: A) P:=by
 have h2:=znf k1 p
 refine ⟨by have:=h.1;have:=h2.1;omega,fun x=> ?_⟩
 have e1:=h.2 x;have e2:=h2.2 x;rw [zei h.1 h2.1,List.count_cons];rw [List.count_singleton,List.count_nil] at e2
 omega
theorem zlX {k:Wk} {R:Wk×List ByteArray×List Int×Bool} {h:Nat} {L:Prs} {p:Int} {X O:List Int} {F:ByteArray} {A:List Int} (hR:PutRes k R h L (p :: X) O F A) (hp:p∉X) (ho:R.2.2.2=true):PutRes k (finK p R) h L X O F (p :: A)/\(finK p R).2.2.2=true:=by
 obtain ⟨⟨P',k1,k2,k3,k4,k5⟩,hw,hl,hs,hf,hfr,hod⟩:=hR;have e:finK p R=(dropS R.1 p,R.2.1,R.2.2.1,true):=if_pos ho
 obtain ⟨d1,d2,d3⟩:=zkc hw p (fun x hx=>hl x (by rw [List.mem_singleton] at hx;rw [hx];exact List.mem_cons_self ..))
 rw [e]
 refine ⟨⟨⟨P',?_,d3 P' k2 (fun e=>k4 p e (List.mem_cons_self ..)),k3,fun x hx e=>k4 x hx (List.mem_cons_of_mem _ e),znj k5 p⟩,d1,d3 X (fun x hx=>hl x (List.mem_cons_of_mem _ hx)) hp,fun x hx=>(d2 x).trans (hs x (List.mem_cons_of_mem _ hx)),hf,hfr,fun x hx=>(d2 x).trans (hod x hx)⟩,rfl⟩
 exact zcd (T:=IsTree R.1.rd h) (T':=IsTree (dropS R.1 p).rd h) (G:=fun _=>True) (fun c f L P ht _=>zc5 h ht (fun x _=>d2 x)) k1 (fun _ _=>trivial)
theorem zjq (L:Prs):(L.map Prod.fst).zip (L.map Prod.snd)=L:=by
 induction L with
 | nil=>rfl
 | cons q L ih=>simp [ih]
theorem zir {k:Wk} {O X:List Int} (hw:WOk k O) (hX:Live k O X) {L:Prs} (hL:Asc L) (ho:(halfS k true (L.map Prod.fst) (L.map Prod.snd) []).2.2.2=true):
  PutRes k (halfS k true (L.map Prod.fst) (L.map Prod.snd) []) 1 L X O ((L.map Prod.fst).getD 0 ⟨#[]⟩) []:=by
 unfold halfS at ho⊢;obtain ⟨i0,i1,i2,i3,i4,i5,i6,i7,i8⟩:=zek true _ k O X hw hX ho
 have hleaf:∀(i:Nat) (p:Part) (c:Int),(halfParts true (L.map Prod.fst) (L.map Prod.snd) [])[i]?=some p->(halfL true k (halfParts true (L.map Prod.fst) (L.map Prod.snd) [])).2.2.1[i]?=some c->p.2.2= []->IsTree (halfL true k (halfParts true (L.map Prod.fst) (L.map Prod.snd) [])).1.rd 1 c (p.1.getD 0 ⟨#[]⟩) (p.1.zip p.2.1) [c]:=fun i p c hi hc _=>by
  obtain ⟨⟨j1,j2⟩,-⟩:=i8 i p c hi hc;exact ⟨_,j1,j2,rfl,Or.inl ⟨rfl,rfl,rfl,rfl⟩⟩
 have hfr:∀c∈(halfL true k (halfParts true (L.map Prod.fst) (L.map Prod.snd) [])).2.2.1,c∉O:=zkd i2 i8;obtain ⟨R,hR⟩:∃R,R=halfL true k (halfParts true (L.map Prod.fst) (L.map Prod.snd) []):=⟨_,rfl⟩;rw [<-hR] at i0 i1 i2 i3 i4 i5 i6 i7 hleaf hfr⊢;have hlv:=zdA.1 i6
 refine ⟨⟨R.2.2.1,?_,hlv.1,i4,i5,i0⟩,i1,hlv.2,fun x hx=>i7 x (fun e=>i5 x e hx),?_,hfr,fun x hx=>i7 x (fun e=>hfr x e hx)⟩
 ·by_cases h4:4<(L.map Prod.fst).length
  ·have hp:halfParts true (L.map Prod.fst) (L.map Prod.snd) []= [((L.map Prod.fst).take 3,(L.map Prod.snd).take 3,[]),((L.map Prod.fst).drop 3,(L.map Prod.snd).drop 3,[])]:=by rw [halfParts,if_pos h4,if_pos rfl]
   rw [hp] at i2 i3 hleaf
   match hC:R.2.2.1,i2 with
   | [c1,c2],_=>
    have t1:=hleaf 0 _ c1 rfl (by rw [hC];rfl) rfl
    have t2:=hleaf 1 _ c2 rfl (by rw [hC];rfl) rfl
    have z1:((L.map Prod.fst).take 3).zip ((L.map Prod.snd).take 3)=L.take 3:=by rw [<-List.map_take,<-List.map_take,zjq]
    have z2:((L.map Prod.fst).drop 3).zip ((L.map Prod.snd).drop 3)=L.drop 3:=by rw [<-List.map_drop,<-List.map_drop,zjq]
    simp only [z1,z2] at t1 t2
    rw [i3]
    refine ⟨_,_,_,L.drop 3,[c2],t1,zao _,fun y hy=> ?_,⟨_,_,_,[],[],t2,zao _,fun y hy=>(by cases hy),⟨rfl,rfl⟩,by simp,by simp⟩,(List.take_append_drop 3 L).symm,rfl⟩
    have hy':y=((L.map Prod.fst).drop 3).getD 0 ⟨#[]⟩:=by simpa using hy
    subst hy';intro q hq
    have hlen:3<L.length:=by rw [List.length_map] at h4;omega
    have he:((L.map Prod.fst).drop 3).getD 0 ⟨#[]⟩=L[3].1:=by simp [List.getD_eq_getElem?_getD,hlen]
    rw [he];have ha:=hL;rw [<-List.take_append_drop 3 L] at ha;unfold Asc at ha;rw [List.pairwise_append] at ha
    exact ha.2.2 q hq L[3] (by rw [List.drop_eq_getElem_cons hlen];exact List.mem_cons_self ..)
  ·have hp:halfParts true (L.map Prod.fst) (L.map Prod.snd) []= [(L.map Prod.fst,L.map Prod.snd,[])]:=by rw [halfParts,if_neg h4]
   rw [hp] at i2 i3 hleaf
   match hC:R.2.2.1,i2 with
   | [c1],_=>
    have t1:=hleaf 0 _ c1 rfl (by rw [hC];rfl) rfl
    simp only [zjq] at t1
    rw [i3]
    exact ⟨_,_,_,[],[],t1,zao _,fun y hy=>(by cases hy),⟨rfl,rfl⟩,by simp,by simp⟩
 ·rw [i3]
  unfold halfParts
  split
  ·rw [if_pos rfl]
   simp only [List.map_cons,List.getD_cons_zero]
   cases L with
   | nil=>simp at *
   | cons q L=>rfl
  ·rfl
open Go.RowKit
theorem znk {k:Wk} {O X:List Int} (hw:WOk k O) (hX:Live k O X) {h:Nat} {ks:List ByteArray} {cs:List Int} {L:Prs} {P:List Int} (hk:KidsOf (IsTree k.rd h) ks cs L P) (hP:Live k O P) (hn:P.Nodup) (hd:∀x∈P,x∉X) (h1:0<ks.length) (ho:(halfS k false ks [] cs).2.2.2=true):
  PutRes k (halfS k false ks [] cs) (h+1) L X O (ks.getD 0 ⟨#[]⟩) P:=by
 unfold halfS at ho⊢;obtain ⟨i0,i1,i2,i3,i4,i5,i6,i7,i8⟩:=zek false _ k O (P++X) hw (zdA.2 ⟨hP,hX⟩) ho;obtain ⟨R,hR⟩:∃R,R=halfL false k (halfParts false ks [] cs):=⟨_,rfl⟩;rw [<-hR] at i0 i1 i2 i3 i4 i5 i6 i7 i8⊢;have hlv:=zdA.1 i6;have hlv2:=zdA.1 hlv.2
 have hsame:∀x∈P,R.1.rd x=k.rd x:=fun x hx=>i7 x (fun e=>i5 x e (List.mem_append_left _ hx))
 have hk':KidsOf (IsTree R.1.rd h) ks cs L P:=zcd (T:=IsTree k.rd h) (T':=IsTree R.1.rd h) (G:=fun x=>R.1.rd x=k.rd x) (fun _ _ _ _ ht hx=>zc5 h ht hx) hk hsame
 have hnode:∀(i:Nat) (p:Part) (c:Int) (M:Prs) (Q:List Int),(halfParts false ks [] cs)[i]?=some p->R.2.2.1[i]?=some c->KidsOf (IsTree R.1.rd h) p.1 p.2.2 M Q->IsTree R.1.rd (h+1) c (p.1.getD 0 ⟨#[]⟩) M (c :: Q):=fun i p c M Q hi hc hK=>by
  obtain ⟨⟨j1,j2⟩,-⟩:=i8 i p c hi hc;exact ⟨_,j1,j2,rfl,Or.inr ⟨rfl,Q,hK,rfl⟩⟩
 have hfr:∀c∈R.2.2.1,c∉O:=zkd i2 i8;have hlen:=zbj hk
 refine ⟨?_,i1,hlv2.2,fun x hx=>i7 x (fun e=>i5 x e (List.mem_append_right _ hx)),?_,hfr,fun x hx=>i7 x (fun e=>hfr x e hx)⟩
 ·by_cases h4:4<ks.length
  ·have hp:halfParts false ks [] cs= [(ks.take 3,[],cs.take 3),(ks.drop 3,[],cs.drop 3)]:=by rw [halfParts,if_pos h4,if_neg (by decide)]
   rw [hp] at i2 i3 hnode;have hsp:=hk';rw [<-List.take_append_drop 3 ks,<-List.take_append_drop 3 cs] at hsp
   obtain ⟨L1,P1,L2,P2,a1,a2,a3,rfl,rfl⟩:=(zcm (by rw [List.length_take,List.length_take,hlen])).1 hsp
   match hC:R.2.2.1,i2 with
   | [c1,c2],_=>
    have t1:=hnode 0 _ c1 L1 P1 rfl (by rw [hC];rfl) a1
    have t2:=hnode 1 _ c2 L2 P2 rfl (by rw [hC];rfl) a2
    rw [hC] at i0 i4 i5 hlv
    have hc1:=i5 c1 (by simp)
    have hc2:=i5 c2 (by simp)
    rw [List.mem_append,not_or] at hc1 hc2;rw [i3]
    refine ⟨(c1 :: P1)++(c2 :: P2),⟨_,_,_,L2,c2 :: P2,t1,zao _,fun y hy=> ?_,⟨_,_,_,[],[],t2,zao _,fun y hy=>(by cases hy),⟨rfl,rfl⟩,by simp,by simp⟩,rfl,rfl⟩,fun x hx=> ?_,?_,fun x hx=> ?_,?_⟩
    ·have hy':y=(ks.drop 3).getD 0 ⟨#[]⟩:=by simpa using hy
     subst hy'
     have hl3:3<ks.length:=by omega
     refine a3 _ ?_;rw [List.drop_eq_getElem_cons hl3];exact List.mem_cons_self ..
    ·rcases List.mem_append.1 hx with e | e
     ·rcases List.mem_cons.1 e with e | e
      ·exact hlv.1 x (by rw [e];simp)
      ·exact hlv2.1 x (List.mem_append_left _ e)
     ·rcases List.mem_cons.1 e with e | e
      ·exact hlv.1 x (by rw [e];simp)
      ·exact hlv2.1 x (List.mem_append_right _ e)
    ·rw [List.nodup_append] at hn⊢
     rw [List.mem_append,not_or] at hc1 hc2
     have hne:c1≠c2:=by
      rw [List.nodup_cons] at i4
      exact fun e=>i4.1 (by rw [e];simp)
     refine ⟨List.nodup_cons.2 ⟨hc1.1.1,hn.1⟩,List.nodup_cons.2 ⟨hc2.1.2,hn.2.1⟩,fun a ha b hb=> ?_⟩
     rcases List.mem_cons.1 ha with e | e <;> rcases List.mem_cons.1 hb with e' | e'
     ·rw [e,e'];exact hne
     ·rw [e];exact fun e2=>hc1.1.2 (e2▸e')
     ·rw [e'];exact fun e2=>hc2.1.1 (e2▸e)
     ·exact hn.2.2 a e b e'
    ·rcases List.mem_append.1 hx with e | e
     ·rcases List.mem_cons.1 e with e | e
      ·rw [e];exact hc1.2
      ·exact hd x (List.mem_append_left _ e)
     ·rcases List.mem_cons.1 e with e | e
      ·rw [e];exact hc2.2
      ·exact hd x (List.mem_append_right _ e)
    ·refine ⟨i0.1,fun x=> ?_⟩
     have e0:=i0.2 x;rw [List.count_append,List.count_cons,List.count_cons,List.count_append];rw [List.count_cons,List.count_cons,List.count_nil] at e0
     omega
  ·have hp:halfParts false ks [] cs= [(ks,[],cs)]:=by rw [halfParts,if_neg h4]
   rw [hp] at i2 i3 hnode
   match hC:R.2.2.1,i2 with
   | [c1],_=>
    have t1:=hnode 0 _ c1 L P rfl (by rw [hC];rfl) hk'
    rw [hC] at i0 i4 i5 hlv
    have hc1:=i5 c1 (by simp)
    rw [List.mem_append,not_or] at hc1;rw [i3]
    refine ⟨c1 :: P,⟨_,_,_,[],[],t1,zao _,fun y hy=>(by cases hy),⟨rfl,rfl⟩,by simp,by simp⟩,fun x hx=> ?_,List.nodup_cons.2 ⟨hc1.1,hn⟩,fun x hx=> ?_,?_⟩
    ·rcases List.mem_cons.1 hx with e | e
     ·exact hlv.1 x (by rw [e];simp)
     ·exact hlv2.1 x e
    ·rcases List.mem_cons.1 hx with e | e
     ·rw [e];exact hc1.2
     ·exact hd x e
    ·refine ⟨i0.1,fun x=> ?_⟩
     have e0:=i0.2 x;rw [List.count_cons];rw [List.count_cons,List.count_nil] at e0
     omega
 ·rw [i3]
  unfold halfParts
  split
  ·rw [if_neg (by decide)]
   simp only [List.map_cons,List.getD_cons_zero]
   cases ks with
   | nil=>simp at h1
   | cons q ks=>rfl
  ·rfl
theorem zdY (ks:List ByteArray) (key:ByteArray):∀n,(placeK ks key n= -1/\∀j,j<n->lessB key (ks.getD j ⟨#[]⟩)=true)\/∃a:Nat,a<n/\placeK ks key n=(a:Int)/\lessB key (ks.getD a ⟨#[]⟩)=false/\∀j,a<j->j<n->lessB key (ks.getD j ⟨#[]⟩)=true
 | 0=>Or.inl ⟨rfl,fun j hj=>by omega⟩
 | n+1=>by
  rw [placeK];have hg:=zjl (ks.getD n ⟨#[]⟩) key
  split
  ·next hc=>
   rw [hc] at hg
   exact Or.inr ⟨n,by omega,rfl,hg.symm,fun j h1 h2=>by omega⟩
  ·next hc=>
   have hc':(Op.bytesLess (ks.getD n ⟨#[]⟩).toList key.toList || (ks.getD n ⟨#[]⟩).toList ==key.toList)=false:=by simpa using hc
   rw [hc'] at hg;have hn:lessB key (ks.getD n ⟨#[]⟩)=true:=hg.symm
   rcases zdY ks key n with ⟨e,h⟩ | ⟨a,h1,h2,h3,h4⟩
   ·refine Or.inl ⟨e,fun j hj=> ?_⟩
    by_cases ej:j=n
    ·subst ej;exact hn
    ·exact h j (by omega)
   ·refine Or.inr ⟨a,by omega,h2,h3,fun j j1 j2=> ?_⟩
    by_cases ej:j=n
    ·subst ej;exact hn
    ·exact h4 j j1 (by omega)
theorem zg3 {ks:List ByteArray} (key:ByteArray) (h:0<ks.length):(placeK ks key ks.length).toNat<ks.length/\(0<(placeK ks key ks.length).toNat->lessB key (ks.getD (placeK ks key ks.length).toNat ⟨#[]⟩)=false)/\∀j,(placeK ks key ks.length).toNat<j->j<ks.length->lessB key (ks.getD j ⟨#[]⟩)=true:=by
 rcases zdY ks key ks.length with ⟨e,h1⟩ | ⟨a,h1,h2,h3,h4⟩
 ·rw [e]
  exact ⟨h,fun hh=>by simp at hh,fun j _ hj=>h1 j hj⟩
 ·rw [h2]
  exact ⟨h1,fun _=>h3,h4⟩
theorem zg4 (ks:List ByteArray) (a:Nat) (K:List ByteArray):∀i,i<=ks.length->midK ks a K i=if i<=a then ks.take i else ks.take a++(firstK ks a K :: K.drop 1)++(ks.take i).drop (a+1)
 | 0,_=>by rw [midK,if_pos (Nat.zero_le _)];rfl
 | i+1,hi=>by
  have hlt:i<ks.length:=by omega
  have hg:ks.getD i ⟨#[]⟩=ks[i]:=by simp [List.getD_eq_getElem?_getD,hlt]
  rw [midK,zg4 ks a K i (by omega)]
  by_cases h1:i<a
  ·rw [if_pos (by omega),if_neg (by omega),if_pos (by omega),hg,List.take_succ_eq_append_getElem hlt]
  ·by_cases h2:i=a
   ·subst h2
    rw [if_pos (Nat.le_refl _),if_pos rfl,if_neg (by omega),show (ks.take (i+1)).drop (i+1)= [] from List.drop_eq_nil_of_le (by rw [List.length_take];omega),List.append_nil]
   ·rw [if_neg (by omega),if_neg h2,if_neg (by omega),hg,List.take_succ_eq_append_getElem hlt,List.drop_append_of_le_length (by rw [List.length_take];omega),List.append_assoc,List.append_assoc]
theorem zhB (cs:List Int) (a:Nat) (C:List Int):∀i,i<=cs.length->midC cs a C i=if i<=a then cs.take i else cs.take a++C++(cs.take i).drop (a+1)
 | 0,_=>by rw [midC,if_pos (Nat.zero_le _)];rfl
 | i+1,hi=>by
  have hlt:i<cs.length:=by omega
  have hg:cs.getD i 0=cs[i]:=by simp [List.getD_eq_getElem?_getD,hlt]
  rw [midC,zhB cs a C i (by omega)]
  by_cases h1:i<a
  ·rw [if_pos (by omega),if_neg (by omega),if_pos (by omega),hg,List.take_succ_eq_append_getElem hlt]
  ·by_cases h2:i=a
   ·subst h2
    rw [if_pos (Nat.le_refl _),if_pos rfl,if_neg (by omega),List.drop_eq_nil_of_le (by rw [List.length_take];omega),List.append_nil]
   ·rw [if_neg (by omega),if_neg h2,if_neg (by omega),hg,List.take_succ_eq_append_getElem hlt,List.drop_append_of_le_length (by rw [List.length_take];omega),List.append_assoc,List.append_assoc]
open Go.RowKit
def Wk.room (k:Wk):Int:=(k.us.length:Int)+((k.ps.length:Int) - k.next)
structure Rmq (k:Wk) (O:List Int) (m q:Nat):Prop where
 wok:WOk k O
 one:(1:Int)∈O
 dk:diskOkB k.ps k.ls=true
 rm:(m:Int)<=k.room
 lt:k.ls.length+q<=200
 gn:k.gs= []
theorem zfr {k:Wk} {O:List Int} {m q m' q':Nat} (h:Rmq k O m q) (h1:m'<=m) (h2:q'<=q):Rmq k O m' q':=
 ⟨h.wok,h.one,h.dk,by have:=h.rm;omega,by have:=h.lt;omega,h.gn⟩
theorem zlY {k:Wk} {O:List Int} (h:WOk k O) (hr:1<=k.room):giveP k≠0/\(giveK k).room=k.room - 1/\(giveK k).gs=k.gs/\giveP k<(k.ps.length:Int):=by
 cases hu:k.us with
 | cons x t=>
  obtain ⟨e1,e2⟩:=zcu hu
  have hx:x∈k.us:=by rw [hu];exact List.mem_cons_self ..
  rw [e1,e2]
  refine ⟨fun e=>h.uo x hx (e▸h.zero),?_,rfl,by have:=(h.lu x hx).2;have:=h.nl;omega⟩
  unfold Wk.room;rw [hu,List.length_cons]
  show (t.length:Int)+((k.ps.length:Int) - k.next)=_
  omega
 | nil=>
  have hn:k.next<(k.ps.length:Int):=by
   unfold Wk.room at hr;rw [hu,List.length_nil] at hr
   omega
  obtain ⟨e1,e2⟩:=zcv hu hn;have h0:=h.lo 0 h.zero;have hsz:=h.sz;rw [e1,e2]
  refine ⟨by omega,?_,rfl,hn⟩
  unfold Wk.room
  show (k.us.length:Int)+((k.ps.length:Int) - wrap64 (k.next+1))=_
  rw [zas _ (by omega) (by omega)]
  omega
theorem dk_put {ps:List ByteArray} {ls:List (Int×ByteArray)} {page:Int} {text:ByteArray} (h:diskOkB ps ls=true) (h1:0<=page/\page<(ps.length:Int)) (h2:text.size<=240) (h3:ls.length<200):writeOk ps ls page text=true/\diskOkB ps (ls++ [(page,text)])=true:=by
 obtain ⟨a1,a2,a3,a4,a5⟩:=zgR h
 constructor
 ·unfold writeOk
  rw [h,decide_eq_true (show 0<=page/\page<=(ps.length:Int) - 1 by omega),decide_eq_true h2,decide_eq_true (show ls.length≠200 by omega)]
  rfl
 ·rw [zgQ (fun i hi=>a1 _ (List.getElem_mem hi)) (fun i hi=> ?_)]
  ·exact decide_eq_true ⟨a3,a4,by simp;omega⟩
  ·rcases List.mem_append.1 (List.getElem_mem hi) with e | e
   ·exact a2 _ e
   ·rw [List.mem_singleton] at e
    rw [e];exact ⟨h1.1,h1.2,h2⟩
theorem zhC {k:Wk} {O:List Int} {m q:Nat} (h:Rmq k O (m+1) (q+1)) {lf:Bool} {ks vs:List ByteArray} {cs:List Int} (hn:nodeOkB lf ks vs cs=true):putP k lf ks vs cs≠0/\Rmq (putK k lf ks vs cs) O m q:=by
 have hr:=h.rm
 obtain ⟨g1,g2,g3,g4⟩:=zlY h.wok (by omega)
 have g5:=(zkb h.wok g1).2.2.2.2.2.2.1
 obtain ⟨d1,d2⟩:=dk_put h.dk ⟨g5,g4⟩ (Nat.le_trans (zdS lf ks vs cs) (by omega)) (by have:=h.lt;omega)
 have hb:putB k lf ks vs cs=true:=by
  unfold putB;rw [hn,decide_eq_true g1,d1]
  rfl
 obtain ⟨e1,e2⟩:=zhq hb
 have hp:putP k lf ks vs cs≠0:=by rw [e2];exact g1
 have hw:=(zhw h.wok hp).1;have hwl:writeL k.ps k.ls (giveP k) (nodeO lf ks vs cs)=k.ls++ [(giveP k,nodeO lf ks vs cs)]:=if_pos d1;refine ⟨hp,hw,h.one,?_,?_,?_,?_⟩
 ·rw [e1,hwl]
  show diskOkB (giveK k).ps _=true
  rw [(zd8 k).1];exact d2
 ·rw [e1]
  show (m:Int)<=(giveK k).room
  omega
 ·rw [e1,hwl]
  show (k.ls++ [(giveP k,nodeO lf ks vs cs)]).length+q<=200
  have:=h.lt
  simp
  omega
 ·rw [e1]
  exact g3.trans h.gn
theorem zh3 (lf:Bool):∀(r:List Part) {k:Wk} {O:List Int} {m q:Nat},Rmq k O (m+r.length) (q+r.length)->(∀p∈r,nodeOkB lf p.1 p.2.1 p.2.2=true)->(halfL lf k r).2.2.2=true/\Rmq (halfL lf k r).1 O m q
 | [],_,_,_,_,h,_=>⟨rfl,h⟩
 | p :: r,k,O,m,q,h,hn=>by
  obtain ⟨h1,h2⟩:=zhC (m:=m+r.length) (q:=q+r.length) h (hn p (List.mem_cons_self ..));rw [halfL,if_neg h1]
  exact zh3 lf r h2 (fun x hx=>hn x (List.mem_cons_of_mem _ hx))
theorem zis {k:Wk} {O:List Int} {m q:Nat} (h:Rmq k O (m+2) (q+2)) {lf:Bool} {ks vs:List ByteArray} {cs:List Int} (hn:∀p∈halfParts lf ks vs cs,nodeOkB lf p.1 p.2.1 p.2.2=true):(halfS k lf ks vs cs).2.2.2=true/\Rmq (halfS k lf ks vs cs).1 O m q:=
 zh3 lf _ (zfr h (by have:=(zcy lf ks vs cs).2;omega) (by have:=(zcy lf ks vs cs).2;omega)) hn
theorem zlZ {k:Wk} {O:List Int} {m q:Nat} (h:Rmq k O m q) {p:Int} (hp:p∈k.fs) (hu:p∉k.us):Rmq (dropS k p) O (m+1) q:=by
 obtain ⟨d1,-⟩:=zkc h.wok p (fun x hx=>by rw [List.mem_singleton] at hx;subst hx;exact ⟨hu,Or.inr hp⟩)
 refine ⟨d1,h.one,?_,?_,?_,?_⟩ <;> unfold dropS <;> rw [if_pos hp]
 ·exact h.dk
 ·show ((m+1:Nat):Int)<=((srtL (k.us++ [p])).length:Int)+((k.ps.length:Int) - k.next)
  have:=h.rm;unfold Wk.room at this;rw [zk2]
  simp
  omega
 ·exact h.lt
 ·exact h.gn
theorem zke {R:Wk×List ByteArray×List Int×Bool} {O:List Int} {m q:Nat} (h:Rmq R.1 O m q) {p:Int} (hp:p∈R.1.fs) (hu:p∉R.1.us) (ho:R.2.2.2=true):(finK p R).2.2.2=true/\Rmq (finK p R).1 O (m+1) q:=by
 unfold finK;rw [if_pos ho];exact ⟨rfl,zlZ h hp hu⟩
structure JOk (k:Wk):Prop where
 asc:k.us.Pairwise (·<·)
 uf:∀x∈k.us,x∉k.fs
 lu:∀x∈k.us,x<k.next
 lf:∀x∈k.fs,x<k.next
 sz:k.ps.length<=1048576
 nn:0<=k.next
theorem znl {k:Wk} (h:JOk k):JOk (giveK k):=by
 cases hu:k.us with
 | cons x t=>
  have ha:=h.asc;rw [hu,List.pairwise_cons] at ha
  have ht:∀y∈t,y∈k.us:=fun y hy=>by rw [hu];exact List.mem_cons_of_mem _ hy
  rw [(zcu hu).1]
  refine ⟨ha.2,fun y hy e=> ?_,fun y hy=>h.lu y (ht y hy),fun y hy=> ?_,h.sz,h.nn⟩
  ·rcases List.mem_append.1 e with e | e
   ·exact h.uf y (ht y hy) e
   ·rw [List.mem_singleton] at e
    have:=ha.1 y hy
    omega
  ·rcases List.mem_append.1 hy with e | e
   ·exact h.lf y e
   ·rw [List.mem_singleton] at e
    rw [e]
    exact h.lu x (by rw [hu];exact List.mem_cons_self ..)
 | nil=>
  by_cases hn:k.next<(k.ps.length:Int)
  ·rw [(zcv hu hn).1]
   have hsz:=h.sz;have hnn:=h.nn
   have hw:wrap64 (k.next+1)=k.next+1:=zas _ (by omega) (by omega)
   refine ⟨h.asc,fun y hy=> ?_,fun y hy=> ?_,fun y hy=> ?_,h.sz,?_⟩
   ·have hy:y∈k.us:=hy
    rw [hu] at hy;cases hy
   ·have hy:y∈k.us:=hy
    rw [hu] at hy;cases hy
   ·show y<wrap64 (k.next+1)
    rw [hw]
    rcases List.mem_append.1 hy with e | e
    ·have:=h.lf y e;omega
    ·rw [List.mem_singleton] at e;omega
   ·show 0<=wrap64 (k.next+1)
    rw [hw];omega
  ·rw [(zd5 hu hn).1];exact h
theorem zhD {k:Wk} (h:JOk k) (lf:Bool) (ks vs:List ByteArray) (cs:List Int):JOk (putK k lf ks vs cs):=by
 unfold putK
 split
 ·have g:=znl h
  exact ⟨g.asc,g.uf,g.lu,g.lf,g.sz,g.nn⟩
 ·exact h
theorem zde (lf:Bool):∀(r:List Part) {k:Wk},JOk k->JOk (halfL lf k r).1
 | [],_,h=>h
 | p :: r,k,h=>by
  rw [halfL]
  split
  ·exact h
  ·exact zde lf r (zhD h _ _ _ _)
theorem znm {k:Wk} (h:JOk k) (p:Int):JOk (dropS k p):=by
 unfold dropS
 split
 ·next hf=>
  have hn:p∉k.us:=fun e=>h.uf p e hf
  refine ⟨?_,fun x hx e=> ?_,fun x hx=> ?_,fun x hx=>h.lf x (List.mem_filter.1 hx).1,h.sz,h.nn⟩
  ·have h1:(srtL (k.us++ [p])).Pairwise (·<=·):=zgV _
   have h2:(srtL (k.us++ [p])).Nodup:=(List.mergeSort_perm _ _).nodup_iff.2 (List.nodup_append.2 ⟨h.asc.imp (fun h=>Int.ne_of_lt h),by simp,fun a ha b hb=>by rw [List.mem_singleton] at hb;subst hb;exact fun e=>hn (e▸ha)⟩)
   exact (h1.and h2).imp (fun h=>by have:=h.1;have:=h.2;omega)
  ·have e:=List.mem_filter.1 e
   rcases List.mem_append.1 (zdB.1 hx) with e1 | e1
   ·exact h.uf x e1 e.1
   ·rw [List.mem_singleton] at e1;subst e1;simp at e
  ·rcases List.mem_append.1 (zdB.1 hx) with e1 | e1
   ·exact h.lu x e1
   ·rw [List.mem_singleton] at e1;subst e1;exact h.lf x hf
 ·exact ⟨h.asc,h.uf,h.lu,h.lf,h.sz,h.nn⟩
theorem zhE {R:Wk×List ByteArray×List Int×Bool} (h:JOk R.1) (p:Int):JOk (finK p R).1:=by
 unfold finK
 split
 ·exact znm h p
 ·exact h
end Go.Proofs.YtcbogiebfbbmbaaGreatDoor
