/-
  Facts and contracts that the law's own text rests on, by their texts' names: Plain25.
-/
import Derived.Test.YtcbogiebfbbmbaaGreatDoorPm9
set_option maxHeartbeats 16000000
set_option maxRecDepth 100000
namespace Go.Proofs.YtcbogiebfbbmbaaGreatDoor
theorem zao (x:ByteArray):lessB x x=false:=zbE _
theorem zap {x y z:ByteArray} (h:lessB x y=true) (k:lessB y z=true):lessB x z=true:=zc4 _ _ _ h k
theorem zn9 {x y z:ByteArray} (h:lessB x y=false) (k:lessB x z=true):lessB y z=true:=by
 unfold lessB at h k⊢
 cases he:(x.toList ==y.toList) with
 | true=>rw [<-eq_of_beq he];exact k
 | false=>exact zc4 _ _ _ (zc3 _ _ h he) k
theorem zeh {x y z:ByteArray} (h:lessB x y=false) (k:lessB z y=true):lessB z x=true:=by
 unfold lessB at h k⊢
 cases he:(x.toList ==y.toList) with
 | true=>rw [eq_of_beq he];exact k
 | false=>exact zc4 _ _ _ k (zc3 _ _ h he)
def fitK (x:ByteArray) (s:Nd×Nat):Prop:=lessB x (s.1.ks.getD s.2 ⟨#[]⟩)=false/\(s.2+1<s.1.ks.length->lessB x (s.1.ks.getD (s.2+1) ⟨#[]⟩)=true)
def Bnd (way:List (Nd×Nat)) (low high:ByteArray) (has:Bool):Prop:=∀x,outB x low high has=false↔∀s∈way,fitK x s
theorem bnd_nil (high:ByteArray):Bnd [] ⟨#[]⟩ high false:=fun x=>by
 refine ⟨fun _ s hs=>(by cases hs),fun _=> ?_⟩
 have h:lessB x ⟨#[]⟩=false:=by
  unfold lessB
  have:(⟨#[]⟩:ByteArray).toList= []:=by simp [ByteArray.toList,ByteArray.toList.loop,ByteArray.size]
  rw [this]
  cases x.toList <;> rfl
 rw [outB,h]
 rfl
theorem zlT (x low high:ByteArray) (has:Bool):outB x low high has=false↔lessB x low=false/\(has=true->lessB x high=true):=by
 unfold outB
 cases lessB x low <;> cases has <;> cases lessB x high <;> simp
theorem zna {way:List (Nd×Nat)} {low high:ByteArray} {has:Bool} (h:Bnd way low high has) (n:Nd) (i:Nat):Bnd (way++ [(n,i)]) (leastB n i low) (nextB n i high has) (moreB n i high has):=fun x=>by
 have hs:(∀s∈way++ [(n,i)],fitK x s)↔(∀s∈way,fitK x s)/\fitK x (n,i):=
  ⟨fun hh=>⟨fun s m=>hh s (List.mem_append_left _ m),hh _ (List.mem_append_right _ (List.mem_singleton.2 rfl))⟩,fun hh s m=>by
   rcases List.mem_append.1 m with m | m
   ·exact hh.1 s m
   ·rw [List.mem_singleton.1 m];exact hh.2⟩
 rw [hs,<-h x,zlT,zlT]
 have h1:lessB x (leastB n i low)=false↔lessB x low=false/\lessB x (n.ks.getD i ⟨#[]⟩)=false:=by
  unfold leastB
  cases hl:lessB low (n.ks.getD i ⟨#[]⟩) with
  | true=>
   rw [if_pos rfl]
   refine ⟨fun hh=>⟨?_,hh⟩,fun hh=>hh.2⟩
   cases hx:lessB x low with
   | false=>rfl
   | true=>rw [zap hx hl] at hh;cases hh
  | false=>
   rw [if_neg (by decide)]
   refine ⟨fun hh=>⟨hh,?_⟩,fun hh=>hh.1⟩
   cases hx:lessB x (n.ks.getD i ⟨#[]⟩) with
   | false=>rfl
   | true=>rw [zeh hl hx] at hh;cases hh
 have h2:(moreB n i high has=true->lessB x (nextB n i high has)=true)↔(has=true->lessB x high=true)/\(i+1<n.ks.length->lessB x (n.ks.getD (i+1) ⟨#[]⟩)=true):=by
  unfold moreB nextB
  cases hn:nearB n i high has with
  | true=>
   rw [if_pos rfl,if_pos rfl];unfold nearB at hn;rw [Bool.and_eq_true,decide_eq_true_eq] at hn
   refine ⟨fun hh=>⟨fun he=> ?_,fun _=>hh rfl⟩,fun hh _=>hh.2 hn.1⟩
   have h3:=hn.2;rw [he] at h3;exact zap (hh rfl) h3
  | false=>
   rw [if_neg (by decide),if_neg (by decide)]
   refine ⟨fun hh=>⟨hh,fun hi=> ?_⟩,fun hh=>hh.1⟩
   unfold nearB at hn;rw [decide_eq_true hi,Bool.true_and] at hn
   cases he:has with
   | false=>rw [he] at hn;cases hn
   | true=>
    rw [he] at hn
    exact zeh (by simpa using hn) (hh he)
 rw [h1,h2];unfold fitK
 constructor
 ·rintro ⟨⟨a,b⟩,c,d⟩;exact ⟨⟨a,c⟩,b,d⟩
 ·rintro ⟨⟨a,c⟩,b,d⟩;exact ⟨⟨a,b⟩,c,d⟩
def FitV (v:Vis):Prop:=∀i,i<v.nd.ks.length->∀s∈v.way,fitK (v.nd.ks.getD i ⟨#[]⟩) s
def Fits (L:List Vis):Prop:=∀v∈L,v.nd.lf=true->FitV v
def depthsV (L:List Vis):List Int:=(L.filter fun v=>v.nd.lf).map fun v=>(v.way.length:Int)
theorem zfY (L M:List Vis):Fits (L++M)↔Fits L/\Fits M:=
 ⟨fun h=>⟨fun v m=>h v (List.mem_append_left _ m),fun v m=>h v (List.mem_append_right _ m)⟩,fun h v m=>by
  rcases List.mem_append.1 m with m | m
  ·exact h.1 v m
  ·exact h.2 v m⟩
theorem zfZ (f:Int->Nat->ByteArray->ByteArray->Bool->Al->Al) (n:Nd) (hl:n.lf=true) (deep:Nat) (low high:ByteArray) (has:Bool) (a:Al):∀i,
  (loopS f n deep low high has a i).loose=false↔a.loose=false/\∀j,j<i->outB (n.ks.getD j ⟨#[]⟩) low high has=false
 | 0=>by
  rw [loopS]
  exact ⟨fun h=>⟨h,fun j hj=>absurd hj (Nat.not_lt_zero _)⟩,fun h=>h.1⟩
 | i+1=>by
  have ih:=zfZ f n hl deep low high has a i;rw [loopS,stepS,if_pos hl]
  simp only [Bool.or_eq_false_iff]
  rw [ih]
  refine ⟨fun h=>⟨h.1.1,fun j hj=> ?_⟩,fun h=>⟨⟨h.1,fun j hj=>h.2 j (by omega)⟩,h.2 i (by omega)⟩⟩
  by_cases e:j=i
  ·subst e;exact h.2
  ·exact h.1.2 j (by omega)
theorem zin (R:Int->Nd×Bool) (hR:Right R):∀(k:Nat) (p:Int) (way:List (Nd×Nat)) (low high:ByteArray) (has:Bool) (a:Al) (s:List Int),a.bad=false->Bnd way low high has->(downL R k p way a.pages).2=some s->
  (walkS R k p way.length low high has a).depths=a.depths++depthsV (downL R k p way a.pages).1/\((walkS R k p way.length low high has a).loose=false↔a.loose=false/\Fits (downL R k p way a.pages).1)
 | 0,p,way,low,high,has,a,s,h,hB,hs=>by
  rw [downL] at hs
  cases hs
 | k+1,p,way,low,high,has,a,s,h,hB,hs=>by
  by_cases hb:(R p).2=false\/p∈a.pages
  ·rw [downL,if_pos hb] at hs
   cases hs
  ·rw [downL,if_neg hb] at hs
   rw [downL,if_neg hb,walkS,if_neg (fun hh=>by rcases hh with hh | hh | hh;exact hb (Or.inl hh);exact hb (Or.inr hh);rw [h] at hh;cases hh)]
   have hok:(R p).1.ok=true:=hR p (by cases hc:(R p).2;exact absurd (Or.inl hc) hb;rfl)
   obtain ⟨n,hn⟩:∃n,n=(R p).1:=⟨_,rfl⟩;rw [<-hn] at hok hs⊢;obtain ⟨he1,he2⟩:=zaY hok
   cases hlf:n.lf with
   | true=>
    obtain ⟨e1,e2⟩:=he1 hlf;rw [if_pos rfl,e2,List.length_nil,kidsL]
    obtain ⟨h1,h2,h3,h4⟩:=zdy (walkS R k) n hlf way.length low high has {a with pages:=a.pages++ [p]} n.ks.length
    have h5:=zfZ (walkS R k) n hlf way.length low high has {a with pages:=a.pages++ [p]} n.ks.length
    refine ⟨?_,?_⟩
    ·simp only
     rw [h3]
     simp [depthsV,hlf]
    ·simp only
     rw [h5]
     simp only
     refine and_congr_right fun _=> ?_
     constructor
     ·intro hh v hv _
      rw [List.mem_singleton.1 hv]
      exact fun i hi=>(hB _).1 (hh i hi)
     ·intro hh j hj
      exact (hB _).2 (hh _ (List.mem_singleton.2 rfl) hlf j hj)
   | false=>
    obtain ⟨e1,e2⟩:=he2 hlf
    rw [if_neg (by decide)]
    obtain ⟨b,hbb⟩:∃b:Al,b={a with pages:=a.pages++ [p]}:=⟨_,rfl⟩
    have hb1:b.bad=false:=by rw [hbb];exact h
    have hb2:b.pages=a.pages++ [p]:=by rw [hbb]
    have hb3:b.depths=a.depths:=by rw [hbb]
    have hb4:b.loose=a.loose:=by rw [hbb]
    simp only at hs
    rw [<-hb2] at hs;rw [<-hbb,<-hb2]
    have key:∀i s,(kidsL (downL R k) n way b.pages i).2=some s->(loopS (walkS R k) n way.length low high has b i).bad=false/\(loopS (walkS R k) n way.length low high has b i).pages=s/\(loopS (walkS R k) n way.length low high has b i).depths=b.depths++depthsV (kidsL (downL R k) n way b.pages i).1/\((loopS (walkS R k) n way.length low high has b i).loose=false↔b.loose=false/\Fits (kidsL (downL R k) n way b.pages i).1):=by
     intro i
     induction i with
     | zero=>
      intro s hs
      injection hs with hs
      exact ⟨hb1,hs,by simp [kidsL,depthsV,loopS],⟨fun hh=>⟨hh,fun v hv=>by cases hv⟩,fun hh=>hh.1⟩⟩
     | succ i ih=>
      intro s hs
      cases hk:(kidsL (downL R k) n way b.pages i).2 with
      | none=>
       rw [zbt hk,hk] at hs
       cases hs
      | some s0=>
       obtain ⟨i1,i2,i3,i4⟩:=ih s0 hk;rw [zaN hk] at hs
       rw [zaN hk,loopS,stepS,if_neg (by rw [hlf];decide)]
       simp only at hs
       have hrec:=zfU R hR k (n.cs.getD i 0) (way++ [(n,i)]) (way.length+1) (leastB n i low) (nextB n i high has) (moreB n i high has) (loopS (walkS R k) n way.length low high has b i) i1;have hrt:=zin R hR k (n.cs.getD i 0) (way++ [(n,i)]) (leastB n i low) (nextB n i high has) (moreB n i high has) (loopS (walkS R k) n way.length low high has b i) s i1 (zna hB n i);rw [i2] at hrec hrt;rw [List.length_append,List.length_singleton] at hrt;obtain ⟨r1,r2,r3,r4⟩:=hrec.2 s hs;obtain ⟨q1,q2⟩:=hrt hs;refine ⟨r1,r2,?_,?_⟩
       ·rw [q1,i3]
        simp only [depthsV,List.filter_append,List.map_append,List.append_assoc]
       ·rw [q2,i4,zfY,and_assoc]
    obtain ⟨r1,r2,r3,r4⟩:=key n.ks.length s (by rw [<-e1];exact hs)
    rw [e1];refine ⟨?_,?_⟩
    ·rw [r3,hb3]
     simp [depthsV,hlf]
    ·rw [r4,hb4]
     refine and_congr_right fun _=> ?_
     constructor
     ·intro hh v hv hv2
      rcases List.mem_cons.1 hv with e | hv
      ·subst e
       simp only at hv2
       rw [hlf] at hv2;cases hv2
      ·exact hh v hv hv2
     ·exact fun hh v hv=>hh v (List.mem_cons_of_mem _ hv)
theorem zdX {n:Nd} (h:n.ok=true) (i:Nat):∀d,i+d+1<n.ks.length->lessB (n.ks.getD i ⟨#[]⟩) (n.ks.getD (i+d+1) ⟨#[]⟩)=true
 | 0,hl=>by
  have:=(zan h).2.1 (i+1) hl;unfold keyB at this;rw [Bool.and_eq_true] at this;unfold lessB
  simpa using this.2
 | d+1,hl=>by
  have h1:=zdX h i d (by omega)
  have e:i+(d+1)+1=i+d+1+1:=by omega
  rw [e] at hl⊢;have:=(zan h).2.1 (i+d+1+1) hl;unfold keyB at this;rw [Bool.and_eq_true] at this;refine zap h1 ?_;unfold lessB
  simpa using this.2
theorem zg0 (R:Int->Nd×Bool) (hR:Right R):∀(k:Nat) (p:Int) (way:List (Nd×Nat)) (seen:List Int),∀v∈(downL R k p way seen).1,v.nd.ok=true/\∃m,v.way=way++m
 | 0,p,way,seen,v,hv=>by rw [downL] at hv;cases hv
 | k+1,p,way,seen,v,hv=>by
  rw [downL] at hv
  split at hv
  ·cases hv
  ·rename_i hb
   have hok:(R p).1.ok=true:=hR p (by cases hc:(R p).2;exact absurd (Or.inl hc) hb;rfl)
   rcases List.mem_cons.1 hv with e | hv
   ·rw [e];exact ⟨hok,[],by simp⟩
   ·have key:∀i,∀v∈(kidsL (downL R k) (R p).1 way (seen++ [p]) i).1,v.nd.ok=true/\∃m,v.way=way++m:=by
     intro i
     induction i with
     | zero=>intro v hv;cases hv
     | succ i ih=>
      intro v hv
      cases hk:(kidsL (downL R k) (R p).1 way (seen++ [p]) i).2 with
      | none=>rw [zbt hk] at hv;exact ih v hv
      | some s=>
       rw [zaN hk] at hv
       rcases List.mem_append.1 hv with hv | hv
       ·exact ih v hv
       ·obtain ⟨h1,m,h2⟩:=zg0 R hR k _ _ _ v hv
        exact ⟨h1,((R p).1,i) :: m,by rw [h2];simp⟩
    exact key _ v hv
theorem zkX {n:Nd} {x:ByteArray×ByteArray} (h:x∈pairsN n):∃j,j<n.vs.length/\x.1=n.ks.getD j ⟨#[]⟩:=by
 unfold pairsN at h;obtain ⟨j,hj,rfl⟩:=List.mem_map.1 h;exact ⟨j,List.mem_range.1 hj,rfl⟩
theorem zkY {L:List Vis} (hL:∀v∈L,v.nd.ok=true) {x:ByteArray×ByteArray} (h:x∈pairsV L):∃v∈L,v.nd.lf=true/\∃j,j<v.nd.ks.length/\x.1=v.nd.ks.getD j ⟨#[]⟩:=by
 unfold pairsV at h;obtain ⟨v,hv,hx⟩:=List.mem_flatMap.1 h;obtain ⟨j,hj,e⟩:=zkX hx;obtain ⟨e1,e2⟩:=zaY (hL v hv)
 cases hl:v.nd.lf with
 | true=>exact ⟨v,hv,hl,j,by rw [<-(e1 hl).1];exact hj,e⟩
 | false=>rw [(e2 hl).2] at hj;exact absurd hj (Nat.not_lt_zero _)
def Asc (l:List (ByteArray×ByteArray)):Prop:=l.Pairwise fun x y=>lessB x.1 y.1=true
theorem znb {n:Nd} (h:n.ok=true):Asc (pairsN n):=by
 obtain ⟨e1,e2⟩:=zaY h;unfold Asc pairsN;rw [List.pairwise_map];refine List.Pairwise.imp_of_mem ?_ List.pairwise_lt_range;intro i j hi hj hlt;have hj:=List.mem_range.1 hj
 cases hl:n.lf with
 | true=>
  have:=zdX h i (j - i - 1) (by rw [<-(e1 hl).1];omega)
  rw [show i+(j - i - 1)+1=j from by omega] at this
  exact this
 | false=>rw [(e2 hl).2] at hj;exact absurd hj (Nat.not_lt_zero _)
theorem zk9 (R:Int->Nd×Bool) (hR:Right R):∀(k:Nat) (p:Int) (way:List (Nd×Nat)) (seen:List Int),Fits (downL R k p way seen).1->Asc (pairsV (downL R k p way seen).1)
 | 0,p,way,seen,_=>by rw [downL];exact List.Pairwise.nil
 | k+1,p,way,seen,hf=>by
  rw [downL] at hf⊢
  split
  ·exact List.Pairwise.nil
  ·rename_i hb
   rw [if_neg hb] at hf
   have hok:(R p).1.ok=true:=hR p (by cases hc:(R p).2;exact absurd (Or.inl hc) hb;rfl)
   obtain ⟨n,hn⟩:∃n,n=(R p).1:=⟨_,rfl⟩;rw [<-hn] at hok hf⊢;obtain ⟨he1,he2⟩:=zaY hok
   cases hlf:n.lf with
   | true=>
    obtain ⟨e1,e2⟩:=he1 hlf;rw [e2,List.length_nil,kidsL]
    show Asc (pairsV [_])
    unfold pairsV;rw [List.flatMap_cons,List.flatMap_nil,List.append_nil];exact znb hok
   | false=>
    obtain ⟨e1,e2⟩:=he2 hlf
    have hf2:Fits (kidsL (downL R k) n way (seen++ [p]) n.cs.length).1:=fun v hv=>hf v (List.mem_cons_of_mem _ hv)
    have hp:∀l,pairsV (⟨p,n,way⟩ :: l)=pairsV l:=fun l=>by
     unfold pairsV;rw [List.flatMap_cons,pairsN,e2]
     simp
    rw [hp]
    have key:∀i,i<=n.cs.length->Fits (kidsL (downL R k) n way (seen++ [p]) i).1->(∀v∈(kidsL (downL R k) n way (seen++ [p]) i).1,v.nd.ok=true)/\Asc (pairsV (kidsL (downL R k) n way (seen++ [p]) i).1)/\(i<n.ks.length->∀x∈pairsV (kidsL (downL R k) n way (seen++ [p]) i).1,lessB x.1 (n.ks.getD i ⟨#[]⟩)=true):=by
     intro i
     induction i with
     | zero=>exact fun _ _=>⟨fun v hv=>(by cases hv),List.Pairwise.nil,fun _ x hx=>(by cases hx)⟩
     | succ i ih=>
      intro hi hfi
      cases hk:(kidsL (downL R k) n way (seen++ [p]) i).2 with
      | none=>
       rw [zbt hk] at hfi⊢
       obtain ⟨a1,a2,a3⟩:=ih (by omega) hfi
       refine ⟨a1,a2,fun hl x hx=>zap (a3 (by omega) x hx) (zdX hok i 0 hl)⟩
      | some s=>
       rw [zaN hk] at hfi⊢
       simp only at hfi⊢
       obtain ⟨f1,f2⟩:=(zfY _ _).1 hfi
       obtain ⟨a1,a2,a3⟩:=ih (by omega) f1
       have hw:=zg0 R hR k (n.cs.getD i 0) (way++ [(n,i)]) s;have hasc:=zk9 R hR k (n.cs.getD i 0) (way++ [(n,i)]) s f2
       have hfit:∀x∈pairsV (downL R k (n.cs.getD i 0) (way++ [(n,i)]) s).1,fitK x.1 (n,i):=fun x hx=>by
        obtain ⟨v,hv,hvl,j,hj,e⟩:=zkY (fun v hv=>(hw v hv).1) hx
        obtain ⟨m,hm⟩:=(hw v hv).2;rw [e]
        exact f2 v hv hvl j hj (n,i) (by rw [hm];simp)
       refine ⟨fun v hv=> ?_,?_,fun hl x hx=> ?_⟩
       ·rcases List.mem_append.1 hv with hv | hv
        ·exact a1 v hv
        ·exact (hw v hv).1
       ·unfold pairsV at *
        rw [List.flatMap_append]
        refine List.pairwise_append.2 ⟨a2,hasc,fun x hx y hy=> ?_⟩
        exact zeh (hfit y hy).1 (a3 (by omega) x hx)
       ·unfold pairsV at *
        rw [List.flatMap_append] at hx
        rcases List.mem_append.1 hx with hx | hx
        ·exact zap (a3 (by omega) x hx) (zdX hok i 0 hl)
        ·exact (hfit x hx).2 hl
    exact (key _ (Nat.le_refl _) hf2).2.1
def fitB (v:Vis):Bool:=v.way.all fun s=> !(lessB (v.nd.ks.getD 0 ⟨#[]⟩) (s.1.ks.getD s.2 ⟨#[]⟩)) && (!(decide (s.2+1<s.1.ks.length)) || lessB (v.nd.ks.getD (v.nd.ks.length - 1) ⟨#[]⟩) (s.1.ks.getD (s.2+1) ⟨#[]⟩))
theorem zhv {v:Vis} (h:v.nd.ok=true):fitB v=true↔FitV v:=by
 obtain ⟨hl,-⟩:=zaP (zan h).1;unfold fitB;rw [List.all_eq_true]
 constructor
 ·intro hh i hi s hs
  have h1:=hh s hs;rw [Bool.and_eq_true,Bool.not_eq_true',Bool.or_eq_true,Bool.not_eq_true',decide_eq_false_iff_not] at h1
  refine ⟨?_,fun hn=> ?_⟩
  ·cases hx:lessB (v.nd.ks.getD i ⟨#[]⟩) (s.1.ks.getD s.2 ⟨#[]⟩) with
   | false=>rfl
   | true=>
    have:lessB (v.nd.ks.getD 0 ⟨#[]⟩) (s.1.ks.getD s.2 ⟨#[]⟩)=true:=by
     by_cases e:i=0
     ·rw [<-e];exact hx
     ·have h2:=zdX h 0 (i - 1) (by omega)
      rw [show 0+(i - 1)+1=i from by omega] at h2
      exact zap h2 hx
    rw [h1.1] at this;cases this
  ·have h3:=h1.2.resolve_left (fun h=>h hn)
   by_cases e:i=v.nd.ks.length - 1
   ·rw [e];exact h3
   ·have h2:=zdX h i (v.nd.ks.length - 1 - i - 1) (by omega)
    rw [show i+(v.nd.ks.length - 1 - i - 1)+1=v.nd.ks.length - 1 from by omega] at h2
    exact zap h2 h3
 ·intro hh s hs
  rw [Bool.and_eq_true,Bool.not_eq_true',Bool.or_eq_true,Bool.not_eq_true',decide_eq_false_iff_not]
  refine ⟨(hh 0 (by omega) s hs).1,?_⟩
  by_cases hn:s.2+1<s.1.ks.length
  ·exact Or.inr ((hh _ (by omega) s hs).2 hn)
  ·exact Or.inl hn
def treeT (d:Int) (v:Vis):Option Int:=
 if v.nd.lf=false then some d
 else if (v.way.length:Int)=(if d<0 then (v.way.length:Int) else d)/\fitB v=true then some (if d<0 then (v.way.length:Int) else d) else none
def treeF:Int->List Vis->Option Int
 | d,[]=>some d
 | d,v :: l=>(treeT d v).bind fun e=>treeF e l
theorem zh2:∀(L:List Vis) (d:Int),(∀v∈L,v.nd.ok=true)->0<=d->((treeF d L).isSome=true↔Fits L/\∀e∈depthsV L,e=d)
 | [],d,_,_=>by simp [treeF,Fits,depthsV]
 | v :: L,d,hok,hd=>by
  have ih:=zh2 L d (fun u hu=>hok u (List.mem_cons_of_mem _ hu)) hd
  rw [treeF,treeT]
  cases hl:v.nd.lf with
  | false=>
   rw [if_pos rfl,Option.bind_some,ih]
   have e1:depthsV (v :: L)=depthsV L:=by simp [depthsV,hl]
   rw [e1]
   refine and_congr_left fun _=>⟨fun hh u hu hu2=> ?_,fun hh u hu=>hh u (List.mem_cons_of_mem _ hu)⟩
   rcases List.mem_cons.1 hu with e | hu
   ·rw [e,hl] at hu2;cases hu2
   ·exact hh u hu hu2
  | true=>
   have hd':(if d<0 then (v.way.length:Int) else d)=d:=if_neg (by omega)
   rw [if_neg (by decide),hd']
   have e1:depthsV (v :: L)=(v.way.length:Int) :: depthsV L:=by simp [depthsV,hl]
   rw [e1]
   by_cases hc:(v.way.length:Int)=d/\fitB v=true
   ·rw [if_pos hc,Option.bind_some,ih]
    constructor
    ·rintro ⟨h1,h2⟩
     refine ⟨fun u hu hu2=> ?_,fun e he=> ?_⟩
     ·rcases List.mem_cons.1 hu with e | hu
      ·rw [e];exact (zhv (hok v List.mem_cons_self)).1 hc.2
      ·exact h1 u hu hu2
     ·rcases List.mem_cons.1 he with e' | he
      ·rw [e'];exact hc.1
      ·exact h2 e he
    ·rintro ⟨h1,h2⟩
     exact ⟨fun u hu=>h1 u (List.mem_cons_of_mem _ hu),fun e he=>h2 e (List.mem_cons_of_mem _ he)⟩
   ·rw [if_neg hc]
    refine ⟨fun hh=>(by cases hh),fun hh=>absurd ?_ hc⟩
    exact ⟨hh.2 _ List.mem_cons_self,(zhv (hok v List.mem_cons_self)).2 (hh.1 v List.mem_cons_self hl)⟩
theorem zg1:∀(L:List Vis),(∀v∈L,v.nd.ok=true)->((treeF (-1) L).isSome=true↔Fits L/\∀e∈depthsV L,e=(depthsV L).getD 0 0)
 | [],_=>by simp [treeF,Fits,depthsV]
 | v :: L,hok=>by
  cases hl:v.nd.lf with
  | false=>
   have ih:=zg1 L (fun u hu=>hok u (List.mem_cons_of_mem _ hu))
   rw [treeF,treeT,if_pos hl,Option.bind_some,ih]
   have e1:depthsV (v :: L)=depthsV L:=by simp [depthsV,hl]
   rw [e1]
   refine and_congr_left fun _=>⟨fun hh u hu hu2=> ?_,fun hh u hu=>hh u (List.mem_cons_of_mem _ hu)⟩
   rcases List.mem_cons.1 hu with e | hu
   ·rw [e,hl] at hu2;cases hu2
   ·exact hh u hu hu2
  | true=>
   have h1:=zh2 (v :: L) (v.way.length:Int) hok (by omega)
   have e1:depthsV (v :: L)=(v.way.length:Int) :: depthsV L:=by simp [depthsV,hl]
   have e2:(depthsV (v :: L)).getD 0 0=(v.way.length:Int):=by rw [e1];rfl
   have d1:(if (-1:Int)<0 then (v.way.length:Int) else -1)=(v.way.length:Int):=if_pos (by decide)
   have d2:(if (v.way.length:Int)<0 then (v.way.length:Int) else (v.way.length:Int))=(v.way.length:Int):=by split <;> rfl
   have t1:treeT (-1) v=treeT (v.way.length:Int) v:=by
    have hne:¬(v.nd.lf=false):=by rw [hl];decide
    unfold treeT;rw [d1,d2,if_neg hne,if_neg hne]
   rw [e2,<-h1,treeF,treeF,t1]
def treeI (R:Int->Nd×Bool) (root:Int):Bool:=(seenI R root).2 && (treeF (-1) (seenI R root).1).isSome
def upB (l:List (ByteArray×ByteArray)):Bool:=decide (∀i,i<l.length->0<i->lessB (l.getD (i - 1) (⟨#[]⟩,⟨#[]⟩)).1 (l.getD i (⟨#[]⟩,⟨#[]⟩)).1=true)
def evenB (l:List Int):Bool:=decide (∀i,i<l.length->0<i->l.getD i 0=l.getD 0 0)
def treeS (R:Int->Nd×Bool) (root:Int):Bool:= !((seenS R root).bad || (seenS R root).loose) && upB (seenS R root).pairs && evenB (seenS R root).depths
theorem asc_up {l:List (ByteArray×ByteArray)} (h:Asc l):upB l=true:=by
 refine decide_eq_true fun i hi h0=> ?_
 have:=List.pairwise_iff_getElem.1 h (i - 1) i (by omega) hi (by omega)
 simpa [List.getD,List.getElem?_eq_getElem hi,List.getElem?_eq_getElem (show i - 1<l.length by omega)] using this
theorem zka (l:List Int):evenB l=true↔∀e∈l,e=l.getD 0 0:=by
 unfold evenB;rw [decide_eq_true_eq]
 constructor
 ·intro h e he
  obtain ⟨i,hi,rfl⟩:=List.getElem_of_mem he
  by_cases h0:i=0
  ·subst h0;simp [List.getD,List.getElem?_eq_getElem hi]
  ·have:=h i hi (by omega)
   simpa [List.getD,List.getElem?_eq_getElem hi] using this
 ·intro h i hi _
  have:=h _ (List.getElem_mem hi)
  simpa [List.getD,List.getElem?_eq_getElem hi] using this
theorem zjm (R:Int->Nd×Bool) (hR:Right R) (root:Int):treeI R root=treeS R root:=by
 obtain ⟨h1,h2⟩:=zik R hR root;unfold treeI treeS;rw [h1]
 cases hi:(seenI R root).2 with
 | false=>rfl
 | true=>
  rw [hi] at h2;obtain ⟨h3,h4⟩:=h2 rfl;rw [h4,Bool.true_and]
  have hx:(∀v∈(seenI R root).1,v.nd.ok=true)/\(seenS R root).depths=depthsV (seenI R root).1/\((seenS R root).loose=false↔Fits (seenI R root).1)/\(Fits (seenI R root).1->Asc (pairsV (seenI R root).1)):=by
   unfold seenI seenS at *
   by_cases h:root=0
   ·rw [if_pos h,if_pos h]
    exact ⟨fun v hv=>(by cases hv),rfl,⟨fun _ v hv=>(by cases hv),fun _=>rfl⟩,fun _=>List.Pairwise.nil⟩
   ·rw [if_neg h] at hi
    rw [if_neg h,if_neg h]
    simp only at hi⊢
    obtain ⟨s,hs⟩:=Option.isSome_iff_exists.1 hi;have ht:=zin R hR 8 root [] ⟨#[]⟩ ⟨#[]⟩ false Al.none s rfl (bnd_nil _) hs
    simp only [Al.none,List.length_nil,List.nil_append,true_and] at ht
    exact ⟨fun v hv=>(zg0 R hR 8 root [] [] v hv).1,ht.1,ht.2,zk9 R hR 8 root [] []⟩
  obtain ⟨x1,x2,x3,x4⟩:=hx;have x5:=zg1 _ x1;rw [x2]
  cases hf:(treeF (-1) (seenI R root).1).isSome with
  | true=>
   obtain ⟨y1,y2⟩:=x5.1 hf;rw [x3.2 y1,asc_up (x4 y1),(zka _).2 y2]
   rfl
  | false=>
   cases hl:(seenS R root).loose with
   | true=>rfl
   | false=>
    have y1:=x3.1 hl;rw [asc_up (x4 y1)]
    cases he:evenB (depthsV (seenI R root).1) with
    | false=>rfl
    | true=>rw [x5.2 ⟨y1,(zka _).1 he⟩] at hf;cases hf
end Go.Proofs.YtcbogiebfbbmbaaGreatDoor
