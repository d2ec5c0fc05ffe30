/-
  Facts and contracts that the law's own text rests on, by their texts' names: PutWayPl, Read, ReadSh, Cur, ImplReader, StepDie.
-/
import Derived.Test.YtcbogiebfbbmbaaGreatDoorPm12
import Derived.Deep.DeepFit
import Derived.Deep.DeepMust
import Derived.Deep.DrawnRows
import Derived.Deep.LoopGhost
import Derived.Deep.RegionHeld3
import Derived.Laws.Shifts
import Derived.WalkSmall
import Derived.WalkSpells
import Derived.Test.YtcbogiebfbbmbaaGreatDoorPm1
import Derived.Test.YtcbogiebfbbmbaaGreatDoorPm7
import Derived.Test.YtcbogiebfbbmbaaGreatDoorPm9
import Derived.Test.YtcbogiebfbbmbaaGreatDoorPm3
import Derived.Defers
import Derived.Recover
import Derived.RegionDies
import Derived.WalkLawsBesides
import Derived.Lib.Hide
set_option maxHeartbeats 16000000
set_option maxRecDepth 100000
namespace Go.Proofs.YtcbogiebfbbmbaaGreatDoor
abbrev WLvl:=Int×Nd×Int
noncomputable def wayS (R:Int->Nd×Bool) (key:ByteArray):Nat->Int->Option (List WLvl)
 | 0,_=>none
 | f+1,p=>if (R p).2=false then none
  else if (R p).1.lf=true then some [(p,(R p).1,placeK (R p).1.ks key (R p).1.ks.length)]
  else (wayS R key f ((R p).1.cs.getD (max (placeK (R p).1.ks key (R p).1.ks.length) 0).toNat 0)).map fun r=>(p,(R p).1,max (placeK (R p).1.ks key (R p).1.ks.length) 0) :: r
def wpK (n:Nd) (at_:Int) (key:ByteArray):List ByteArray:=if 0<=at_/\n.ks.getD at_.toNat ⟨#[]⟩=key then n.ks else n.ks.take (at_+1).toNat++ [key]++n.ks.drop (at_+1).toNat
def wpV (n:Nd) (at_:Int) (key val:ByteArray):List ByteArray:=if 0<=at_/\n.ks.getD at_.toNat ⟨#[]⟩=key then n.vs.take at_.toNat++ [val]++n.vs.drop (at_.toNat+1) else n.vs.take (at_+1).toNat++ [val]++n.vs.drop (at_+1).toNat
def whK (n:Nd) (a:Nat) (K:List ByteArray):List ByteArray:=n.ks.take a++(firstK n.ks a K :: K.drop 1)++n.ks.drop (a+1)
def whC (n:Nd) (a:Nat) (C:List Int):List Int:=n.cs.take a++C++n.cs.drop (a+1)
noncomputable def upS (key val:ByteArray):List WLvl->Wk->Wk×List ByteArray×List Int×Bool
 | [],k=>(k,[],[],false)
 | [x],k=>finK x.1 (halfS k true (wpK x.2.1 x.2.2 key) (wpV x.2.1 x.2.2 key val) [])
 | x :: y :: r,k=>if (upS key val (y :: r) k).2.2.2=false then upS key val (y :: r) k
  else finK x.1 (halfS (upS key val (y :: r) k).1 false (whK x.2.1 x.2.2.toNat (upS key val (y :: r) k).2.1) [] (whC x.2.1 x.2.2.toNat (upS key val (y :: r) k).2.2.1))
theorem wayS_ne {R:Int->Nd×Bool} {key:ByteArray}:∀{f:Nat} {p:Int} {w:List WLvl},wayS R key f p=some w->w≠ []
 | 0,_,_,h=>by cases h
 | f+1,p,w,h=>by
  rw [wayS] at h
  split at h
  ·cases h
  ·split at h
   ·injection h with h;subst h;simp
   ·obtain ⟨r,-,h⟩:=Option.map_eq_some_iff.1 h;subst h;simp
theorem less_or {x y:ByteArray} (h:lessB y x=false):lessB x y=true\/x=y:=by
 have h1:=zjl x y;rw [h] at h1
 have h2:(Op.bytesLess x.toList y.toList || x.toList ==y.toList)=true:=by
  cases hb:(Op.bytesLess x.toList y.toList || x.toList ==y.toList) with
  | true=>rfl
  | false=>rw [hb] at h1;cases h1
 rw [Bool.or_eq_true,beq_iff_eq] at h2
 rcases h2 with h2 | h2
 ·exact Or.inl h2
 ·right
  rw [ByteArray.toList_eq,ByteArray.toList_eq] at h2;exact ByteArray.ext (Array.toList_inj.1 h2)
theorem ziu {L:Prs} {p:ByteArray×ByteArray->Bool} (c:Nat) (h1:∀j q,j<c->L[j]?=some q->p q=true) (h2:∀j q,c<=j->L[j]?=some q->p q=false):L.filter p=L.take c:=by
 conv=>lhs;rw [<-List.take_append_drop c L]
 rw [List.filter_append,zdC,zce,List.append_nil]
 ·intro q hq
  obtain ⟨j,hj,e⟩:=List.getElem_of_mem hq;rw [List.length_drop] at hj;rw [List.getElem_drop] at e
  exact h2 (c+j) q (by omega) (by rw [List.getElem?_eq_getElem (by omega),e])
 ·intro q hq
  obtain ⟨j,hj,e⟩:=List.getElem_of_mem hq;rw [List.length_take] at hj;rw [List.getElem_take] at e
  exact h1 j q (by omega) (by rw [List.getElem?_eq_getElem (by omega),e])
theorem zm0 {L:Prs} {p:ByteArray×ByteArray->Bool} (c:Nat) (h1:∀j q,j<c->L[j]?=some q->p q=false) (h2:∀j q,c<=j->L[j]?=some q->p q=true):L.filter p=L.drop c:=by
 conv=>lhs;rw [<-List.take_append_drop c L]
 rw [List.filter_append,zce,zdC,List.nil_append]
 ·intro q hq
  obtain ⟨j,hj,e⟩:=List.getElem_of_mem hq;rw [List.length_drop] at hj;rw [List.getElem_drop] at e
  exact h2 (c+j) q (by omega) (by rw [List.getElem?_eq_getElem (by omega),e])
 ·intro q hq
  obtain ⟨j,hj,e⟩:=List.getElem_of_mem hq;rw [List.length_take] at hj;rw [List.getElem_take] at e
  exact h1 j q (by omega) (by rw [List.getElem?_eq_getElem (by omega),e])
theorem zdf {ks vs:List ByteArray} {j:Nat} {q:ByteArray×ByteArray} (h:(ks.zip vs)[j]?=some q):j<ks.length/\q.1=ks.getD j ⟨#[]⟩:=by
 obtain ⟨h1,e⟩:=List.getElem?_eq_some_iff.1 h;rw [List.length_zip] at h1;rw [List.getElem_zip] at e
 refine ⟨by omega,?_⟩
 rw [<-e,List.getD_eq_getElem?_getD,List.getElem?_eq_getElem (by omega)]
 rfl
theorem ascK_lt {ks:List ByteArray} (h:AscK ks) {i j:Nat} (hij:i<j) (hj:j<ks.length):lessB (ks.getD i ⟨#[]⟩) (ks.getD j ⟨#[]⟩)=true:=by
 unfold AscK at h;rw [List.pairwise_iff_getElem] at h
 have h1:=h i j (by omega) hj hij
 rw [List.getD_eq_getElem?_getD,List.getD_eq_getElem?_getD,List.getElem?_eq_getElem (by omega),List.getElem?_eq_getElem hj]
 exact h1
theorem ziv (ks vs:List ByteArray) (c:Nat):(ks.zip vs).take c=(ks.take c).zip (vs.take c):=by
 simp [List.zip,List.take_zipWith]
theorem ziw (ks vs:List ByteArray) (c:Nat):(ks.zip vs).drop c=(ks.drop c).zip (vs.drop c):=by
 simp [List.zip,List.drop_zipWith]
theorem zen {ks vs:List ByteArray} (h:vs.length=ks.length):(ks.zip vs).map Prod.fst=ks:=by
 rw [List.map_fst_zip];omega
theorem zg8 {ks vs:List ByteArray} (h:vs.length=ks.length):(ks.zip vs).map Prod.snd=vs:=by
 rw [List.map_snd_zip];omega
theorem zl1 {ks:List ByteArray} {a:Nat} (h:a<ks.length):ks=ks.take a++ks.getD a ⟨#[]⟩ :: ks.drop (a+1):=by
 conv=>lhs;rw [<-List.take_append_drop a ks]
 rw [List.drop_eq_getElem_cons h,List.getD_eq_getElem?_getD,List.getElem?_eq_getElem h]
 rfl
theorem znn {ks vs:List ByteArray} (ha:AscK ks) (hv:vs.length=ks.length) (n:Nd) (hn:n.ks=ks) (hn2:n.vs=vs) (key val:ByteArray):(setP ks vs key val).map Prod.fst=wpK n (placeK ks key ks.length) key/\(setP ks vs key val).map Prod.snd=wpV n (placeK ks key ks.length) key val:=by
 subst hn hn2;rw [zhy]
 have hvt:∀c,(n.vs.take c).length=(n.ks.take c).length:=fun c=>by rw [List.length_take,List.length_take,hv]
 have hvd:∀c,(n.vs.drop c).length=(n.ks.drop c).length:=fun c=>by rw [List.length_drop,List.length_drop,hv]
 rcases zdY n.ks key n.ks.length with ⟨e,h1⟩ | ⟨a,h1,h2,h3,h4⟩
 ·have hlo:(n.ks.zip n.vs).filter (fun q=>lessB q.1 key)= []:=zce (fun q hq=>by
   obtain ⟨j,hj,ej⟩:=List.getElem_of_mem hq;obtain ⟨j1,j2⟩:=zdf (List.getElem?_eq_some_iff.2 ⟨hj,ej⟩);rw [j2]
   exact zbu (h1 j j1))
  have hhi:(n.ks.zip n.vs).filter (fun q=>lessB key q.1)=n.ks.zip n.vs:=zdC (fun q hq=>by
   obtain ⟨j,hj,ej⟩:=List.getElem_of_mem hq;obtain ⟨j1,j2⟩:=zdf (List.getElem?_eq_some_iff.2 ⟨hj,ej⟩);rw [j2]
   exact h1 j j1)
  unfold putL wpK wpV
  rw [hlo,hhi,e,if_neg (by omega),if_neg (by omega)]
  simp only [List.nil_append,List.singleton_append,List.map_cons,zen hv,zg8 hv]
  exact ⟨rfl,rfl⟩
 ·have hle:lessB (n.ks.getD a ⟨#[]⟩) key=true\/n.ks.getD a ⟨#[]⟩=key:=less_or h3
  have hbel:∀j,j<a->lessB (n.ks.getD j ⟨#[]⟩) key=true:=fun j hj=>by
   have h5:=ascK_lt ha hj h1
   rcases hle with h | h
   ·exact zap h5 h
   ·rw [<-h];exact h5
  have hhi:(n.ks.zip n.vs).filter (fun q=>lessB key q.1)=(n.ks.zip n.vs).drop (a+1):=zm0 (a+1)
   (fun j q hj hq=>by
    obtain ⟨j1,j2⟩:=zdf hq;rw [j2]
    by_cases e:j=a
    ·subst e;exact h3
    ·exact zbu (hbel j (by omega)))
   (fun j q hj hq=>by
    obtain ⟨j1,j2⟩:=zdf hq;rw [j2]
    exact h4 j (by omega) j1)
  unfold putL wpK wpV;rw [h2,hhi]
  have et:((a:Int)).toNat=a:=by omega
  have et1:((a:Int)+1).toNat=a+1:=by omega
  rw [et,et1]
  by_cases hk:n.ks.getD a ⟨#[]⟩=key
  ·have hlo:(n.ks.zip n.vs).filter (fun q=>lessB q.1 key)=(n.ks.zip n.vs).take a:=ziu a
    (fun j q hj hq=>by obtain ⟨j1,j2⟩:=zdf hq;rw [j2];exact hbel j hj)
    (fun j q hj hq=>by
     obtain ⟨j1,j2⟩:=zdf hq;rw [j2]
     by_cases e:j=a
     ·subst e;rw [hk];exact zao _
     ·exact zbu (h4 j (by omega) j1))
   rw [hlo,if_pos ⟨by omega,hk⟩,if_pos ⟨by omega,hk⟩,ziv,ziw]
   simp only [List.map_append,List.map_cons,List.map_nil,zen (hvt _),zg8 (hvt _),zen (hvd _),zg8 (hvd _)]
   refine ⟨?_,trivial⟩
   conv=>rhs;rw [zl1 h1,hk]
   simp
  ·have hlt:lessB (n.ks.getD a ⟨#[]⟩) key=true:=hle.resolve_right hk
   have hlo:(n.ks.zip n.vs).filter (fun q=>lessB q.1 key)=(n.ks.zip n.vs).take (a+1):=ziu (a+1)
    (fun j q hj hq=>by
     obtain ⟨j1,j2⟩:=zdf hq;rw [j2]
     by_cases e:j=a
     ·subst e;exact hlt
     ·exact hbel j (by omega))
    (fun j q hj hq=>by obtain ⟨j1,j2⟩:=zdf hq;rw [j2];exact zbu (h4 j (by omega) j1))
   rw [hlo,if_neg (fun h=>hk h.2),if_neg (fun h=>hk h.2),ziv,ziw]
   simp only [List.map_append,List.map_cons,List.map_nil,zen (hvt _),zg8 (hvt _),zen (hvd _),zg8 (hvd _),and_self]
theorem zix (key val:ByteArray):∀(f:Nat) (k:Wk) (p:Int) (w:List WLvl),wayS k.rd key f p=some w->goPut key val f k p=upS key val w k
 | 0,_,_,_,h=>by cases h
 | f+1,k,p,w,h=>by
  obtain ⟨n,ok,hn⟩:∃n ok,k.rd p=(n,ok):=⟨_,_,rfl⟩;rw [wayS,hn] at h
  cases ok with
  | false=>rw [if_pos rfl] at h;cases h
  | true=>
   rw [if_neg (by simp)] at h
   have hno:n.ok=true:=zh1 hn;have hev:=zaY hno
   cases hl:n.lf with
   | true=>
    rw [if_pos hl] at h
    injection h with h
    subst h;rw [zba hn hl,upS];have h1:=znn (zhx hno) (hev.1 hl).1 n rfl rfl key val;rw [h1.1,h1.2]
   | false=>
    rw [if_neg (by simp [hl])] at h
    obtain ⟨r,hr,h⟩:=Option.map_eq_some_iff.1 h;subst h;have hpos:=zel hno;obtain ⟨a,ha⟩:∃a,a=(placeK n.ks key n.ks.length).toNat:=⟨_,rfl⟩
    have hmx:(max (placeK n.ks key n.ks.length) 0).toNat=a:=by rw [ha];omega
    have hal:a<n.ks.length:=by rw [ha];exact (zg3 key hpos).1
    have hr2:wayS k.rd key f (n.cs.getD a 0)=some r:=by rw [<-hmx];exact hr
    have ih:=zix key val f k _ r hr2
    cases r with
    | nil=>exact absurd rfl (wayS_ne hr2)
    | cons y r=>
     rw [upS,zbd hn hl ha rfl,ih]
     have e1:∀K,midK n.ks a K n.ks.length=whK n a K:=fun K=>by
      rw [zg4 n.ks a K n.ks.length (Nat.le_refl _),if_neg (by omega),List.take_length]
      rfl
     have e2:∀C,midC n.cs a C n.ks.length=whC n a C:=fun C=>by
      have hc:=(hev.2 hl).1
      rw [zhB n.cs a C n.ks.length (by omega),if_neg (by omega),<-hc,List.take_length]
      rfl
     rw [e1,e2];dsimp only;rw [hmx]
open Go.RowKit
attribute [local go_sem↓] Go.wp_at_zero Go.wp_at_succ
def rvOut (at_:Nat):Option (Nat×Nat)->Value
 | some (n,c)=> .tuple #[.int .i64 n,.int .i64 ((at_+c:Nat):Int),.bool true]
 | none=> .tuple #[.int .i64 0,.int .i64 0,.bool false]
theorem zl2 {N X j p:Nat} {s:ByteArray} {b:Nat->Nat} (hA:N+X=accN b (j+1)) (hE:(s.extract p (p+(j+1))).data.toList=bytesTo b (j+1))
  (h:(!vtext ((N:Int)+(X:Int)).toNat ==(s.extract p (p+(j+1))).toList)=false):vtext (accN b (j+1))=bytesTo b (j+1):=by
 rw [show ((N:Int)+(X:Int)).toNat=N+X from by omega,hA,ByteArray.toList_eq,hE] at h
 simpa using h
theorem zm1 {N X j p:Nat} {s:ByteArray} {b:Nat->Nat} (hA:N+X=accN b (j+1)) (hE:(s.extract p (p+(j+1))).data.toList=bytesTo b (j+1))
  (h:(!vtext ((N:Int)+(X:Int)).toNat ==(s.extract p (p+(j+1))).toList)=true):¬vtext (accN b (j+1))=bytesTo b (j+1):=by
 rw [show ((N:Int)+(X:Int)).toNat=N+X from by omega,hA,ByteArray.toList_eq,hE] at h
 simpa using h
theorem zdL (s:ByteArray) (p:Nat) (hs:s.size<=1048576) (hp:p<=s.size) (w:World):
  Calls Tryz.prog 136 #[.string s,.int .i64 p] w fun e w'=>e= .returned (rvOut p (rvGo (fun i=>byt s (p+i)) (s.size - p) 5 0))/\w'=w:=by
 obtain ⟨b,hb⟩:∃b:Nat->Nat,b=fun i=>byt s (p+i):=⟨_,rfl⟩
 rw [<-hb]
 have hb0:∀i,b i<256:=fun i=>by rw [hb];exact ze3 _ _
 have hbs:∀i (h:p+i<s.size),s[p+i].toNat=b i:=fun i h=>by rw [hb];exact zd2 _ _ h
 have HB:=hide hbs;have HB0:=hide hb0;clear hb hbs hb0
 have hq1:decide ((p:Int)<0)=false:=by simp
 have hq2:decide (s.size<p)=false:=by simp;omega
 go_enter Tryz.func136,Tryz.ntmps136
 go_wp2
 go_loopg [7,8] 5 (fun g nv uv wr=>∃j N:Nat,j<=5/\p+j<=s.size/\nv= .int .i64 N/\uv= .int .i64 j/\g+j=5/\Hid (N=accN b j)/\Hid (rvGo b (s.size - p) (5 - j) j=rvGo b (s.size - p) 5 0)/\wr=w)
 case atStart=>exact ⟨0,0,by omega,by omega,rfl,rfl,rfl,hide rfl,hide rfl,rfl⟩
 case round=>
  obtain ⟨j,N,hj,hpj,rfl,rfl,hg,HN,HR,rfl⟩:=hrel;have HG:=hide hg;clear hg
  by_cases h5:j<5
  ·by_cases hlt:p+j<s.size
   ·have hN:N<128 ^ j:=by rw [HN.out];exact zj8 b j
    have hN5:N<34359738368:=Nat.lt_of_lt_of_le hN (by have:128 ^ j<=128 ^ 5:=Nat.pow_le_pow_right (by omega) (by omega);simpa using this)
    obtain ⟨y,hy⟩:∃y,y=b j:=⟨_,rfl⟩
    have hbj:y<256:=by rw [hy];exact HB0.out j
    have hsj:s[p+j].toNat=y:=by rw [hy];exact HB.out j hlt
    obtain ⟨X,hX⟩:∃X,X=y % 128 * 128 ^ j:=⟨_,rfl⟩
    have hXb:X<=34091302912:=by rw [hX];exact zff y j h5
    have hw:=zkN y j X h5 hX;have HX:=hide hX;have HY:=hide hy
    have HA:Hid (N+X=accN b (j+1)):=hide (by rw [accN,<-hy,<-hX,<-HN.out])
    clear hX hy hN
    by_cases hc:128<=y
    ·go_wp2
     go_roundg (gk - 1)
     case measure=>have:=HG.out;omega
     case rel=>exact ⟨j+1,N+X,by omega,by omega,by go_num,by go_num,by have:=HG.out;omega,HA,hide (by rw [zi4 b _ j h5 (by omega) (by rw [<-HY.out];exact hc)];exact HR.out),rfl⟩
    ·have HY':Hid (b j<128):=hide (by rw [<-HY.out];omega)
     by_cases hz:y=0
     ·have hzb:((y:Int) ==0)=true:=by simp [hz]
      have HZ:Hid (b j=0):=hide (by rw [<-HY.out];exact hz)
      have HX0:Hid (X=0):=hide (by rw [HX.out,hz];simp)
      clear hz
      by_cases hj0:0<j
      ·have HM:=hide (ze4 b (s.size - p) j h5 (by omega) HY'.out (by have:=HZ.out;omega))
       go_wp2
       go_ret3;refine ⟨?_,rfl⟩;rw [<-HR.out,HM.out];rfl
      ·have HM:=hide (zh9 b (s.size - p) j h5 (by omega) HY'.out (by have:=HA.out;have:=HX0.out;have:=HN.out;have:j=0:=(by omega);subst this;simp [accN,HZ.out]) (by omega))
       have hsum:N+X<=1000000000:=by
        have hj':j=0:=by omega
        have:=HX0.out;have h2:=HN.out;rw [hj'] at h2;simp [accN] at h2;omega
       go_wp2
       go_ret3;refine ⟨?_,rfl⟩;rw [<-HR.out,HM.out,<-HA.out]
       simp [rvOut];omega
     ·have hzb:((y:Int) ==0)=false:=by simp;omega
      have HZ:Hid (b j≠0):=hide (by rw [<-HY.out];exact hz)
      clear hz
      by_cases hsum:N+X<=1000000000
      ·have HM:=hide (zh9 b (s.size - p) j h5 (by omega) HY'.out (by rw [<-HA.out];exact hsum) (Or.inl HZ.out))
       go_wp2
       go_ret3;refine ⟨?_,rfl⟩;rw [<-HR.out,HM.out,<-HA.out]
       simp [rvOut];omega
      ·have HM:=hide (ze4 b (s.size - p) j h5 (by omega) HY'.out (by rw [<-HA.out];omega))
       go_wp2
       go_ret3;refine ⟨?_,rfl⟩;rw [<-HR.out,HM.out];rfl
   ·have HM:=hide (zfg b (s.size - p) j (by omega))
    go_wp2
    go_ret3;refine ⟨?_,rfl⟩;rw [<-HR.out,HM.out];rfl
  ·have HM:=hide (zfg b (s.size - p) j (by omega))
   go_wp2
   go_ret3;refine ⟨?_,rfl⟩;rw [<-HR.out,HM.out];rfl
theorem zdM (s:ByteArray) (p:Nat) (hs:s.size<=1048576) (hp:p<=s.size) (w:World):
  Calls Tryz.prog 125 #[.string s,.int .i64 p] w fun e w'=>e= .returned (rvOut p (rvGo (fun i=>byt s (p+i)) (s.size - p) 5 0))/\Below w.heap.size w w':=by
 obtain ⟨b,hb⟩:∃b:Nat->Nat,b=fun i=>byt s (p+i):=⟨_,rfl⟩
 rw [<-hb]
 have hb0:∀i,b i<256:=fun i=>by rw [hb];exact ze3 _ _
 have hbs:∀i (h:p+i<s.size),s[p+i].toNat=b i:=fun i h=>by rw [hb];exact zd2 _ _ h
 have HE:Hid (∀n,p+n<=s.size->(s.extract p (p+n)).data.toList=bytesTo b n):=hide (fun n h=>by rw [hb];exact zcG s p n h)
 have HB:=hide hbs;have HB0:=hide hb0;clear hb hbs hb0;go_enter Tryz.func125,Tryz.ntmps125;go_wp2_with fail
 refine (zfC p 0 s.size _ (by omega) (by omega)).mono ?_
 rintro e w1 ⟨rfl,rfl⟩;go_wp2_with fail
 go_loopg [7,8,9] 5 (fun g nv sv iv wr=>∃j N Z:Nat,j<=5/\p+j<=s.size/\nv= .int .i64 N/\sv= .int .i64 Z/\iv= .int .i64 ((p+j:Nat):Int)/\g+j=5/\Hid (N=accN b j)/\Hid (Z=128 ^ j)/\Hid (∀i,i<j->128<=b i)/\Hid (rvGo b (s.size - p) (5 - j) j=rvGo b (s.size - p) 5 0)/\wr=w)
 case atStart=>exact ⟨0,0,1,by omega,by omega,rfl,rfl,rfl,rfl,hide rfl,hide rfl,hide (fun i h=>by omega),hide rfl,rfl⟩
 case round=>
  obtain ⟨j,N,Z,hj,hpj,rfl,rfl,rfl,hg,HN,HZ,HI,HR,rfl⟩:=hrel;have HG:=hide hg;clear hg
  have hZ5:Z<=34359738368:=by rw [HZ.out];exact zlt j hj
  by_cases h5:j<5
  ·by_cases hlt:p+j<s.size
   ·have hN5:N<34359738368:=by rw [HN.out];exact Nat.lt_of_lt_of_le (zj8 b j) (zlt j hj)
    obtain ⟨y,hy⟩:∃y,y=b j:=⟨_,rfl⟩
    have hbj:y<256:=by rw [hy];exact HB0.out j
    have hsj:s[p+j].toNat=y:=by rw [hy];exact HB.out j hlt
    obtain ⟨X,hX⟩:∃X,X=y % 128 * 128 ^ j:=⟨_,rfl⟩
    have hXb:X<=34091302912:=by rw [hX];exact zff y j h5
    have hw:=zj9 y j X Z h5 hX HZ.out;have HX:=hide hX;have HY:=hide hy
    have HA:Hid (N+X=accN b (j+1)):=hide (by rw [accN,<-hy,<-hX,<-HN.out])
    clear hX hy
    by_cases hc:128<=y
    ·go_wp2_with fail
     go_roundg (gk - 1)
     case measure=>have:=HG.out;omega
     case rel=>exact ⟨j+1,N+X,Z * 128,by omega,by omega,by go_num,by go_num,by go_num,by have:=HG.out;omega,HA,hide (by rw [HZ.out,Nat.pow_succ]),hide (fun i hi=>by by_cases e:i=j;(rw [e,<-HY.out];exact hc);(exact HI.out i (by omega))),hide (by rw [zi4 b _ j h5 (by omega) (by rw [<-HY.out];exact hc)];exact HR.out),rfl⟩
    ·have HY':Hid (b j<128):=hide (by rw [<-HY.out];omega)
     by_cases hsum:N+X<=1000000000
     ·have HV:=hide (zi3 j b (by omega) HB0.out HI.out HY'.out)
      have HE':=hide (HE.out (j+1) (by omega))
      have hng:decide ((1000000000:Int)<(N:Int)+(X:Int))=false:=by simp;omega
      go_wp2_with fail;clear hw hsj
      have hb1:(0:Int)<=(p:Int):=by omega
      have hb2:(p:Int)<=(p:Int)+(j:Int)+1:=by omega
      have hb3:(p:Int)+(j:Int)+1<=(s.size:Int):=by omega
      have hwr:IntKind.i64.wrap ((p:Int)+(j:Int)+1)=(p:Int)+(j:Int)+1:=IntWalk.i64_in _ ⟨by omega,by omega⟩
      have hsl:∀wx:World,(Instr.slice 9 (.string s) (some (.int .i64 (p:Int))) (some (.int .i64 ((p:Int)+(j:Int)+1))) none).run Tryz.prog wx= .ok (.string (s.extract p (p+(j+1)))) wx:=fun wx=>by
       have:=run_slice_string (P:=Tryz.prog) wx 9 s .i64 .i64 (p:Int) ((p:Int)+(j:Int)+1) Tryz.underlying9 hb1 hb2 hb3
       rw [this,show ((p:Int)+(j:Int)+1).toNat=p+(j+1) from by omega,Int.toNat_natCast]
      go_region_held3 (fun _=>True) (trivial) ((go_at_call 95;refine (zdq ((N:Int)+(X:Int)) (by omega) (by omega) _).mono ?_;rintro e w2 ⟨rfl,hbw⟩))
      go_wp2_with fail
      ·have hne:(!vtext ((N:Int)+(X:Int)).toNat ==(s.extract p (p+(j+1))).toList)=true:=by assumption
       go_ret3;refine ⟨?_,?_⟩
       ·rw [<-HR.out,ze4 b _ j h5 (by omega) HY'.out (fun hok=>zm1 HA.out HE'.out hne (HV.out.2 hok.2))];rfl
       ·exact ((Below.refl _ _).drew).trans hbw
      ·have hne:(!vtext ((N:Int)+(X:Int)).toNat ==(s.extract p (p+(j+1))).toList)=false:=by assumption
       go_ret3;refine ⟨?_,?_⟩
       ·rw [<-HR.out,zh9 b _ j h5 (by omega) HY'.out (by rw [<-HA.out];exact hsum) (HV.out.1 (zl2 HA.out HE'.out hne)),<-HA.out]
        simp [rvOut];omega
       ·exact ((Below.refl _ _).drew).trans hbw
     ·have HM:=hide (ze4 b (s.size - p) j h5 (by omega) HY'.out (by rw [<-HA.out];omega))
      have hgt:(1000000000:Int)<(N:Int)+(X:Int):=by omega
      have hgd:decide ((1000000000:Int)<(N:Int)+(X:Int))=true:=by simp;omega
      go_wp2_with fail
      go_quiet (fail)
      go_wp2_with fail;go_ret3;refine ⟨?_,below_drewN (Below.refl _ _) _⟩;rw [<-HR.out,HM.out];rfl
   ·have HM:=hide (zfg b (s.size - p) j (by omega))
    go_wp2_with fail;go_ret3;refine ⟨?_,Below.refl _ _⟩;rw [<-HR.out,HM.out];rfl
  ·have HM:=hide (zfg b (s.size - p) j (by omega))
   go_wp2_with fail
   all_goals (try go_ret3)
   all_goals refine ⟨?_,Below.refl _ _⟩
   all_goals (rw [<-HR.out,HM.out];rfl)
theorem zdg (s:ByteArray) (p:Int) (_hs:s.size<=1048576) (hp:p<0\/(s.size:Int)<p) (w:World):
  Calls Tryz.prog 136 #[.string s,.int .i64 p] w fun e w'=>e= .returned (.tuple #[.int .i64 0,.int .i64 0,.bool false])/\w=w':=by
 by_cases h1:p<0
 ·go_enter Tryz.func136,Tryz.ntmps136
  go_wp2
  go_ret3;exact ⟨rfl,rfl⟩
 ·have h2:(s.size:Int)<p:=by omega
  have h3:0<=p:=by omega
  clear hp h1;go_enter Tryz.func136,Tryz.ntmps136
  go_wp2
  go_ret3;exact ⟨rfl,rfl⟩
theorem zdh (s:ByteArray) (p:Int) (_hs:s.size<=1048576) (hp:p<0\/(s.size:Int)<p) (w:World):
  Calls Tryz.prog 125 #[.string s,.int .i64 p] w fun e w'=>e= .returned (.tuple #[.int .i64 0,.int .i64 0,.bool false])/\w=w':=by
 go_enter Tryz.func125,Tryz.ntmps125;go_wp2_with fail;refine (zhd p 0 s.size _ hp).mono ?_;rintro e w1 ⟨rfl,rfl⟩;go_wp2_with fail;go_ret3;exact ⟨rfl,rfl⟩
open Go.RowKit
theorem zg9 (b:Nat->Nat) (len n c:Nat):∀(f j:Nat),rvGo b len f j=some (n,c)->c<=len/\n<=1000000000
 | 0,j,h=>by simp [rvGo] at h
 | f+1,j,h=>by
  rw [rvGo] at h
  split at h
  ·split at h
   ·split at h
    ·rename_i h1 _ h2
     simp at h
     omega
    ·cases h
   ·exact zg9 b len n c f (j+1) h
  ·cases h
def shOut (s:ByteArray) (p:Nat):Option (Nat×Nat)->Value
 | some (n,c)=>if n<=20000/\n<=s.size - (p+c) then .tuple #[.string (s.extract (p+c) (p+c+n)),.int .i64 ((p+c+n:Nat):Int),.bool true] else .tuple #[.string ⟨#[]⟩,.int .i64 0,.bool false]
 | none=> .tuple #[.string ⟨#[]⟩,.int .i64 0,.bool false]
theorem zf7 (s:ByteArray) (p:Nat) (hs:s.size<=1048576) (hp:p<=s.size) (w:World):
  Calls Tryz.prog 126 #[.string s,.int .i64 p] w fun e w'=>e= .returned (shOut s p (rvGo (fun i=>byt s (p+i)) (s.size - p) 5 0))/\Below w.heap.size w w':=by
 obtain ⟨o,ho⟩:∃o,o=rvGo (fun i=>byt s (p+i)) (s.size - p) 5 0:=⟨_,rfl⟩
 have hcon:=zdM s p hs hp;rw [<-ho] at hcon⊢;have HC:=hide hcon;clear hcon
 cases o with
 | none=>
  clear ho;go_enter Tryz.func126,Tryz.ntmps126;go_wp2_with fail;refine (HC.out _).mono ?_;rintro e w1 ⟨rfl,hb1⟩;rw [rvOut];go_wp2_with fail;go_ret3;exact ⟨rfl,hb1⟩
 | some x=>
  obtain ⟨n,c⟩:=x;obtain ⟨hc,hn⟩:=zg9 _ _ _ _ _ _ ho.symm;clear ho
  by_cases h1:20000<n
  ·go_enter Tryz.func126,Tryz.ntmps126
   go_wp2_with fail;refine (HC.out _).mono ?_;rintro e w1 ⟨rfl,hb1⟩;rw [rvOut];go_wp2_with fail;go_ret3;refine ⟨?_,hb1⟩
   rw [shOut,if_neg (by omega)];rfl
  ·by_cases h2:n<=s.size - (p+c)
   ·have hsl:∀wx:World,(Instr.slice 9 (.string s) (some (.int .i64 ((p:Int)+(c:Int)))) (some (.int .i64 ((p:Int)+(c:Int)+(n:Int)))) none).run Tryz.prog wx= .ok (.string (s.extract (p+c) (p+c+n))) wx:=fun wx=>by
     have:=run_slice_string (P:=Tryz.prog) wx 9 s .i64 .i64 ((p:Int)+(c:Int)) ((p:Int)+(c:Int)+(n:Int)) Tryz.underlying9 (by omega) (by omega) (by omega)
     rw [this,show ((p:Int)+(c:Int)).toNat=p+c from by omega,show ((p:Int)+(c:Int)+(n:Int)).toNat=p+c+n from by omega]
    go_enter Tryz.func126,Tryz.ntmps126;go_wp2_with fail;refine (HC.out _).mono ?_;rintro e w1 ⟨rfl,hb1⟩;rw [rvOut];go_wp2_with fail;go_ret3;refine ⟨?_,hb1⟩
    rw [shOut,if_pos (by omega)];simp
   ·go_enter Tryz.func126,Tryz.ntmps126
    go_wp2_with fail;refine (HC.out _).mono ?_;rintro e w1 ⟨rfl,hb1⟩;rw [rvOut];go_wp2_with fail;go_ret3;refine ⟨?_,hb1⟩
    rw [shOut,if_neg (by omega)];rfl
theorem zf8 (s:ByteArray) (p:Nat) (hs:s.size<=1048576) (hp:p<=s.size) (w:World):
  Calls Tryz.prog 137 #[.string s,.int .i64 p] w fun e w'=>e= .returned (shOut s p (rvGo (fun i=>byt s (p+i)) (s.size - p) 5 0))/\Below w.heap.size w w':=by
 obtain ⟨o,ho⟩:∃o,o=rvGo (fun i=>byt s (p+i)) (s.size - p) 5 0:=⟨_,rfl⟩
 have hcon:=zdL s p hs hp;rw [<-ho] at hcon⊢;have HC:=hide hcon;clear hcon
 cases o with
 | none=>
  clear ho;go_enter Tryz.func137,Tryz.ntmps137;go_wp2_with fail;refine (HC.out _).mono ?_;rintro e w1 ⟨rfl,hw1⟩
  have hb1:Below w.heap.size w w1:=by rw [hw1];exact Below.refl _ _
  clear hw1;rw [rvOut];go_wp2_with fail;go_ret3;exact ⟨rfl,hb1⟩
 | some x=>
  obtain ⟨n,c⟩:=x;obtain ⟨hc,hn⟩:=zg9 _ _ _ _ _ _ ho.symm;clear ho
  by_cases h1:20000<n
  ·go_enter Tryz.func137,Tryz.ntmps137
   go_wp2_with fail;refine (HC.out _).mono ?_;rintro e w1 ⟨rfl,hw1⟩
   have hb1:Below w.heap.size w w1:=by rw [hw1];exact Below.refl _ _
   clear hw1;rw [rvOut];go_wp2_with fail;go_ret3;refine ⟨?_,hb1⟩
   rw [shOut,if_neg (by omega)];rfl
  ·by_cases h2:n<=s.size - (p+c)
   ·have hsl:∀wx:World,(Instr.slice 9 (.string s) (some (.int .i64 ((p:Int)+(c:Int)))) (some (.int .i64 ((p:Int)+(c:Int)+(n:Int)))) none).run Tryz.prog wx= .ok (.string (s.extract (p+c) (p+c+n))) wx:=fun wx=>by
     have:=run_slice_string (P:=Tryz.prog) wx 9 s .i64 .i64 ((p:Int)+(c:Int)) ((p:Int)+(c:Int)+(n:Int)) Tryz.underlying9 (by omega) (by omega) (by omega)
     rw [this,show ((p:Int)+(c:Int)).toNat=p+c from by omega,show ((p:Int)+(c:Int)+(n:Int)).toNat=p+c+n from by omega]
    go_enter Tryz.func137,Tryz.ntmps137;go_wp2_with fail;refine (HC.out _).mono ?_;rintro e w1 ⟨rfl,hw1⟩
    have hb1:Below w.heap.size w w1:=by rw [hw1];exact Below.refl _ _
    clear hw1;rw [rvOut];go_wp2_with fail
    refine (zcc _ (by simp;omega) _).mono ?_
    rintro e w2 ⟨rfl,hb2⟩;go_wp2_with fail;go_ret3;refine ⟨?_,hb1.trans (hb2.mono hb1.size)⟩
    rw [shOut,if_pos (by omega)];simp
   ·go_enter Tryz.func137,Tryz.ntmps137
    go_wp2_with fail;refine (HC.out _).mono ?_;rintro e w1 ⟨rfl,hw1⟩
    have hb1:Below w.heap.size w w1:=by rw [hw1];exact Below.refl _ _
    clear hw1;rw [rvOut];go_wp2_with fail;go_ret3;refine ⟨?_,hb1⟩
    rw [shOut,if_neg (by omega)];rfl
theorem zeM (s:ByteArray) (p:Int) (hs:s.size<=1048576) (hp:p<0\/(s.size:Int)<p) (w:World):
  Calls Tryz.prog 126 #[.string s,.int .i64 p] w fun e w'=>e= .returned (.tuple #[.string ⟨#[]⟩,.int .i64 0,.bool false])/\w=w':=by
 go_enter Tryz.func126,Tryz.ntmps126;go_wp2_with fail;refine (zdh s p hs hp _).mono ?_;rintro e w1 ⟨rfl,rfl⟩;go_wp2_with fail;go_ret3;exact ⟨rfl,rfl⟩
theorem zeN (s:ByteArray) (p:Int) (hs:s.size<=1048576) (hp:p<0\/(s.size:Int)<p) (w:World):
  Calls Tryz.prog 137 #[.string s,.int .i64 p] w fun e w'=>e= .returned (.tuple #[.string ⟨#[]⟩,.int .i64 0,.bool false])/\w=w':=by
 go_enter Tryz.func137,Tryz.ntmps137;go_wp2_with fail;refine (zdg s p hs hp _).mono ?_;rintro e w1 ⟨rfl,rfl⟩;go_wp2_with fail;go_ret3;exact ⟨rfl,rfl⟩
open Go.RowKit
def tupS:Option (ByteArray×Nat)->Value
 | some (x,q)=> .tuple #[.string x,.int .i64 (q:Int),.bool true]
 | none=> .tuple #[.string ⟨#[]⟩,.int .i64 0,.bool false]
def tupV:Option (Nat×Nat)->Value
 | some (n,q)=> .tuple #[.int .i64 (n:Int),.int .i64 (q:Int),.bool true]
 | none=> .tuple #[.int .i64 0,.int .i64 0,.bool false]
theorem zkg (t:ByteArray) (p:Nat):rvOut p (rvGo (fun i=>byt t (p+i)) (t.size - p) 5 0)=tupV (rdV t p):=by
 rw [rdV]
 cases rvGo (fun i=>byt t (p+i)) (t.size - p) 5 0 with
 | none=>rfl
 | some x=>obtain ⟨n,c⟩:=x;simp [rvOut,tupV]
theorem zkh (t:ByteArray) (p:Nat):shOut t p (rvGo (fun i=>byt t (p+i)) (t.size - p) 5 0)=tupS (rdS t p):=by
 rw [rdS,rdV]
 cases rvGo (fun i=>byt t (p+i)) (t.size - p) 5 0 with
 | none=>rfl
 | some x=>
  obtain ⟨n,c⟩:=x
  simp only [shOut,Option.map_some,Option.bind_some]
  split
  ·simp [tupS]
  ·rfl
theorem zdN (t:ByteArray) (ht:t.size<=1048576) (p:Nat) (w:World):
  Calls Tryz.prog 125 #[.string t,.int .i64 (p:Int)] w fun e w'=>e= .returned (tupV (rdV t p))/\Below w.heap.size w w':=by
 by_cases h:p<=t.size
 ·have:=zdM t p ht h w
  rw [zkg] at this;exact this
 ·rw [zhl (by omega)]
  exact (zdh t p ht (by omega) w).mono (fun e w' ⟨h1,h2⟩=>⟨h1,by rw [<-h2];exact Below.refl _ _⟩)
theorem zdO (t:ByteArray) (ht:t.size<=1048576) (p:Nat) (w:World):
  Calls Tryz.prog 136 #[.string t,.int .i64 (p:Int)] w fun e w'=>e= .returned (tupV (rdV t p))/\Below w.heap.size w w':=by
 by_cases h:p<=t.size
 ·have:=zdL t p ht h w
  rw [zkg] at this
  exact this.mono (fun e w' ⟨h1,h2⟩=>⟨h1,by rw [<-h2];exact Below.refl _ _⟩)
 ·rw [zhl (by omega)]
  exact (zdg t p ht (by omega) w).mono (fun e w' ⟨h1,h2⟩=>⟨h1,by rw [<-h2];exact Below.refl _ _⟩)
theorem zcY (t:ByteArray) (ht:t.size<=1048576) (p:Nat) (w:World):
  Calls Tryz.prog 126 #[.string t,.int .i64 (p:Int)] w fun e w'=>e= .returned (tupS (rdS t p))/\Below w.heap.size w w':=by
 by_cases h:p<=t.size
 ·have:=zf7 t p ht h w
  rw [zkh] at this;exact this
 ·rw [zjS (by omega)]
  exact (zeM t p ht (by omega) w).mono (fun e w' ⟨h1,h2⟩=>⟨h1,by rw [<-h2];exact Below.refl _ _⟩)
theorem zcZ (t:ByteArray) (ht:t.size<=1048576) (p:Nat) (w:World):
  Calls Tryz.prog 137 #[.string t,.int .i64 (p:Int)] w fun e w'=>e= .returned (tupS (rdS t p))/\Below w.heap.size w w':=by
 by_cases h:p<=t.size
 ·have:=zf8 t p ht h w
  rw [zkh] at this;exact this
 ·rw [zjS (by omega)]
  exact (zeN t p ht (by omega) w).mono (fun e w' ⟨h1,h2⟩=>⟨h1,by rw [<-h2];exact Below.refl _ _⟩)
def CurT (w:World) (g:Nat) (t:ByteArray) (p:Nat) (bad:Bool):Prop:=w.heap[g]?=some (.cells #[.string t,.int .i64 (p:Int),.bool bad] 138 (0,0))
theorem zcq {w:World} {g p:Nat} {t:ByteArray} {bad:Bool} (h:CurT w g t p bad):g<w.heap.size:=(Array.getElem?_eq_some_iff.1 h).1
theorem zai {w w':World} (h:Below w.heap.size w w') (r:Option Nat):w.grownBy w' r:=⟨h.os,h.tape,h.output,h.size,fun k hk _=>h.block k hk⟩
theorem zaZ (g:Nat) (t:ByteArray) (ht:t.size<=1048576) (p:Nat) (x:ByteArray) (q:Nat) (ho:rdS t p=some (x,q)) (w:World) (hc:CurT w g t p false):
  Calls Tryz.prog 92 #[.pointer (some ⟨g,0,none⟩)] w fun e w'=>e= .returned (.string x)/\CurT w' g t q false/\w.grownBy w' (some g):=by
 have HC:=hide (zcY t ht p);rw [ho,tupS] at HC;have hgl:=zcq hc;have HCu:=hide hc;have c0:w.cell? ⟨g,0,none⟩=some (.string t):=(za0 hc 0).1;have c1:w.cell? ⟨g,1,none⟩=some (.int .i64 (p:Int)):=(za0 hc 1).1;clear hc ho;go_enter Tryz.func92,Tryz.ntmps92;go_wp2_with fail
 go_region_held3 (fun wx=>wx.cell? ⟨g,0,none⟩=some (.string t)/\wx.cell? ⟨g,1,none⟩=some (.int .i64 (p:Int))) (first | exact ⟨c0,c1⟩ | exact hS2) ((go_at_call 126;refine (HC.out _).mono ?_;rintro e w2 ⟨rfl,hb2⟩;have hS2:w2.cell? ⟨g,0,none⟩=some (.string t)/\w2.cell? ⟨g,1,none⟩=some (.int .i64 (p:Int)):=⟨(hb2.cell (by exact hgl)).trans c0,(hb2.cell (by exact hgl)).trans c1⟩))
 have hbw:Below w.heap.size w w2:=(Below.refl _ _).drew.trans hb2;have hcur:CurT w2 g t p false:=(hbw.block _ hgl).trans HCu.out;have HGr:Hid (w.grownBy w2 (some g)):=hide (zai hbw _);have HC2:=hide hcur;have e2:w2.cell? ⟨g,2,none⟩=some (.bool false):=(za0 hcur 2).1;have f1:=(za0 hcur 1).2;clear hb2 hS2 c0 c1 hbw hcur;go_wp2_with fail;go_ret;exact ⟨rfl,heap_setCell_same w2 g 1 _ _ _ HC2.out,za3 HGr.out (za9 _ g 1 _)⟩
theorem zbk (g:Nat) (t:ByteArray) (ht:t.size<=1048576) (p:Nat) (bad:Bool) (ho:bad=true\/rdS t p=none) (w:World) (hc:CurT w g t p bad):
  Calls Tryz.prog 92 #[.pointer (some ⟨g,0,none⟩)] w fun e w'=>e= .returned (.string ⟨#[]⟩)/\CurT w' g t p true/\w.grownBy w' (some g):=by
 have HC:=hide (zcY t ht p);have hgl:=zcq hc;have HCu:=hide hc;have c0:w.cell? ⟨g,0,none⟩=some (.string t):=(za0 hc 0).1;have c1:w.cell? ⟨g,1,none⟩=some (.int .i64 (p:Int)):=(za0 hc 1).1
 obtain ⟨r1,r2,r3,hr⟩:∃r1 r2 r3,tupS (rdS t p)= .tuple #[r1,r2,.bool r3]/\(bad=true\/r3=false):=by
  rcases ho with h | h
  ·cases rdS t p with
   | none=>exact ⟨_,_,_,rfl,Or.inl h⟩
   | some x=>exact ⟨_,_,_,rfl,Or.inl h⟩
  ·rw [h];exact ⟨_,_,_,rfl,Or.inr rfl⟩
 rw [hr.1] at HC;obtain ⟨-,hr⟩:=hr;clear hc ho;go_enter Tryz.func92,Tryz.ntmps92;go_wp2_with fail
 go_region_held3 (fun wx=>wx.cell? ⟨g,0,none⟩=some (.string t)/\wx.cell? ⟨g,1,none⟩=some (.int .i64 (p:Int))) (first | exact ⟨c0,c1⟩ | exact hS2) ((go_at_call 126;refine (HC.out _).mono ?_;rintro e w2 ⟨rfl,hb2⟩;have hS2:w2.cell? ⟨g,0,none⟩=some (.string t)/\w2.cell? ⟨g,1,none⟩=some (.int .i64 (p:Int)):=⟨(hb2.cell (by exact hgl)).trans c0,(hb2.cell (by exact hgl)).trans c1⟩))
 have hbw:Below w.heap.size w w2:=(Below.refl _ _).drew.trans hb2;have hcur:CurT w2 g t p bad:=(hbw.block _ hgl).trans HCu.out;have HGr:Hid (w.grownBy w2 (some g)):=hide (zai hbw _);have HC2:=hide hcur;have e2:w2.cell? ⟨g,2,none⟩=some (.bool bad):=(za0 hcur 2).1;have f2:=(za0 hcur 2).2;clear hb2 hS2 c0 c1 hbw hcur
 cases bad with
 | true=>
  go_wp2_with fail;go_ret;exact ⟨rfl,heap_setCell_same w2 g 2 _ _ _ HC2.out,za3 HGr.out (za9 _ g 2 _)⟩
 | false=>
  obtain rfl:r3=false:=by rcases hr with h | h;cases h;exact h
  go_wp2_with fail;go_ret;exact ⟨rfl,heap_setCell_same w2 g 2 _ _ _ HC2.out,za3 HGr.out (za9 _ g 2 _)⟩
theorem zga (g:Nat) (t:ByteArray) (ht:t.size<=1048576) (p:Nat) (x:Nat) (q:Nat) (ho:rdV t p=some (x,q)) (w:World) (hc:CurT w g t p false):
  Calls Tryz.prog 91 #[.pointer (some ⟨g,0,none⟩)] w fun e w'=>e= .returned (.int .i64 (x:Int))/\CurT w' g t q false/\w.grownBy w' (some g):=by
 have HC:=hide (zdN t ht p);rw [ho,tupV] at HC;have hgl:=zcq hc;have HCu:=hide hc;have c0:w.cell? ⟨g,0,none⟩=some (.string t):=(za0 hc 0).1;have c1:w.cell? ⟨g,1,none⟩=some (.int .i64 (p:Int)):=(za0 hc 1).1;clear hc ho;go_enter Tryz.func91,Tryz.ntmps91;go_wp2_with fail
 go_region_held3 (fun wx=>wx.cell? ⟨g,0,none⟩=some (.string t)/\wx.cell? ⟨g,1,none⟩=some (.int .i64 (p:Int))) (first | exact ⟨c0,c1⟩ | exact hS2) ((go_at_call 125;refine (HC.out _).mono ?_;rintro e w2 ⟨rfl,hb2⟩;have hS2:w2.cell? ⟨g,0,none⟩=some (.string t)/\w2.cell? ⟨g,1,none⟩=some (.int .i64 (p:Int)):=⟨(hb2.cell (by exact hgl)).trans c0,(hb2.cell (by exact hgl)).trans c1⟩))
 have hbw:Below w.heap.size w w2:=(Below.refl _ _).drew.trans hb2;have hcur:CurT w2 g t p false:=(hbw.block _ hgl).trans HCu.out;have HGr:Hid (w.grownBy w2 (some g)):=hide (zai hbw _);have HC2:=hide hcur;have e2:w2.cell? ⟨g,2,none⟩=some (.bool false):=(za0 hcur 2).1;have f1:=(za0 hcur 1).2;clear hb2 hS2 c0 c1 hbw hcur;go_wp2_with fail;go_ret;exact ⟨rfl,heap_setCell_same w2 g 1 _ _ _ HC2.out,za3 HGr.out (za9 _ g 1 _)⟩
theorem zeO (g:Nat) (t:ByteArray) (ht:t.size<=1048576) (p:Nat) (bad:Bool) (ho:bad=true\/rdV t p=none) (w:World) (hc:CurT w g t p bad):
  Calls Tryz.prog 91 #[.pointer (some ⟨g,0,none⟩)] w fun e w'=>e= .returned (.int .i64 0)/\CurT w' g t p true/\w.grownBy w' (some g):=by
 have HC:=hide (zdN t ht p);have hgl:=zcq hc;have HCu:=hide hc;have c0:w.cell? ⟨g,0,none⟩=some (.string t):=(za0 hc 0).1;have c1:w.cell? ⟨g,1,none⟩=some (.int .i64 (p:Int)):=(za0 hc 1).1
 obtain ⟨r1,r2,r3,hr⟩:∃r1 r2 r3,tupV (rdV t p)= .tuple #[r1,r2,.bool r3]/\(bad=true\/r3=false):=by
  rcases ho with h | h
  ·cases rdV t p with
   | none=>exact ⟨_,_,_,rfl,Or.inl h⟩
   | some x=>exact ⟨_,_,_,rfl,Or.inl h⟩
  ·rw [h];exact ⟨_,_,_,rfl,Or.inr rfl⟩
 rw [hr.1] at HC;obtain ⟨-,hr⟩:=hr;clear hc ho;go_enter Tryz.func91,Tryz.ntmps91;go_wp2_with fail
 go_region_held3 (fun wx=>wx.cell? ⟨g,0,none⟩=some (.string t)/\wx.cell? ⟨g,1,none⟩=some (.int .i64 (p:Int))) (first | exact ⟨c0,c1⟩ | exact hS2) ((go_at_call 125;refine (HC.out _).mono ?_;rintro e w2 ⟨rfl,hb2⟩;have hS2:w2.cell? ⟨g,0,none⟩=some (.string t)/\w2.cell? ⟨g,1,none⟩=some (.int .i64 (p:Int)):=⟨(hb2.cell (by exact hgl)).trans c0,(hb2.cell (by exact hgl)).trans c1⟩))
 have hbw:Below w.heap.size w w2:=(Below.refl _ _).drew.trans hb2;have hcur:CurT w2 g t p bad:=(hbw.block _ hgl).trans HCu.out;have HGr:Hid (w.grownBy w2 (some g)):=hide (zai hbw _);have HC2:=hide hcur;have e2:w2.cell? ⟨g,2,none⟩=some (.bool bad):=(za0 hcur 2).1;have f2:=(za0 hcur 2).2;clear hb2 hS2 c0 c1 hbw hcur
 cases bad with
 | true=>
  go_wp2_with fail;go_ret;exact ⟨rfl,heap_setCell_same w2 g 2 _ _ _ HC2.out,za3 HGr.out (za9 _ g 2 _)⟩
 | false=>
  obtain rfl:r3=false:=by rcases hr with h | h;cases h;exact h
  go_wp2_with fail;go_ret;exact ⟨rfl,heap_setCell_same w2 g 2 _ _ _ HC2.out,za3 HGr.out (za9 _ g 2 _)⟩
open Go.RowKit
def RdT (w:World) (g:Nat) (t:ByteArray) (p:Nat):Prop:=w.heap[g]?=some (.cells #[.string t,.int .i64 (p:Int)] 126 (0,0))
theorem zf0 {w:World} {g p:Nat} {t:ByteArray} (h:RdT w g t p):g<w.heap.size:=(Array.getElem?_eq_some_iff.1 h).1
def misread:List PanicEntry:= [{v:= .iface 158 (.agg #[]),recovered:=false}]
theorem zbG (g:Nat) (w:World):Calls Tryz.prog 82 #[.pointer (some ⟨g,0,none⟩),.bool true] w fun e w'=>e= .returned (.tuple #[])/\w=w':=by
 go_enter Tryz.func82,Tryz.ntmps82;go_wp2_with fail
 go_end0
 exact ⟨rfl,rfl⟩
theorem zcf (g:Nat) (w:World):Calls Tryz.prog 82 #[.pointer (some ⟨g,0,none⟩),.bool false] w fun e w'=>e= .panicked misread/\w=w':=by
 go_enter Tryz.func82,Tryz.ntmps82;go_wp2_with fail;exact ⟨rfl,rfl,rfl⟩
theorem zdZ (g:Nat) (t:ByteArray) (ht:t.size<=1048576) (p:Nat) (x:Nat) (q:Nat) (ho:rdV t p=some (x,q)) (w:World) (hc:RdT w g t p):
  Calls Tryz.prog 110 #[.pointer (some ⟨g,0,none⟩)] w fun e w'=>e= .returned (.int .i64 (x:Int))/\RdT w' g t q/\w.grownBy w' (some g):=by
 have HC:=hide (zdO t ht p);rw [ho,tupV] at HC;have hgl:=zf0 hc;have HCu:=hide hc;have c0:w.cell? ⟨g,0,none⟩=some (.string t):=(za0 hc 0).1;have c1:w.cell? ⟨g,1,none⟩=some (.int .i64 (p:Int)):=(za0 hc 1).1;clear hc ho;go_enter Tryz.func110,Tryz.ntmps110;go_wp2_with fail
 go_region_held3 (fun wx=>wx.cell? ⟨g,0,none⟩=some (.string t)/\wx.cell? ⟨g,1,none⟩=some (.int .i64 (p:Int))) (first | exact ⟨c0,c1⟩ | exact hS2) ((go_at_call 136;refine (HC.out _).mono ?_;rintro e w2 ⟨rfl,hb2⟩;have hS2:w2.cell? ⟨g,0,none⟩=some (.string t)/\w2.cell? ⟨g,1,none⟩=some (.int .i64 (p:Int)):=⟨(hb2.cell (by exact hgl)).trans c0,(hb2.cell (by exact hgl)).trans c1⟩))
 have hbw:Below w.heap.size w w2:=(Below.refl _ _).drew.trans hb2;have hcur:RdT w2 g t p:=(hbw.block _ hgl).trans HCu.out;have HGr:Hid (w.grownBy w2 (some g)):=hide (zai hbw _);have HC2:=hide hcur;have f1:=(za0 hcur 1).2;have e1:w2.cell? ⟨g,1,none⟩=some (.int .i64 (p:Int)):=(za0 hcur 1).1;clear hb2 hS2 c0 c1 hbw hcur;go_wp2_with fail;refine (zbG g _).mono ?_;rintro e w3 ⟨rfl,rfl⟩;go_wp2_with fail;go_ret;exact ⟨rfl,heap_setCell_same w2 g 1 _ _ _ HC2.out,za3 HGr.out (za9 _ g 1 _)⟩
theorem zeP (g:Nat) (t:ByteArray) (ht:t.size<=1048576) (p:Nat) (ho:rdV t p=none) (w:World) (hc:RdT w g t p):
  Calls Tryz.prog 110 #[.pointer (some ⟨g,0,none⟩)] w fun e w'=>e= .panicked misread/\w.grownBy w' (some g):=by
 have HC:=hide (zdO t ht p);rw [ho,tupV] at HC;have hgl:=zf0 hc;have c0:w.cell? ⟨g,0,none⟩=some (.string t):=(za0 hc 0).1;have c1:w.cell? ⟨g,1,none⟩=some (.int .i64 (p:Int)):=(za0 hc 1).1;clear hc ho;go_enter Tryz.func110,Tryz.ntmps110;go_wp2_with fail
 go_region_held3 (fun wx=>wx.cell? ⟨g,0,none⟩=some (.string t)/\wx.cell? ⟨g,1,none⟩=some (.int .i64 (p:Int))) (first | exact ⟨c0,c1⟩ | exact hS2) ((go_at_call 136;refine (HC.out _).mono ?_;rintro e w2 ⟨rfl,hb2⟩;have hS2:w2.cell? ⟨g,0,none⟩=some (.string t)/\w2.cell? ⟨g,1,none⟩=some (.int .i64 (p:Int)):=⟨(hb2.cell (by exact hgl)).trans c0,(hb2.cell (by exact hgl)).trans c1⟩))
 have hbw:Below w.heap.size w w2:=(Below.refl _ _).drew.trans hb2;have HGr:Hid (w.grownBy w2 (some g)):=hide (zai hbw _);clear hb2 hS2 c0 c1 hbw;go_wp2_with fail;refine (zcf g _).mono ?_;rintro e w3 ⟨rfl,rfl⟩;exact ⟨rfl,rfl,HGr.out⟩
theorem zeQ (g:Nat) (t:ByteArray) (ht:t.size<=1048576) (p:Nat) (x:ByteArray) (q:Nat) (ho:rdS t p=some (x,q)) (w:World) (hc:RdT w g t p):
  Calls Tryz.prog 111 #[.pointer (some ⟨g,0,none⟩)] w fun e w'=>e= .returned (.string x)/\RdT w' g t q/\w.grownBy w' (some g):=by
 have HC:=hide (zcZ t ht p);rw [ho,tupS] at HC;have hgl:=zf0 hc;have HCu:=hide hc;have c0:w.cell? ⟨g,0,none⟩=some (.string t):=(za0 hc 0).1;have c1:w.cell? ⟨g,1,none⟩=some (.int .i64 (p:Int)):=(za0 hc 1).1;clear hc ho;go_enter Tryz.func111,Tryz.ntmps111;go_wp2_with fail
 go_region_held3 (fun wx=>wx.cell? ⟨g,0,none⟩=some (.string t)/\wx.cell? ⟨g,1,none⟩=some (.int .i64 (p:Int))) (first | exact ⟨c0,c1⟩ | exact hS2) ((go_at_call 137;refine (HC.out _).mono ?_;rintro e w2 ⟨rfl,hb2⟩;have hS2:w2.cell? ⟨g,0,none⟩=some (.string t)/\w2.cell? ⟨g,1,none⟩=some (.int .i64 (p:Int)):=⟨(hb2.cell (by exact hgl)).trans c0,(hb2.cell (by exact hgl)).trans c1⟩))
 have hbw:Below w.heap.size w w2:=(Below.refl _ _).drew.trans hb2;have hcur:RdT w2 g t p:=(hbw.block _ hgl).trans HCu.out;have HGr:Hid (w.grownBy w2 (some g)):=hide (zai hbw _);have HC2:=hide hcur;have f1:=(za0 hcur 1).2;have e1:w2.cell? ⟨g,1,none⟩=some (.int .i64 (p:Int)):=(za0 hcur 1).1;clear hb2 hS2 c0 c1 hbw hcur;go_wp2_with fail;refine (zbG g _).mono ?_;rintro e w3 ⟨rfl,rfl⟩;go_wp2_with fail;go_ret;exact ⟨rfl,heap_setCell_same w2 g 1 _ _ _ HC2.out,za3 HGr.out (za9 _ g 1 _)⟩
theorem zgb (g:Nat) (t:ByteArray) (ht:t.size<=1048576) (p:Nat) (ho:rdS t p=none) (w:World) (hc:RdT w g t p):
  Calls Tryz.prog 111 #[.pointer (some ⟨g,0,none⟩)] w fun e w'=>e= .panicked misread/\w.grownBy w' (some g):=by
 have HC:=hide (zcZ t ht p);rw [ho,tupS] at HC;have hgl:=zf0 hc;have c0:w.cell? ⟨g,0,none⟩=some (.string t):=(za0 hc 0).1;have c1:w.cell? ⟨g,1,none⟩=some (.int .i64 (p:Int)):=(za0 hc 1).1;clear hc ho;go_enter Tryz.func111,Tryz.ntmps111;go_wp2_with fail
 go_region_held3 (fun wx=>wx.cell? ⟨g,0,none⟩=some (.string t)/\wx.cell? ⟨g,1,none⟩=some (.int .i64 (p:Int))) (first | exact ⟨c0,c1⟩ | exact hS2) ((go_at_call 137;refine (HC.out _).mono ?_;rintro e w2 ⟨rfl,hb2⟩;have hS2:w2.cell? ⟨g,0,none⟩=some (.string t)/\w2.cell? ⟨g,1,none⟩=some (.int .i64 (p:Int)):=⟨(hb2.cell (by exact hgl)).trans c0,(hb2.cell (by exact hgl)).trans c1⟩))
 have hbw:Below w.heap.size w w2:=(Below.refl _ _).drew.trans hb2;have HGr:Hid (w.grownBy w2 (some g)):=hide (zai hbw _);clear hb2 hS2 c0 c1 hbw;go_wp2_with fail;refine (zcf g _).mono ?_;rintro e w3 ⟨rfl,rfl⟩;exact ⟨rfl,rfl,HGr.out⟩
theorem zgc (g:Nat) (t:ByteArray) (ht:t.size<=1048576) (h0:0<t.size) (w:World) (hc:RdT w g t 0):
  Calls Tryz.prog 109 #[.pointer (some ⟨g,0,none⟩)] w fun e w'=>e= .returned (.int .u8 (byt t 0:Int))/\RdT w' g t 1/\w.grownBy w' (some g):=by
 have hgl:=zf0 hc;have HCu:=hide hc;have c0:w.cell? ⟨g,0,none⟩=some (.string t):=(za0 hc 0).1;have c1:w.cell? ⟨g,1,none⟩=some (.int .i64 0):=(za0 hc 1).1;have f1:=(za0 hc 1).2
 have d1:decide ((0:Int)<(t.size:Int))=true:=decide_eq_true (by omega)
 obtain ⟨y,hy⟩:∃y,y=byt t 0:=⟨_,rfl⟩
 have hyb:y<256:=by rw [hy];exact ze3 t _
 have hs1:t[0].toNat=y:=by rw [hy];exact zd2 t _ h0
 rw [<-hy];clear hc hy;go_enter Tryz.func109,Tryz.ntmps109;go_wp2_with fail
 go_region_held3 (fun wx=>wx.cell? ⟨g,0,none⟩=some (.string t)/\wx.cell? ⟨g,1,none⟩=some (.int .i64 0)) (first | exact ⟨c0,c1⟩ | exact hS2) ((go_at_call 82;refine (zbG g _).mono ?_;rintro e w2 ⟨rfl,hb2⟩;have hS2:w2.cell? ⟨g,0,none⟩=some (.string t)/\w2.cell? ⟨g,1,none⟩=some (.int .i64 0):=by rw [<-hb2];exact ⟨c0,c1⟩))
 have hcur:RdT w2 g t 0:=by rw [<-hb2];exact HCu.out
 have HGr:Hid (w.grownBy w2 (some g)):=hide (by rw [<-hb2];exact zai (Below.refl _ _).drew _)
 have HC2:=hide hcur;have f1':=(za0 hcur 1).2;have e1:w2.cell? ⟨g,1,none⟩=some (.int .i64 0):=(za0 hcur 1).1;have e0:w2.cell? ⟨g,0,none⟩=some (.string t):=(za0 hcur 0).1;clear hb2 hS2 c0 c1 hcur f1
 have hp1:(0:Int)<(t.size:Int):=by omega
 go_wp2_with fail
 go_quiet (fail)
 go_wp2_with fail;go_ret;exact ⟨rfl,heap_setCell_same w2 g 1 _ _ _ HC2.out,za3 HGr.out (za3 (za9 _ g 1 _) (zai (below_drewN (Below.refl _ _) _) _))⟩
theorem zno (g:Nat) (t:ByteArray) (h0:t.size=0) (w:World) (hc:RdT w g t 0):
  Calls Tryz.prog 109 #[.pointer (some ⟨g,0,none⟩)] w fun e w'=>e= .panicked misread/\w.grownBy w' (some g):=by
 have c0:w.cell? ⟨g,0,none⟩=some (.string t):=(za0 hc 0).1;have c1:w.cell? ⟨g,1,none⟩=some (.int .i64 0):=(za0 hc 1).1
 have d1:decide ((0:Int)<(t.size:Int))=false:=decide_eq_false (by omega)
 clear hc;go_enter Tryz.func109,Tryz.ntmps109;go_wp2_with fail
 go_region_dies
 all_goals
  refine (zcf g _).mono ?_;rintro e w3 ⟨rfl,rfl⟩;exact ⟨rfl,rfl,zai (Below.refl _ _).drew _⟩
open Go.RowKit
theorem zcO {P : Program} (w : World) {ops : Array Oper} {o : Oper} {a : Act} {K : Act → World → Prop} {Q : Exit → Act → World → Prop} {E : Prop} (hw : Region.wanted o (yielded ops a.tmps) = true) (f : FuncId) (fn : Func) (hfn : P.funcs[f]? = some fn) (hname : ¬ fn.name = "runtime.NumGoroutine") (hbody : ¬ fn.body = none) (s : Operand) (ts : Array TypeId)
  (ho:o.op= .call {callee:= .value (.func f),args:= #[s],argTypes:=ts}) (u:Value) (hs:a.eval s=u)
  (R:Ending→World→Prop) (hc:Calls P f #[u] w R) (hR:∀e w',R e w'→∃r,e= .returned r∧K (a.put o.dst r) w'):
  if Region.wanted o (yielded ops a.tmps)=true then Oper.wp P o a w K Q else E:=by
 rw [if_pos hw];unfold Oper.wp execOp;have hf:a.eval (.func f)= .func (.func f) #[] #[]:=rfl
 simp only [ho,resolve,invoke,hf,Deferred.ofValue,callFunc,Sem.run_bind,Sem.run_pure,Result.andThen_ok,List.map_toArray,List.map_cons,List.map_nil,hs]
 simp [go_sem,hfn,hname,hbody]
 refine hc.mono ?_;intro e w' h;obtain ⟨r,rfl,hk⟩:=hR e w' h;exact hk
theorem zbH {P : Program} (w : World) {ops : Array Oper} {o : Oper} {a : Act} {K : Act → World → Prop} {Q : Exit → Act → World → Prop} {E : Prop} (hgd : o.guard = none) (f : FuncId) (fn : Func) (hfn : P.funcs[f]? = some fn) (hname : ¬ fn.name = "runtime.NumGoroutine") (hbody : ¬ fn.body = none) (s x : Operand) (ts : Array TypeId)
  (ho:o.op= .call {callee:= .value (.func f),args:= #[s,x],argTypes:=ts}) (u v:Value) (hs:a.eval s=u) (hx:a.eval x=v)
  (R:Ending→World→Prop) (hc:Calls P f #[u,v] w R) (hR:∀e w',R e w'→∃ch,e= .panicked ch∧Q (.panic ch) a w') (_hk:Hid False→K (a.put o.dst undef) w):
  if Region.wanted o (yielded ops a.tmps)=true then Oper.wp P o a w K Q else E:=by
 have hw:Region.wanted o (yielded ops a.tmps)=true:=by simp [Region.wanted,hgd]
 rw [if_pos hw];unfold Oper.wp execOp;have hf:a.eval (.func f)= .func (.func f) #[] #[]:=rfl
 simp only [ho,resolve,invoke,hf,Deferred.ofValue,callFunc,Sem.run_bind,Sem.run_pure,Result.andThen_ok,List.map_toArray,List.map_cons,List.map_nil,hs,hx]
 simp [go_sem,hfn,hname,hbody]
 refine hc.mono ?_;intro e w' h;obtain ⟨ch,rfl,hk⟩:=hR e w' h;exact hk
end Go.Proofs.YtcbogiebfbbmbaaGreatDoor
