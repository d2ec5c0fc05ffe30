/-
  Facts and contracts that the law's own text rests on, by their texts' names: GivePlain, WorkEnv, Plain8, Plain7, Plain13, Plain15.
-/
import Derived.Test.YtcbogiebfbbmbaaGreatDoorDa2
import Derived.Test.YtcbogiebfbbmbaaGreatDoorDa1
import Derived.Lib.Strings
set_option maxHeartbeats 16000000
set_option maxRecDepth 100000
namespace Go.Proofs.YtcbogiebfbbmbaaGreatDoor
open Go.RowKit
def giveK (k:Wk):Wk:=match k.us with
 | x :: t=>{k with us:=t,fs:=k.fs++ [x]}
 | []=>if k.next<(k.ps.length:Int) then {k with next:=wrap64 (k.next+1),fs:=k.fs++ [k.next]} else k
def giveP (k:Wk):Int:=match k.us with
 | x :: _=>x
 | []=>if k.next<(k.ps.length:Int) then k.next else 0
theorem zbO {k:Wk} {x:Int} {t:List Int} (h:k.us=x :: t):giveK k={k with us:=t,fs:=k.fs++ [x]}/\giveP k=x:=by
 unfold giveK giveP;rw [h];exact ⟨rfl,rfl⟩
theorem zbP {k:Wk} (h:k.us= []) (hn:k.next<(k.ps.length:Int)):giveK k={k with next:=wrap64 (k.next+1),fs:=k.fs++ [k.next]}/\giveP k=k.next:=by
 unfold giveK giveP;rw [h]
 simp [hn]
theorem zcg {k:Wk} (h:k.us= []) (hn:¬k.next<(k.ps.length:Int)):giveK k=k/\giveP k=0:=by
 unfold giveK giveP;rw [h]
 simp [hn]
theorem zbV {w:World} {B:Nat} {u0 u1 u2 u3 u4 u5:Value} {k:Wk} (h:WorkNw w B (.agg #[u0,u1,u2,u3,u4,u5]) k):DiskOwn w B (.agg #[u0,u1]) k.ps k.ls/\u2= .int .i64 k.next/\w.ownsRow B 3 1 u3 k.us.length (ints k.us)/\w.ownsRow B 3 1 u4 k.gs.length (ints k.gs)/\w.ownsRow B 3 1 u5 k.fs.length (ints k.fs)/\
  (∀j,u3.ownBlock=some j->u4.ownBlock≠some j)/\(∀j,u3.ownBlock=some j->u5.ownBlock≠some j)/\(∀j,u4.ownBlock=some j->u5.ownBlock≠some j):=by
 obtain ⟨vp,vl,vu,vg,vf,e,h1,h2,h3,h4,h5⟩:=h;obtain ⟨rfl,rfl,rfl,rfl,rfl,rfl⟩:=agg6 e;exact ⟨h1,rfl,h2,h3,h4,h5⟩
theorem zaR {w:World} {B:Nat} {v:Value} {k:Wk} (h:WorkNw w B v k):∃a1 c1 a2 c2 a3 c3 a4 c4 a5 c5,v= .agg #[.slice a1 k.ps.length c1,.slice a2 k.ls.length c2,.int .i64 k.next,.slice a3 k.us.length c3,.slice a4 k.gs.length c4,.slice a5 k.fs.length c5]:=zaH (zaJ h)
theorem zaD {w w':World} {a:Nat} {o:Obj} (h:w.heap[a]?=some o) (hb:Below w.heap.size w w'):w'.heap[a]?=some o:=(hb.block _ (Array.getElem?_eq_some_iff.1 h).1).trans h
theorem zdE (w:World) (n:Nat) (hn:n=w.heap.size) (x:Value) (T:TypeId):∀(j:Nat) (u:Value),[x][j]?=some u->(w.alloc (Obj.cells #[x] T)).cell? ((⟨n,0,none⟩:Addr).add j)=some u:=by
 subst hn;intro j u hj
 obtain rfl:j=0:=by have:=(List.getElem?_eq_some_iff.1 hj).1;simp at this;omega
 simp at hj
 subst hj
 simp [Addr.add]
theorem zj6 {w w':World} {a:Nat} {o:Obj} {r:Option Nat} (h:w.heap[a]?=some o) (hg:w.grownBy w' r) (hr:r≠some a):w'.heap[a]?=some o:=(hg.block _ (Array.getElem?_eq_some_iff.1 h).1 (fun e=>hr e.symm)).trans h
theorem zfJ {w w1 w5:World} {k:Wk} {a0 g B b d nf c5:Nat} {a5:Option Addr} {u0 u1 u3 u3' u4:Value} {us':List Int} {n':Int} {p:Int} {rs:Obj} {t:TypeId} (hnf:nf=k.fs.length)
  (hnw:WorkNw w1 B (.agg #[u0,u1,.int .i64 k.next,u3,u4,.slice a5 nf c5]) k) (hu:IntOwn w1 B u3' us') (hub:∀j,u3'.ownBlock=some j->u3.ownBlock=some j) (hg:g=w1.heap.size) (hres:w1.heap[a0+1]?=some rs) (hB:a0+2<=B) (ha:a0=w.heap.size) (_hBg:B<=g) (hlow:Below w.heap.size w w1)
  (hown:w5.ownsRow B 3 1 (.slice (some ⟨b,0,none⟩) (nf+1) d) (nf+1) (ints k.fs++ [.int .i64 p]))
  (hgr:((w1.alloc (Obj.cells #[u0,u1,.int .i64 n',u3',u4,.slice a5 nf c5] t)).alloc (Obj.cells #[.int .i64 p] 3)).grownBy w5 (Value.slice a5 nf c5).ownBlock)
  (hb:(Value.slice a5 nf c5).ownBlock=some b\/b=g+2):
  w5.heap[g]?=some (Obj.cells #[u0,u1,.int .i64 n',u3',u4,.slice a5 nf c5] t)/\
  (w5.setCell ⟨g,5,none⟩ (.slice (some ⟨b,0,none⟩) (nf+1) d)).heap[g]?=some (Obj.cells #[u0,u1,.int .i64 n',u3',u4,.slice (some ⟨b,0,none⟩) (nf+1) d] t)/\
  (w5.setCell ⟨g,5,none⟩ (.slice (some ⟨b,0,none⟩) (nf+1) d)).heap[a0+1]?=some rs/\
  WorkOwn (w5.setCell ⟨g,5,none⟩ (.slice (some ⟨b,0,none⟩) (nf+1) d)) B (.agg #[u0,u1,.int .i64 n',u3',u4,.slice (some ⟨b,0,none⟩) (nf+1) d]) {k with next:=n',us:=us',fs:=k.fs++ [p]}/\
  Below w.heap.size w (w5.setCell ⟨g,5,none⟩ (.slice (some ⟨b,0,none⟩) (nf+1) d))/\
  ∀j o,w1.heap[j]?=some o->j<B->(w5.setCell ⟨g,5,none⟩ (.slice (some ⟨b,0,none⟩) (nf+1) d)).heap[j]?=some o:=by
 subst hnf;obtain ⟨hd,-,h3,h4,h5,n1,n2,n3⟩:=zbV hnw
 have l5:∀j,(Value.slice a5 k.fs.length c5).ownBlock=some j->B<=j/\j<g:=fun j e=>by rw [hg];exact h5.lt j e
 have l4:∀j,u4.ownBlock=some j->B<=j/\j<g:=fun j e=>by rw [hg];exact h4.lt j e
 have l3:∀j,u3'.ownBlock=some j->B<=j/\j<g:=fun j e=>by rw [hg];exact h3.lt j (hub j e)
 have ld:=zby hd;have hlt1:a0+1<w1.heap.size:=(Array.getElem?_eq_some_iff.1 hres).1
 have hb1:Below w1.heap.size w1 ((w1.alloc (Obj.cells #[u0,u1,.int .i64 n',u3',u4,.slice a5 k.fs.length c5] t)).alloc (Obj.cells #[.int .i64 p] 3)):=((Below.refl _ _).alloc (Nat.le_refl _) _).alloc (by simp) _
 obtain ⟨q0,q1,hs⟩:=zaE w1 (Obj.cells #[u0,u1,.int .i64 n',u3',u4,.slice a5 k.fs.length c5] t) (Obj.cells #[.int .i64 p] 3);rw [<-hg] at q0 hs
 have hk:Kept w1 w5 (fun j=>(Value.slice a5 k.fs.length c5).ownBlock=some j):=⟨hgr.os.trans hb1.os,hgr.tape.trans hb1.tape,hgr.output.trans hb1.output,Nat.le_trans hb1.size hgr.size,fun j hj hn=>(hgr.block j (Nat.lt_of_lt_of_le hj hb1.size) (fun e=>hn e.symm)).trans (hb1.block j hj)⟩
 have e5:w5.heap[g]?=some (Obj.cells #[u0,u1,.int .i64 n',u3',u4,.slice a5 k.fs.length c5] t):=zj6 q0 hgr (fun e=>by have:=l5 g e;omega)
 have hk6:Kept w5 (w5.setCell ⟨g,5,none⟩ (.slice (some ⟨b,0,none⟩) (k.fs.length+1) d)) (fun j=>j=g):=za9 _ _ _ _
 have hkk:Kept w1 (w5.setCell ⟨g,5,none⟩ (.slice (some ⟨b,0,none⟩) (k.fs.length+1) d)) (fun j=>(Value.slice a5 k.fs.length c5).ownBlock=some j):=kept_trans hk hk6 (fun j hj e=>by omega)
 refine ⟨e5,heap_setCell_same w5 g 5 _ _ _ e5,(hkk.2.2.2.2 _ hlt1 (fun e=>by have:=l5 _ e;omega)).trans hres,⟨u0,u1,u3',u4,_,rfl,?_,?_,?_,?_,?_,?_,?_⟩,hlow.trans (zac hkk hlow.size (fun j e=>by have:=l5 j e;omega)),fun j o hj hlt=>(hkk.2.2.2.2 j (Array.getElem?_eq_some_iff.1 hj).1 (fun e=>by have:=l5 j e;omega)).trans hj⟩
 ·exact zbo hd hkk (fun j e h=>zbc hd (zan h5) j e h)
 ·exact zaW hu hkk (fun j e h=>n2 j (hub j e) h)
 ·exact zaW (zan h4) hkk (fun j e h=>n3 j e h)
 ·refine zaW (zan (l:=k.fs++ [p]) ?_) hk6 (fun j e h=> ?_)
  ·have e1:(k.fs++ [p]).length=k.fs.length+1:=by simp
   have e2:ints (k.fs++ [p])=ints k.fs++ [.int .i64 p]:=by simp [ints]
   rw [e1,e2];exact hown
  ·injection e with e
   have e:b=j:=e
   rcases hb with hb | hb
   ·have:=l5 b hb;omega
   ·omega
 ·exact fun j e1 e2=>n1 j (hub j e1) e2
 ·intro j e1 e2
  injection e2 with e2
  have e2:b=j:=e2
  rcases hb with hb | hb
  ·exact n2 j (hub j e1) (by rw [<-e2];exact hb)
  ·have:=l3 j e1;omega
 ·intro j e1 e2
  injection e2 with e2
  have e2:b=j:=e2
  rcases hb with hb | hb
  ·exact n3 j e1 (by rw [<-e2];exact hb)
  ·have:=l4 j e1;omega
open Go.RowKit
def IsBlk (g:Nat) (cs:Array Value) (t:TypeId) (w:World):Prop:=w.heap[g]?=some (Obj.cells cs t)
theorem zcR {w:World} {g:Nat} {cs:Array Value} {t:TypeId} (h:w.heap[g]?=some (Obj.cells cs t)):Held w g (g+1) (IsBlk g cs t):=
 ⟨fun a b _ _ hk hp=>(hk g (Nat.le_refl _) (by omega)).trans hp,(Array.getElem?_eq_some_iff.1 h).1,h⟩
theorem zf0 (w:World) (cs:Array Value) (t:TypeId):Below w.heap.size w (w.alloc (Obj.cells cs t))/\Held (w.alloc (Obj.cells cs t)) w.heap.size (w.heap.size+1) (IsBlk w.heap.size cs t):=
 ⟨(Below.refl _ _).alloc (Nat.le_refl _) _,zcR (heap_alloc_new w _)⟩
theorem blk6h {w:World} {B U g:Nat} {c0 c1 c2 c3 c4 c5:Value} {t:TypeId} (h:Held w B U (IsBlk g #[c0,c1,c2,c3,c4,c5] t)):w.cell? ⟨g,0,none⟩=some c0/\w.cell? ⟨g,1,none⟩=some c1/\w.cell? ⟨g,2,none⟩=some c2/\w.cell? ⟨g,3,none⟩=some c3/\w.cell? ⟨g,4,none⟩=some c4/\w.cell? ⟨g,5,none⟩=some c5:=blk6c h.is
def IsWork (B U:Nat) (v:Value) (k:Wk) (w:World):Prop:=WorkOwn w B v k/\∀j,workBlocks v j->j<U
theorem zf1 {w w':World} {B U:Nat} {v:Value} {l:List Int} (h:IntOwn w B v l) (hU:∀j,v.ownBlock=some j->j<U) (hk:∀k,B<=k->k<U->w'.heap[k]?=w.heap[k]?):IntOwn w' B v l:=by
 obtain ⟨a,cap,rfl,hc,h⟩:=h;refine ⟨a,cap,rfl,hc,?_⟩
 rcases h with h | ⟨g,off,cs,rfl,hB,hh,hx⟩
 ·exact Or.inl h
 ·exact Or.inr ⟨g,off,cs,rfl,hB,(hk g hB (hU g rfl)).trans hh,hx⟩
theorem zj7 {w w':World} {B U:Nat} {v:Value} {k:Wk} (h:IsWork B U v k w) (hs:w.heap.size<=w'.heap.size) (hk:∀j,B<=j->j<U->w'.heap[j]?=w.heap[j]?):IsWork B U v k w':=by
 refine ⟨?_,h.2⟩;have hu:=h.2;obtain ⟨⟨vp,vl,vu,vg,vf,rfl,h1,h2,h3,h4,h5⟩,-⟩:=h
 exact ⟨vp,vl,vu,vg,vf,rfl,(zg3 (U:=U) ⟨h1,fun j hj=>hu j ⟨_,_,_,_,_,_,rfl,Or.inl hj⟩⟩ hs hk).1,zf1 h2 (fun j e=>hu j ⟨_,_,_,_,_,_,rfl,Or.inr (Or.inl e)⟩) hk,zf1 h3 (fun j e=>hu j ⟨_,_,_,_,_,_,rfl,Or.inr (Or.inr (Or.inl e))⟩) hk,zf1 h4 (fun j e=>hu j ⟨_,_,_,_,_,_,rfl,Or.inr (Or.inr (Or.inr e))⟩) hk,h5⟩
theorem zcB {w:World} {B:Nat} {v:Value} {k:Wk} (h:WorkOwn w B v k):Held w B w.heap.size (IsWork B w.heap.size v k):=
 ⟨fun _ _ hs _ hk hp=>zj7 hp hs hk,Nat.le_refl _,h,fun j hj=>(zal h j hj).2⟩
open Go.RowKit
def half (c:Nat):Nat:=if c % 2=1 then (c / 2) ^^^ 3558460437 else c / 2
def half4 (c:Nat):Nat:=half (half (half (half c)))
def sumB (c b:Nat):Nat:=half4 (half4 (c ^^^ b))
def sumL (c:Nat) (l:List UInt8):Nat:=l.foldl (fun c b=>sumB c b.toNat) c
def fourL (x:Nat):List UInt8:= [UInt8.ofNat (x / 16777216 % 256),UInt8.ofNat (x / 65536 % 256),UInt8.ofNat (x / 256 % 256),UInt8.ofNat (x % 256)]
theorem zep (a b:Nat) (ha:a<4294967296) (hb:b<4294967296):a ^^^ b<4294967296:=Nat.xor_lt_two_pow (n:=32) ha hb
theorem zg7 (c:Nat) (h:c<4294967296):half c<4294967296:=by
 unfold half
 split
 ·exact zep _ _ (by omega) (by omega)
 ·omega
theorem zhz (c:Nat) (h:c<4294967296):half4 c<4294967296:=zg7 _ (zg7 _ (zg7 _ (zg7 _ h)))
theorem sumB_lt (c b:Nat) (h:c<4294967296) (hb:b<256):sumB c b<4294967296:=zhz _ (zhz _ (zep _ _ h (by omega)))
theorem zg8 (c:Nat) (l m:List UInt8):sumL c (l++m)=sumL (sumL c l) m:=by simp [sumL,List.foldl_append]
theorem zmx (a b:Nat):half (a ^^^ b)=half a ^^^ half b:=by
 have h1:(a ^^^ b) % 2=(a+b) % 2:=by
  have:=Nat.xor_mod_two_pow (a:=a) (b:=b) (n:=1)
  simp only [Nat.pow_one] at this
  rw [this]
  rcases Nat.mod_two_eq_zero_or_one a with ha | ha <;> rcases Nat.mod_two_eq_zero_or_one b with hb | hb <;> rw [ha,hb] <;> simp <;> omega
 have h2:(a ^^^ b) / 2=a / 2 ^^^ b / 2:=by have:=Nat.xor_div_two_pow (a:=a) (b:=b) (n:=1);simpa using this
 unfold half;rw [h1,h2]
 by_cases ha:a % 2=1 <;> by_cases hb:b % 2=1
 ·rw [if_neg (by omega),if_pos ha,if_pos hb,Nat.xor_assoc,Nat.xor_comm (b / 2) 3558460437,<-Nat.xor_assoc 3558460437,Nat.xor_self,Nat.zero_xor]
 ·rw [if_pos (by omega),if_pos ha,if_neg hb,Nat.xor_assoc,Nat.xor_comm (b / 2),<-Nat.xor_assoc]
 ·rw [if_pos (by omega),if_neg ha,if_pos hb,Nat.xor_assoc]
 ·rw [if_neg (by omega),if_neg ha,if_neg hb]
theorem zlc (a b:Nat):half4 (a ^^^ b)=half4 a ^^^ half4 b:=by simp only [half4,zmx]
theorem zid (q:Nat):half4 (16 * q)=q:=by
 have e:∀x,half (2 * x)=x:=fun x=>by unfold half;rw [if_neg (by omega)];omega
 have h:16 * q=2 * (2 * (2 * (2 * q))):=by omega
 unfold half4;rw [h,e,e,e,e]
theorem split16 (x:Nat):x=(16 * (x / 16)) ^^^ (x % 16):=by
 have h1:((16 * (x / 16)) ^^^ (x % 16)) / 16=x / 16:=by
  have:=Nat.xor_div_two_pow (a:=16 * (x / 16)) (b:=x % 16) (n:=4)
  rw [show (2:Nat) ^ 4=16 from rfl] at this
  rw [this,Nat.mul_div_cancel_left _ (by omega),Nat.div_eq_of_lt (by omega:x % 16<16),Nat.xor_zero]
 have h2:((16 * (x / 16)) ^^^ (x % 16)) % 16=x % 16:=by
  have:=Nat.xor_mod_two_pow (a:=16 * (x / 16)) (b:=x % 16) (n:=4)
  rw [show (2:Nat) ^ 4=16 from rfl] at this
  rw [this,Nat.mul_mod_right,Nat.zero_xor,Nat.mod_mod]
 omega
def tab16:List Nat:= [0,1166650509,2333301018,3466261911,3189058079,4221339282,889615109,1888477064,3558460437,2442158232,1594529039,444807554,1779230218,797264519,3776954128,2761298845]
theorem zld (r:Nat) (h:r<16):half4 r=tab16.getD r 0:=by
 revert r
 decide
theorem zjJ (x:Nat):half4 x=(x / 16) ^^^ tab16.getD (x % 16) 0:=by
 rw [<-zld _ (Nat.mod_lt _ (by omega)),<-zid (x / 16)]
 conv=>lhs;rw [split16 x]
 rw [zlc,zid]
theorem zie (x:Nat):(fourL x).length=4:=rfl
def sealL (l:List UInt8):List UInt8:=l++fourL (sumL 4294967295 l)
def isSealed (l:List UInt8):Bool:=decide (4<=l.length/\l.length<=20004/\l.drop (l.length - 4)=fourL (sumL 4294967295 (l.take (l.length - 4))))
theorem zdd (l:List UInt8):(sealL l).length=l.length+4:=by simp [sealL,zie]
theorem zmy (l:List UInt8) (h:l.length<=20000):isSealed (sealL l)=true:=by
 unfold isSealed;rw [zdd,Nat.add_sub_cancel,decide_eq_true_eq]
 refine ⟨by omega,by omega,?_⟩
 simp [sealL]
open Go.RowKit
theorem rv_go (b:Nat->Nat) (len n:Nat) (hn:n<=1000000000):∀(g m j f:Nat),m<128 ^ (g+1)->g+1<=f->(1<=m\/j=0)->accN b j+128 ^ j * m=n->
  (∀i (h:i<(venc g m).length),b (j+i)=((venc g m)[i]).toNat)->j+(venc g m).length<=len->rvGo b len f j=some (n,j+(venc g m).length):=by
 intro g
 induction g with
 | zero=>
  intro m j f hm hf h1 hA hb hlen
  have hm':m<128:=by simpa using hm
  rw [zcA 0 m hm'] at hb hlen⊢
  obtain ⟨f',rfl⟩:∃f',f=f'+1:=⟨f - 1,by omega⟩
  have h0:b j=m:=by have:=hb 0 (by simp);simpa [zbL m (by omega)] using this
  have hj:j<len:=by simp at hlen;omega
  have hacc:accN b (j+1)=n:=by rw [accN,h0,Nat.mod_eq_of_lt hm',Nat.mul_comm];exact hA
  rw [rvGo,if_pos hj,if_pos (by omega),if_pos ⟨by omega,by omega⟩,hacc];rfl
 | succ g ih=>
  intro m j f hm hf h1 hA hb hlen
  by_cases hs:m<128
  ·rw [zcA (g+1) m hs] at hb hlen⊢
   obtain ⟨f',rfl⟩:∃f',f=f'+1:=⟨f - 1,by omega⟩
   have h0:b j=m:=by have:=hb 0 (by simp);simpa [zbL m (by omega)] using this
   have hj:j<len:=by simp at hlen;omega
   have hacc:accN b (j+1)=n:=by rw [accN,h0,Nat.mod_eq_of_lt hs,Nat.mul_comm];exact hA
   rw [rvGo,if_pos hj,if_pos (by omega),if_pos ⟨by omega,by omega⟩,hacc];rfl
  ·have hv:venc (g+1) m=UInt8.ofNat (m % 128+128) :: venc g (m / 128):=by rw [venc,if_neg hs]
   obtain ⟨f',rfl⟩:∃f',f=f'+1:=⟨f - 1,by omega⟩
   have hb0:=hb 0 (by rw [hv];simp)
   simp only [hv,List.getElem_cons_zero,Nat.add_zero,zbL (m % 128+128) (by omega)] at hb0
   have hj:j<len:=by rw [hv] at hlen;simp at hlen;omega
   have hq:m / 128<128 ^ (g+1):=by
    rw [Nat.pow_succ] at hm
    exact Nat.div_lt_of_lt_mul (by rw [Nat.mul_comm];exact hm)
   have hA':accN b (j+1)+128 ^ (j+1) * (m / 128)=n:=by
    rw [accN,hb0,<-hA,Nat.pow_succ]
    have e1:(m % 128+128) % 128=m % 128:=by omega
    have e2:m=m % 128+128 * (m / 128):=by omega
    rw [e1]
    conv=>rhs;rw [e2]
    rw [Nat.mul_add,Nat.mul_comm (m % 128),Nat.mul_assoc]
    omega
   have hr:=ih (m / 128) (j+1) f' hq (by omega) (by omega) hA' (fun i h=>by
    have:=hb (i+1) (by rw [hv];simpa using h)
    simp only [hv,List.getElem_cons_succ] at this
    rw [<-this];congr 1;omega) (by rw [hv] at hlen;simp at hlen;omega)
   rw [rvGo,if_pos hj,if_neg (by omega),hr,hv]
   simp;omega
theorem zmz (l:List UInt8) (i:Nat) (h:i<l.length):byt ⟨l.toArray⟩ i=(l[i]).toNat:=by
 have hs:i<(⟨l.toArray⟩:ByteArray).size:=by simpa [ByteArray.size] using h
 rw [<-zd8 _ i hs];rfl
theorem zle (l:List UInt8):(⟨l.toArray⟩:ByteArray).size=l.length:=by simp [ByteArray.size]
theorem zmA (n:Nat) (hn:n<=1000000000) (pre post:List UInt8):
  rvGo (fun i=>byt ⟨(pre++vtext n++post).toArray⟩ (pre.length+i)) ((⟨(pre++vtext n++post).toArray⟩:ByteArray).size - pre.length) 5 0=some (n,(vtext n).length):=by
 have h:=rv_go (fun i=>byt ⟨(pre++vtext n++post).toArray⟩ (pre.length+i)) ((⟨(pre++vtext n++post).toArray⟩:ByteArray).size - pre.length) n hn 4 n 0 5 (pow5 n hn) (by omega) (Or.inr rfl) (by simp [accN])
  (fun i h=>by
   have hl:pre.length+(0+i)<(pre++vtext n++post).length:=by simp;unfold vtext;omega
   rw [zmz _ _ hl]
   congr 1
   rw [List.getElem_append_left (by simp;unfold vtext;omega),List.getElem_append_right (by omega)]
   simp [vtext])
  (by rw [zle];simp [vtext])
 simpa [vtext] using h
open Go.RowKit
theorem ba_cat (A:ByteArray) (l:List UInt8) (X:ByteArray):A++⟨l.toArray⟩++X=⟨(A.data.toList++l++X.data.toList).toArray⟩:=by
 apply ByteArray.ext
 simp [ByteArray.data_append]
theorem zch (A:ByteArray):A.data.toList.length=A.size:=by rw [Array.length_toList];rfl
theorem rv_at (t A X:ByteArray) (n:Nat) (hn:n<=1000000000) (ht:t=A++⟨(vtext n).toArray⟩++X):rvGo (fun i=>byt t (A.size+i)) (t.size - A.size) 5 0=some (n,(vtext n).length):=by
 have h:=zmA n hn A.data.toList X.data.toList;rw [<-ba_cat,<-ht,zch] at h;exact h
theorem zif (b:Nat->Nat) (len n c:Nat):∀f j,rvGo b len f j=some (n,c)->(∀i,i<j->128<=b i)->∃k,c=k+1/\k<f+j/\k<len/\n=accN b (k+1)/\n<=1000000000/\b k<128/\(b k≠0\/k=0)/\∀i,i<k->128<=b i
 | 0,j,h,_=>by simp [rvGo] at h
 | f+1,j,h,hi=>by
  rw [rvGo] at h
  split at h
  ·next hl=>
   split at h
   ·next hb=>
    split at h
    ·next h2=>
     simp at h
     exact ⟨j,by omega,by omega,hl,h.1.symm,by rw [<-h.1];exact h2.1,hb,h2.2,hi⟩
    ·cases h
   ·next hb=>
    obtain ⟨k,h1,h2,h3⟩:=zif b len n c f (j+1) h (fun i hlt=>by
     by_cases e:i=j
     ·subst e;omega
     ·exact hi i (by omega))
    exact ⟨k,h1,by omega,h3⟩
  ·cases h
theorem rv_back (t:ByteArray) (p n c:Nat) (h:rvGo (fun i=>byt t (p+i)) (t.size - p) 5 0=some (n,c)):1<=c/\p+c<=t.size/\n<=1000000000/\t.extract p (p+c)=⟨(vtext n).toArray⟩:=by
 obtain ⟨k,rfl,hk,hl,hn,hn2,hb,h2,hi⟩:=zif _ _ _ _ 5 0 h (fun i hlt=>by omega)
 refine ⟨by omega,by omega,hn2,?_⟩
 have he:=zcN t p (k+1) (by omega)
 have hv:=(zi6 k (fun i=>byt t (p+i)) (by omega) (fun i=>zeg _ _) hi hb).2 h2
 rw [<-hn] at hv;rw [<-hv] at he
 apply ByteArray.ext
 rw [<-he]
def shortB (s:ByteArray):ByteArray:=⟨(vtext s.size).toArray⟩++s
theorem zbe (n:Nat):(⟨(vtext n).toArray⟩:ByteArray).size=(vtext n).length:=List.size_toArray
def rdV (t:ByteArray) (p:Nat):Option (Nat×Nat):=(rvGo (fun i=>byt t (p+i)) (t.size - p) 5 0).map fun x=>(x.1,p+x.2)
def rdS (t:ByteArray) (p:Nat):Option (ByteArray×Nat):=(rdV t p).bind fun x=>if x.1<=20000/\x.1<=t.size - x.2 then some (t.extract x.2 (x.2+x.1),x.2+x.1) else none
theorem zhA {t:ByteArray} {p:Nat} (h:t.size<p):rdV t p=none:=by
 rw [rdV,show t.size - p=0 from by omega]
 simp [rvGo]
theorem zjK {t:ByteArray} {p:Nat} (h:t.size<p):rdS t p=none:=by rw [rdS,zhA h];rfl
theorem zg9 (A B:ByteArray) (X:ByteArray):(A++B++X).extract A.size (A.size+B.size)=B:=by
 apply ByteArray.ext
 apply Array.toList_inj.1
 rw [Lib.extract_data]
 simp only [ByteArray.data_append,Array.toList_append]
 rw [<-zch A,<-zch B,List.append_assoc,List.drop_left,Nat.add_sub_cancel_left,List.take_left]
theorem zbA (t:ByteArray) (p q r:Nat) (h1:p<=q) (h2:q<=r):t.extract p r=t.extract p q++t.extract q r:=by
 apply ByteArray.ext
 apply Array.toList_inj.1
 rw [ByteArray.data_append,Array.toList_append,Lib.extract_data,Lib.extract_data,Lib.extract_data]
 rw [show r - p=(q - p)+(r - q) from by omega,List.take_add,List.drop_drop,show p+(q - p)=q from by omega]
theorem zlf (t A X:ByteArray) (n:Nat) (hn:n<=1000000000) (ht:t=A++⟨(vtext n).toArray⟩++X):rdV t A.size=some (n,(A++⟨(vtext n).toArray⟩).size):=by
 rw [rdV,rv_at t A X n hn ht,ByteArray.size_append,zbe];rfl
theorem zcs {t:ByteArray} {p n q:Nat} (h:rdV t p=some (n,q)):p<q/\q<=t.size/\n<=1000000000/\t.extract p q=⟨(vtext n).toArray⟩:=by
 rw [rdV,Option.map_eq_some_iff] at h;obtain ⟨⟨m,c⟩,h1,h2⟩:=h
 simp at h2
 obtain ⟨h3,h4,h5,h6⟩:=rv_back t p m c h1;obtain ⟨rfl,rfl⟩:=h2
 exact ⟨by omega,h4,h5,h6⟩
theorem zlg (t A x X:ByteArray) (hx:x.size<=20000) (ht:t=A++shortB x++X):rdS t A.size=some (x,(A++shortB x).size):=by
 have h1:=zlf t A (x++X) x.size (by omega) (by rw [ht,shortB];simp only [ByteArray.append_assoc])
 have h2:t=(A++⟨(vtext x.size).toArray⟩)++x++X:=by rw [ht,shortB];simp only [ByteArray.append_assoc]
 have hsz:t.size=(A++⟨(vtext x.size).toArray⟩).size+x.size+X.size:=by rw [h2,ByteArray.size_append,ByteArray.size_append]
 have h3:=zg9 (A++⟨(vtext x.size).toArray⟩) x X;rw [<-h2] at h3;rw [rdS,h1]
 simp only [Option.bind_some]
 rw [if_pos ⟨hx,by omega⟩,h3,shortB,<-ByteArray.append_assoc,ByteArray.size_append (b:=x)]
theorem zbf {t x:ByteArray} {p q:Nat} (h:rdS t p=some (x,q)):p<q/\q<=t.size/\x.size<=20000/\t.extract p q=shortB x:=by
 rw [rdS,Option.bind_eq_some_iff] at h;obtain ⟨⟨n,r⟩,h1,h2⟩:=h;obtain ⟨h3,h4,h5,h6⟩:=zcs h1
 simp only at h2
 split at h2
 ·next hc=>
  simp at h2
  obtain ⟨h7,h8⟩:=h2
  have hs:x.size=n:=by rw [<-h7,ByteArray.size_extract];omega
  refine ⟨by omega,by omega,by omega,?_⟩
  rw [zbA t p r q (by omega) (by omega),h6,shortB,hs,<-h7,<-h8]
 ·cases h2
open Go.RowKit
def keyB (ks:List ByteArray) (i:Nat):Bool:=decide ((ks.getD i ⟨#[]⟩).size<=24) && (decide (i=0) || Op.bytesLess (ks.getD (i - 1) ⟨#[]⟩).toList (ks.getD i ⟨#[]⟩).toList)
def kidB (cs:List Int) (i:Nat):Bool:=decide (2<=cs.getD i 0/\cs.getD i 0<=39) && decide (∀j,j<i->cs.getD j 0≠cs.getD i 0)
def cntB (lf:Bool) (nk nv nc:Nat):Bool:=decide (1<=nk/\nk<=4) && (if lf=true then decide (nv=nk/\nc=0) else decide (nc=nk/\nv=0))
def nodeOkB (lf:Bool) (ks vs:List ByteArray) (cs:List Int):Bool:=
 cntB lf ks.length vs.length cs.length && decide (∀i,i<ks.length->keyB ks i=true) && decide (∀i,i<vs.length->(vs.getD i ⟨#[]⟩).size<=24) && decide (∀i,i<cs.length->kidB cs i=true)
theorem zcS {lf:Bool} {ks vs:List ByteArray} {cs:List Int} (h:cntB lf ks.length vs.length cs.length=false):nodeOkB lf ks vs cs=false:=by
 rw [nodeOkB,h];rfl
theorem zfK {lf:Bool} {ks vs:List ByteArray} {cs:List Int} {i:Nat} (hi:i<ks.length) (h:keyB ks i=false):nodeOkB lf ks vs cs=false:=by
 have:decide (∀i,i<ks.length->keyB ks i=true)=false:=decide_eq_false (fun hh=>by rw [hh i hi] at h;cases h)
 rw [nodeOkB,this];simp
theorem zjL {lf:Bool} {ks vs:List ByteArray} {cs:List Int} {i:Nat} (hi:i<vs.length) (h:24<(vs.getD i ⟨#[]⟩).size):nodeOkB lf ks vs cs=false:=by
 have:decide (∀i,i<vs.length->(vs.getD i ⟨#[]⟩).size<=24)=false:=decide_eq_false (fun hh=>by have:=hh i hi;omega)
 rw [nodeOkB,this];simp
theorem zhB {lf:Bool} {ks vs:List ByteArray} {cs:List Int} {i:Nat} (hi:i<cs.length) (h:kidB cs i=false):nodeOkB lf ks vs cs=false:=by
 have:decide (∀i,i<cs.length->kidB cs i=true)=false:=decide_eq_false (fun hh=>by rw [hh i hi] at h;cases h)
 rw [nodeOkB,this];simp
theorem zfL {lf:Bool} {ks vs:List ByteArray} {cs:List Int} (h0:cntB lf ks.length vs.length cs.length=true) (h1:∀i,i<ks.length->keyB ks i=true) (h2:∀i,i<vs.length->(vs.getD i ⟨#[]⟩).size<=24) (h3:∀i,i<cs.length->kidB cs i=true):nodeOkB lf ks vs cs=true:=by
 rw [nodeOkB,h0,decide_eq_true h1,decide_eq_true h2,decide_eq_true h3];rfl
theorem zam {lf:Bool} {ks vs:List ByteArray} {cs:List Int} (h:nodeOkB lf ks vs cs=true):cntB lf ks.length vs.length cs.length=true/\(∀i,i<ks.length->keyB ks i=true)/\(∀i,i<vs.length->(vs.getD i ⟨#[]⟩).size<=24)/\∀i,i<cs.length->kidB cs i=true:=by
 rw [nodeOkB] at h
 simp only [Bool.and_eq_true,decide_eq_true_eq] at h
 exact ⟨h.1.1.1,h.1.1.2,h.1.2,h.2⟩
theorem zaX {lf:Bool} {nk nv nc:Nat} (h:cntB lf nk nv nc=true):1<=nk/\nk<=4/\(lf=true->nv=nk/\nc=0)/\(lf=false->nc=nk/\nv=0):=by
 unfold cntB at h;rw [Bool.and_eq_true,decide_eq_true_eq] at h
 refine ⟨h.1.1,h.1.2,fun e=> ?_,fun e=> ?_⟩
 ·have:=h.2;rw [if_pos e,decide_eq_true_eq] at this;exact this
 ·have:=h.2;rw [if_neg (by rw [e];decide),decide_eq_true_eq] at this;exact this
def headB (lf:Bool):ByteArray:=if lf=true then ⟨#[108]⟩ else ⟨#[98]⟩
def sideT (lf:Bool) (vs:List ByteArray) (cs:List Int) (i:Nat):ByteArray:=if lf=true then shortB (vs.getD i ⟨#[]⟩) else ⟨(vtext (cs.getD i 0).toNat).toArray⟩
def nodeP (lf:Bool) (cnt:Nat) (ks vs:List ByteArray) (cs:List Int):Nat->ByteArray
 | 0=>headB lf++⟨(vtext cnt).toArray⟩
 | k+1=>nodeP lf cnt ks vs cs k++shortB (ks.getD k ⟨#[]⟩)++sideT lf vs cs k
def nodeB (lf:Bool) (ks vs:List ByteArray) (cs:List Int):ByteArray:=nodeP lf ks.length ks vs cs ks.length
theorem zaN (s:ByteArray):(shortB s).size<=s.size+5:=by
 have h:=(zau s.size).2;rw [shortB,ByteArray.size_append,zbe]
 omega
theorem zbQ {ks:List ByteArray} {i:Nat} (h:keyB ks i=true):(ks.getD i ⟨#[]⟩).size<=24:=by
 rw [keyB,Bool.and_eq_true,decide_eq_true_eq] at h;exact h.1
theorem zdF {cs:List Int} {i:Nat} (h:kidB cs i=true):2<=cs.getD i 0/\cs.getD i 0<=39:=by
 rw [kidB,Bool.and_eq_true,decide_eq_true_eq] at h;exact h.1
theorem zc8 (lf:Bool):(headB lf).size=1:=by cases lf <;> rfl
theorem zf2 {lf:Bool} {ks vs:List ByteArray} {cs:List Int} (h:nodeOkB lf ks vs cs=true) {i:Nat} (hi:i<ks.length):(sideT lf vs cs i).size<=29:=by
 obtain ⟨h0,h1,h2,h3⟩:=zam h;obtain ⟨c1,c2,c3,c4⟩:=zaX h0;unfold sideT
 split
 ·next e=>
  have:=zaN (vs.getD i ⟨#[]⟩)
  have:=h2 i (by have:=(c3 e).1;omega)
  omega
 ·rw [zbe]
  have:=(zau (cs.getD i 0).toNat).2
  omega
theorem zc9 {lf:Bool} {ks vs:List ByteArray} {cs:List Int} (h:nodeOkB lf ks vs cs=true):∀k,k<=ks.length->(nodeP lf ks.length ks vs cs k).size<=6+58 * k
 | 0,_=>by
  rw [nodeP,ByteArray.size_append,zc8,zbe];have:=(zau ks.length).2
  omega
 | k+1,hk=>by
  have ih:=zc9 h k (by omega)
  have h1:=zf2 h (show k<ks.length by omega)
  have h2:=zaN (ks.getD k ⟨#[]⟩)
  have h3:=zbQ ((zam h).2.1 k (by omega))
  rw [nodeP,ByteArray.size_append,ByteArray.size_append]
  omega
theorem zdG {lf:Bool} {ks vs:List ByteArray} {cs:List Int} (h:nodeOkB lf ks vs cs=true):(nodeB lf ks vs cs).size<=238/\2<=(nodeB lf ks vs cs).size:=by
 have h1:=zc9 h ks.length (Nat.le_refl _);obtain ⟨c1,c2,-,-⟩:=zaX (zam h).1
 refine ⟨by unfold nodeB;omega,?_⟩
 have mono:∀k,2<=(nodeP lf ks.length ks vs cs k).size:=by
  intro k
  induction k with
  | zero=>
   rw [nodeP,ByteArray.size_append,zc8,zbe];have:=(zau ks.length).1
   omega
  | succ k ih=>rw [nodeP,ByteArray.size_append,ByteArray.size_append];omega
 exact mono _
def nodeT (lf:Bool) (ks vs:List ByteArray) (cs:List Int):ByteArray:=⟨(sealL (nodeB lf ks vs cs).data.toList).toArray⟩
def nodeO (lf:Bool) (ks vs:List ByteArray) (cs:List Int):ByteArray:=if nodeOkB lf ks vs cs=true then nodeT lf ks vs cs else ⟨#[]⟩
def placeK (ks:List ByteArray) (key:ByteArray):Nat->Int
 | 0=> -1
 | k+1=>if (Op.bytesLess (ks.getD k ⟨#[]⟩).toList key.toList || (ks.getD k ⟨#[]⟩).toList ==key.toList)=true then (k:Int) else placeK ks key k
end Go.Proofs.YtcbogiebfbbmbaaGreatDoor
