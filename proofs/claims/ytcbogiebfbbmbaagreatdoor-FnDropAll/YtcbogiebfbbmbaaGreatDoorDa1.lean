/-
  Facts and contracts that the law's own text rests on, by their texts' names: Plain1, Own, Row, PutRow, Plain2, Plain3, Frame, IntRow, Node, DiskN, EnvN, IntOwn, Work, Var, Plain9, DiskSpecN, AppRow, DiskCopyN, StepCall.
-/
import Derived.Lib.UnsafeStr
import Derived.WalkKit
import Derived.Laws.BytesArg
import Derived.Laws.IdiomStrings
import Derived.OwnWalk
import Derived.Test.YtcbogiebfbbmbaaGreatDoorProg
import Derived.Below
import Derived.BigQuiet
import Derived.Deep.LoopGhost
import Derived.Deep.QuietTactic
import Derived.Laws.OwnMore
import Derived.Outline
import Derived.WalkSmall
import Derived.WalkSpells
import Derived.Deep.RegionHeld3
import Derived.Laws.Concat
import Derived.Deep.AppendLies
import Derived.Deep.RegionLaw
set_option maxHeartbeats 16000000
set_option maxRecDepth 100000
namespace Go.Proofs.YtcbogiebfbbmbaaGreatDoor
open Go.RowKit
theorem hide {p:Prop} (h:p):Hid p:=h
def venc:Nat->Nat->List UInt8
 | 0,n=> [UInt8.ofNat n]
 | f+1,n=>if n<128 then [UInt8.ofNat n] else UInt8.ofNat (n % 128+128) :: venc f (n / 128)
def vtext (n:Nat):List UInt8:=venc 4 n
theorem zcA (f n:Nat) (h:n<128):venc f n= [UInt8.ofNat n]:=by
 cases f with
 | zero=>rfl
 | succ f=>simp [venc,h]
theorem zi4 (f n:Nat) (h:128<=n) (hf:n<128 ^ (f+1)):
  ∃g,f=g+1/\n / 128<128 ^ (g+1)/\venc f n=UInt8.ofNat (n % 128+128) :: venc g (n / 128):=by
 cases f with
 | zero=>simp at hf;omega
 | succ g=>
  refine ⟨g,rfl,?_,?_⟩
  ·rw [Nat.pow_succ] at hf
   exact Nat.div_lt_of_lt_mul (by rw [Nat.mul_comm];exact hf)
  ·simp [venc,Nat.not_lt.2 h]
theorem zj2 (f n:Nat):1<=(venc f n).length/\(venc f n).length<=f+1:=by
 induction f generalizing n with
 | zero=>simp [venc]
 | succ f ih=>
  unfold venc
  split
  ·simp
  ·have:=ih (n / 128)
   simp;omega
theorem zau (n:Nat):1<=(vtext n).length/\(vtext n).length<=5:=zj2 4 n
theorem zbL (k:Nat) (h:k<256):(UInt8.ofNat k).toNat=k:=by
 simp [UInt8.toNat_ofNat'];omega
theorem zdA (l:List UInt8) (k:Nat) (h:k<256):Lib.byteCells l++ [Value.int .u8 (k:Int)]=Lib.byteCells (l++ [UInt8.ofNat k]):=by
 simp [Lib.byteCells];omega
theorem pow5 (n:Nat) (h:n<=1000000000):n<128 ^ (4+1):=by
 simp;omega
theorem yA {α : Type} (l : List α) (i : Nat) (a : α) : l.toArray.setIfInBounds i a = (l.set i a).toArray := List.setIfInBounds_toArray l i a
theorem yB {α : Type} {x : α} {xs : List α} {a : α} : (x :: xs).set 0 a = a :: xs := List.set_cons_zero
theorem yC {α : Type} {x : α} {xs : List α} {i : Nat} {a : α} : (x :: xs).set (i + 1) a = x :: xs.set i a := List.set_cons_succ
open Go.RowKit
theorem zdB {P:Program} {w:World} {B src dst e:TypeId} {v:Value} {l:List UInt8} (hs:P.underlying src=some (.slice e)) (he:P.underlying e=some (.int .u8)) (hd:P.underlying dst=some .string)
  (hown:w.ownsRow B e 1 v l.length (Lib.byteCells l)):(convert src dst v).run P w= .ok (.string ⟨l.toArray⟩) w:=by
 rcases hown.2 with ⟨rfl,h0⟩ | ⟨g,cap,cur,rfl,-,-,-,-,-,-⟩
 ·rw [run_convert_bytes_nil w src e hs he 0 0 dst hd]
  obtain rfl:l= []:=List.length_eq_zero_iff.1 h0
  rfl
 ·exact run_convert_bytes_back (P:=P) w src dst e ⟨g,0,none⟩ cap l hs he hd (fun j hj=>hown.cells (g:=g) rfl j _ (by simp [Lib.byteCells,hj]))
theorem below_grow {B:Nat} {w wr w0 w1:World} {v:Value} {n:Nat} {xs:List Value} {e sz:Nat} (hb:Below B w wr) (hB:B<=wr.heap.size) (hown:wr.ownsRow B e sz v n xs) (h0:Below B wr w0) (hg:w0.grownBy w1 v.ownBlock):Below B w w1:=
 (hb.trans h0).grown hg (by have:=h0.size;omega) (fun k hk=>(hown.lt k hk).1)
open Go.RowKit
def RowAt (w:World) (sz:Nat) (v:Value) (n:Nat) (xs:List Value):Prop:=
 xs.length=n * sz/\∃a cap,v= .slice a n cap/\(n=0\/∃b off,a=some ⟨b,off,none⟩/\b<w.heap.size/\∀j,j<n * sz->w.cell? ⟨b,off+j,none⟩=xs[j]?)
theorem za8 {w w':World} {sz n:Nat} {v:Value} {xs:List Value} (h:RowAt w sz v n xs) (hb:Below w.heap.size w w'):RowAt w' sz v n xs:=by
 obtain ⟨hl,a,cap,hv,h2⟩:=h;refine ⟨hl,a,cap,hv,h2.imp id ?_⟩;rintro ⟨b,off,e,hlt,hc⟩
 exact ⟨b,off,e,Nat.lt_of_lt_of_le hlt hb.size,fun j hj=>by rw [hb.cell (by exact hlt)];exact hc j hj⟩
theorem zaa {w:World} {B e sz n:Nat} {v:Value} {xs:List Value} (h:w.ownsRow B e sz v n xs):RowAt w sz v n xs:=by
 refine ⟨h.1,?_⟩
 rcases h.2 with ⟨rfl,rfl⟩ | ⟨g,cap,cur,rfl,hg,hh,rest⟩
 ·exact ⟨none,0,rfl,Or.inl rfl⟩
 ·exact ⟨_,_,rfl,Or.inr ⟨g,0,rfl,(h.lt g rfl).2,fun j hj=>by rw [Nat.zero_add];exact h.cellAt j hj⟩⟩
theorem zaf {w w':World} {B e sz n:Nat} {v:Value} {xs:List Value} (h:w.ownsRow B e sz v n xs) (hb:Below w.heap.size w w'):w'.ownsRow B e sz v n xs:=by
 refine ⟨h.1,?_⟩
 rcases h.2 with ⟨rfl,hn⟩ | ⟨g,cap,cur,rfl,hg,hh,rest⟩
 ·exact Or.inl ⟨rfl,hn⟩
 ·have hlt:g<w.heap.size:=(h.lt g rfl).2
  exact Or.inr ⟨g,cap,cur,rfl,hg,(hb.block g hlt).trans hh,rest⟩
theorem zad {w:World} {B B' e sz n:Nat} {v:Value} {xs:List Value} (h:w.ownsRow B e sz v n xs) (hb:B'<=B):w.ownsRow B' e sz v n xs:=by
 refine ⟨h.1,?_⟩
 rcases h.2 with h0 | ⟨g,cap,cur,e1,hg,rest⟩
 ·exact Or.inl h0
 ·exact Or.inr ⟨g,cap,cur,e1,Nat.le_trans hb hg,rest⟩
def strs (l:List ByteArray):List Value:=l.map Value.string
theorem zaP (l:List ByteArray) (k:Nat) (h:k<l.length):(strs l)[k]?=some (.string l[k]):=by simp [strs,h]
theorem Tryz.infoStrR:(Tryz.prog.info? 9).map (fun i=>(i.zero,i.size,i.bytes))=some (some (.string ⟨#[]⟩),1,16):=by kernel_rfl
theorem zl7 (n:Nat):(madeCells #[Value.string ⟨#[]⟩] n).toList=strs (List.replicate n ⟨#[]⟩):=by simp [toList_madeCells_one,strs]
theorem own_n {w:World} {B e sz n m:Nat} {v:Value} {xs ys:List Value} (h:w.ownsRow B e sz v n xs) (hm:n=m) (hx:xs=ys):w.ownsRow B e sz v m ys:=by subst hm hx;exact h
theorem ba_beq (x y:ByteArray):(x.toList ==y.toList)=decide (x=y):=by
 rw [ByteArray.toList_eq,ByteArray.toList_eq]
 by_cases h:x=y
 ·subst h;simp
 ·have hne:¬x.data.toList=y.data.toList:=fun e=>h (ByteArray.ext (Array.toList_inj.1 e))
  rw [decide_eq_false h]
  simpa using hne
open Go.RowKit
def puts (l:List (Int×ByteArray)):List Value:=l.flatMap fun p=> [.int .i64 p.1,.string p.2]
theorem zcy (l:List (Int×ByteArray)):∀k (h:k<l.length),(puts l)[k * 2]?=some (.int .i64 l[k].1)/\(puts l)[k * 2+1]?=some (.string l[k].2):=by
 induction l with
 | nil=>intro k h;simp at h
 | cons p l ih=>
  intro k h;have e:puts (p :: l)= [Value.int .i64 p.1,.string p.2]++puts l:=rfl;rw [e]
  cases k with
  | zero=>exact ⟨rfl,rfl⟩
  | succ k=>
   have:=ih k (by simpa using h)
   rw [List.getElem?_append_right (by simp;omega),List.getElem?_append_right (by simp;omega)]
   simp only [List.length_cons,List.length_nil,List.getElem_cons_succ]
   rw [show (k+1) * 2 - (0+1+1)=k * 2 from by omega,show (k+1) * 2+1 - (0+1+1)=k * 2+1 from by omega]
   exact this
theorem Tryz.infoPut:(Tryz.prog.info? 90).map (fun i=>(i.zero,i.size,i.bytes))=some (some (.agg #[.int .i64 0,.string ⟨#[]⟩]),2,24):=by kernel_rfl
open Go.RowKit
def byt (s:ByteArray) (i:Nat):Nat:=if h:i<s.size then s[i].toNat else 0
theorem zeg (s:ByteArray) (i:Nat):byt s i<256:=by
 unfold byt
 split
 ·exact UInt8.toNat_lt _
 ·omega
theorem zd8 (s:ByteArray) (i:Nat) (h:i<s.size):s[i].toNat=byt s i:=by simp [byt,h]
def accN (b:Nat->Nat):Nat->Nat
 | 0=>0
 | j+1=>accN b j+b j % 128 * 128 ^ j
theorem zj3 (b:Nat->Nat) (j:Nat):accN b j<128 ^ j:=by
 induction j with
 | zero=>simp [accN]
 | succ j ih=>
  have h1:b j % 128 * 128 ^ j<=127 * 128 ^ j:=Nat.mul_le_mul_right _ (by omega)
  simp only [accN,Nat.pow_succ]
  omega
theorem zky (b:Nat->Nat) (j:Nat):accN b (j+1)=b 0 % 128+128 * accN (fun i=>b (i+1)) j:=by
 induction j with
 | zero=>simp [accN]
 | succ j ih=>
  rw [accN,ih]
  simp only [accN,Nat.mul_add,Nat.pow_succ]
  have:b (j+1) % 128 * (128 ^ j * 128)=128 * (b (j+1) % 128 * 128 ^ j):=by
   rw [<-Nat.mul_assoc,Nat.mul_comm]
  omega
def rvGo (b:Nat->Nat) (len:Nat):Nat->Nat->Option (Nat×Nat)
 | 0,_=>none
 | f+1,j=>if j<len then (if b j<128 then (if accN b (j+1)<=1000000000/\(b j≠0\/j=0) then some (accN b (j+1),j+1) else none) else rvGo b len f (j+1)) else none
def bytesTo (b:Nat->Nat):Nat->List UInt8
 | 0=> []
 | j+1=>UInt8.ofNat (b 0) :: bytesTo (fun i=>b (i+1)) j
theorem zgR (b:Nat->Nat) (j:Nat):(bytesTo b j).length=j:=by
 induction j generalizing b with
 | zero=>rfl
 | succ j ih=>simp [bytesTo,ih]
theorem zi5 (b:Nat->Nat) (j:Nat):bytesTo b (j+1)=bytesTo b j++ [UInt8.ofNat (b j)]:=by
 induction j generalizing b with
 | zero=>rfl
 | succ j ih=>rw [bytesTo,ih];rfl
theorem zmv (b:Nat->Nat) (j:Nat) (hl:b j<128) (h:b j≠0):1<=accN b (j+1):=by
 have:1<=b j % 128 * 128 ^ j:=Nat.mul_pos (by omega) (Nat.pow_pos (by omega))
 simp only [accN]
 omega
theorem zkz (f j:Nat) (b:Nat->Nat) (hjf:j<=f) (hb:∀i,b i<256) (hi:∀i,i<j->128<=b i) (hl:b j<128) (h:b j≠0\/j=0):
  venc f (accN b (j+1))=bytesTo b (j+1):=by
 induction j generalizing b f with
 | zero=>
  have e:accN b (0+1)=b 0:=by simp [accN];omega
  rw [e,zcA _ _ hl];rfl
 | succ j ih=>
  cases f with
  | zero=>omega
  | succ f=>
   have hp:=zmv (fun i=>b (i+1)) j hl (by omega)
   have h0:=hi 0 (by omega)
   have hb0:=hb 0
   rw [zky,venc,if_neg (by omega)]
   have e1:(b 0 % 128+128 * accN (fun i=>b (i+1)) (j+1)) % 128+128=b 0:=by omega
   have e2:(b 0 % 128+128 * accN (fun i=>b (i+1)) (j+1)) / 128=accN (fun i=>b (i+1)) (j+1):=by omega
   rw [e1,e2,ih f (fun i=>b (i+1)) (by omega) (fun i=>hb _) (fun i h=>hi _ (by omega)) hl (by omega)]
   rfl
theorem zkA (f n j:Nat) (hj:1<=j) (h:n<128 ^ j):(venc f n).length<=j:=by
 induction j generalizing f n with
 | zero=>omega
 | succ j ih=>
  cases f with
  | zero=>simp [venc]
  | succ f=>
   unfold venc
   split
   ·simp
   ·rename_i hn
    have hq:n / 128<128 ^ j:=by
     rw [Nat.pow_succ] at h
     exact Nat.div_lt_of_lt_mul (by rw [Nat.mul_comm];exact h)
    have hj1:1<=j:=by
     cases j with
     | zero=>simp at hq;omega
     | succ j=>omega
    have:=ih f (n / 128) hj1 hq
    simp;omega
theorem zi6 (j:Nat) (b:Nat->Nat) (hj:j<=4) (hb:∀i,b i<256) (hi:∀i,i<j->128<=b i) (hl:b j<128):
  vtext (accN b (j+1))=bytesTo b (j+1)↔(b j≠0\/j=0):=by
 constructor
 ·intro e
  by_cases h:b j≠0\/j=0
  ·exact h
  ·exfalso
   have h0:b j=0:=by omega
   have hj1:1<=j:=by omega
   have e1:accN b (j+1)=accN b j:=by simp [accN,h0]
   have h2:=zkA 4 (accN b (j+1)) j hj1 (by rw [e1];exact zj3 b j)
   have h3:=congrArg List.length e;rw [zgR] at h3;unfold vtext at h3
   omega
 ·exact zkz 4 j b hj hb hi hl
theorem pow_7 (j:Nat):(2:Int) ^ (7 * j)=((128 ^ j:Nat):Int):=by
 rw [Int.pow_mul];norm_cast
theorem zfH (y j:Nat) (hj:j<5):y % 128 * 128 ^ j<=34091302912:=by
 have h1:128 ^ j<=128 ^ 4:=Nat.pow_le_pow_right (by omega) (by omega)
 have h2:y % 128 * 128 ^ j<=127 * 128 ^ 4:=Nat.mul_le_mul (by omega) h1
 simpa using h2
theorem zi7 (b:Nat->Nat) (len j:Nat) (hj:j<5) (hl:j<len) (h:128<=b j):rvGo b len (5 - (j+1)) (j+1)=rvGo b len (5 - j) j:=by
 have e:5 - j=(5 - (j+1))+1:=by omega
 rw [e,rvGo,if_pos hl,if_neg (by omega)]
theorem zfI (b:Nat->Nat) (len j:Nat) (h:j=5\/len<=j):rvGo b len (5 - j) j=none:=by
 cases e:5 - j with
 | zero=>rfl
 | succ f=>rw [rvGo,if_neg (by omega)]
theorem zht (b:Nat->Nat) (len j:Nat) (hj:j<5) (hl:j<len) (h:b j<128) (h1:accN b (j+1)<=1000000000) (h2:b j≠0\/j=0):rvGo b len (5 - j) j=some (accN b (j+1),j+1):=by
 have e:5 - j=(5 - (j+1))+1:=by omega
 rw [e,rvGo,if_pos hl,if_pos h,if_pos ⟨h1,h2⟩]
theorem zeh (b:Nat->Nat) (len j:Nat) (hj:j<5) (hl:j<len) (h:b j<128) (h1:¬(accN b (j+1)<=1000000000/\(b j≠0\/j=0))):rvGo b len (5 - j) j=none:=by
 have e:5 - j=(5 - (j+1))+1:=by omega
 rw [e,rvGo,if_pos hl,if_pos h,if_neg h1]
theorem zl8 (j:Nat) (hj:j<=5):128 ^ j<=34359738368:=by
 have h1:128 ^ j<=128 ^ 5:=Nat.pow_le_pow_right (by omega) (by omega)
 simpa using h1
theorem zaC (n:Int) (h0:0<=n) (h1:n<=9223372036854775807):wrap64 n=n:=IntWalk.wrap64_in n ⟨by omega,by omega⟩
theorem zj4 (y j X Z:Nat) (hj:j<5) (h:X=y % 128 * 128 ^ j) (hZ:Z=128 ^ j):wrap64 ((y:Int) % 128 * (Z:Int))=(X:Int):=by
 have e:((y:Int) % 128 * (Z:Int))=(X:Int):=by
  rw [hZ,h];norm_cast
 have:=zfH y j hj
 rw [e,zaC _ (by omega) (by omega)]
theorem zkB (y j X:Nat) (hj:j<5) (h:X=y % 128 * 128 ^ j):wrap64 ((y:Int) % 128 * 2 ^ (7 * j))=(X:Int):=by
 have e:((y:Int) % 128 * 2 ^ (7 * j))=(X:Int):=by
  rw [pow_7,h];norm_cast
 have:=zfH y j hj
 rw [e,zaC _ (by omega) (by omega)]
theorem zcN (s:ByteArray) (p n:Nat) (h:p+n<=s.size):(s.extract p (p+n)).data.toList=bytesTo (fun i=>byt s (p+i)) n:=by
 induction n with
 | zero=>simp [bytesTo]
 | succ n ih=>
  rw [zi5,<-ih (by omega)]
  have hsz:s.data.toList.length=s.size:=by rw [Array.length_toList];rfl
  have h1:p+n<s.data.toList.length:=by omega
  rw [ByteArray.data_extract,ByteArray.data_extract,Array.toList_extract,Array.toList_extract]
  have e:s.data.toList[p+n]=UInt8.ofNat (byt s (p+n)):=by
   rw [<-zd8 s (p+n) (by omega)]
   simp
   rfl
  simp only [List.extract_eq_take_drop]
  have e2:p+(n+1) - p=n+1:=by omega
  have e3:p+n - p=n:=by omega
  rw [e2,e3,List.take_succ_eq_append_getElem (by rw [List.length_drop];omega)]
  congr 1
  simp [<-e]
open Go.RowKit
theorem zjG (s:ByteArray) (k:Nat) (h:k<s.size):s.data.toList.take (k+1)=s.data.toList.take k++ [UInt8.ofNat (byt s k)]:=by
 have hl:k<s.data.toList.length:=by rw [Array.length_toList];exact h
 rw [List.take_succ_eq_append_getElem hl]
 congr 2
 rw [<-zd8 s k h]
 simp
 rfl
open Go.RowKit
def Kept (w w':World) (S:Nat->Prop):Prop:=w'.os=w.os/\w'.tape=w.tape/\w'.output=w.output/\w.heap.size<=w'.heap.size/\∀k,k<w.heap.size->¬S k->w'.heap[k]?=w.heap[k]?
theorem kept_refl (w:World) (S:Nat->Prop):Kept w w S:=⟨rfl,rfl,rfl,Nat.le_refl _,fun _ _ _=>rfl⟩
theorem kept_trans {a b c:World} {S T:Nat->Prop} (h:Kept a b S) (k:Kept b c T) (hT:∀j,j<a.heap.size->T j->S j):Kept a c S:=
 ⟨k.1.trans h.1,k.2.1.trans h.2.1,k.2.2.1.trans h.2.2.1,Nat.le_trans h.2.2.2.1 k.2.2.2.1,fun j hj hn=>(k.2.2.2.2 j (Nat.lt_of_lt_of_le hj h.2.2.2.1) (fun t=>hn (hT j hj t))).trans (h.2.2.2.2 j hj hn)⟩
theorem zi8 {a b:World} {S T:Nat->Prop} (h:Kept a b S) (hT:∀j,j<a.heap.size->S j->T j):Kept a b T:=
 ⟨h.1,h.2.1,h.2.2.1,h.2.2.2.1,fun j hj hn=>h.2.2.2.2 j hj (fun s=>hn (hT j hj s))⟩
theorem ze1 {a b:World} (h:Below a.heap.size a b) (S:Nat->Prop):Kept a b S:=⟨h.os,h.tape,h.output,h.size,fun k hk _=>h.block k hk⟩
theorem zac {B:Nat} {a b:World} {S:Nat->Prop} (h:Kept a b S) (hB:B<=a.heap.size) (hS:∀k,S k->B<=k):Below B a b:=
 ⟨h.1,h.2.1,h.2.2.1,h.2.2.2.1,fun k hk=>h.2.2.2.2 k (by omega) (fun s=>by have:=hS k s;omega)⟩
theorem za9 (w:World) (g j:Nat) (u:Value):Kept w (w.setCell ⟨g,j,none⟩ u) (fun k=>k=g):=
 ⟨rfl,rfl,rfl,by simp,fun k _ hn=>heap_setCell_other w ⟨g,j,none⟩ k u hn⟩
theorem za6 {w w':World} {B e sz n:Nat} {v:Value} {xs:List Value} {S:Nat->Prop} (h:w.ownsRow B e sz v n xs) (hk:Kept w w' S) (hS:∀k,v.ownBlock=some k->¬S k):w'.ownsRow B e sz v n xs:=by
 refine ⟨h.1,?_⟩
 rcases h.2 with ⟨rfl,hn⟩ | ⟨g,cap,cur,rfl,hg,hh,rest⟩
 ·exact Or.inl ⟨rfl,hn⟩
 ·have hlt:g<w.heap.size:=(h.lt g rfl).2
  exact Or.inr ⟨g,cap,cur,rfl,hg,(hk.2.2.2.2 g hlt (hS g rfl)).trans hh,rest⟩
theorem zjH {w w':World} {sz n:Nat} {v:Value} {xs:List Value} {S:Nat->Prop} (h:RowAt w sz v n xs) (hk:Kept w w' S) (hS:n=0\/∀k,k<w.heap.size->v.ownBlock=some k->¬S k):RowAt w' sz v n xs:=by
 obtain ⟨hl,a,cap,rfl,h2⟩:=h;refine ⟨hl,a,cap,rfl,?_⟩
 rcases h2 with h0 | ⟨b,off,rfl,hlt,hc⟩
 ·exact Or.inl h0
 ·rcases hS with h0 | hS
  ·exact Or.inl h0
  ·refine Or.inr ⟨b,off,rfl,Nat.lt_of_lt_of_le hlt hk.2.2.2.1,fun j hj=> ?_⟩
   rw [World.cell?_of_block (hk.2.2.2.2 b hlt (hS b hlt rfl))];exact hc j hj
theorem zbt (w:World) (o:Obj) (k:Nat):(w.alloc o).heap[k]?=if k=w.heap.size then some o else w.heap[k]?:=by
 show (w.heap.push o)[k]?=_
 rw [Array.getElem?_push]
theorem zfm (w:World) (a b c:Obj):(((w.alloc a).alloc b).alloc c).heap[w.heap.size]?=some a/\(((w.alloc a).alloc b).alloc c).heap[w.heap.size+1]?=some b/\(((w.alloc a).alloc b).alloc c).heap[w.heap.size+1+1]?=some c/\(((w.alloc a).alloc b).alloc c).heap.size=w.heap.size+3:=by
 refine ⟨?_,?_,?_,by simp⟩
 ·rw [zbt,zbt,zbt];simp;omega
 ·rw [zbt,zbt];simp
 ·rw [zbt];simp
theorem zaE (w:World) (a b:Obj):((w.alloc a).alloc b).heap[w.heap.size]?=some a/\((w.alloc a).alloc b).heap[w.heap.size+1]?=some b/\((w.alloc a).alloc b).heap.size=w.heap.size+2:=by
 refine ⟨?_,?_,by simp⟩
 ·rw [zbt,zbt];simp
 ·rw [zbt];simp
theorem za0 {w:World} {g:Nat} {cs:Array Value} {t:TypeId} (h:w.heap[g]?=some (.cells cs t (0,0))) (j:Nat):w.cell? ⟨g,j,none⟩=cs[j]?/\w.frozen? ⟨g,j,none⟩=false:=
 ⟨cell_of_row w g j cs t (0,0) h,frozen_of_row w g j cs t h⟩
open Go.RowKit
def ints (l:List Int):List Value:=l.map (Value.int .i64)
theorem zcO (l:List Int):(ints l).length=l.length:=by simp [ints]
theorem ints_at (l:List Int) (k:Nat) (h:k<l.length):(ints l)[k]?=some (.int .i64 l[k]):=by simp [ints,h]
theorem Tryz.infoIntR:(Tryz.prog.info? 3).map (fun i=>(i.zero,i.size,i.bytes))=some (some (.int .i64 0),1,8):=by kernel_rfl
theorem ints_set (l:List Int) (k:Nat) (x:Int):(ints l).set k (.int .i64 x)=ints (l.set k x):=by rw [ints,ints,List.map_set]
theorem zei (l:List Int):∀y∈ints l,y.oneCell'=true:=fun y hy=>by
 obtain ⟨p,_,rfl⟩:=List.mem_map.1 hy
 rfl
open Go.RowKit
def NodeAt (w:World) (v:Value) (lf:Bool) (ks vs:List ByteArray) (cs:List Int):Prop:=
 ∃vk vv vc,v= .agg #[.bool lf,vk,vv,vc]/\RowAt w 1 vk ks.length (strs ks)/\RowAt w 1 vv vs.length (strs vs)/\RowAt w 1 vc cs.length (ints cs)
def NodeOwn (w:World) (B:Nat) (v:Value) (lf:Bool) (ks vs:List ByteArray) (cs:List Int):Prop:=
 ∃vk vv vc,v= .agg #[.bool lf,vk,vv,vc]/\w.ownsRow B 9 1 vk ks.length (strs ks)/\w.ownsRow B 9 1 vv vs.length (strs vs)/\w.ownsRow B 3 1 vc cs.length (ints cs)/\∀k,vk.ownBlock=some k->vv.ownBlock≠some k
theorem zbi {w:World} {B:Nat} {v:Value} {lf:Bool} {ks vs:List ByteArray} {cs:List Int} (h:NodeOwn w B v lf ks vs cs):NodeAt w v lf ks vs cs:=by
 obtain ⟨vk,vv,vc,e,h1,h2,h3,-⟩:=h;exact ⟨vk,vv,vc,e,zaa h1,zaa h2,zaa h3⟩
theorem zat {w w':World} {v:Value} {lf:Bool} {ks vs:List ByteArray} {cs:List Int} (h:NodeAt w v lf ks vs cs) (hb:Below w.heap.size w w'):NodeAt w' v lf ks vs cs:=by
 obtain ⟨vk,vv,vc,e,h1,h2,h3⟩:=h;exact ⟨vk,vv,vc,e,za8 h1 hb,za8 h2 hb,za8 h3 hb⟩
theorem zaV {w w':World} {B:Nat} {v:Value} {lf:Bool} {ks vs:List ByteArray} {cs:List Int} (h:NodeOwn w B v lf ks vs cs) (hb:Below w.heap.size w w'):NodeOwn w' B v lf ks vs cs:=by
 obtain ⟨vk,vv,vc,e,h1,h2,h3,h4⟩:=h;exact ⟨vk,vv,vc,e,zaf h1 hb,zaf h2 hb,zaf h3 hb,h4⟩
theorem za4 {w:World} {B e sz n:Nat} {v:Value} {xs:List Value} (h:w.ownsRow B e sz v n xs):∃a cap,v= .slice a n cap:=by
 obtain ⟨-,a,cap,e,-⟩:=zaa h;exact ⟨a,cap,e⟩
def nodeBlocks (v:Value) (k:Nat):Prop:=∃b vk vv vc,v= .agg #[b,vk,vv,vc]/\(vk.ownBlock=some k\/vv.ownBlock=some k\/vc.ownBlock=some k)
theorem agg4 {a b c d a' b' c' d':Value} (h:Value.agg #[a,b,c,d]= .agg #[a',b',c',d']):a=a'/\b=b'/\c=c'/\d=d':=by
 injection h with h
 have:=congrArg Array.toList h
 simp at this
 exact this
theorem zeS {w:World} {B:Nat} {v:Value} {lf:Bool} {ks vs:List ByteArray} {cs:List Int} (h:NodeOwn w B v lf ks vs cs):∀k,nodeBlocks v k->B<=k/\k<w.heap.size:=by
 obtain ⟨vk,vv,vc,rfl,h1,h2,h3,-⟩:=h;rintro k ⟨b,vk',vv',vc',e,hk⟩;obtain ⟨-,rfl,rfl,rfl⟩:=agg4 e
 rcases hk with hk | hk | hk
 ·exact h1.lt k hk
 ·exact h2.lt k hk
 ·exact h3.lt k hk
theorem zbM {w w':World} {B:Nat} {v:Value} {lf:Bool} {ks vs:List ByteArray} {cs:List Int} {S:Nat->Prop} (h:NodeOwn w B v lf ks vs cs) (hk:Kept w w' S) (hS:∀k,nodeBlocks v k->¬S k):NodeOwn w' B v lf ks vs cs:=by
 obtain ⟨vk,vv,vc,rfl,h1,h2,h3,h4⟩:=h
 exact ⟨vk,vv,vc,rfl,za6 h1 hk (fun k e=>hS k ⟨_,vk,vv,vc,rfl,Or.inl e⟩),za6 h2 hk (fun k e=>hS k ⟨_,vk,vv,vc,rfl,Or.inr (Or.inl e)⟩),za6 h3 hk (fun k e=>hS k ⟨_,vk,vv,vc,rfl,Or.inr (Or.inr e)⟩),h4⟩
theorem zbE {w:World} {B B' e e' sz sz' n n':Nat} {v v':Value} {xs xs':List Value} (h:w.ownsRow B e sz v n xs) (h':w.ownsRow B' e' sz' v' n' xs') (hne:e≠e') (k:Nat) (h1:v.ownBlock=some k):v'.ownBlock≠some k:=by
 intro h2
 rcases h.2 with ⟨rfl,-⟩ | ⟨g,cap,cur,rfl,-,hh,-⟩
 ·cases h1
 ·rcases h'.2 with ⟨rfl,-⟩ | ⟨g',cap',cur',rfl,-,hh',-⟩
  ·cases h2
  ·injection h1 with h1
   injection h2 with h2
   have h1:g=k:=h1;have h2:g'=k:=h2;subst h1;subst h2;rw [hh] at hh'
   injection hh' with hh'
   injection hh' with _ he _
   exact hne he
theorem Tryz.str_int:(9:Nat)≠3:=by decide
open Go.RowKit
def DiskAt (w:World) (v:Value) (ps:List ByteArray) (ls:List (Int×ByteArray)):Prop:=
 ∃vp vl,v= .agg #[vp,vl]/\RowAt w 1 vp ps.length (strs ps)/\RowAt w 2 vl ls.length (puts ls)
def DiskOwn (w:World) (B:Nat) (v:Value) (ps:List ByteArray) (ls:List (Int×ByteArray)):Prop:=
 ∃vp vl,v= .agg #[vp,vl]/\w.ownsRow B 9 1 vp ps.length (strs ps)/\w.ownsRow B 90 2 vl ls.length (puts ls)
theorem zg2 {w:World} {B:Nat} {v:Value} {ps:List ByteArray} {ls:List (Int×ByteArray)} (h:DiskOwn w B v ps ls):DiskAt w v ps ls:=by
 obtain ⟨vp,vl,e,h1,h2⟩:=h;exact ⟨vp,vl,e,zaa h1,zaa h2⟩
theorem zak {w w':World} {v:Value} {ps:List ByteArray} {ls:List (Int×ByteArray)} (h:DiskAt w v ps ls) (hb:Below w.heap.size w w'):DiskAt w' v ps ls:=by
 obtain ⟨vp,vl,e,h1,h2⟩:=h;exact ⟨vp,vl,e,za8 h1 hb,za8 h2 hb⟩
theorem zej {w w':World} {B:Nat} {v:Value} {ps:List ByteArray} {ls:List (Int×ByteArray)} (h:DiskOwn w B v ps ls) (hb:Below w.heap.size w w'):DiskOwn w' B v ps ls:=by
 obtain ⟨vp,vl,e,h1,h2⟩:=h;exact ⟨vp,vl,e,zaf h1 hb,zaf h2 hb⟩
def diskBlocks (v:Value) (k:Nat):Prop:=∃vp vl,v= .agg #[vp,vl]/\(vp.ownBlock=some k\/vl.ownBlock=some k)
theorem zl9 {w w':World} {v:Value} {ps:List ByteArray} {ls:List (Int×ByteArray)} {S:Nat->Prop} (h:DiskAt w v ps ls) (hk:Kept w w' S) (hS:∀k,k<w.heap.size->diskBlocks v k->¬S k):DiskAt w' v ps ls:=by
 obtain ⟨vp,vl,rfl,h1,h2⟩:=h
 exact ⟨vp,vl,rfl,zjH h1 hk (Or.inr fun k hlt e=>hS k hlt ⟨vp,vl,rfl,Or.inl e⟩),zjH h2 hk (Or.inr fun k hlt e=>hS k hlt ⟨vp,vl,rfl,Or.inr e⟩)⟩
theorem zbo {w w':World} {B:Nat} {v:Value} {ps:List ByteArray} {ls:List (Int×ByteArray)} {S:Nat->Prop} (h:DiskOwn w B v ps ls) (hk:Kept w w' S) (hS:∀k,diskBlocks v k->¬S k):DiskOwn w' B v ps ls:=by
 obtain ⟨vp,vl,rfl,h1,h2⟩:=h
 exact ⟨vp,vl,rfl,za6 h1 hk (fun k e=>hS k ⟨vp,vl,rfl,Or.inl e⟩),za6 h2 hk (fun k e=>hS k ⟨vp,vl,rfl,Or.inr e⟩)⟩
theorem zby {w:World} {B:Nat} {v:Value} {ps:List ByteArray} {ls:List (Int×ByteArray)} (h:DiskOwn w B v ps ls):∀k,diskBlocks v k->B<=k/\k<w.heap.size:=by
 obtain ⟨vp,vl,rfl,h1,h2⟩:=h;rintro k ⟨vp',vl',e,hk⟩
 have e2:vp=vp'/\vl=vl':=by injection e with e;injection e with e;injection e with e1 e;injection e with e2;exact ⟨e1,e2⟩
 obtain ⟨rfl,rfl⟩:=e2
 rcases hk with hk | hk
 ·exact h1.lt k hk
 ·exact h2.lt k hk
theorem Tryz.types_part:(9:Nat)≠90:=by decide
open Go.RowKit
def Loc (B U:Nat) (p:World->Prop):Prop:=∀w w':World,w.heap.size<=w'.heap.size->U<=w.heap.size->(∀k,B<=k->k<U->w'.heap[k]?=w.heap[k]?)->p w->p w'
structure Held (wr:World) (B U:Nat) (p:World->Prop):Prop where
 loc:Loc B U p
 le:U<=wr.heap.size
 is:p wr
theorem za1 {wr wr':World} {B U:Nat} {p:World->Prop} (h:Held wr B U p) (hb:Below wr.heap.size wr wr'):Held wr' B U p:=
 ⟨h.loc,Nat.le_trans h.le hb.size,h.loc wr wr' hb.size h.le (fun k _ hk=>hb.block k (Nat.lt_of_lt_of_le hk h.le)) h.is⟩
theorem zi9 {wr wr':World} {B U:Nat} {p:World->Prop} {S:Nat->Prop} (h:Held wr B U p) (hk:Kept wr wr' S) (hS:∀k,B<=k->k<U->¬S k):Held wr' B U p:=
 ⟨h.loc,Nat.le_trans h.le hk.2.2.2.1,h.loc wr wr' hk.2.2.2.1 h.le (fun k h1 h2=>hk.2.2.2.2 k (Nat.lt_of_lt_of_le h2 h.le) (hS k h1 h2)) h.is⟩
def IsVar (g:Nat) (u0 u1:Value) (t:TypeId) (w:World):Prop:=w.heap[g]?=some (Obj.cells #[u0,u1] t)
theorem zek {w:World} {g:Nat} {u0 u1:Value} {t:TypeId} (h:w.heap[g]?=some (Obj.cells #[u0,u1] t)):Held w g (g+1) (IsVar g u0 u1 t):=
 ⟨fun a b _ _ hk hp=>(hk g (Nat.le_refl _) (by omega)).trans hp,(Array.getElem?_eq_some_iff.1 h).1,h⟩
theorem zaF {w:World} {B U g:Nat} {u0 u1:Value} {t:TypeId} (h:Held w B U (IsVar g u0 u1 t)):w.cell? ⟨g,0,none⟩=some u0/\w.cell? ⟨g,1,none⟩=some u1:=⟨(za0 h.is 0).1,(za0 h.is 1).1⟩
def IsDisk (B U:Nat) (v:Value) (ps:List ByteArray) (ls:List (Int×ByteArray)) (w:World):Prop:=DiskOwn w B v ps ls/\∀k,diskBlocks v k->k<U
theorem zg3 {w w':World} {B U:Nat} {v:Value} {ps:List ByteArray} {ls:List (Int×ByteArray)} (h:IsDisk B U v ps ls w) (_hs:w.heap.size<=w'.heap.size) (hk:∀k,B<=k->k<U->w'.heap[k]?=w.heap[k]?):IsDisk B U v ps ls w':=by
 refine ⟨?_,h.2⟩;have hl:=zby h.1;have hu:=h.2;obtain ⟨⟨vp,vl,rfl,h1,h2⟩,-⟩:=h
 have key:∀{e sz n:Nat} {u:Value} {xs:List Value},w.ownsRow B e sz u n xs->(∀k,u.ownBlock=some k->k<U)->w'.ownsRow B e sz u n xs:=fun {e sz n u xs} h hlt=>by
  refine ⟨h.1,?_⟩
  rcases h.2 with ⟨rfl,hn⟩ | ⟨g,cap,cur,rfl,hg,hh,rest⟩
  ·exact Or.inl ⟨rfl,hn⟩
  ·exact Or.inr ⟨g,cap,cur,rfl,hg,(hk g hg (hlt g rfl)).trans hh,rest⟩
 exact ⟨vp,vl,rfl,key h1 (fun k e=>hu k ⟨vp,vl,rfl,Or.inl e⟩),key h2 (fun k e=>hu k ⟨vp,vl,rfl,Or.inr e⟩)⟩
theorem zia {w:World} {B:Nat} {v:Value} {ps:List ByteArray} {ls:List (Int×ByteArray)} (h:DiskOwn w B v ps ls):Held w B w.heap.size (IsDisk B w.heap.size v ps ls):=
 ⟨fun _ _ hs _ hk hp=>zg3 hp hs hk,Nat.le_refl _,h,fun k hk=>(zby h k hk).2⟩
theorem zbb {w:World} {B:Nat} {v:Value} {ps:List ByteArray} {ls:List (Int×ByteArray)} (h:DiskOwn w B v ps ls):∃x c y d,v= .agg #[.slice x ps.length c,.slice y ls.length d]:=by
 obtain ⟨vp,vl,rfl,h1,h2⟩:=h;obtain ⟨x,c,rfl⟩:=za4 h1;obtain ⟨y,d,rfl⟩:=za4 h2;exact ⟨x,c,y,d,rfl⟩
theorem zla (w:World) (u0 u1:Value) (t:TypeId):Below w.heap.size w (w.alloc (Obj.cells #[u0,u1] t))/\Held (w.alloc (Obj.cells #[u0,u1] t)) w.heap.size (w.heap.size+1) (IsVar w.heap.size u0 u1 t):=
 ⟨(Below.refl _ _).alloc (Nat.le_refl _) _,zek (heap_alloc_new w _)⟩
open Go.RowKit
def IntOwn (w:World) (B:Nat) (v:Value) (l:List Int):Prop:=
 ∃a cap,v= .slice a l.length cap/\l.length<=cap/\(a=none/\l= []\/∃g off cs,a=some ⟨g,off,none⟩/\B<=g/\w.heap[g]?=some (.cells cs 3 (0,0))/\∀i,i<l.length->cs[off+i]?=(ints l)[i]?)
theorem zkC {w:World} {B:Nat} {v:Value} {l:List Int} (h:IntOwn w B v l):∃a cap,v= .slice a l.length cap/\l.length<=cap:=by
 obtain ⟨a,cap,e,hc,-⟩:=h;exact ⟨a,cap,e,hc⟩
theorem zeT {w:World} {B:Nat} {v:Value} {l:List Int} (h:IntOwn w B v l):RowAt w 1 v l.length (ints l):=by
 obtain ⟨a,cap,rfl,hcap,h⟩:=h
 refine ⟨by rw [zcO];omega,a,cap,rfl,?_⟩
 rcases h with ⟨-,rfl⟩ | ⟨g,off,cs,rfl,-,hh,hc⟩
 ·exact Or.inl rfl
 ·exact Or.inr ⟨g,off,rfl,(Array.getElem?_eq_some_iff.1 hh).1,fun j hj=>(za0 hh (off+j)).1.trans (hc j (by omega))⟩
theorem zd9 {w:World} {B:Nat} {v:Value} {l:List Int} (h:IntOwn w B v l):∃a cap,v= .slice a l.length cap:=by
 obtain ⟨a,cap,e,-⟩:=h;exact ⟨a,cap,e⟩
theorem zel {w:World} {B:Nat} {v:Value} {l:List Int} (h:IntOwn w B v l):∀k,v.ownBlock=some k->B<=k/\k<w.heap.size:=by
 obtain ⟨a,cap,rfl,hcap,h⟩:=h;intro k hk
 rcases h with ⟨rfl,-⟩ | ⟨g,off,cs,rfl,hB,hh,-⟩
 ·cases hk
 ·injection hk with hk
  have hk:g=k:=hk;subst hk;exact ⟨hB,(Array.getElem?_eq_some_iff.1 hh).1⟩
theorem zh5 {w:World} {B:Nat} {v:Value} {l:List Int} (h:IntOwn w B v l) {k:Nat} (hk:v.ownBlock=some k):∃cs,w.heap[k]?=some (.cells cs 3 (0,0)):=by
 obtain ⟨a,cap,rfl,hcap,h⟩:=h
 rcases h with ⟨rfl,-⟩ | ⟨g,off,cs,rfl,hB,hh,-⟩
 ·cases hk
 ·injection hk with hk
  have hk:g=k:=hk;subst hk;exact ⟨cs,hh⟩
theorem zaW {w w':World} {B:Nat} {v:Value} {l:List Int} {S:Nat->Prop} (h:IntOwn w B v l) (hk:Kept w w' S) (hS:∀k,v.ownBlock=some k->¬S k):IntOwn w' B v l:=by
 obtain ⟨a,cap,rfl,hcap,h⟩:=h;refine ⟨a,cap,rfl,hcap,?_⟩
 rcases h with h | ⟨g,off,cs,rfl,hB,hh,hc⟩
 ·exact Or.inl h
 ·exact Or.inr ⟨g,off,cs,rfl,hB,(hk.2.2.2.2 g (Array.getElem?_eq_some_iff.1 hh).1 (hS g rfl)).trans hh,hc⟩
theorem ze2 {w:World} {B B':Nat} {v:Value} {l:List Int} (h:IntOwn w B v l) (hB:B'<=B):IntOwn w B' v l:=by
 obtain ⟨a,cap,rfl,hcap,h⟩:=h;refine ⟨a,cap,rfl,hcap,?_⟩
 rcases h with h | ⟨g,off,cs,rfl,hg,hh,hc⟩
 ·exact Or.inl h
 ·exact Or.inr ⟨g,off,cs,rfl,Nat.le_trans hB hg,hh,hc⟩
theorem zan {w:World} {B:Nat} {v:Value} {l:List Int} (h:w.ownsRow B 3 1 v l.length (ints l)):IntOwn w B v l:=by
 have hc:=h
 rcases h.2 with ⟨rfl,h0⟩ | ⟨g,cap,cur,rfl,hg,hh,hnc,-⟩
 ·have h0:l.length=0:=h0
  exact ⟨none,0,by rw [h0],by omega,Or.inl ⟨rfl,List.eq_nil_of_length_eq_zero h0⟩⟩
 ·exact ⟨_,_,rfl,hnc,Or.inr ⟨g,0,cur,rfl,hg,hh,fun i hi=>by rw [Nat.zero_add];exact (za0 hh i).1.symm.trans (hc.cellAt i (by omega))⟩⟩
theorem zj5 {w:World} {B g off c c':Nat} {x:Int} {l:List Int} {n n':Nat} (hn:n=l.length+1) (hn':n'=l.length) (hc':l.length<=c') (h:IntOwn w B (.slice (some ⟨g,off,none⟩) n c) (x :: l)):IntOwn w B (.slice (some ⟨g,off+1,none⟩) n' c') l:=by
 subst hn hn';obtain ⟨a,cap,e,-,h⟩:=h
 injection e with e1 e2 e3
 subst e1
 rcases h with ⟨h,-⟩ | ⟨g',off',cs,e,hB,hh,hc⟩
 ·cases h
 ·injection e with e
  injection e with e1 e2
  subst e1 e2
  refine ⟨_,_,rfl,hc',Or.inr ⟨g,off+1,cs,rfl,hB,hh,fun i hi=> ?_⟩⟩
  have:=hc (i+1) (by simp;omega)
  rw [Nat.add_assoc,Nat.add_comm 1 i,this]
  simp [ints]
theorem zfn {w:World} {B B' e sz n:Nat} {v v':Value} {xs:List Value} {l:List Int} (h:w.ownsRow B e sz v n xs) (h':IntOwn w B' v' l) (hne:e≠3) (k:Nat) (h1:v.ownBlock=some k):v'.ownBlock≠some k:=by
 intro h2;obtain ⟨cs,hh'⟩:=zh5 h' h2
 rcases h.2 with ⟨rfl,-⟩ | ⟨g,cap,cur,rfl,-,hh,-⟩
 ·cases h1
 ·injection h1 with h1
  have h1:g=k:=h1;subst h1;rw [hh] at hh'
  injection hh' with hh'
  injection hh' with _ he _
  exact hne he
open Go.RowKit
structure Wk where
 ps:List ByteArray
 ls:List (Int×ByteArray)
 next:Int
 us:List Int
 gs:List Int
 fs:List Int
def Wk.small (k:Wk):Prop:=k.ps.length<=1048576/\(∀s∈k.ps,s.size<=1048576)/\k.ls.length<=1048576/\(∀p∈k.ls,p.2.size<=1048576)/\k.us.length<=2000000/\k.gs.length<=2000000/\k.fs.length<=2000000
def WorkAt (w:World) (v:Value) (k:Wk):Prop:=
 ∃vp vl vu vg vf,v= .agg #[vp,vl,.int .i64 k.next,vu,vg,vf]/\DiskAt w (.agg #[vp,vl]) k.ps k.ls/\RowAt w 1 vu k.us.length (ints k.us)/\RowAt w 1 vg k.gs.length (ints k.gs)/\RowAt w 1 vf k.fs.length (ints k.fs)/\∃a cap,vu= .slice a k.us.length cap/\k.us.length<=cap
def WorkOwn (w:World) (B:Nat) (v:Value) (k:Wk):Prop:=
 ∃vp vl vu vg vf,v= .agg #[vp,vl,.int .i64 k.next,vu,vg,vf]/\DiskOwn w B (.agg #[vp,vl]) k.ps k.ls/\IntOwn w B vu k.us/\IntOwn w B vg k.gs/\IntOwn w B vf k.fs/\
  (∀j,vu.ownBlock=some j->vg.ownBlock≠some j)/\(∀j,vu.ownBlock=some j->vf.ownBlock≠some j)/\(∀j,vg.ownBlock=some j->vf.ownBlock≠some j)
def workBlocks (v:Value) (j:Nat):Prop:=∃vp vl n vu vg vf,v= .agg #[vp,vl,n,vu,vg,vf]/\(diskBlocks (.agg #[vp,vl]) j\/vu.ownBlock=some j\/vg.ownBlock=some j\/vf.ownBlock=some j)
theorem agg6 {a b c d e f a' b' c' d' e' f':Value} (h:Value.agg #[a,b,c,d,e,f]= .agg #[a',b',c',d',e',f']):a=a'/\b=b'/\c=c'/\d=d'/\e=e'/\f=f':=by
 injection h with h
 have:=congrArg Array.toList h
 simp at this
 exact this
theorem zap {w:World} {B:Nat} {v:Value} {k:Wk} (h:WorkOwn w B v k):WorkAt w v k:=by
 obtain ⟨vp,vl,vu,vg,vf,e,h1,h2,h3,h4,-⟩:=h;exact ⟨vp,vl,vu,vg,vf,e,zg2 h1,zeT h2,zeT h3,zeT h4,zkC h2⟩
theorem zae {w w':World} {v:Value} {k:Wk} (h:WorkAt w v k) (hb:Below w.heap.size w w'):WorkAt w' v k:=by
 obtain ⟨vp,vl,vu,vg,vf,e,h1,h2,h3,h4,h5⟩:=h;exact ⟨vp,vl,vu,vg,vf,e,zak h1 hb,za8 h2 hb,za8 h3 hb,za8 h4 hb,h5⟩
theorem zcp {w w':World} {B:Nat} {v:Value} {k:Wk} {S:Nat->Prop} (h:WorkOwn w B v k) (hk:Kept w w' S) (hS:∀j,workBlocks v j->¬S j):WorkOwn w' B v k:=by
 obtain ⟨vp,vl,vu,vg,vf,rfl,h1,h2,h3,h4,h5⟩:=h
 exact ⟨vp,vl,vu,vg,vf,rfl,zbo h1 hk (fun j e=>hS j ⟨_,_,_,_,_,_,rfl,Or.inl e⟩),zaW h2 hk (fun j e=>hS j ⟨_,_,_,_,_,_,rfl,Or.inr (Or.inl e)⟩),zaW h3 hk (fun j e=>hS j ⟨_,_,_,_,_,_,rfl,Or.inr (Or.inr (Or.inl e))⟩),zaW h4 hk (fun j e=>hS j ⟨_,_,_,_,_,_,rfl,Or.inr (Or.inr (Or.inr e))⟩),h5⟩
theorem zbu {w w':World} {B:Nat} {v:Value} {k:Wk} (h:WorkOwn w B v k) (hb:Below w.heap.size w w'):WorkOwn w' B v k:=
 zcp h (ze1 hb (fun _=>False)) (fun _ _ h=>h)
theorem zal {w:World} {B:Nat} {v:Value} {k:Wk} (h:WorkOwn w B v k):∀j,workBlocks v j->B<=j/\j<w.heap.size:=by
 obtain ⟨vp,vl,vu,vg,vf,rfl,h1,h2,h3,h4,-⟩:=h;rintro j ⟨vp',vl',n',vu',vg',vf',e,hj⟩;obtain ⟨rfl,rfl,-,rfl,rfl,rfl⟩:=agg6 e
 rcases hj with hj | hj | hj | hj
 ·exact zby h1 j hj
 ·exact zel h2 j hj
 ·exact zel h3 j hj
 ·exact zel h4 j hj
theorem zaU {w:World} {B B':Nat} {v:Value} {k:Wk} (h:WorkOwn w B v k) (hB:B'<=B):WorkOwn w B' v k:=by
 obtain ⟨vp,vl,vu,vg,vf,e,⟨vp',vl',e1,d1,d2⟩,h2,h3,h4,h5⟩:=h;exact ⟨vp,vl,vu,vg,vf,e,⟨vp',vl',e1,zad d1 hB,zad d2 hB⟩,ze2 h2 hB,ze2 h3 hB,ze2 h4 hB,h5⟩
theorem zaH {w:World} {B:Nat} {v:Value} {k:Wk} (h:WorkOwn w B v k):∃a1 c1 a2 c2 a3 c3 a4 c4 a5 c5,v= .agg #[.slice a1 k.ps.length c1,.slice a2 k.ls.length c2,.int .i64 k.next,.slice a3 k.us.length c3,.slice a4 k.gs.length c4,.slice a5 k.fs.length c5]:=by
 obtain ⟨vp,vl,vu,vg,vf,rfl,h1,h2,h3,h4,-⟩:=h;obtain ⟨a1,c1,a2,c2,e⟩:=zbb h1
 injection e with e
 injection e with e
 injection e with e1 e
 injection e with e2
 subst e1 e2;obtain ⟨a3,c3,rfl⟩:=zd9 h2;obtain ⟨a4,c4,rfl⟩:=zd9 h3;obtain ⟨a5,c5,rfl⟩:=zd9 h4;exact ⟨_,_,_,_,_,_,_,_,_,_,rfl⟩
theorem Tryz.put_int:(90:Nat)≠3:=by decide
theorem zbc {w:World} {B B':Nat} {v v':Value} {ps:List ByteArray} {ls:List (Int×ByteArray)} {l:List Int} (h:DiskOwn w B v ps ls) (h':IntOwn w B' v' l) (j:Nat) (hj:diskBlocks v j):v'.ownBlock≠some j:=by
 obtain ⟨vp,vl,rfl,h1,h2⟩:=h;obtain ⟨vp',vl',e,hk⟩:=hj
 injection e with e
 injection e with e
 injection e with e1 e
 injection e with e2
 subst e1 e2
 rcases hk with hk | hk
 ·exact zfn h1 h' Tryz.str_int j hk
 ·exact zfn h2 h' Tryz.put_int j hk
open Go.RowKit
theorem Tryz.infoU8:(Tryz.prog.info? 5).map (fun i=>(i.zero,i.size,i.bytes))=some (some (.int .u8 0),1,1):=by kernel_rfl
theorem zem {B:Nat} {w wr w1:World} {v:Value} {n:Nat} {xs:List Value} {o:Obj} (hB:B<=wr.heap.size) (hb:Below B w wr) (hown:wr.ownsRow B 5 1 v n xs) (hg:(wr.alloc o).grownBy w1 v.ownBlock):Below B w w1:=
 (hb.alloc hB o).grown hg (by simp;omega) (fun k hk=>(hown.lt k hk).1)
theorem one_cell (w:World) (x:Value):∀(j:Nat) (u:Value),[x][j]?=some u->(w.alloc (Obj.cells #[x] 5)).cell? ((⟨w.heap.size,0,none⟩:Addr).add j)=some u:=by
 intro j u hj
 match j,hj with
 | 0,hj=>simp at hj;subst hj;simp [Addr.add]
theorem zen {P:Program} {w:World} {B src dst e:TypeId} {v:Value} {l:List UInt8} (hs:P.underlying src=some (.slice e)) (he:P.underlying e=some (.int .u8)) (hd:P.underlying dst=some .string)
  (hown:w.ownsRow B e 1 v l.length (Lib.byteCells l)) (hpos:0<l.length):
  ∃g cap,v= .slice (some ⟨g,0,none⟩) l.length cap/\(convert src dst (.slice (some ⟨g,0,none⟩) l.length cap)).run P w= .ok (.string ⟨l.toArray⟩) w:=by
 rcases hown.2 with ⟨-,h0⟩ | ⟨g,cap,cur,rfl,-,-,-,-,-,-⟩
 ·omega
 ·exact ⟨g,cap,rfl,run_convert_bytes_back (P:=P) w src dst e ⟨g,0,none⟩ cap l hs he hd (fun j hj=>hown.cells (g:=g) rfl j _ (by simp [Lib.byteCells,hj]))⟩
theorem zdC (n:Int) (h0:0<=n) (h1:n<=1000000000) (w:World):
  Calls Tryz.prog 95 #[.int .i64 n] w fun e w'=>e= .returned (.string ⟨(vtext n.toNat).toArray⟩)/\Below w.heap.size w w':=by
 obtain ⟨k,rfl⟩:=Int.eq_ofNat_of_zero_le h0;rw [Int.toNat_natCast];obtain ⟨i0,hi,hz0,hz1,hz2⟩:=info_parts Tryz.infoU8;go_enter Tryz.func95,Tryz.ntmps95
 go_wp2
 go_loopw [0,3] (fun nv v wr=>∃(f m:Nat) (done:List UInt8),nv= .int .i64 m/\m<128 ^ (f+1)/\m<=1000000000/\done.length+f<=4/\done++venc f m=vtext k/\wr.ownsRow w.heap.size 5 1 v done.length (Lib.byteCells done)/\Below w.heap.size w wr)
  (fun nv _ _=>(intOf nv).toNat)
 case atStart=>exact ⟨4,k,[],rfl,pow5 k (by omega),by omega,by simp,by simp [vtext],by simpa [Lib.byteCells] using World.ownsRow_lit (base:=w.heap.size) (e:=5) (size:=1) w #[] 0 (Nat.le_refl _) (by unfold maxLen;omega) (by simp),(Below.refl _ _).alloc (Nat.le_refl _) _⟩
 case round=>
  obtain ⟨f,m,done,rfl,hf,hm,hl,hd,hown,hb⟩:=hrel;have hB:=hb.size
  by_cases hlt:127<m
  ·obtain ⟨g,hg,hf',hv⟩:=zi4 f m (by omega) hf
   have HV:=hide hv;have HG:=hide hg;have HD:=hide hd;clear hv hg hd
   go_wp2_with (at_builtin;refine wpList_append_own _ rfl _ _ 22 rfl w.heap.size 5 i0 (.int .u8 0) 1 1 Tryz.underlying22 hi hz0 hz1 hz2 rfl (by decide) _ _ _ rfl (hown.alloc _) ⟨wr.heap.size,0,none⟩ 1 1 [.int .u8 (m % 128+128)] rfl rfl ?c1 ?c2 ?c3 ?c4 ?c5 ?_)
   case c1=>exact one_cell _ _
   case c2=>intro u hu;simp at hu;subst hu;rfl
   case c3=>unfold maxLen;omega
   case c4=>omega
   case c5=>simp;omega
   intro v' w1 hown' hgrow _;have hb1:=zem hB hb hown hgrow
   have hown2:w1.ownsRow w.heap.size 5 1 v' (done++ [UInt8.ofNat (m % 128+128)]).length (Lib.byteCells (done++ [UInt8.ofNat (m % 128+128)])):=by
    rw [<-zdA done (m % 128+128) (by omega),List.length_append]
    simpa using hown'
   clear hown' hgrow hown hb
   go_wp2
   go_roundw
   case rel=>exact ⟨g,m / 128,done++ [UInt8.ofNat (m % 128+128)],by go_num,hf',by omega,by have:=HG.out;simp;omega,by rw [List.append_assoc,List.singleton_append,<-HV.out];exact HD.out,hown2,hb1⟩
   case measure=>simp [intOf];omega
  ·have hv:=zcA f m (by omega)
   rw [hv] at hd;have HD:=hide hd;clear hv hd
   go_wp2_with (at_builtin;refine wpList_append_own _ rfl _ _ 22 rfl w.heap.size 5 i0 (.int .u8 0) 1 1 Tryz.underlying22 hi hz0 hz1 hz2 rfl (by decide) _ _ _ rfl (hown.alloc _) ⟨wr.heap.size,0,none⟩ 1 1 [.int .u8 m] rfl rfl ?c1 ?c2 ?c3 ?c4 ?c5 ?_)
   case c1=>exact one_cell _ _
   case c2=>intro u hu;simp at hu;subst hu;rfl
   case c3=>unfold maxLen;omega
   case c4=>omega
   case c5=>simp;omega
   intro v' w1 hown' hgrow _;have hb1:=zem hB hb hown hgrow
   have hown2:w1.ownsRow w.heap.size 5 1 v' (vtext k).length (Lib.byteCells (vtext k)):=by
    rw [<-HD.out,<-zdA done m (by omega),List.length_append]
    simpa using hown'
   clear hown' hgrow hown hb
   obtain ⟨gb,cp,hv',hcv⟩:=zen (dst:=9) (src:=22) (e:=5) Tryz.underlying22 Tryz.underlying5 Tryz.underlying9 hown2 (by have:=(zau k).1;omega)
   rw [hv'];clear hv' hown2
   go_wp2
   go_ret;exact ⟨rfl,hb1⟩
theorem zg4 (x a b:Int) (w:World) (h1:a<=x) (h2:x<=b):Calls Tryz.prog 20 #[.int .i64 x,.int .i64 a,.int .i64 b] w fun e w'=>e= .returned (.bool true)/\w=w':=by
 go_enter Tryz.func20,Tryz.ntmps20
 go_wp2
 go_ret;exact ⟨rfl,rfl⟩
theorem zhu (x a b:Int) (w:World) (h:x<a\/b<x):Calls Tryz.prog 20 #[.int .i64 x,.int .i64 a,.int .i64 b] w fun e w'=>e= .returned (.bool false)/\w=w':=by
 by_cases h1:x<a
 ·go_enter Tryz.func20,Tryz.ntmps20
  go_wp2
  go_ret;exact ⟨rfl,rfl⟩
 ·have h2:b<x:=by omega
  have h3:a<=x:=by omega
  have h4:decide (x<=b)=false:=by simp;omega
  clear h h1;go_enter Tryz.func20,Tryz.ntmps20
  go_wp2
  go_ret;exact ⟨rfl,rfl⟩
theorem zcd (n:Int) (h0:0<=n) (h1:n<=1000000000) (w:World):
  Calls Tryz.prog 75 #[.int .i64 n] w fun e w'=>e= .returned (.tuple #[.string ⟨(vtext n.toNat).toArray⟩,.bool true])/\Below w.heap.size w w':=by
 obtain ⟨k,rfl⟩:=Int.eq_ofNat_of_zero_le h0;rw [Int.toNat_natCast];obtain ⟨i0,hi,hz0,hz1,hz2⟩:=info_parts Tryz.infoU8;go_enter Tryz.func75,Tryz.ntmps75
 go_wp2
 go_loopw [0,4] (fun nv v wr=>∃(f m:Nat) (done:List UInt8),nv= .int .i64 m/\m<128 ^ (f+1)/\m<=1000000000/\done.length+f<=4/\done++venc f m=vtext k/\wr.ownsRow w.heap.size 5 1 v done.length (Lib.byteCells done)/\Below w.heap.size w wr)
  (fun nv _ _=>(intOf nv).toNat)
 case atStart=>exact ⟨4,k,[],rfl,pow5 k (by omega),by omega,by simp,by simp [vtext],by simpa [Lib.byteCells] using World.ownsRow_lit (base:=w.heap.size) (e:=5) (size:=1) w #[] 0 (Nat.le_refl _) (by unfold maxLen;omega) (by simp),(Below.refl _ _).alloc (Nat.le_refl _) _⟩
 case round=>
  obtain ⟨f,m,done,rfl,hf,hm,hl,hd,hown,hb⟩:=hrel;have hB:=hb.size
  by_cases hlt:127<m
  ·obtain ⟨g,hg,hf',hv⟩:=zi4 f m (by omega) hf
   have HV:=hide hv;have HG:=hide hg;have HD:=hide hd;clear hv hg hd
   go_wp2_with (at_builtin;refine wpList_append_own _ rfl _ _ 22 rfl w.heap.size 5 i0 (.int .u8 0) 1 1 Tryz.underlying22 hi hz0 hz1 hz2 rfl (by decide) _ _ _ rfl (hown.alloc _) ⟨wr.heap.size,0,none⟩ 1 1 [.int .u8 (m % 128+128)] rfl rfl ?c1 ?c2 ?c3 ?c4 ?c5 ?_)
   case c1=>exact one_cell _ _
   case c2=>intro u hu;simp at hu;subst hu;rfl
   case c3=>unfold maxLen;omega
   case c4=>omega
   case c5=>simp;omega
   intro v' w1 hown' hgrow _;have hb1:=zem hB hb hown hgrow
   have hown2:w1.ownsRow w.heap.size 5 1 v' (done++ [UInt8.ofNat (m % 128+128)]).length (Lib.byteCells (done++ [UInt8.ofNat (m % 128+128)])):=by
    rw [<-zdA done (m % 128+128) (by omega),List.length_append]
    simpa using hown'
   clear hown' hgrow hown hb
   go_wp2
   go_roundw
   case rel=>exact ⟨g,m / 128,done++ [UInt8.ofNat (m % 128+128)],by go_num,hf',by omega,by have:=HG.out;simp;omega,by rw [List.append_assoc,List.singleton_append,<-HV.out];exact HD.out,hown2,hb1⟩
   case measure=>simp [intOf];omega
  ·have hv:=zcA f m (by omega)
   rw [hv] at hd;have HD:=hide hd;clear hv hd
   go_wp2_with (at_builtin;refine wpList_append_own _ rfl _ _ 22 rfl w.heap.size 5 i0 (.int .u8 0) 1 1 Tryz.underlying22 hi hz0 hz1 hz2 rfl (by decide) _ _ _ rfl (hown.alloc _) ⟨wr.heap.size,0,none⟩ 1 1 [.int .u8 m] rfl rfl ?c1 ?c2 ?c3 ?c4 ?c5 ?_)
   case c1=>exact one_cell _ _
   case c2=>intro u hu;simp at hu;subst hu;rfl
   case c3=>unfold maxLen;omega
   case c4=>omega
   case c5=>simp;omega
   intro v' w1 hown' hgrow _;have hb1:=zem hB hb hown hgrow
   have hown2:w1.ownsRow w.heap.size 5 1 v' (vtext k).length (Lib.byteCells (vtext k)):=by
    rw [<-HD.out,<-zdA done m (by omega),List.length_append]
    simpa using hown'
   clear hown' hgrow hown hb
   obtain ⟨gb,cp,hv',hcv⟩:=zen (dst:=9) (src:=22) (e:=5) Tryz.underlying22 Tryz.underlying5 Tryz.underlying9 hown2 (by have:=(zau k).1;omega)
   rw [hv'];clear hv' hown2
   go_wp2
   go_ret2;exact ⟨rfl,hb1⟩
open Go.RowKit
def lateAt (ls:List (Int×ByteArray)) (page:Int):Nat->Option ByteArray
 | 0=>none
 | k+1=>match ls[k]? with
  | some p=>if p.1=page then some p.2 else lateAt ls page k
  | none=>lateAt ls page k
theorem zeU {ls:List (Int×ByteArray)} {page:Int} {k:Nat} {t:ByteArray} (h:ls[k]?=some (page,t)):lateAt ls page (k+1)=some t:=by
 rw [lateAt,h];simp
theorem ze3 {ls:List (Int×ByteArray)} {page q:Int} {k:Nat} {t:ByteArray} (h:ls[k]?=some (q,t)) (hne:q≠page):lateAt ls page (k+1)=lateAt ls page k:=by
 rw [lateAt,h];simp [hne]
def readD (ps:List ByteArray) (ls:List (Int×ByteArray)) (page:Int):ByteArray:=
 if 0<=page/\page<(ps.length:Int) then
  match lateAt ls page ls.length with
  | some t=>t
  | none=>ps.getD page.toNat ⟨#[]⟩
 else ⟨#[]⟩
theorem zib {ps:List ByteArray} {ls:List (Int×ByteArray)} {page:Int} (h:page<0\/(ps.length:Int)<=page):readD ps ls page=⟨#[]⟩:=if_neg (by omega)
theorem zeV {ps:List ByteArray} {ls:List (Int×ByteArray)} {page:Int} {t:ByteArray} (h:0<=page/\page<(ps.length:Int)) (hl:lateAt ls page ls.length=some t):readD ps ls page=t:=by
 rw [readD,if_pos h,hl]
theorem zh6 {ps:List ByteArray} {ls:List (Int×ByteArray)} {page:Int} (h:0<=page/\page<(ps.length:Int)) (hl:lateAt ls page ls.length=none):readD ps ls page=ps.getD page.toNat ⟨#[]⟩:=by
 rw [readD,if_pos h,hl]
def diskOkB (ps:List ByteArray) (ls:List (Int×ByteArray)):Bool:=
 ps.all (fun s=>decide (s.size<=240)) && ls.all (fun p=>decide (0<=p.1/\p.1<(ps.length:Int)/\p.2.size<=240)) && decide (4<=ps.length/\ps.length<=40/\ls.length<=200)
theorem zg5 {ps:List ByteArray} {ls:List (Int×ByteArray)} {k:Nat} (h:k<ps.length) (hb:240<ps[k].size):diskOkB ps ls=false:=by
 have:ps.all (fun s=>decide (s.size<=240))=false:=by
  rw [List.all_eq_false]
  exact ⟨ps[k],List.getElem_mem h,by simp;omega⟩
 rw [diskOkB,this];rfl
theorem zcP {ps:List ByteArray} {ls:List (Int×ByteArray)} {k:Nat} (h:k<ls.length) (hb:¬(0<=ls[k].1/\ls[k].1<(ps.length:Int)/\ls[k].2.size<=240)):diskOkB ps ls=false:=by
 have:ls.all (fun p=>decide (0<=p.1/\p.1<(ps.length:Int)/\p.2.size<=240))=false:=by
  rw [List.all_eq_false]
  exact ⟨ls[k],List.getElem_mem h,by simpa using hb⟩
 rw [diskOkB,this];simp
theorem zeW {ps:List ByteArray} {ls:List (Int×ByteArray)} (h1:∀i (h:i<ps.length),ps[i].size<=240) (h2:∀i (h:i<ls.length),0<=ls[i].1/\ls[i].1<(ps.length:Int)/\ls[i].2.size<=240):diskOkB ps ls=decide (4<=ps.length/\ps.length<=40/\ls.length<=200):=by
 have e1:ps.all (fun s=>decide (s.size<=240))=true:=by
  rw [List.all_eq_true];intro s hs;obtain ⟨i,hi,rfl⟩:=List.getElem_of_mem hs
  simpa using h1 i hi
 have e2:ls.all (fun p=>decide (0<=p.1/\p.1<(ps.length:Int)/\p.2.size<=240))=true:=by
  rw [List.all_eq_true];intro s hs;obtain ⟨i,hi,rfl⟩:=List.getElem_of_mem hs
  simpa using h2 i hi
 rw [diskOkB,e1,e2];rfl
theorem zeX {ps:List ByteArray} {ls:List (Int×ByteArray)} (h:diskOkB ps ls=true):(∀s∈ps,s.size<=240)/\(∀p∈ls,0<=p.1/\p.1<(ps.length:Int)/\p.2.size<=240)/\4<=ps.length/\ps.length<=40/\ls.length<=200:=by
 unfold diskOkB at h
 simp only [Bool.and_eq_true,List.all_eq_true,decide_eq_true_eq] at h
 obtain ⟨⟨h1,h2⟩,h3⟩:=h;exact ⟨h1,h2,h3⟩
open Go.RowKit
theorem zda (x a b:Int) (w:World):Calls Tryz.prog 20 #[.int .i64 x,.int .i64 a,.int .i64 b] w fun e w'=>e= .returned (.bool (decide (a<=x/\x<=b)))/\w=w':=by
 by_cases h:a<=x/\x<=b
 ·rw [decide_eq_true h];exact zg4 x a b w h.1 h.2
 ·rw [decide_eq_false h];exact zhu x a b w (by omega)
theorem zbU (v:Value) (ps:List ByteArray) (ls:List (Int×ByteArray)) (hp:ps.length<=1048576) (hl:ls.length<=1048576) (page:Int) (w:World) (hd:DiskAt w v ps ls):
  Calls Tryz.prog 66 #[v,.int .i64 page] w fun e w'=>e= .returned (.string (readD ps ls page))/\Below w.heap.size w w':=by
 obtain ⟨vp,vl,rfl,h1,h2⟩:=hd
 obtain ⟨x1,c1,rfl⟩:∃a cap,vp= .slice a ps.length cap:=by obtain ⟨-,a,cap,e,-⟩:=h1;exact ⟨a,cap,e⟩
 obtain ⟨x2,c2,rfl⟩:∃a cap,vl= .slice a ls.length cap:=by obtain ⟨-,a,cap,e,-⟩:=h2;exact ⟨a,cap,e⟩
 have H1:=hide h1;have H2:=hide h2;clear h1 h2;have HC:=hide (zda page 0 ((ps.length:Int) - 1));have hb0:Below w.heap.size w (w.alloc (Obj.cells #[.slice x1 ps.length c1,.slice x2 ls.length c2] 29)):=(Below.refl w.heap.size w).alloc (Nat.le_refl _) _;have HB0:=hide hb0;clear hb0
 by_cases hin:0<=page/\page<=(ps.length:Int) - 1
 ·rw [decide_eq_true hin] at HC
  go_enter Tryz.func66,Tryz.ntmps66;go_wp2_with fail;refine (HC.out _).mono ?_;rintro e w1 ⟨rfl,rfl⟩;go_wp2_with fail;obtain ⟨w0,hw0⟩:∃w0,w0=w.alloc (Obj.cells #[.slice x1 ps.length c1,.slice x2 ls.length c2] 29):=⟨_,rfl⟩;rw [<-hw0];rw [<-hw0] at HB0
  have hblk:w0.heap[w.heap.size]?=some (Obj.cells #[.slice x1 ps.length c1,.slice x2 ls.length c2] 29):=by rw [hw0];exact heap_alloc_new w _
  have cb0:w0.cell? ⟨w.heap.size,0,none⟩=some (.slice x1 ps.length c1):=(za0 hblk 0).1;have cb1:w0.cell? ⟨w.heap.size,1,none⟩=some (.slice x2 ls.length c2):=(za0 hblk 1).1;clear hw0 hblk
  go_loopg [5] ls.length (fun q iv wr=>∃k:Nat,k<=ls.length/\iv= .int .i64 ((k:Int) - 1)/\q=k/\Hid (lateAt ls page ls.length=lateAt ls page k)/\w0=wr)
  case atStart=>exact ⟨ls.length,Nat.le_refl _,rfl,rfl,hide rfl,rfl⟩
  case round=>
   obtain ⟨k,hk,rfl,hgk,HL,rfl⟩:=hrel;have HGk:=hide hgk;clear hgk
   by_cases hk0:k=0
   ·subst hk0
    have HO:Hid (readD ps ls page=ps.getD page.toNat ⟨#[]⟩):=hide (zh6 (by omega) (by rw [HL.out];rfl))
    obtain ⟨n,hn⟩:=Int.eq_ofNat_of_zero_le hin.1
    have hnl:n<ps.length:=by omega
    obtain ⟨x,hx⟩:∃x,x=ps.getD page.toNat ⟨#[]⟩:=⟨_,rfl⟩
    rcases H1.out.2 with ⟨a,cap,e,h0 | ⟨b,off,e2,hbl,hc⟩⟩
    ·omega
    ·injection e with e1 e3 e4
     subst e1 e4;subst e2
     have hcell:w0.cell? ⟨b,off+n,none⟩=some (.string x):=by
      rw [HB0.out.cell (by exact hbl),hc n (by omega),zaP ps n hnl,hx,hn]
      simp [List.getD,hnl]
     rw [<-hx] at HO;subst hn
     have hi0:(0:Int)<=(n:Int):=by omega
     have hi1:(n:Int)<(ps.length:Int):=by omega
     clear hx hc;go_wp2_with fail;go_ret;rw [HO.out];exact ⟨rfl,HB0.out⟩
   ·obtain ⟨j,rfl⟩:∃j,k=j+1:=⟨k - 1,by omega⟩
    have hjl:j<ls.length:=by omega
    rcases H2.out.2 with ⟨a,cap,e,h0 | ⟨b,off,e2,hbl,hc⟩⟩
    ·omega
    ·injection e with e1 e3 e4
     subst e1 e4;subst e2;obtain ⟨q,t,hqt⟩:∃q t,(q,t)=ls[j]:=⟨_,_,rfl⟩
     have hget:ls[j]?=some (q,t):=by rw [List.getElem?_eq_getElem hjl,hqt]
     have hc0:w0.cell? ⟨b,off+j * 2,none⟩=some (.int .i64 q):=by rw [HB0.out.cell (by exact hbl),hc (j * 2) (by omega),(zcy ls j hjl).1,<-hqt]
     have hc1:w0.cell? ⟨b,off+j * 2+1,none⟩=some (.string t):=by rw [HB0.out.cell (by exact hbl),Nat.add_assoc,hc (j * 2+1) (by omega),(zcy ls j hjl).2,<-hqt]
     have hi0:(0:Int)<=(j:Int):=by omega
     have hi1:(j:Int)<(ls.length:Int):=by omega
     have hij:((j+1:Nat):Int) - 1=(j:Int):=by omega
     rw [hij];have HGet:=hide hget;clear hc hqt hget hij
     by_cases hq:q=page
     ·subst hq
      have HO:Hid (readD ps ls q=t):=hide (zeV (by omega) (by rw [HL.out];exact zeU HGet.out))
      go_wp2_with fail;go_ret;rw [HO.out];exact ⟨rfl,HB0.out⟩
     ·have HL2:Hid (lateAt ls page ls.length=lateAt ls page j):=hide (by rw [HL.out];exact ze3 HGet.out hq)
      go_wp2_with fail
      go_roundg j
      case measure=>have:=HGk.out;omega
      case rel=>exact ⟨j,by omega,by go_num,rfl,HL2,rfl⟩
 ·rw [decide_eq_false hin] at HC
  have HO:Hid (readD ps ls page=⟨#[]⟩):=hide (zib (by omega))
  go_enter Tryz.func66,Tryz.ntmps66;go_wp2_with fail;refine (HC.out _).mono ?_;rintro e w1 ⟨rfl,rfl⟩;go_wp2_with fail;go_ret;rw [HO.out];exact ⟨rfl,HB0.out⟩
theorem zgS (v:Value) (ps:List ByteArray) (ls:List (Int×ByteArray)) (hp:ps.length<=1048576) (hl:ls.length<=1048576) (hps:∀s∈ps,s.size<=1048576) (hls:∀p∈ls,p.2.size<=1048576) (w:World) (hd:DiskAt w v ps ls):
  Calls Tryz.prog 71 #[v] w fun e w'=>e= .returned (.bool (diskOkB ps ls))/\Below w.heap.size w w':=by
 obtain ⟨vp,vl,rfl,h1,h2⟩:=hd
 obtain ⟨x1,c1,rfl⟩:∃a cap,vp= .slice a ps.length cap:=by obtain ⟨-,a,cap,e,-⟩:=h1;exact ⟨a,cap,e⟩
 obtain ⟨x2,c2,rfl⟩:∃a cap,vl= .slice a ls.length cap:=by obtain ⟨-,a,cap,e,-⟩:=h2;exact ⟨a,cap,e⟩
 have H1:=hide h1;have H2:=hide h2;have HPs:=hide hps;have HLs:=hide hls;clear h1 h2 hps hls;go_enter Tryz.func71,Tryz.ntmps71;go_wp2_with fail;obtain ⟨w0,hw0⟩:∃w0,w0=w.alloc (Obj.cells #[.slice x1 ps.length c1,.slice x2 ls.length c2] 29):=⟨_,rfl⟩
 have hb0:Below w.heap.size w w0:=by rw [hw0];exact (Below.refl w.heap.size w).alloc (Nat.le_refl _) _
 have hblk:w0.heap[w.heap.size]?=some (Obj.cells #[.slice x1 ps.length c1,.slice x2 ls.length c2] 29):=by rw [hw0];exact heap_alloc_new w _
 have hsz:w.heap.size<w0.heap.size:=(Array.getElem?_eq_some_iff.1 hblk).1;rw [<-hw0];have HB0:=hide hb0;have HBk:=hide hblk;have HSz:=hide hsz;clear hw0 hb0 hblk hsz
 go_loopg [3] ps.length (fun q iv wr=>∃k:Nat,k<=ps.length/\iv= .int .i64 (k:Int)/\q+k=ps.length/\Hid (∀i (h:i<ps.length),i<k->ps[i].size<=240)/\w0=wr)
 case atStart=>exact ⟨0,Nat.zero_le _,rfl,rfl,hide (fun i h h0=>by omega),rfl⟩
 case round=>
  obtain ⟨k,hk,rfl,hg,HA,rfl⟩:=hrel;have HG:=hide hg;clear hg;have cb0:w0.cell? ⟨w.heap.size,0,none⟩=some (.slice x1 ps.length c1):=(za0 HBk.out 0).1;have cb1:w0.cell? ⟨w.heap.size,1,none⟩=some (.slice x2 ls.length c2):=(za0 HBk.out 1).1
  by_cases hlt:k<ps.length
  ·rcases H1.out.2 with ⟨a,cap,e,h0 | ⟨b,off,e2,hbl,hc⟩⟩
   ·omega
   ·injection e with e1 e3 e4
    subst e1 e4;subst e2;obtain ⟨x,hx⟩:∃x,x=ps[k]:=⟨_,rfl⟩
    have hxs:x.size<=1048576:=by rw [hx];exact HPs.out _ (List.getElem_mem hlt)
    have hcell:w0.cell? ⟨b,off+k,none⟩=some (.string x):=by rw [HB0.out.cell (by exact hbl),hc k (by omega),zaP ps k hlt,hx]
    have HX:=hide hx
    have hi0:(0:Int)<=(k:Int):=by omega
    have hi1:(k:Int)<(ps.length:Int):=by omega
    clear hx hc
    by_cases hbig:240<x.size
    ·have HO:Hid (diskOkB ps ls=false):=hide (zg5 hlt (by rw [<-HX.out];exact hbig))
     go_wp2_with fail;go_ret;rw [HO.out];exact ⟨rfl,HB0.out⟩
    ·have HA2:Hid (∀i (h:i<ps.length),i<k+1->ps[i].size<=240):=hide (fun i h hi=>by
      by_cases e:i=k
      ·subst e;rw [<-HX.out];omega
      ·exact HA.out i h (by omega))
     go_wp2_with fail
     go_roundg (gk - 1)
     case measure=>have:=HG.out;omega
     case rel=>exact ⟨k+1,by omega,by go_num,by have:=HG.out;omega,HA2,rfl⟩
  ·have HAll:Hid (∀i (h:i<ps.length),ps[i].size<=240):=hide (fun i h=>HA.out i h (by omega))
   have HCi:=hide (zda (ps.length:Int) 4 40);clear HA;go_wp2_with fail
   go_loopg [4] ls.length (fun q iv wr=>∃j:Nat,j<=ls.length/\iv= .int .i64 (j:Int)/\q+j=ls.length/\Hid (∀i (h:i<ls.length),i<j->0<=ls[i].1/\ls[i].1<(ps.length:Int)/\ls[i].2.size<=240)/\Below w0.heap.size w0 wr)
   case atStart=>exact ⟨0,Nat.zero_le _,rfl,rfl,hide (fun i h h0=>by omega),Below.refl _ _⟩
   case round=>
    obtain ⟨j,hj,rfl,hg,HA,hbw⟩:=hrel;have HG2:=hide hg;have HBw:=hide hbw;have HBa:Hid (Below w.heap.size w wr):=hide (HB0.out.trans (hbw.mono HB0.out.size))
    have cd0:wr.cell? ⟨w.heap.size,0,none⟩=some (.slice x1 ps.length c1):=(hbw.cell (by exact HSz.out)).trans cb0
    have cd1:wr.cell? ⟨w.heap.size,1,none⟩=some (.slice x2 ls.length c2):=(hbw.cell (by exact HSz.out)).trans cb1
    clear hg hbw cb0 cb1
    by_cases hjl:j<ls.length
    ·rcases H2.out.2 with ⟨a,cap,e,h0 | ⟨b,off,e2,hbl,hc⟩⟩
     ·omega
     ·injection e with e1 e3 e4
      subst e1 e4;subst e2;obtain ⟨q,t,hqt⟩:∃q t,(q,t)=ls[j]:=⟨_,_,rfl⟩
      have hts:t.size<=1048576:=by have:=HLs.out _ (List.getElem_mem hjl);rw [<-hqt] at this;exact this
      have hc0:wr.cell? ⟨b,off+j * 2,none⟩=some (.int .i64 q):=by rw [HBa.out.cell (by exact hbl),hc (j * 2) (by omega),(zcy ls j hjl).1,<-hqt]
      have hc1:wr.cell? ⟨b,off+j * 2+1,none⟩=some (.string t):=by rw [HBa.out.cell (by exact hbl),Nat.add_assoc,hc (j * 2+1) (by omega),(zcy ls j hjl).2,<-hqt]
      have hi0:(0:Int)<=(j:Int):=by omega
      have hi1:(j:Int)<(ls.length:Int):=by omega
      have hw1:IntKind.i64.wrap ((ps.length:Int) - 1)=(ps.length:Int) - 1:=IntWalk.i64_in _ ⟨by omega,by omega⟩
      have HQT:=hide hqt;have HC:=hide (zda q 0 ((ps.length:Int) - 1));clear hc hqt
      by_cases hin:0<=q/\q<=(ps.length:Int) - 1
      ·rw [decide_eq_true hin] at HC
       by_cases hbig:240<t.size
       ·have HO:Hid (diskOkB ps ls=false):=hide (zcP hjl (by rw [<-HQT.out];show ¬(0<=q/\q<(ps.length:Int)/\t.size<=240);omega))
        have hd1:decide ((240:Int)<(t.size:Int))=true:=by simp;omega
        go_wp2_with fail
        go_region_held3 (fun wx=>wx.cell? ⟨w.heap.size,0,none⟩=some (.slice x1 ps.length c1)/\wx.cell? ⟨w.heap.size,1,none⟩=some (.slice (some ⟨b,off,none⟩) ls.length c2)/\wx.cell? ⟨b,off+j * 2,none⟩=some (.int .i64 q)/\wx.cell? ⟨b,off+j * 2+1,none⟩=some (.string t)) (exact ⟨cd0,cd1,hc0,hc1⟩) ((go_at_call 20;refine (HC.out _).mono ?_;rintro e wx ⟨rfl,rfl⟩))
        go_wp2_with fail;go_ret;rw [HO.out];exact ⟨rfl,HBa.out.drew⟩
       ·have HA2:Hid (∀i (h:i<ls.length),i<j+1->0<=ls[i].1/\ls[i].1<(ps.length:Int)/\ls[i].2.size<=240):=hide (fun i h hi=>by
         by_cases e:i=j
         ·subst e;rw [<-HQT.out];show 0<=q/\q<(ps.length:Int)/\t.size<=240;omega
         ·exact HA.out i h (by omega))
        have hd1:decide ((240:Int)<(t.size:Int))=false:=by simp;omega
        go_wp2_with fail
        go_region_held3 (fun wx=>wx.cell? ⟨w.heap.size,0,none⟩=some (.slice x1 ps.length c1)/\wx.cell? ⟨w.heap.size,1,none⟩=some (.slice (some ⟨b,off,none⟩) ls.length c2)/\wx.cell? ⟨b,off+j * 2,none⟩=some (.int .i64 q)/\wx.cell? ⟨b,off+j * 2+1,none⟩=some (.string t)) (exact ⟨cd0,cd1,hc0,hc1⟩) ((go_at_call 20;refine (HC.out _).mono ?_;rintro e wx ⟨rfl,rfl⟩))
        go_wp2_with fail
        go_roundg (gk - 1)
        case measure=>have:=HG2.out;omega
        case rel=>exact ⟨j+1,by omega,by go_num,by have:=HG2.out;omega,HA2,HBw.out.drew⟩
      ·rw [decide_eq_false hin] at HC
       have HO:Hid (diskOkB ps ls=false):=hide (zcP hjl (by rw [<-HQT.out];show ¬(0<=q/\q<(ps.length:Int)/\t.size<=240);omega))
       go_wp2_with fail
       go_quiet ((go_at_call 20;exact Calls.quiet_of_same ((HC.out _).mono (fun _ _ h=>⟨h.1,h.2.symm⟩))))
       go_wp2_with fail;go_ret;rw [HO.out];exact ⟨rfl,below_drewN HBa.out _⟩
    ·have HE:Hid (diskOkB ps ls=decide (4<=ps.length/\ps.length<=40/\ls.length<=200)):=hide (zeW HAll.out (fun i h=>HA.out i h (by omega)))
     by_cases h4:4<=(ps.length:Int)/\(ps.length:Int)<=40
     ·rw [decide_eq_true h4] at HCi
      have HO:Hid (diskOkB ps ls=decide ((ls.length:Int)<=200)):=hide (by rw [HE.out];congr 1;simp;omega)
      go_wp2_with fail;refine (HCi.out _).mono ?_;rintro e w2 ⟨rfl,rfl⟩;go_wp2_with fail;go_ret;rw [HO.out];exact ⟨rfl,HBa.out⟩
     ·rw [decide_eq_false h4] at HCi
      have HO:Hid (diskOkB ps ls=false):=hide (by rw [HE.out,decide_eq_false (by omega)])
      go_wp2_with fail;refine (HCi.out _).mono ?_;rintro e w2 ⟨rfl,rfl⟩;go_wp2_with fail;go_ret;rw [HO.out];exact ⟨rfl,HBa.out⟩
open Go.RowKit
theorem zgT {P:Program} (w:World) (t ty:TypeId) (base:Nat) (e:TypeId) (i:TypeInfo) (z:Value) (size bytes:Nat) (ht:P.underlying t=some (.slice e)) (hi:P.info? e=some i) (hz:i.zero=some z)
  (hsize:i.size=size) (hby:i.bytes=bytes) (hzs:z.cells.size=size) (hsz:0<size)
  (v:Value) (n:Nat) (xs:List Value) (hown:w.ownsRow base e size v n xs)
  (u:Value) (m:Nat) (ys:List Value) (hrow:RowAt w size u m ys) (h1:∀y∈ys,y.oneCell'=true)
  (h63:n+m<=maxLen) (hbytes:(n+m) * bytes<=140737488355328) (hbase:base<=w.heap.size):
  ∃x c w',(Builtin.append_ #[t,t] ty #[v,u]).run P w= .ok (.slice x (n+m) c) w'/\w'.ownsRow base e size (.slice x (n+m) c) (n+m) (xs++ys)/\w.grownBy w' v.ownBlock:=by
 have key:∀(v':Value) (w':World),w'.ownsRow base e size v' (n+m) (xs++ys)->∃x c,v'=Value.slice x (n+m) c:=fun v' w' h=>by
  obtain ⟨-,a,cap,ee,-⟩:=zaa h;exact ⟨a,cap,ee⟩
 obtain ⟨hl,a,cap,rfl,h2⟩:=hrow
 rcases a with _ | ad
 ·rcases h2 with h0 | ⟨b,off,e,_⟩
  ·subst h0
   have hy:ys= []:=List.length_eq_zero_iff.1 (by rw [hl];omega)
   subst hy
   obtain ⟨x,c,hx⟩:=key v w (by rw [List.append_nil];exact hown)
   refine ⟨x,c,w,?_,?_,⟨rfl,rfl,rfl,Nat.le_refl _,fun _ _ _=>rfl⟩⟩
   ·rw [<-hx]
    rcases hown.2 with ⟨rfl,rfl⟩ | ⟨g,cap,cur,rfl,_,_,hnc,_⟩
    ·simp [Builtin.append_,run_underlying ht,sizeOf,typeInfo,hi,Builtin.lenOf,Builtin.firstCells]
    ·simp [Builtin.append_,run_underlying ht,sizeOf,typeInfo,hi,Builtin.lenOf,Builtin.firstCells,hnc,storeCells]
   ·rw [<-hx,List.append_nil];exact hown
  ·cases e
 ·have hnews:∀j y,ys[j]?=some y->w.cell? (ad.add j)=some y:=fun j y hj=>by
   have hjl:j<m * size:=by rw [<-hl];exact (List.getElem?_eq_some_iff.1 hj).1
   rcases h2 with h0 | ⟨b,off,e,hlt,hc⟩
   ·subst h0;simp at hjl
   ·injection e with e
    subst e;rw [Addr.add_lit,hc j hjl,hj]
  obtain ⟨v',w',hr,g2,g3,_⟩:=run_append_own (P:=P) w base t ty e i z size bytes ht hi hz hsize hby hzs hsz v n xs hown ad m cap ys hl hnews h1 h63 hbytes hbase;obtain ⟨x,c,rfl⟩:=key v' w' g2;exact ⟨x,c,w',hr,g2,g3⟩
theorem zeo {P:Program} (w:World) {o:Oper} {a:Act} {K:Act->World->Prop} {Q:Exit->Act->World->Prop} (s x:Operand) (t:TypeId)
  (ho:o.op= .call {callee:= .builtin .append,args:= #[s,x],argTypes:= #[t,t]})
  (base:Nat) (e:TypeId) (i:TypeInfo) (z:Value) (size bytes:Nat) (ht:P.underlying t=some (.slice e)) (hi:P.info? e=some i) (hz:i.zero=some z)
  (hsize:i.size=size) (hby:i.bytes=bytes) (hzs:z.cells.size=size) (hsz:0<size)
  (v:Value) (n:Nat) (xs:List Value) (hs:a.eval s=v) (hown:w.ownsRow base e size v n xs)
  (u:Value) (m:Nat) (ys:List Value) (hx:a.eval x=u) (hrow:RowAt w size u m ys) (h1:∀y∈ys,y.oneCell'=true)
  (h63:n+m<=maxLen) (hbytes:(n+m) * bytes<=140737488355328) (hbase:base<=w.heap.size)
  (h:∀x c w',w'.ownsRow base e size (.slice x (n+m) c) (n+m) (xs++ys)->w.grownBy w' v.ownBlock->K (a.put o.dst (.slice x (n+m) c)) w'):o.wp P a w K Q:=by
 obtain ⟨y,c,w',hr,h2,h3⟩:=zgT (P:=P) w t o.type base e i z size bytes ht hi hz hsize hby hzs hsz v n xs hown u m ys hrow h1 h63 hbytes hbase;unfold Oper.wp execOp
 simp only [ho,resolve,invoke,builtin,Sem.run_bind,Sem.run_pure,Result.andThen_ok,List.map_toArray,List.map_cons,List.map_nil,hs,hx,hr]
 exact h y c w' h2 h3
theorem zeY {P:Program} (w:World) {ops:Array Oper} {rest:List Oper} {o:Oper} {a:Act} {Q:Exit->Act->World->Prop} (hgd:o.guard=none) (s x:Operand) (t:TypeId)
  (ho:o.op= .call {callee:= .builtin .append,args:= #[s,x],argTypes:= #[t,t]})
  (base:Nat) (e:TypeId) (i:TypeInfo) (z:Value) (size bytes:Nat) (ht:P.underlying t=some (.slice e)) (hi:P.info? e=some i) (hz:i.zero=some z)
  (hsize:i.size=size) (hby:i.bytes=bytes) (hzs:z.cells.size=size) (hsz:0<size)
  (v:Value) (n:Nat) (xs:List Value) (hs:a.eval s=v) (hown:w.ownsRow base e size v n xs)
  (u:Value) (m:Nat) (ys:List Value) (hx:a.eval x=u) (hrow:RowAt w size u m ys) (h1:∀y∈ys,y.oneCell'=true)
  (h63:n+m<=maxLen) (hbytes:(n+m) * bytes<=140737488355328) (hbase:base<=w.heap.size)
  (h:∀x c w',w'.ownsRow base e size (.slice x (n+m) c) (n+m) (xs++ys)->w.grownBy w' v.ownBlock->wpList P ops Q rest (a.put o.dst (.slice x (n+m) c)) w'):wpList P ops Q (o :: rest) a w:=
 wpList_plain hgd fun _ hK=>zeo w s x t ho base e i z size bytes ht hi hz hsize hby hzs hsz v n xs hs hown u m ys hx hrow h1 h63 hbytes hbase fun x c w' h2 h3=>hK _ _ (h x c w' h2 h3)
theorem zaI {P:Program} (w:World) {ops:Array Oper} {o:Oper} {a:Act} {K:Act->World->Prop} {Q:Exit->Act->World->Prop} {E:Prop} (hgd:o.guard=none) (s x:Operand) (t:TypeId)
  (ho:o.op= .call {callee:= .builtin .append,args:= #[s,x],argTypes:= #[t,t]})
  (base:Nat) (e:TypeId) (i:TypeInfo) (z:Value) (size bytes:Nat) (ht:P.underlying t=some (.slice e)) (hi:P.info? e=some i) (hz:i.zero=some z)
  (hsize:i.size=size) (hby:i.bytes=bytes) (hzs:z.cells.size=size) (hsz:0<size)
  (v:Value) (n:Nat) (xs:List Value) (hs:a.eval s=v) (hown:w.ownsRow base e size v n xs)
  (u:Value) (m:Nat) (ys:List Value) (hx:a.eval x=u) (hrow:RowAt w size u m ys) (h1:∀y∈ys,y.oneCell'=true)
  (h63:n+m<=maxLen) (hbytes:(n+m) * bytes<=140737488355328) (hbase:base<=w.heap.size)
  (h:∀x c w',w'.ownsRow base e size (.slice x (n+m) c) (n+m) (xs++ys)->w.grownBy w' v.ownBlock->K (a.put o.dst (.slice x (n+m) c)) w'):
  if Region.wanted o (yielded ops a.tmps)=true then Oper.wp P o a w K Q else E:=by
 have hw:Region.wanted o (yielded ops a.tmps)=true:=by simp [Region.wanted,hgd]
 rw [if_pos hw];exact zeo w s x t ho base e i z size bytes ht hi hz hsize hby hzs hsz v n xs hs hown u m ys hx hrow h1 h63 hbytes hbase h
theorem zhv (l:List ByteArray):∀y∈strs l,y.oneCell'=true:=fun y hy=>by
 obtain ⟨s,_,rfl⟩:=List.mem_map.1 hy
 rfl
open Go.RowKit
theorem zhw (l:List (Int×ByteArray)):∀y∈puts l,y.oneCell'=true:=fun y hy=>by
 obtain ⟨p,_,hp⟩:=List.mem_flatMap.1 hy
 simp at hp
 rcases hp with rfl | rfl <;> rfl
theorem zbN {w:World} {g e sz:Nat} (h:w.heap[g]?=some (.cells #[] e (0,0))):w.ownsRow g e sz (.slice (some ⟨g,0,none⟩) 0 0) 0 []:=
 ⟨by simp,Or.inr ⟨g,0,#[],rfl,Nat.le_refl _,h,Nat.le_refl _,by unfold maxLen;omega,by simp,by simp⟩⟩
theorem zg6 (w:World) (a b:Obj):((w.alloc a).alloc b).drew.heap[w.heap.size+1]?=some b:=by
 have h:=heap_alloc_new (w.alloc a) b;rw [World.size_alloc] at h;exact h
theorem k1 {w w':World} {o:Obj} {g k:Nat} {x:Obj} (hg:(w.alloc o).drew.grownBy w' (some g)) (hq:w.heap[k]?=some x) (hlt:k<w.heap.size) (hne:k≠g):w'.heap[k]?=some x:=
 ((hg.block k (by show k<(w.alloc o).heap.size;simp;omega) (by intro e;injection e with e;exact hne e)).trans (Below.heap_alloc w o k hlt)).trans hq
theorem k2 {w w':World} {o o':Obj} {g k:Nat} {x:Obj} (hg:((w.alloc o).alloc o').drew.grownBy w' (some g)) (hq:w.heap[k]?=some x) (hlt:k<w.heap.size) (hne:k≠g):w'.heap[k]?=some x:=
 (((hg.block k (by show k<((w.alloc o).alloc o').heap.size;simp;omega) (by intro e;injection e with e;exact hne e)).trans (Below.heap_alloc (w.alloc o) o' k (by simp;omega))).trans (Below.heap_alloc w o k hlt)).trans hq
theorem k3 {w w':World} {o:Obj} {g k:Nat} {x:Obj} (hg:(w.alloc o).grownBy w' (some g)) (hq:w.heap[k]?=some x) (hne:k≠g):w'.heap[k]?=some x:=by
 have hlt:k<w.heap.size:=(Array.getElem?_eq_some_iff.1 hq).1
 exact ((hg.block k (by simp;omega) (by intro e;injection e with e;exact hne e)).trans (Below.heap_alloc w o k hlt)).trans hq
theorem k4 {w w':World} {g k:Nat} {x:Obj} (hg:w.grownBy w' (some g)) (hq:w.heap[k]?=some x) (hne:k≠g):w'.heap[k]?=some x:=
 (hg.block k (Array.getElem?_eq_some_iff.1 hq).1 (by intro e;injection e with e;exact hne e)).trans hq
theorem zdb {w w':World} {B e sz n:Nat} {v:Value} {xs:List Value} (h:w.ownsRow B e sz v n xs) {g e':Nat} (he:w.heap[g]?=some (.cells #[] e' (0,0))) (hne:e≠e') (hg:w.grownBy w' (some g)):w'.ownsRow B e sz v n xs:=
 h.kept hg (Or.inr (fun e1=>zbE h (zbN (sz:=1) he) hne g e1 rfl))
theorem zcQ {w:World} {g:Nat} {u0 u1:Value} {t:TypeId} (h:w.heap[g]?=some (.cells #[u0,u1] t (0,0))):∀o,(w.alloc o).cell? ⟨g,1,none⟩=some u1:=fun o=>
 (za0 ((Below.heap_alloc w o g (Array.getElem?_eq_some_iff.1 h).1).trans h) 1).1
theorem zce {B g:Nat} {w src w':World} (hb:Below B w src) (hs:B<=src.heap.size) (hg:src.grownBy w' (some g)) (hB:B<=g):Below B w w':=
 hb.grown hg hs (fun j hj=>by injection hj with hj;omega)
theorem zmw {w w0 wB:World} {a0 a1 g:Nat} {y1 y2:Option Addr} {d1 d2:Nat} {ps:List ByteArray} {ls:List (Int×ByteArray)} (eqB1:wB.heap[a1]?=some (Obj.cells #[.slice none 0 0,.slice none 0 0] 29))
  (ownA:wB.ownsRow g 9 1 (.slice y1 ps.length d1) ps.length (strs ps)) {g2:Nat} (ownB:wB.ownsRow g2 90 2 (.slice y2 ls.length d2) ls.length (puts ls)) (hl:Below w.heap.size w wB)
  (h0:a0=w.heap.size) (h1:a1=a0+1) (hb1:a1+1=w0.heap.size) (hg:w0.heap.size<=g) (hg2:w0.heap.size<=g2):
  ((wB.setCell ⟨a1,0,none⟩ (.slice y1 ps.length d1)).setCell ⟨a1,1,none⟩ (.slice y2 ls.length d2)).cell? ⟨a1,0,none⟩=some (.slice y1 ps.length d1)/\
  ((wB.setCell ⟨a1,0,none⟩ (.slice y1 ps.length d1)).setCell ⟨a1,1,none⟩ (.slice y2 ls.length d2)).cell? ⟨a1,1,none⟩=some (.slice y2 ls.length d2)/\
  DiskOwn ((wB.setCell ⟨a1,0,none⟩ (.slice y1 ps.length d1)).setCell ⟨a1,1,none⟩ (.slice y2 ls.length d2)) w.heap.size (.agg #[.slice y1 ps.length d1,.slice y2 ls.length d2]) ps ls/\
  Below w.heap.size w ((wB.setCell ⟨a1,0,none⟩ (.slice y1 ps.length d1)).setCell ⟨a1,1,none⟩ (.slice y2 ls.length d2)):=by
 have y1':(wB.setCell ⟨a1,0,none⟩ (.slice y1 ps.length d1)).heap[a1]?=some (Obj.cells #[.slice y1 ps.length d1,.slice none 0 0] 29):=heap_setCell_same _ a1 0 _ _ _ eqB1;have y2':((wB.setCell ⟨a1,0,none⟩ (.slice y1 ps.length d1)).setCell ⟨a1,1,none⟩ (.slice y2 ls.length d2)).heap[a1]?=some (Obj.cells #[.slice y1 ps.length d1,.slice y2 ls.length d2] 29):=heap_setCell_same _ a1 1 _ _ _ y1'
 have k2:Kept wB ((wB.setCell ⟨a1,0,none⟩ (.slice y1 ps.length d1)).setCell ⟨a1,1,none⟩ (.slice y2 ls.length d2)) (fun k=>k=a1):=kept_trans (za9 _ _ _ _) (za9 _ _ _ _) (fun j _ h=>h)
 refine ⟨(za0 y2' 0).1,(za0 y2' 1).1,⟨_,_,rfl,?_,?_⟩,?_⟩
 ·exact zad (za6 ownA k2 (fun k hk=>by have:=(ownA.lt k hk).1;omega)) (by omega)
 ·exact zad (za6 ownB k2 (fun k hk=>by have:=(ownB.lt k hk).1;omega)) (by omega)
 ·refine (hl.setCell ?_ _).setCell ?_ _
  ·show _<=a1;omega
  ·show _<=a1;omega
theorem zdc (v:Value) (ps:List ByteArray) (ls:List (Int×ByteArray)) (hp:ps.length<=1048576) (hl:ls.length<=1048576) (w:World) (hd:DiskAt w v ps ls):
  Calls Tryz.prog 21 #[v] w fun e w'=>∃v',e= .returned v'/\DiskOwn w' w.heap.size v' ps ls/\Below w.heap.size w w':=by
 obtain ⟨i0,hi,hz0,hz1,hz2⟩:=info_parts Tryz.infoStrR;obtain ⟨i1,hj,hy0,hy1,hy2⟩:=info_parts Tryz.infoPut;obtain ⟨vp,vl,rfl,h1,h2⟩:=hd
 obtain ⟨x1,c1,rfl⟩:∃a cap,vp= .slice a ps.length cap:=by obtain ⟨-,a,cap,e,-⟩:=h1;exact ⟨a,cap,e⟩
 obtain ⟨x2,c2,rfl⟩:∃a cap,vl= .slice a ls.length cap:=by obtain ⟨-,a,cap,e,-⟩:=h2;exact ⟨a,cap,e⟩
 have H1:=hide h1;have H2:=hide h2;clear h1 h2;obtain ⟨w0,hw0⟩:∃w0,w0=(w.alloc (Obj.cells #[.slice x1 ps.length c1,.slice x2 ls.length c2] 29)).alloc (Obj.cells #[.slice none 0 0,.slice none 0 0] 29):=⟨_,rfl⟩
 have hb0:Below w.heap.size w w0:=by rw [hw0];exact ((Below.refl w.heap.size w).alloc (Nat.le_refl _) _).alloc (by simp) _
 obtain ⟨q0,q1,hs0⟩:=zaE w (Obj.cells #[.slice x1 ps.length c1,.slice x2 ls.length c2] 29) (Obj.cells #[.slice none 0 0,.slice none 0 0] 29);rw [<-hw0] at q0 q1 hs0;obtain ⟨a0,ha0⟩:∃a,a=w.heap.size:=⟨_,rfl⟩;obtain ⟨a1,ha1⟩:∃a,a=a0+1:=⟨_,rfl⟩;rw [<-ha0] at q0 q1 hs0;rw [<-ha1] at q1
 have hb1:a1+1=w0.heap.size:=by omega
 have HN:=hide (⟨by omega,by omega,by omega,by omega⟩:a0<w0.heap.size/\a0≠w0.heap.size/\a1<w0.heap.size/\a1≠w0.heap.size)
 have HZ:=hide (⟨fun o=>by show w.heap.size<=(w0.alloc o).heap.size;simp;omega,fun o o'=>by show w.heap.size<=((w0.alloc o).alloc o').heap.size;simp;omega,by omega,by omega⟩:(∀o,w.heap.size<=(w0.alloc o).drew.heap.size)/\(∀o o',w.heap.size<=((w0.alloc o).alloc o').drew.heap.size)/\w.heap.size<=w0.heap.size/\w.heap.size<=w0.heap.size+1)
 have HZ2:=hide (⟨fun o o'=>by show w0.heap.size+1<((w0.alloc o).alloc o').heap.size;simp,by intro e;injection e with e;omega,fun o o'=>by show w0.heap.size<((w0.alloc o).alloc o').heap.size;simp;omega,by omega,by omega⟩:(∀o o',w0.heap.size+1<((w0.alloc o).alloc o').drew.heap.size)/\(some (w0.heap.size+1)≠some w0.heap.size)/\(∀o o',w0.heap.size<((w0.alloc o).alloc o').drew.heap.size)/\a0≠w0.heap.size+1/\a1≠w0.heap.size+1)
 have HZ3:Hid (some w0.heap.size≠some (w0.heap.size+1)):=hide (by intro e;injection e with e;omega)
 have HL1:Hid (∀o,Below w.heap.size w (w0.alloc o).drew):=hide (fun o=>(hb0.alloc (by omega) _).drew)
 have HL2:Hid (∀o o',Below w.heap.size w ((w0.alloc o).alloc o').drew):=hide (fun o o'=>((hb0.alloc (by omega) _).alloc (by simp;omega) _).drew)
 have al1:∀o,(w0.alloc o).drew.heap[a0]?=some (Obj.cells #[.slice x1 ps.length c1,.slice x2 ls.length c2] 29):=fun o=>(Below.heap_alloc w0 o a0 (by omega)).trans q0
 have al2:∀o o',((w0.alloc o).alloc o').drew.heap[a0]?=some (Obj.cells #[.slice x1 ps.length c1,.slice x2 ls.length c2] 29):=fun o o'=>(Below.heap_alloc (w0.alloc o) o' a0 (by simp;omega)).trans ((Below.heap_alloc w0 o a0 (by omega)).trans q0)
 have cl10:∀o,(w0.alloc o).drew.cell? ⟨a0,0,none⟩=some (.slice x1 ps.length c1):=fun o=>(za0 (al1 o) 0).1
 have cl11:∀o,(w0.alloc o).drew.cell? ⟨a0,1,none⟩=some (.slice x2 ls.length c2):=fun o=>(za0 (al1 o) 1).1
 have cl20:∀o o',((w0.alloc o).alloc o').drew.cell? ⟨a0,0,none⟩=some (.slice x1 ps.length c1):=fun o o'=>(za0 (al2 o o') 0).1
 have cl21:∀o o',((w0.alloc o).alloc o').drew.cell? ⟨a0,1,none⟩=some (.slice x2 ls.length c2):=fun o o'=>(za0 (al2 o o') 1).1
 clear al1 al2;have c0:w0.cell? ⟨a0,0,none⟩=some (.slice x1 ps.length c1):=(za0 q0 0).1;have c1':w0.cell? ⟨a0,1,none⟩=some (.slice x2 ls.length c2):=(za0 q0 1).1;go_enter Tryz.func21,Tryz.ntmps21;go_wp2_with fail;rw [<-hw0,<-ha0,<-ha1];have HA:=hide (⟨ha0,ha1,hs0⟩:a0=w.heap.size/\a1=a0+1/\w0.heap.size=a0+2);have HB0:=hide hb0;clear ha0 ha1 hw0 hs0 hb0
 go_region_law (first | (refine zaI _ ?_ (.tmp 3) (.tmp 5) 26 ?_ (w0.heap.size) 9 i0 (.string ⟨#[]⟩) 1 16 Tryz.underlying26 hi hz0 hz1 hz2 ?_ ?_ (.slice (some ⟨w0.heap.size,0,none⟩) 0 0) 0 [] ?_ (zbN ?_) (.slice x1 ps.length c1) ps.length (strs ps) ?_ (za8 H1.out ?_) (zhv _) ?_ ?_ ?_ ?_;exact rfl;exact rfl;exact rfl;decide;exact rfl;exact heap_alloc_new w0 _;exact rfl;exact HL1.out _;(unfold maxLen;omega);omega;simp;intro y1 d1 wA hownA hgA;have eqA0:=k1 hgA q0 HN.out.1 HN.out.2.1;have eqA1:=k1 hgA q1 HN.out.2.2.1 HN.out.2.2.2;have HLA:=zce (HL1.out _) (HZ.out.1 _) hgA (HZ.out.2.2.1);have pA1:=(za0 eqA0 1).1;have pA2:=zcQ eqA0) | (refine zaI _ ?_ (.tmp 3) (.tmp 5) 26 ?_ (w0.heap.size) 9 i0 (.string ⟨#[]⟩) 1 16 Tryz.underlying26 hi hz0 hz1 hz2 ?_ ?_ (.slice (some ⟨w0.heap.size,0,none⟩) 0 0) 0 [] ?_ (zbN ?_) (.slice x1 ps.length c1) ps.length (strs ps) ?_ (za8 H1.out ?_) (zhv _) ?_ ?_ ?_ ?_;exact rfl;exact rfl;exact rfl;decide;exact rfl;exact (Below.heap_alloc (w0.alloc _) _ _ (by simp)).trans (heap_alloc_new w0 _);exact rfl;exact HL2.out _ _;(unfold maxLen;omega);omega;(simp;omega);intro y1 d1 wA hownA hgA;have eqA0:=k2 hgA q0 HN.out.1 HN.out.2.1;have eqA1:=k2 hgA q1 HN.out.2.2.1 HN.out.2.2.2;have HLA:=zce (HL2.out _ _) (HZ.out.2.1 _ _) hgA (HZ.out.2.2.1);have pA1:=(za0 eqA0 1).1;have pA2:=zcQ eqA0;have eqE:wA.heap[w0.heap.size+1]?=some (Obj.cells #[] 90):=(hgA.block _ (HZ2.out.1 _ _) HZ2.out.2.1).trans (zg6 w0 _ _)) | (refine zaI _ ?_ (.tmp 3) (.tmp 5) 26 ?_ (w0.heap.size+1) 9 i0 (.string ⟨#[]⟩) 1 16 Tryz.underlying26 hi hz0 hz1 hz2 ?_ ?_ (.slice (some ⟨w0.heap.size+1,0,none⟩) 0 0) 0 [] ?_ (zbN ?_) (.slice x1 ps.length c1) ps.length (strs ps) ?_ (za8 H1.out ?_) (zhv _) ?_ ?_ ?_ ?_;exact rfl;exact rfl;exact rfl;decide;exact rfl;exact zg6 w0 _ _;exact rfl;exact HL2.out _ _;(unfold maxLen;omega);omega;simp;intro y1 d1 wA hownA hgA;have eqA0:=k2 hgA q0 HN.out.1 HZ2.out.2.2.2.1;have eqA1:=k2 hgA q1 HN.out.2.2.1 HZ2.out.2.2.2.2;have HLA:=zce (HL2.out _ _) (HZ.out.2.1 _ _) hgA (HZ.out.2.2.2);have pA1:=(za0 eqA0 1).1;have pA2:=zcQ eqA0;have eqE:wA.heap[w0.heap.size]?=some (Obj.cells #[] 90):=(hgA.block _ (HZ2.out.2.2.1 _ _) HZ3.out).trans ((Below.heap_alloc (w0.alloc _) _ _ (by simp)).trans (heap_alloc_new w0 _))) | (refine zaI _ ?_ (.tmp 7) (.tmp 9) 27 ?_ (wA.heap.size) 90 i1 (.agg #[.int .i64 0,.string ⟨#[]⟩]) 2 24 Tryz.underlying27 hj hy0 hy1 hy2 ?_ ?_ (.slice (some ⟨wA.heap.size,0,none⟩) 0 0) 0 [] ?_ (zbN ?_) (.slice x2 ls.length c2) ls.length (puts ls) ?_ (za8 H2.out ?_) (zhw _) ?_ ?_ ?_ ?_;exact rfl;exact rfl;exact rfl;decide;exact rfl;exact heap_alloc_new wA _;exact rfl;exact HLA.alloc HLA.size _;(unfold maxLen;omega);omega;simp;intro y2 d2 wB hownB hgB;have eqB1:=k3 hgB eqA1 (Nat.ne_of_lt (Array.getElem?_eq_some_iff.1 eqA1).1);have HLB:=zce (HLA.alloc HLA.size _) (Nat.le_trans HLA.size (by simp)) hgB (HLA.size);have ownA2:=zdb (hownA.alloc _) (heap_alloc_new wA _) Tryz.types_part hgB;have pB0:=(za0 eqB1 0).1;have pB1:=(za0 eqB1 1).1;have pF0:=(za0 eqB1 0).2;have pF1:=(za0 eqB1 1).2) | (refine zaI _ ?_ (.tmp 7) (.tmp 9) 27 ?_ (w0.heap.size+1) 90 i1 (.agg #[.int .i64 0,.string ⟨#[]⟩]) 2 24 Tryz.underlying27 hj hy0 hy1 hy2 ?_ ?_ (.slice (some ⟨w0.heap.size+1,0,none⟩) 0 0) 0 [] ?_ (zbN ?_) (.slice x2 ls.length c2) ls.length (puts ls) ?_ (za8 H2.out ?_) (zhw _) ?_ ?_ ?_ ?_;exact rfl;exact rfl;exact rfl;decide;exact rfl;exact eqE;exact rfl;exact HLA;(unfold maxLen;omega);omega;(have:=hgA.size;simp at this;omega);intro y2 d2 wB hownB hgB;have eqB1:=k4 hgB eqA1 (HZ2.out.2.2.2.2);have HLB:=zce (HLA) (HLA.size) hgB (HZ.out.2.2.2);have ownA2:=zdb (hownA) (eqE) Tryz.types_part hgB;have pB0:=(za0 eqB1 0).1;have pB1:=(za0 eqB1 1).1;have pF0:=(za0 eqB1 0).2;have pF1:=(za0 eqB1 1).2) | (refine zaI _ ?_ (.tmp 7) (.tmp 9) 27 ?_ (w0.heap.size) 90 i1 (.agg #[.int .i64 0,.string ⟨#[]⟩]) 2 24 Tryz.underlying27 hj hy0 hy1 hy2 ?_ ?_ (.slice (some ⟨w0.heap.size,0,none⟩) 0 0) 0 [] ?_ (zbN ?_) (.slice x2 ls.length c2) ls.length (puts ls) ?_ (za8 H2.out ?_) (zhw _) ?_ ?_ ?_ ?_;exact rfl;exact rfl;exact rfl;decide;exact rfl;exact eqE;exact rfl;exact HLA;(unfold maxLen;omega);omega;(have:=hgA.size;simp at this;omega);intro y2 d2 wB hownB hgB;have eqB1:=k4 hgB eqA1 (HN.out.2.2.2);have HLB:=zce (HLA) (HLA.size) hgB (HZ.out.2.2.1);have ownA2:=zdb (hownA) (eqE) Tryz.types_part hgB;have pB0:=(za0 eqB1 0).1;have pB1:=(za0 eqB1 1).1;have pF0:=(za0 eqB1 0).2;have pF1:=(za0 eqB1 1).2))
 all_goals
  rw [Nat.zero_add] at ownA2 hownB
  have hfin:=zmw eqB1 ownA2 hownB HLB HA.out.1 HA.out.2.1 hb1 (by omega) (by have:=(Array.getElem?_eq_some_iff.1 eqA1).1;omega)
  go_wp2_with fail
  refine bodyPost_ret (v:= .agg #[.slice y1 ps.length d1,.slice y2 ls.length d2]) (by simp [results,Tryz.results21,go_sem,hfin.1,hfin.2.1]) rfl ⟨_,rfl,hfin.2.2.1,hfin.2.2.2⟩
open Go.RowKit
theorem zbz {P : Program} (w : World) {ops : Array Oper} {o : Oper} {a : Act} {K : Act → World → Prop} {Q : Exit → Act → World → Prop} {E : Prop} (hgd : o.guard = none) (f : FuncId) (fn : Func) (hfn : P.funcs[f]? = some fn) (hname : ¬ fn.name = "runtime.NumGoroutine") (hbody : ¬ fn.body = none) (s x : Operand) (ts : Array TypeId)
  (ho:o.op= .call {callee:= .value (.func f),args:= #[s,x],argTypes:=ts}) (u v:Value) (hs:a.eval s=u) (hx:a.eval x=v)
  (R:Ending→World→Prop) (hc:Calls P f #[u,v] w R) (hR:∀e w',R e w'→∃r,e= .returned r∧K (a.put o.dst r) w'):
  if Region.wanted o (yielded ops a.tmps)=true then Oper.wp P o a w K Q else E:=by
 have hw:Region.wanted o (yielded ops a.tmps)=true:=by simp [Region.wanted,hgd]
 rw [if_pos hw];unfold Oper.wp execOp;have hf:a.eval (.func f)= .func (.func f) #[] #[]:=rfl
 simp only [ho,resolve,invoke,hf,Deferred.ofValue,callFunc,Sem.run_bind,Sem.run_pure,Result.andThen_ok,List.map_toArray,List.map_cons,List.map_nil,hs,hx]
 simp [go_sem,hfn,hname,hbody]
 refine hc.mono ?_;intro e w' h;obtain ⟨r,rfl,hk⟩:=hR e w' h;exact hk
theorem zaG {P : Program} (w : World) {ops : Array Oper} {o : Oper} {a : Act} {K : Act → World → Prop} {Q : Exit → Act → World → Prop} {E : Prop} (hgd : o.guard = none) (f : FuncId) (fn : Func) (hfn : P.funcs[f]? = some fn) (hname : ¬ fn.name = "runtime.NumGoroutine") (hbody : ¬ fn.body = none) (s : Operand) (ts : Array TypeId)
  (ho:o.op= .call {callee:= .value (.func f),args:= #[s],argTypes:=ts}) (u:Value) (hs:a.eval s=u)
  (R:Ending→World→Prop) (hc:Calls P f #[u] w R) (hR:∀e w',R e w'→∃r,e= .returned r∧K (a.put o.dst r) w'):
  if Region.wanted o (yielded ops a.tmps)=true then Oper.wp P o a w K Q else E:=by
 have hw:Region.wanted o (yielded ops a.tmps)=true:=by simp [Region.wanted,hgd]
 rw [if_pos hw];unfold Oper.wp execOp;have hf:a.eval (.func f)= .func (.func f) #[] #[]:=rfl
 simp only [ho,resolve,invoke,hf,Deferred.ofValue,callFunc,Sem.run_bind,Sem.run_pure,Result.andThen_ok,List.map_toArray,List.map_cons,List.map_nil,hs]
 simp [go_sem,hfn,hname,hbody]
 refine hc.mono ?_;intro e w' h;obtain ⟨r,rfl,hk⟩:=hR e w' h;exact hk
theorem zfx {P:Program} (w:World) {ops:Array Oper} {o:Oper} {a:Act} {K:Act->World->Prop} {Q:Exit->Act->World->Prop} {E:Prop} (hgd:o.guard=none) (s x:Operand) (t:TypeId)
  (ho:o.op= .call {callee:= .builtin .append,args:= #[s,x],argTypes:= #[t,t]})
  (base:Nat) (e:TypeId) (i:TypeInfo) (size:Nat) (ht:P.underlying t=some (.slice e)) (hi:P.info? e=some i) (hsize:i.size=size)
  (g k cap:Nat) (xs:List Value) (hs:a.eval s= .slice (some ⟨g,0,none⟩) k cap) (hown:w.ownsRow base e size (.slice (some ⟨g,0,none⟩) k cap) k xs)
  (ad:Addr) (m c:Nat) (news:List Value) (hx:a.eval x= .slice (some ad) m c) (hn:news.length=m * size) (hc:∀j u,news[j]?=some u->w.cell? (ad.add j)=some u) (h1:∀y∈news,y.oneCell'=true) (b1:k+m<=cap)
  (h:∀w',w'.ownsRow base e size (.slice (some ⟨g,0,none⟩) (k+m) cap) (k+m) (xs++news)->w.grownBy w' (some g)->K (a.put o.dst (.slice (some ⟨g,0,none⟩) (k+m) cap)) w'):
  if Region.wanted o (yielded ops a.tmps)=true then Oper.wp P o a w K Q else E:=by
 have hw:Region.wanted o (yielded ops a.tmps)=true:=by simp [Region.wanted,hgd]
 rw [if_pos hw];obtain ⟨w',hr,h2,h3⟩:=run_append_fits (P:=P) w base t o.type e i size ht hi hsize g k cap xs hown ad m c news hn hc h1 b1;unfold Oper.wp execOp
 simp only [ho,resolve,invoke,builtin,Sem.run_bind,Sem.run_pure,Result.andThen_ok,List.map_toArray,List.map_cons,List.map_nil,hs,hx,hr]
 exact h w' h2 h3
end Go.Proofs.YtcbogiebfbbmbaaGreatDoor
