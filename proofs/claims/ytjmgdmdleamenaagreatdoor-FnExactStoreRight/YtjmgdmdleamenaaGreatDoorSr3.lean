/-
  Facts and contracts that the law's own text rests on, by their texts' names: Plain2, Plain3, Frame, Sep, SepApp, IntRow, Node, DiskN, EnvN, IntOwn.
-/
import Derived.Test.YtjmgdmdleamenaaGreatDoorSr1
import Derived.Deep.LoopGhost
import Derived.Laws.Concat
import Derived.WalkSmall
import Derived.WalkSpells
import Derived.Test.YtjmgdmdleamenaaGreatDoorSr2
import Derived.Deep.RegionHeld
import Derived.Deep.AppendLies
set_option maxHeartbeats 16000000
set_option maxRecDepth 100000
namespace Go.Proofs.YtjmgdmdleamenaaGreatDoor
open Go.RowKit
def byt (s:ByteArray) (i:Nat):Nat:=if h:i<s.size then s[i].toNat else 0
theorem byt_lt (s:ByteArray) (i:Nat):byt s i<256:=by
 unfold byt
 split
 ·exact UInt8.toNat_lt _
 ·omega
theorem byt_eq (s:ByteArray) (i:Nat) (h:i<s.size):s[i].toNat=byt s i:=by simp [byt,h]
def accN (b:Nat->Nat):Nat->Nat
 | 0=>0
 | j+1=>accN b j+b j % 128 * 128 ^ j
theorem accN_lt (b:Nat->Nat) (j:Nat):accN b j<128 ^ j:=by
 induction j with
 | zero=>simp [accN]
 | succ j ih=>
  have h1:b j % 128 * 128 ^ j<=127 * 128 ^ j:=Nat.mul_le_mul_right _ (by omega)
  simp only [accN,Nat.pow_succ]
  omega
theorem accN_shift (b:Nat->Nat) (j:Nat):accN b (j+1)=b 0 % 128+128 * accN (fun i=>b (i+1)) j:=by
 induction j with
 | zero=>simp [accN]
 | succ j ih=>
  rw [accN,ih]
  simp only [accN,Nat.mul_add,Nat.pow_succ]
  have:b (j+1) % 128 * (128 ^ j * 128)=128 * (b (j+1) % 128 * 128 ^ j):=by
   rw [<-Nat.mul_assoc,Nat.mul_comm]
  omega
def rvGo (b:Nat->Nat) (len:Nat):Nat->Nat->Option (Nat×Nat)
 | 0,_=>none
 | f+1,j=>if j<len then (if b j<128 then (if accN b (j+1)<=1000000000/\(b j≠0\/j=0) then some (accN b (j+1),j+1) else none) else rvGo b len f (j+1)) else none
def bytesTo (b:Nat->Nat):Nat->List UInt8
 | 0=> []
 | j+1=>UInt8.ofNat (b 0) :: bytesTo (fun i=>b (i+1)) j
theorem bytesTo_length (b:Nat->Nat) (j:Nat):(bytesTo b j).length=j:=by
 induction j generalizing b with
 | zero=>rfl
 | succ j ih=>simp [bytesTo,ih]
theorem bytesTo_snoc (b:Nat->Nat) (j:Nat):bytesTo b (j+1)=bytesTo b j++ [UInt8.ofNat (b j)]:=by
 induction j generalizing b with
 | zero=>rfl
 | succ j ih=>rw [bytesTo,ih];rfl
theorem accN_pos (b:Nat->Nat) (j:Nat) (hl:b j<128) (h:b j≠0):1<=accN b (j+1):=by
 have:1<=b j % 128 * 128 ^ j:=Nat.mul_pos (by omega) (Nat.pow_pos (by omega))
 simp only [accN]
 omega
theorem venc_bytes (f j:Nat) (b:Nat->Nat) (hjf:j<=f) (hb:∀i,b i<256) (hi:∀i,i<j->128<=b i) (hl:b j<128) (h:b j≠0\/j=0):
  venc f (accN b (j+1))=bytesTo b (j+1):=by
 induction j generalizing b f with
 | zero=>
  have e:accN b (0+1)=b 0:=by simp [accN];omega
  rw [e,venc_last _ _ hl];rfl
 | succ j ih=>
  cases f with
  | zero=>omega
  | succ f=>
   have hp:=accN_pos (fun i=>b (i+1)) j hl (by omega)
   have h0:=hi 0 (by omega)
   have hb0:=hb 0
   rw [accN_shift,venc,if_neg (by omega)]
   have e1:(b 0 % 128+128 * accN (fun i=>b (i+1)) (j+1)) % 128+128=b 0:=by omega
   have e2:(b 0 % 128+128 * accN (fun i=>b (i+1)) (j+1)) / 128=accN (fun i=>b (i+1)) (j+1):=by omega
   rw [e1,e2,ih f (fun i=>b (i+1)) (by omega) (fun i=>hb _) (fun i h=>hi _ (by omega)) hl (by omega)]
   rfl
theorem venc_short (f n j:Nat) (hj:1<=j) (h:n<128 ^ j):(venc f n).length<=j:=by
 induction j generalizing f n with
 | zero=>omega
 | succ j ih=>
  cases f with
  | zero=>simp [venc]
  | succ f=>
   unfold venc
   split
   ·simp
   ·rename_i hn
    have hq:n / 128<128 ^ j:=by
     rw [Nat.pow_succ] at h
     exact Nat.div_lt_of_lt_mul (by rw [Nat.mul_comm];exact h)
    have hj1:1<=j:=by
     cases j with
     | zero=>simp at hq;omega
     | succ j=>omega
    have:=ih f (n / 128) hj1 hq
    simp;omega
theorem vtext_iff (j:Nat) (b:Nat->Nat) (hj:j<=4) (hb:∀i,b i<256) (hi:∀i,i<j->128<=b i) (hl:b j<128):
  vtext (accN b (j+1))=bytesTo b (j+1)↔(b j≠0\/j=0):=by
 constructor
 ·intro e
  by_cases h:b j≠0\/j=0
  ·exact h
  ·exfalso
   have h0:b j=0:=by omega
   have hj1:1<=j:=by omega
   have e1:accN b (j+1)=accN b j:=by simp [accN,h0]
   have h2:=venc_short 4 (accN b (j+1)) j hj1 (by rw [e1];exact accN_lt b j)
   have h3:=congrArg List.length e;rw [bytesTo_length] at h3;unfold vtext at h3
   omega
 ·exact venc_bytes 4 j b hj hb hi hl
theorem pow_7 (j:Nat):(2:Int) ^ (7 * j)=((128 ^ j:Nat):Int):=by
 rw [Int.pow_mul];norm_cast
theorem digit_le (y j:Nat) (hj:j<5):y % 128 * 128 ^ j<=34091302912:=by
 have h1:128 ^ j<=128 ^ 4:=Nat.pow_le_pow_right (by omega) (by omega)
 have h2:y % 128 * 128 ^ j<=127 * 128 ^ 4:=Nat.mul_le_mul (by omega) h1
 simpa using h2
theorem rvGo_next (b:Nat->Nat) (len j:Nat) (hj:j<5) (hl:j<len) (h:128<=b j):rvGo b len (5 - (j+1)) (j+1)=rvGo b len (5 - j) j:=by
 have e:5 - j=(5 - (j+1))+1:=by omega
 rw [e,rvGo,if_pos hl,if_neg (by omega)]
theorem rvGo_end (b:Nat->Nat) (len j:Nat) (h:j=5\/len<=j):rvGo b len (5 - j) j=none:=by
 cases e:5 - j with
 | zero=>rfl
 | succ f=>rw [rvGo,if_neg (by omega)]
theorem rvGo_hit (b:Nat->Nat) (len j:Nat) (hj:j<5) (hl:j<len) (h:b j<128) (h1:accN b (j+1)<=1000000000) (h2:b j≠0\/j=0):rvGo b len (5 - j) j=some (accN b (j+1),j+1):=by
 have e:5 - j=(5 - (j+1))+1:=by omega
 rw [e,rvGo,if_pos hl,if_pos h,if_pos ⟨h1,h2⟩]
theorem rvGo_miss (b:Nat->Nat) (len j:Nat) (hj:j<5) (hl:j<len) (h:b j<128) (h1:¬(accN b (j+1)<=1000000000/\(b j≠0\/j=0))):rvGo b len (5 - j) j=none:=by
 have e:5 - j=(5 - (j+1))+1:=by omega
 rw [e,rvGo,if_pos hl,if_pos h,if_neg h1]
theorem pow_le5 (j:Nat) (hj:j<=5):128 ^ j<=34359738368:=by
 have h1:128 ^ j<=128 ^ 5:=Nat.pow_le_pow_right (by omega) (by omega)
 simpa using h1
theorem wrap64_small (n:Int) (h0:0<=n) (h1:n<=9223372036854775807):wrap64 n=n:=IntWalk.wrap64_in n ⟨by omega,by omega⟩
theorem digit_wrap2 (y j X Z:Nat) (hj:j<5) (h:X=y % 128 * 128 ^ j) (hZ:Z=128 ^ j):wrap64 ((y:Int) % 128 * (Z:Int))=(X:Int):=by
 have e:((y:Int) % 128 * (Z:Int))=(X:Int):=by
  rw [hZ,h];norm_cast
 have:=digit_le y j hj
 rw [e,wrap64_small _ (by omega) (by omega)]
theorem digit_wrap (y j X:Nat) (hj:j<5) (h:X=y % 128 * 128 ^ j):wrap64 ((y:Int) % 128 * 2 ^ (7 * j))=(X:Int):=by
 have e:((y:Int) % 128 * 2 ^ (7 * j))=(X:Int):=by
  rw [pow_7,h];norm_cast
 have:=digit_le y j hj
 rw [e,wrap64_small _ (by omega) (by omega)]
theorem extract_bytes (s:ByteArray) (p n:Nat) (h:p+n<=s.size):(s.extract p (p+n)).data.toList=bytesTo (fun i=>byt s (p+i)) n:=by
 induction n with
 | zero=>simp [bytesTo]
 | succ n ih=>
  rw [bytesTo_snoc,<-ih (by omega)]
  have hsz:s.data.toList.length=s.size:=by rw [Array.length_toList];rfl
  have h1:p+n<s.data.toList.length:=by omega
  rw [ByteArray.data_extract,ByteArray.data_extract,Array.toList_extract,Array.toList_extract]
  have e:s.data.toList[p+n]=UInt8.ofNat (byt s (p+n)):=by
   rw [<-byt_eq s (p+n) (by omega)]
   simp
   rfl
  simp only [List.extract_eq_take_drop]
  have e2:p+(n+1) - p=n+1:=by omega
  have e3:p+n - p=n:=by omega
  rw [e2,e3,List.take_succ_eq_append_getElem (by rw [List.length_drop];omega)]
  congr 1
  simp [<-e]
open Go.RowKit
theorem take_byt (s:ByteArray) (k:Nat) (h:k<s.size):s.data.toList.take (k+1)=s.data.toList.take k++ [UInt8.ofNat (byt s k)]:=by
 have hl:k<s.data.toList.length:=by rw [Array.length_toList];exact h
 rw [List.take_succ_eq_append_getElem hl]
 congr 2
 rw [<-byt_eq s k h]
 simp
 rfl
open Go.RowKit
def Kept (w w':World) (S:Nat->Prop):Prop:=w'.os=w.os/\w'.tape=w.tape/\w'.output=w.output/\w.heap.size<=w'.heap.size/\∀k,k<w.heap.size->¬S k->w'.heap[k]?=w.heap[k]?
theorem kept_trans {a b c:World} {S T:Nat->Prop} (h:Kept a b S) (k:Kept b c T) (hT:∀j,j<a.heap.size->T j->S j):Kept a c S:=
 ⟨k.1.trans h.1,k.2.1.trans h.2.1,k.2.2.1.trans h.2.2.1,Nat.le_trans h.2.2.2.1 k.2.2.2.1,fun j hj hn=>(k.2.2.2.2 j (Nat.lt_of_lt_of_le hj h.2.2.2.1) (fun t=>hn (hT j hj t))).trans (h.2.2.2.2 j hj hn)⟩
theorem kept_mono {a b:World} {S T:Nat->Prop} (h:Kept a b S) (hT:∀j,j<a.heap.size->S j->T j):Kept a b T:=
 ⟨h.1,h.2.1,h.2.2.1,h.2.2.2.1,fun j hj hn=>h.2.2.2.2 j hj (fun s=>hn (hT j hj s))⟩
theorem kept_of_all {a b:World} (h:Below a.heap.size a b) (S:Nat->Prop):Kept a b S:=⟨h.os,h.tape,h.output,h.size,fun k hk _=>h.block k hk⟩
theorem below_of_kept {B:Nat} {a b:World} {S:Nat->Prop} (h:Kept a b S) (hB:B<=a.heap.size) (hS:∀k,S k->B<=k):Below B a b:=
 ⟨h.1,h.2.1,h.2.2.1,h.2.2.2.1,fun k hk=>h.2.2.2.2 k (by omega) (fun s=>by have:=hS k s;omega)⟩
theorem kept_setCell (w:World) (g j:Nat) (u:Value):Kept w (w.setCell ⟨g,j,none⟩ u) (fun k=>k=g):=
 ⟨rfl,rfl,rfl,by simp,fun k _ hn=>heap_setCell_other w ⟨g,j,none⟩ k u hn⟩
theorem own_kept {w w':World} {B e sz n:Nat} {v:Value} {xs:List Value} {S:Nat->Prop} (h:w.ownsRow B e sz v n xs) (hk:Kept w w' S) (hS:∀k,v.ownBlock=some k->¬S k):w'.ownsRow B e sz v n xs:=by
 refine ⟨h.1,?_⟩
 rcases h.2 with ⟨rfl,hn⟩ | ⟨g,cap,cur,rfl,hg,hh,rest⟩
 ·exact Or.inl ⟨rfl,hn⟩
 ·have hlt:g<w.heap.size:=(h.lt g rfl).2
  exact Or.inr ⟨g,cap,cur,rfl,hg,(hk.2.2.2.2 g hlt (hS g rfl)).trans hh,rest⟩
theorem row_kept {w w':World} {sz n:Nat} {v:Value} {xs:List Value} {S:Nat->Prop} (h:RowAt w sz v n xs) (hk:Kept w w' S) (hS:n=0\/∀k,k<w.heap.size->v.ownBlock=some k->¬S k):RowAt w' sz v n xs:=by
 obtain ⟨hl,a,cap,rfl,h2⟩:=h;refine ⟨hl,a,cap,rfl,?_⟩
 rcases h2 with h0 | ⟨b,off,rfl,hlt,hc⟩
 ·exact Or.inl h0
 ·rcases hS with h0 | hS
  ·exact Or.inl h0
  ·refine Or.inr ⟨b,off,rfl,Nat.lt_of_lt_of_le hlt hk.2.2.2.1,fun j hj=> ?_⟩
   rw [World.cell?_of_block (hk.2.2.2.2 b hlt (hS b hlt rfl))];exact hc j hj
theorem heap_push (w:World) (o:Obj) (k:Nat):(w.alloc o).heap[k]?=if k=w.heap.size then some o else w.heap[k]?:=by
 show (w.heap.push o)[k]?=_
 rw [Array.getElem?_push]
theorem three_allocs (w:World) (a b c:Obj):(((w.alloc a).alloc b).alloc c).heap[w.heap.size]?=some a/\(((w.alloc a).alloc b).alloc c).heap[w.heap.size+1]?=some b/\(((w.alloc a).alloc b).alloc c).heap[w.heap.size+1+1]?=some c/\(((w.alloc a).alloc b).alloc c).heap.size=w.heap.size+3:=by
 refine ⟨?_,?_,?_,by simp⟩
 ·rw [heap_push,heap_push,heap_push];simp;omega
 ·rw [heap_push,heap_push];simp
 ·rw [heap_push];simp
theorem two_allocs (w:World) (a b:Obj):((w.alloc a).alloc b).heap[w.heap.size]?=some a/\((w.alloc a).alloc b).heap[w.heap.size+1]?=some b/\((w.alloc a).alloc b).heap.size=w.heap.size+2:=by
 refine ⟨?_,?_,by simp⟩
 ·rw [heap_push,heap_push];simp
 ·rw [heap_push];simp
theorem cell_at {w:World} {g:Nat} {cs:Array Value} {t:TypeId} (h:w.heap[g]?=some (.cells cs t (0,0))) (j:Nat):w.cell? ⟨g,j,none⟩=cs[j]?/\w.frozen? ⟨g,j,none⟩=false:=
 ⟨cell_of_row w g j cs t (0,0) h,frozen_of_row w g j cs t h⟩
open Go.RowKit
structure Ast where
 F:Nat->Prop
 P:World->Prop
 loc:∀W W',P W->(∀k,F k->W'.heap[k]?=W.heap[k]?)->P W'
def cellA (g:Nat) (o:Obj):Ast:=⟨fun k=>k=g,fun W=>W.heap[g]?=some o,fun _ _ h hk=>(hk g rfl).trans h⟩
def rowA (B e sz:Nat) (v:Value) (n:Nat) (xs:List Value):Ast:=⟨fun k=>v.ownBlock=some k,fun W=>W.ownsRow B e sz v n xs,fun W W' h hk=>by
 refine ⟨h.1,?_⟩
 rcases h.2 with ⟨rfl,hn⟩ | ⟨g,cap,cur,rfl,hg,hh,rest⟩
 ·exact Or.inl ⟨rfl,hn⟩
 ·exact Or.inr ⟨g,cap,cur,rfl,hg,(hk g rfl).trans hh,rest⟩⟩
def Sep (B:Nat) (W:World) (l:List Ast):Prop:=(∀A∈l,A.P W/\∀k,A.F k->B<=k/\k<W.heap.size)/\l.Pairwise (fun A A'=>∀k,A.F k->¬A'.F k)
theorem sep_nil (B:Nat) (W:World):Sep B W []:=⟨fun _ h=>(by cases h),List.Pairwise.nil⟩
theorem sep_get {B:Nat} {W:World} {l:List Ast} (h:Sep B W l) (i:Nat) {A:Ast} (hi:l[i]?=some A):A.P W:=(h.1 A (List.mem_of_getElem? hi)).1
theorem sep_lt {B:Nat} {W:World} {l:List Ast} (h:Sep B W l) (i:Nat) {A:Ast} (hi:l[i]?=some A):∀k,A.F k->B<=k/\k<W.heap.size:=(h.1 A (List.mem_of_getElem? hi)).2
theorem sep_apart {B:Nat} {W:World} {l:List Ast} (h:Sep B W l) (i j:Nat) {A A':Ast} (hi:l[i]?=some A) (hj:l[j]?=some A') (hne:i≠j):∀k,A.F k->¬A'.F k:=by
 obtain ⟨hi1,rfl⟩:=List.getElem?_eq_some_iff.1 hi;obtain ⟨hj1,rfl⟩:=List.getElem?_eq_some_iff.1 hj
 rcases Nat.lt_or_gt_of_ne hne with h1 | h1
 ·exact List.pairwise_iff_getElem.1 h.2 i j hi1 hj1 h1
 ·exact fun k ha hb=>List.pairwise_iff_getElem.1 h.2 j i hj1 hi1 h1 k hb ha
theorem sep_agree {B:Nat} {W W':World} {l:List Ast} (h:Sep B W l) (hs:W.heap.size<=W'.heap.size) (hk:∀A∈l,∀k,A.F k->W'.heap[k]?=W.heap[k]?):Sep B W' l:=
 ⟨fun A hA=>⟨A.loc W W' (h.1 A hA).1 (hk A hA),fun k hF=>⟨((h.1 A hA).2 k hF).1,Nat.lt_of_lt_of_le ((h.1 A hA).2 k hF).2 hs⟩⟩,h.2⟩
theorem sep_below {B:Nat} {W W':World} {l:List Ast} (h:Sep B W l) (hb:Below W.heap.size W W'):Sep B W' l:=
 sep_agree h hb.size (fun A hA k hF=>hb.block k ((h.1 A hA).2 k hF).2)
theorem sep_drew {B:Nat} {W:World} {l:List Ast} (h:Sep B W l):Sep B W.drew l:=sep_below h (Below.refl _ _).drew
theorem sep_alloc {B:Nat} {W:World} {l:List Ast} (h:Sep B W l) (o:Obj):Sep B (W.alloc o) l:=sep_below h ((Below.refl _ _).alloc (Nat.le_refl _) o)
theorem sep_cons {B:Nat} {W:World} {A:Ast} {l:List Ast}:Sep B W (A :: l)↔(A.P W/\∀k,A.F k->B<=k/\k<W.heap.size)/\(∀A'∈l,∀k,A.F k->¬A'.F k)/\Sep B W l:=by
 constructor
 ·rintro ⟨h1,h2⟩
  obtain ⟨h3,h4⟩:=List.pairwise_cons.1 h2
  exact ⟨h1 A List.mem_cons_self,h3,fun A' h=>h1 A' (List.mem_cons_of_mem _ h),h4⟩
 ·rintro ⟨h1,h2,h3,h4⟩
  refine ⟨fun A' h=> ?_,List.pairwise_cons.2 ⟨h2,h4⟩⟩
  rcases List.mem_cons.1 h with rfl | h
  ·exact h1
  ·exact h3 A' h
theorem sep_del {B:Nat} {W:World} {A:Ast} {l:List Ast} (h:Sep B W (A :: l)):Sep B W l:=(sep_cons.1 h).2.2
theorem sep_add {B:Nat} {W W':World} {l:List Ast} (h:Sep B W l) (hb:Below W.heap.size W W') (A:Ast) (hP:A.P W') (hF:∀k,A.F k->W.heap.size<=k/\k<W'.heap.size) (hB:B<=W.heap.size):Sep B W' (A :: l):=
 sep_cons.2 ⟨⟨hP,fun k hk=>⟨Nat.le_trans hB (hF k hk).1,(hF k hk).2⟩⟩,fun A' hA' k hk hk'=>by have:=((h.1 A' hA').2 k hk').2;have:=(hF k hk).1;omega,sep_below h hb⟩
theorem sep_new {B:Nat} {W:World} {l:List Ast} (h:Sep B W l) (o:Obj) (hB:B<=W.heap.size):Sep B (W.alloc o) (cellA W.heap.size o :: l):=
 sep_add h ((Below.refl _ _).alloc (Nat.le_refl _) o) (cellA W.heap.size o) (heap_alloc_new W o) (fun k hk=>by have hk:k=W.heap.size:=hk;subst hk;exact ⟨Nat.le_refl _,by simp⟩) hB
theorem sep_set {B:Nat} {W W':World} {l:List Ast} (h:Sep B W l) (i:Nat) {A:Ast} (hi:l[i]?=some A) (hk:Kept W W' A.F) (A':Ast) (hP:A'.P W') (hF:∀k,A'.F k->(A.F k\/W.heap.size<=k)/\k<W'.heap.size) (hB:B<=W.heap.size):Sep B W' (l.set i A'):=by
 obtain ⟨hi1,hie⟩:=List.getElem?_eq_some_iff.1 hi
 have hap:∀(j:Nat) (hj:j<l.length),j≠i->∀k,A'.F k->¬l[j].F k:=fun j hj hne k ha hb=>by
  rcases (hF k ha).1 with h1 | h1
  ·exact sep_apart h i j hi (List.getElem?_eq_getElem hj) (fun e=>hne e.symm) k h1 hb
  ·have:=(sep_lt h j (List.getElem?_eq_getElem hj) k hb).2;omega
 refine ⟨fun X hX=> ?_,?_⟩
 ·obtain ⟨j,hj,rfl⟩:=List.getElem_of_mem hX
  rw [List.length_set] at hj;rw [List.getElem_set]
  split
  ·refine ⟨hP,fun k hk'=>⟨?_,(hF k hk').2⟩⟩
   rcases (hF k hk').1 with h1 | h1
   ·exact (sep_lt h i hi k h1).1
   ·omega
  ·rename_i hne
   have h1:=h.1 l[j] (List.getElem_mem hj)
   have h2:∀k,l[j].F k->¬A.F k:=sep_apart h j i (List.getElem?_eq_getElem hj) hi (fun e=>hne e.symm)
   exact ⟨l[j].loc W W' h1.1 (fun k hF'=>hk.2.2.2.2 k (h1.2 k hF').2 (h2 k hF')),fun k hF'=>⟨(h1.2 k hF').1,Nat.lt_of_lt_of_le (h1.2 k hF').2 hk.2.2.2.1⟩⟩
 ·refine List.pairwise_iff_getElem.2 fun p q hp hq hpq=> ?_
  rw [List.length_set] at hp hq;rw [List.getElem_set,List.getElem_set]
  split
  ·rename_i e
   subst e
   rw [if_neg (by omega)]
   exact hap q hq (by omega)
  ·rename_i e
   split
   ·rename_i e2
    subst e2
    exact fun k ha hb=>hap p hp (by omega) k hb ha
   ·exact List.pairwise_iff_getElem.1 h.2 p q hp hq hpq
theorem sep_store {B:Nat} {W:World} {l:List Ast} (h:Sep B W l) (i:Nat) {g:Nat} {cs:Array Value} {T:TypeId} (hi:l[i]?=some (cellA g (.cells cs T (0,0)))) (off:Nat) (v:Value):Sep B (W.setCell ⟨g,off,none⟩ v) (l.set i (cellA g (.cells (cs.setIfInBounds off v) T (0,0)))):=by
 have h1:W.heap[g]?=some (.cells cs T (0,0)):=sep_get h i hi;have h2:=sep_lt h i hi g rfl
 refine sep_set h i hi (kept_setCell W g off v) _ (heap_setCell_same W g off cs T v h1) (fun k hk=>⟨Or.inl hk,?_⟩) (Nat.le_of_lt (Nat.lt_of_le_of_lt h2.1 h2.2))
 have hk:k=g:=hk;subst hk
 simpa using h2.2
theorem sep_grow {B:Nat} {W W0 W':World} {l:List Ast} (h:Sep B W l) (hb:Below W.heap.size W W0) (i:Nat) {B' e sz n n':Nat} {v:Value} {xs xs':List Value} (hi:l[i]?=some (rowA B' e sz v n xs)) (hgr:W0.grownBy W' v.ownBlock) {b c:Nat} (hown:W'.ownsRow B' e sz (.slice (some ⟨b,0,none⟩) n' c) n' xs') (hbb:v.ownBlock=some b\/W.heap.size<=b) (hB:B<=W.heap.size):Sep B W' (l.set i (rowA B' e sz (.slice (some ⟨b,0,none⟩) n' c) n' xs')):=by
 refine sep_set h i hi ⟨hgr.os.trans hb.os,hgr.tape.trans hb.tape,hgr.output.trans hb.output,Nat.le_trans hb.size hgr.size,fun j hj hn=>(hgr.block j (Nat.lt_of_lt_of_le hj hb.size) (fun e=>hn e.symm)).trans (hb.block j hj)⟩ _ hown (fun k hk=>⟨?_,(hown.lt k hk).2⟩) hB
 injection hk with hk
 have hk:b=k:=hk;subst hk;exact hbb
theorem grown_below {B:Nat} {W W0 W':World} {v:Value} {B' e sz n:Nat} {xs:List Value} (hb:Below W.heap.size W W0) (hgr:W0.grownBy W' v.ownBlock) (ho:W.ownsRow B' e sz v n xs) (hB:B<=B') (hBW:B<=W.heap.size):Below B W W':=
 ⟨hgr.os.trans hb.os,hgr.tape.trans hb.tape,hgr.output.trans hb.output,Nat.le_trans hb.size hgr.size,fun k hk=>(hgr.block k (Nat.lt_of_lt_of_le (Nat.lt_of_lt_of_le hk hBW) hb.size) (fun e=>by have:=(ho.lt k e.symm).1;omega)).trans (hb.block k (Nat.lt_of_lt_of_le hk hBW))⟩
theorem sep_perm {B:Nat} {W:World} {l l':List Ast} (h:Sep B W l) (hp:l.Perm l'):Sep B W l':=
 ⟨fun A hA=>h.1 A (hp.mem_iff.2 hA),(hp.pairwise_iff (fun hd k ha hb=>hd k hb ha)).1 h.2⟩
open Go.RowKit
theorem new_cells (W:World) (cs:Array Value) (T:TypeId):∀(j:Nat) (u:Value),cs.toList[j]?=some u->(W.alloc (Obj.cells cs T)).cell? ((⟨W.heap.size,0,none⟩:Addr).add j)=some u:=by
 intro j u hj;have h:=(cell_at (heap_alloc_new W (Obj.cells cs T)) j).1;rw [Addr.add_lit,Nat.zero_add,h,<-Array.getElem?_toList];exact hj
theorem app_sep {B:Nat} {W W':World} {l:List Ast} (h:Sep B W l) (i:Nat) {B' e sz n n':Nat} {v:Value} {xs xs':List Value} (hi:l[i]?=some (rowA B' e sz v n xs)) (hBB:B<=B') (hBW:B<=W.heap.size) {o:Obj} (hgr:(W.alloc o).grownBy W' v.ownBlock) {b c:Nat} (hown:W'.ownsRow B' e sz (.slice (some ⟨b,0,none⟩) n' c) n' xs') (hb:v.ownBlock=some b\/b=W.heap.size+1):
  Sep B W' (l.set i (rowA B' e sz (.slice (some ⟨b,0,none⟩) n' c) n' xs'))/\Below B W W':=by
 have hb0:Below W.heap.size W (W.alloc o):=(Below.refl _ _).alloc (Nat.le_refl _) o
 exact ⟨sep_grow h hb0 i hi hgr hown (hb.imp id (fun e=>by omega)) hBW,grown_below hb0 hgr (sep_get h i hi) hBB hBW⟩
theorem wpList_sep1 {P:Program} {ops:Array Oper} {rest:List Oper} {o:Oper} {a:Act} {Q:Exit->Act->World->Prop} {B:Nat} {W:World} {l:List Ast} (h:Sep B W l) (i:Nat) {B' e sz n:Nat} {v:Value} {xs:List Value} (hi:l[i]?=some (rowA B' e sz v n xs)) (hBB:B<=B') (hBW:B<=W.heap.size) (hBW':B'<=W.heap.size)
  (hgd:o.guard=none) (s x:Operand) (t:TypeId) (ho:o.op= .call {callee:= .builtin .append,args:= #[s,x],argTypes:= #[t,t]}) (inf:TypeInfo) (z:Value) (bytes:Nat) (ht:P.underlying t=some (.slice e)) (hinf:P.info? e=some inf) (hz:inf.zero=some z)
  (hsize:inf.size=sz) (hby:inf.bytes=bytes) (hzs:z.cells.size=sz) (hsz:0<sz) (hs:a.eval s=v) (news:Array Value) {H:Nat} (hH:H=W.heap.size) (hx:a.eval x= .slice (some ⟨H,0,none⟩) 1 1) (hl:news.size=sz) (h1:∀u∈news.toList,u.oneCell'=true) (h63:n+1<=maxLen) (hbytes:(n+1) * bytes<=140737488355328)
  (hK:∀b c w',Sep B w' (l.set i (rowA B' e sz (.slice (some ⟨b,0,none⟩) (n+1) c) (n+1) (xs++news.toList)))->Below B W w'->wpList P ops Q rest (a.put o.dst (.slice (some ⟨b,0,none⟩) (n+1) c)) w'):
  wpList P ops Q (o :: rest) a (W.alloc (Obj.cells news e)):=
 wpList_append_lies _ hgd s x t ho B' e inf z sz bytes ht hinf hz hsize hby hzs hsz v n xs hs ((sep_get h i hi:W.ownsRow B' e sz v n xs).alloc _) ⟨H,0,none⟩ 1 1 news.toList hx (by rw [Array.length_toList,hl,Nat.one_mul]) (by rw [hH];exact new_cells W news e) h1 (by decide) h63 hbytes (by simp;omega) (W.heap.size+1) (by simp)
  (fun b c w' q1 q2 q3 _=>by
   obtain ⟨k1,k2⟩:=app_sep h i hi hBB hBW q2 q1 q3
   exact hK b c w' k1 k2)
theorem sep_join {B:Nat} {W W':World} {l l':List Ast} (h:Sep B W l) (hb:Below W.heap.size W W') (h':Sep W.heap.size W' l') (hB:B<=W.heap.size):Sep B W' (l'++l):=by
 have h2:=sep_below h hb
 refine ⟨fun A hA=> ?_,List.pairwise_append.2 ⟨h'.2,h2.2,fun A hA A' hA' k hk hk'=> ?_⟩⟩
 ·rcases List.mem_append.1 hA with hA | hA
  ·exact ⟨(h'.1 A hA).1,fun k hk=>⟨Nat.le_trans hB ((h'.1 A hA).2 k hk).1,((h'.1 A hA).2 k hk).2⟩⟩
  ·exact h2.1 A hA
 ·have h3:=((h'.1 A hA).2 k hk).1
  have h4:=((h.1 A' hA').2 k hk').2
  omega
theorem sep_pick {B:Nat} {W:World} {pre rest:List Ast} (h:Sep B W (pre++rest)) (js:List Nat) (hnd:js.Nodup) (pre':List Ast) (he:pre'.map some=js.map (fun i=>pre[i]?)):Sep B W (pre'++rest):=by
 obtain ⟨h1,h2⟩:=h;obtain ⟨p1,p2,p3⟩:=List.pairwise_append.1 h2
 have hl:pre'.length=js.length:=by have:=congrArg List.length he;simpa using this
 have hat:∀(j:Nat) (hj:j<pre'.length),∃hp:js[j]'(by omega)<pre.length,pre[js[j]'(by omega)]=pre'[j]:=fun j hj=>by
  have e:=congrArg (fun l=>l[j]?) he
  simp only [List.getElem?_map,List.getElem?_eq_getElem hj,List.getElem?_eq_getElem (show j<js.length by omega),Option.map_some] at e
  have e:=Option.some.inj e;obtain ⟨q1,q2⟩:=List.getElem?_eq_some_iff.1 e.symm;exact ⟨q1,q2⟩
 have hmem:∀A∈pre',A∈pre:=fun A hA=>by
  obtain ⟨j,hj,rfl⟩:=List.getElem_of_mem hA;obtain ⟨q1,q2⟩:=hat j hj;rw [<-q2];exact List.getElem_mem q1
 have hs:∀(i j:Nat) (hi:i<pre.length) (hj:j<pre.length),i≠j->∀k,pre[i].F k->¬pre[j].F k:=fun i j hi hj hne=>by
  rcases Nat.lt_or_gt_of_ne hne with h | h
  ·exact List.pairwise_iff_getElem.1 p1 i j hi hj h
  ·exact fun k ha hb=>List.pairwise_iff_getElem.1 p1 j i hj hi h k hb ha
 refine ⟨fun A hA=> ?_,List.pairwise_append.2 ⟨List.pairwise_iff_getElem.2 fun i j hi hj hij=> ?_,p2,fun A hA A' hA'=>p3 A (hmem A hA) A' hA'⟩⟩
 ·rcases List.mem_append.1 hA with hA | hA
  ·exact h1 A (List.mem_append_left _ (hmem A hA))
  ·exact h1 A (List.mem_append_right _ hA)
 ·obtain ⟨q1,q2⟩:=hat i hi
  obtain ⟨r1,r2⟩:=hat j hj;rw [<-q2,<-r2]
  refine hs _ _ q1 r1 (fun e=> ?_)
  have:=List.pairwise_iff_getElem.1 hnd i j (by omega) (by omega) hij
  exact this e
theorem sep_row0 {B:Nat} {W:World} {g e:Nat} {l:List Ast} (h:Sep B W (cellA g (Obj.cells #[] e) :: l)):Sep B W (rowA B e 1 (.slice (some ⟨g,0,none⟩) 0 0) 0 [] :: l):=by
 obtain ⟨⟨h1,h2⟩,h3,h4⟩:=sep_cons.1 h
 refine sep_cons.2 ⟨⟨⟨rfl,Or.inr ⟨g,0,#[],rfl,(h2 g rfl).1,h1,Nat.le_refl _,Nat.zero_le _,rfl,rfl⟩⟩,fun k hk=> ?_⟩,fun A' hA' k hk=> ?_,h4⟩
 ·injection hk with hk
  have hk:g=k:=hk;subst hk;exact h2 g rfl
 ·injection hk with hk
  have hk:g=k:=hk;subst hk;exact h3 A' hA' g rfl
open Go.RowKit
def ints (l:List Int):List Value:=l.map (Value.int .i64)
theorem ints_length (l:List Int):(ints l).length=l.length:=by simp [ints]
theorem ints_at (l:List Int) (k:Nat) (h:k<l.length):(ints l)[k]?=some (.int .i64 l[k]):=by simp [ints,h]
theorem Tryz.infoIntR:(Tryz.prog.info? 3).map (fun i=>(i.zero,i.size,i.bytes))=some (some (.int .i64 0),1,8):=by kernel_rfl
theorem ints_made (n:Nat):(madeCells #[Value.int .i64 0] n).toList=ints (List.replicate n 0):=by simp [toList_madeCells_one,ints]
theorem ints_set (l:List Int) (k:Nat) (x:Int):(ints l).set k (.int .i64 x)=ints (l.set k x):=by rw [ints,ints,List.map_set]
theorem ints_one (l:List Int):∀y∈ints l,y.oneCell'=true:=fun y hy=>by
 obtain ⟨p,_,rfl⟩:=List.mem_map.1 hy
 rfl
theorem szIntS_any (a:Option Addr) (n cap:Nat) (hn:n<=maxLen) (left:Nat) (hleft:left<=1048576) (w:World):
  Calls Tryz.prog 67 #[.slice a n cap,.int .i64 (left:Int)] w fun e w'=>e= .returned (.int .i64 (szOut left n))/\w=w':=by
 unfold maxLen at hn
 by_cases h:n<=left
 ·rw [szOut_yes h,show ((left - n:Nat):Int)=(left:Int) - (n:Int) from by omega]
  have d1:decide ((left:Int) - (n:Int)<0)=false:=by simp;omega
  go_enter Tryz.func67,Tryz.ntmps67
  go_wp2
  go_ret;exact ⟨rfl,rfl⟩
 ·rw [szOut_no (by omega)]
  have d1:decide ((left:Int) - (n:Int)<0)=true:=by simp;omega
  go_enter Tryz.func67,Tryz.ntmps67
  go_wp2
  go_ret;exact ⟨rfl,rfl⟩
theorem toIntS_any (l:List Int) (hl:l.length<=1048576) (v:Value) (w:World) (hr:RowAt w 1 v l.length (ints l)):
  Calls Tryz.prog 79 #[v] w fun e w'=>∃v',e= .returned v'/\w'.ownsRow w.heap.size 3 1 v' l.length (ints l)/\Below w.heap.size w w':=by
 obtain ⟨i0,hi,hz0,hz1,hz2⟩:=info_parts Tryz.infoIntR;obtain ⟨-,a,cap,rfl,h2⟩:=hr;have HR:=hide h2;clear h2;go_enter Tryz.func79,Tryz.ntmps79
 go_wp2_with (at_make;refine wpList_make_full _ rfl _ _ 30 rfl w.heap.size 3 i0 (.int .i64 0) 1 Tryz.underlying30 hi hz0 hz1 .i64 .i64 _ _ l.length rfl rfl rfl rfl (by rw [hz2];omega) (by unfold maxLen;omega) (Nat.le_refl _) ?_)
 intro w1 hown1 hg1
 have hb1:Below w.heap.size w w1:=(Below.refl _ _).grown hg1 (Nat.le_refl _) (fun k hk=>by cases hk)
 have hown2:w1.ownsRow w.heap.size 3 1 (.slice (some ⟨w.heap.size,0,none⟩) l.length l.length) l.length (ints (List.replicate l.length 0)):=own_n hown1 rfl (ints_made _);clear hg1 hown1
 go_wp2
 go_loopg [4] l.length (fun q iv wr=>∃(k:Nat) (m:List Int),k<=l.length/\iv= .int .i64 (k:Int)/\q+k=l.length/\wr.ownsRow w.heap.size 3 1 (.slice (some ⟨w.heap.size,0,none⟩) l.length l.length) l.length (ints m)/\Hid (m.length=l.length/\m.take k=l.take k)/\Below w.heap.size w wr)
 case atStart=>exact ⟨0,_,Nat.zero_le _,rfl,rfl,hown2,hide ⟨by simp,by simp⟩,hb1⟩
 case round=>
  obtain ⟨k,m,hk,rfl,hg,hown,HM,hb⟩:=hrel;have HG:=hide hg;clear hg hown2 hb1
  by_cases hlt:k<l.length
  ·rcases HR.out with hn0 | ⟨b,off,rfl,hbl,hc⟩
   ·omega
   ·obtain ⟨x,hx⟩:∃x,x=l[k]:=⟨_,rfl⟩
    have hcx:wr.cell? ⟨b,off+k,none⟩=some (.int .i64 x):=by rw [hb.cell (by exact hbl),hc k (by omega),ints_at l k hlt,hx]
    obtain ⟨u,hu⟩:∃u,(ints m)[k]?=some u:=⟨_,List.getElem?_eq_getElem (by rw [ints_length,HM.out.1];exact hlt)⟩
    have hcell:wr.cell? ⟨w.heap.size,k,none⟩=some u:=by rw [hown.cellAt k (by omega),hu]
    have hfz:wr.frozen? ⟨w.heap.size,k,none⟩=false:=hown.frozenAt k;have HO:=hide ((hown.stored k (.int .i64 x)).1);rw [ints_set m k x] at HO
    have HM2:Hid ((m.set k x).length=l.length/\(m.set k x).take (k+1)=l.take (k+1)):=hide (by
     refine ⟨by rw [List.length_set];exact HM.out.1,?_⟩
     have hkm:k<m.length:=by rw [HM.out.1];exact hlt
     rw [List.take_succ_eq_append_getElem (by rw [List.length_set];exact hkm),List.take_succ_eq_append_getElem hlt,List.getElem_set_self,List.take_set_of_le (by omega),HM.out.2,hx])
    have hk0:(0:Int)<=(k:Int):=by omega
    have hk1:(k:Int)<(l.length:Int):=by omega
    clear hu hown hx hc
    go_wp2
    go_roundg (gk - 1)
    case measure=>have:=HG.out;omega
    case rel=>exact ⟨k+1,m.set k x,by omega,by go_num,by have:=HG.out;omega,HO.out,HM2,hb.setCell (Nat.le_refl _) _⟩
  ·have hml:m=l:=by
    have h1:=HM.out.2
    rw [List.take_of_length_le (by rw [HM.out.1];omega),List.take_of_length_le (by omega)] at h1
    exact h1
   subst hml
   go_wp2
   go_ret;exact ⟨_,rfl,hown,hb⟩
theorem eqIntS_row (l m:List Int) (hl:l.length<=9223372036854775807) (_hm:m.length<=9223372036854775807) (v u:Value) (w:World) (hr:RowAt w 1 v l.length (ints l)) (hq:RowAt w 1 u m.length (ints m)):
  Calls Tryz.prog 93 #[v,u] w fun e w'=>e= .returned (.bool (decide (l=m)))/\Below w.heap.size w w':=by
 obtain ⟨-,a,cap,rfl,h2⟩:=hr;obtain ⟨-,a',cap',rfl,h3⟩:=hq;have HR:=hide h2;have HQ:=hide h3;clear h2 h3
 by_cases hne:l.length=m.length
 ·have HN:=hide hne
  rw [<-hne];clear hne;go_enter Tryz.func93,Tryz.ntmps93
  go_wp2
  go_loopg [5] l.length (fun q iv wr=>∃k:Nat,k<=l.length/\iv= .int .i64 (k:Int)/\q+k=l.length/\Hid (l.take k=m.take k)/\Below w.heap.size w wr)
  case atStart=>exact ⟨0,Nat.zero_le _,rfl,rfl,hide (by simp),Below.refl _ _⟩
  case round=>
   obtain ⟨k,hk,rfl,hg,HT,hb⟩:=hrel;have HG:=hide hg;clear hg
   by_cases hlt:k<l.length
   ·rcases HR.out with hn0 | ⟨b,off,rfl,hbl,hc⟩
    ·omega
    ·rcases HQ.out with hn0 | ⟨b',off',rfl,hbl',hc'⟩
     ·have:=HN.out;omega
     ·have hltm:k<m.length:=by have:=HN.out;omega
      obtain ⟨x,hx⟩:∃x,x=l[k]:=⟨_,rfl⟩;obtain ⟨y,hy⟩:∃y,y=m[k]:=⟨_,rfl⟩
      have hcx:wr.cell? ⟨b,off+k,none⟩=some (.int .i64 x):=by rw [hb.cell (by exact hbl),hc k (by omega),ints_at l k hlt,hx]
      have hcy:wr.cell? ⟨b',off'+k,none⟩=some (.int .i64 y):=by rw [hb.cell (by exact hbl'),hc' k (by omega),ints_at m k hltm,hy]
      have HX:=hide hx;have HY:=hide hy
      have hk0:(0:Int)<=(k:Int):=by omega
      have hk1:(k:Int)<(l.length:Int):=by omega
      clear hc hc' hx hy
      by_cases hxy:x=y
      ·have HT2:Hid (l.take (k+1)=m.take (k+1)):=hide (by rw [List.take_succ_eq_append_getElem hlt,List.take_succ_eq_append_getElem hltm,HT.out,<-HX.out,<-HY.out,hxy])
       subst hxy
       have hbq:(x !=x)=false:=by simp
       go_wp2
       go_quiet (fail)
       go_wp2
       go_roundg (gk - 1)
       case measure=>have:=HG.out;omega
       case rel=>exact ⟨k+1,by omega,by go_num,by have:=HG.out;omega,HT2,below_drewN hb _⟩
      ·have HD:=hide (list_ne hlt hltm (by rw [<-HX.out,<-HY.out];exact hxy))
       have hbq:(x !=y)=true:=by simp [hxy]
       have hbr:(x ==y)=false:=by simp [hxy]
       go_wp2
       go_quiet (fail)
       go_wp2
       go_ret;rw [HD.out];exact ⟨rfl,below_drewN hb _⟩
   ·have HD:Hid (decide (l=m)=true):=hide (decide_eq_true (by
     have h1:=HT.out
     rw [List.take_of_length_le (by omega),List.take_of_length_le (by have:=HN.out;omega)] at h1
     exact h1))
    go_wp2
    go_ret;rw [HD.out];exact ⟨rfl,hb⟩
 ·have HD:Hid (decide (l=m)=false):=hide (decide_eq_false (fun e=>hne (by rw [e])))
  have hq1:¬((l.length:Int)=(m.length:Int)):=by omega
  clear hne;go_enter Tryz.func93,Tryz.ntmps93
  go_wp2
  go_ret;rw [HD.out];exact ⟨rfl,Below.refl _ _⟩
open Go.RowKit
def NodeAt (w:World) (v:Value) (lf:Bool) (ks vs:List ByteArray) (cs:List Int):Prop:=
 ∃vk vv vc,v= .agg #[.bool lf,vk,vv,vc]/\RowAt w 1 vk ks.length (strs ks)/\RowAt w 1 vv vs.length (strs vs)/\RowAt w 1 vc cs.length (ints cs)
def NodeOwn (w:World) (B:Nat) (v:Value) (lf:Bool) (ks vs:List ByteArray) (cs:List Int):Prop:=
 ∃vk vv vc,v= .agg #[.bool lf,vk,vv,vc]/\w.ownsRow B 9 1 vk ks.length (strs ks)/\w.ownsRow B 9 1 vv vs.length (strs vs)/\w.ownsRow B 3 1 vc cs.length (ints cs)/\∀k,vk.ownBlock=some k->vv.ownBlock≠some k
theorem node_of_own {w:World} {B:Nat} {v:Value} {lf:Bool} {ks vs:List ByteArray} {cs:List Int} (h:NodeOwn w B v lf ks vs cs):NodeAt w v lf ks vs cs:=by
 obtain ⟨vk,vv,vc,e,h1,h2,h3,-⟩:=h;exact ⟨vk,vv,vc,e,row_of_own h1,row_of_own h2,row_of_own h3⟩
theorem node_below {w w':World} {v:Value} {lf:Bool} {ks vs:List ByteArray} {cs:List Int} (h:NodeAt w v lf ks vs cs) (hb:Below w.heap.size w w'):NodeAt w' v lf ks vs cs:=by
 obtain ⟨vk,vv,vc,e,h1,h2,h3⟩:=h;exact ⟨vk,vv,vc,e,row_below h1 hb,row_below h2 hb,row_below h3 hb⟩
theorem nodeOwn_below {w w':World} {B:Nat} {v:Value} {lf:Bool} {ks vs:List ByteArray} {cs:List Int} (h:NodeOwn w B v lf ks vs cs) (hb:Below w.heap.size w w'):NodeOwn w' B v lf ks vs cs:=by
 obtain ⟨vk,vv,vc,e,h1,h2,h3,h4⟩:=h;exact ⟨vk,vv,vc,e,own_stays h1 hb,own_stays h2 hb,own_stays h3 hb,h4⟩
theorem own_slice {w:World} {B e sz n:Nat} {v:Value} {xs:List Value} (h:w.ownsRow B e sz v n xs):∃a cap,v= .slice a n cap:=by
 obtain ⟨-,a,cap,e,-⟩:=row_of_own h;exact ⟨a,cap,e⟩
def nodeBlocks (v:Value) (k:Nat):Prop:=∃b vk vv vc,v= .agg #[b,vk,vv,vc]/\(vk.ownBlock=some k\/vv.ownBlock=some k\/vc.ownBlock=some k)
theorem agg4 {a b c d a' b' c' d':Value} (h:Value.agg #[a,b,c,d]= .agg #[a',b',c',d']):a=a'/\b=b'/\c=c'/\d=d':=by
 injection h with h
 have:=congrArg Array.toList h
 simp at this
 exact this
theorem nodeOwn_lt {w:World} {B:Nat} {v:Value} {lf:Bool} {ks vs:List ByteArray} {cs:List Int} (h:NodeOwn w B v lf ks vs cs):∀k,nodeBlocks v k->B<=k/\k<w.heap.size:=by
 obtain ⟨vk,vv,vc,rfl,h1,h2,h3,-⟩:=h;rintro k ⟨b,vk',vv',vc',e,hk⟩;obtain ⟨-,rfl,rfl,rfl⟩:=agg4 e
 rcases hk with hk | hk | hk
 ·exact h1.lt k hk
 ·exact h2.lt k hk
 ·exact h3.lt k hk
theorem nodeOwn_kept {w w':World} {B:Nat} {v:Value} {lf:Bool} {ks vs:List ByteArray} {cs:List Int} {S:Nat->Prop} (h:NodeOwn w B v lf ks vs cs) (hk:Kept w w' S) (hS:∀k,nodeBlocks v k->¬S k):NodeOwn w' B v lf ks vs cs:=by
 obtain ⟨vk,vv,vc,rfl,h1,h2,h3,h4⟩:=h
 exact ⟨vk,vv,vc,rfl,own_kept h1 hk (fun k e=>hS k ⟨_,vk,vv,vc,rfl,Or.inl e⟩),own_kept h2 hk (fun k e=>hS k ⟨_,vk,vv,vc,rfl,Or.inr (Or.inl e)⟩),own_kept h3 hk (fun k e=>hS k ⟨_,vk,vv,vc,rfl,Or.inr (Or.inr e)⟩),h4⟩
theorem one_type {w:World} {B B' e e' sz sz' n n':Nat} {v v':Value} {xs xs':List Value} (h:w.ownsRow B e sz v n xs) (h':w.ownsRow B' e' sz' v' n' xs') (hne:e≠e') (k:Nat) (h1:v.ownBlock=some k):v'.ownBlock≠some k:=by
 intro h2
 rcases h.2 with ⟨rfl,-⟩ | ⟨g,cap,cur,rfl,-,hh,-⟩
 ·cases h1
 ·rcases h'.2 with ⟨rfl,-⟩ | ⟨g',cap',cur',rfl,-,hh',-⟩
  ·cases h2
  ·injection h1 with h1
   injection h2 with h2
   have h1:g=k:=h1;have h2:g'=k:=h2;subst h1;subst h2;rw [hh] at hh'
   injection hh' with hh'
   injection hh' with _ he _
   exact hne he
theorem Tryz.str_int:(9:Nat)≠3:=by decide
theorem blk_other {w:World} {g g' j:Nat} {u:Value} {o:Obj} (h:w.heap[g]?=some o) (hne:g≠g'):(w.setCell ⟨g',j,none⟩ u).heap[g]?=some o:=(heap_setCell_other w ⟨g',j,none⟩ g u (by exact hne)).trans h
open Go.RowKit
def DiskAt (w:World) (v:Value) (ps:List ByteArray) (ls:List (Int×ByteArray)):Prop:=
 ∃vp vl,v= .agg #[vp,vl]/\RowAt w 1 vp ps.length (strs ps)/\RowAt w 2 vl ls.length (puts ls)
def DiskOwn (w:World) (B:Nat) (v:Value) (ps:List ByteArray) (ls:List (Int×ByteArray)):Prop:=
 ∃vp vl,v= .agg #[vp,vl]/\w.ownsRow B 9 1 vp ps.length (strs ps)/\w.ownsRow B 152 2 vl ls.length (puts ls)
theorem disk_of_own {w:World} {B:Nat} {v:Value} {ps:List ByteArray} {ls:List (Int×ByteArray)} (h:DiskOwn w B v ps ls):DiskAt w v ps ls:=by
 obtain ⟨vp,vl,e,h1,h2⟩:=h;exact ⟨vp,vl,e,row_of_own h1,row_of_own h2⟩
theorem disk_below {w w':World} {v:Value} {ps:List ByteArray} {ls:List (Int×ByteArray)} (h:DiskAt w v ps ls) (hb:Below w.heap.size w w'):DiskAt w' v ps ls:=by
 obtain ⟨vp,vl,e,h1,h2⟩:=h;exact ⟨vp,vl,e,row_below h1 hb,row_below h2 hb⟩
def diskBlocks (v:Value) (k:Nat):Prop:=∃vp vl,v= .agg #[vp,vl]/\(vp.ownBlock=some k\/vl.ownBlock=some k)
theorem disk_kept {w w':World} {v:Value} {ps:List ByteArray} {ls:List (Int×ByteArray)} {S:Nat->Prop} (h:DiskAt w v ps ls) (hk:Kept w w' S) (hS:∀k,k<w.heap.size->diskBlocks v k->¬S k):DiskAt w' v ps ls:=by
 obtain ⟨vp,vl,rfl,h1,h2⟩:=h
 exact ⟨vp,vl,rfl,row_kept h1 hk (Or.inr fun k hlt e=>hS k hlt ⟨vp,vl,rfl,Or.inl e⟩),row_kept h2 hk (Or.inr fun k hlt e=>hS k hlt ⟨vp,vl,rfl,Or.inr e⟩)⟩
theorem diskOwn_kept {w w':World} {B:Nat} {v:Value} {ps:List ByteArray} {ls:List (Int×ByteArray)} {S:Nat->Prop} (h:DiskOwn w B v ps ls) (hk:Kept w w' S) (hS:∀k,diskBlocks v k->¬S k):DiskOwn w' B v ps ls:=by
 obtain ⟨vp,vl,rfl,h1,h2⟩:=h
 exact ⟨vp,vl,rfl,own_kept h1 hk (fun k e=>hS k ⟨vp,vl,rfl,Or.inl e⟩),own_kept h2 hk (fun k e=>hS k ⟨vp,vl,rfl,Or.inr e⟩)⟩
theorem diskOwn_lt {w:World} {B:Nat} {v:Value} {ps:List ByteArray} {ls:List (Int×ByteArray)} (h:DiskOwn w B v ps ls):∀k,diskBlocks v k->B<=k/\k<w.heap.size:=by
 obtain ⟨vp,vl,rfl,h1,h2⟩:=h;rintro k ⟨vp',vl',e,hk⟩
 have e2:vp=vp'/\vl=vl':=by injection e with e;injection e with e;injection e with e1 e;injection e with e2;exact ⟨e1,e2⟩
 obtain ⟨rfl,rfl⟩:=e2
 rcases hk with hk | hk
 ·exact h1.lt k hk
 ·exact h2.lt k hk
theorem szDisk_any (v:Value) (ps:List ByteArray) (ls:List (Int×ByteArray)) (hp:ps.length<=maxLen) (hps:∀s∈ps,s.size<=maxLen) (hl:ls.length<=maxLen) (hls:∀p∈ls,p.2.size<=maxLen) (left:Nat) (hleft:left<=1048576) (w:World) (hd:DiskAt w v ps ls):
  Calls Tryz.prog 9 #[v,.int .i64 (left:Int)] w fun e w'=>e= .returned (.int .i64 (szOut left (bulkS ps+bulkP ls)))/\Below w.heap.size w w':=by
 obtain ⟨vp,vl,rfl,h1,h2⟩:=hd
 have hbB:∀o:Obj,Below w.heap.size w (w.alloc o):=fun o=>(Below.refl w.heap.size w).alloc (Nat.le_refl _) _
 have HB:=hide hbB
 have HC1:=hide (fun wx h=>szStringS_any ps hp hps vp left hleft wx h)
 have H1:=hide h1;have H2:=hide h2;have HP:=hide (⟨hl,hls⟩:ls.length<=maxLen/\∀p∈ls,p.2.size<=maxLen);clear hp hps hl hls h1 h2 hbB
 by_cases hn:left<bulkS ps
 ·have HO:Hid (szOut left (bulkS ps+bulkP ls)= -1):=hide (szOut_no (by omega))
  rw [szOut_no hn] at HC1;go_enter Tryz.func9,Tryz.ntmps9;go_wp2_with fail;refine (HC1.out _ (row_below H1.out (HB.out _))).mono ?_;rintro e w1 ⟨rfl,rfl⟩;go_wp2_with fail;go_ret;rw [HO.out];exact ⟨rfl,HB.out _⟩
 ·obtain ⟨m,hm⟩:∃m,m=left - bulkS ps:=⟨_,rfl⟩
  rw [szOut_yes (by omega),<-hm] at HC1
  have hml:m<=1048576:=by omega
  have HC2:=hide (fun wx h=>szPutS_any ls HP.out.1 HP.out.2 vl m hml wx h)
  by_cases hn2:m<bulkP ls
  ·have HO:Hid (szOut left (bulkS ps+bulkP ls)= -1):=hide (szOut_no (by omega))
   rw [szOut_no hn2] at HC2;clear hm hn hn2;go_enter Tryz.func9,Tryz.ntmps9;go_wp2_with fail;refine (HC1.out _ (row_below H1.out (HB.out _))).mono ?_;rintro e w1 ⟨rfl,rfl⟩;go_wp2_with fail;refine (HC2.out _ (row_below H2.out (HB.out _))).mono ?_;rintro e w2 ⟨rfl,hb2⟩;go_wp2_with fail;go_ret;rw [HO.out];exact ⟨rfl,(HB.out _).trans (hb2.mono (HB.out _).size)⟩
  ·obtain ⟨r,hr⟩:∃r,r=m - bulkP ls:=⟨_,rfl⟩
   rw [szOut_yes (by omega),<-hr] at HC2
   have hrl:r<=1048576:=by omega
   have HO:Hid (szOut left (bulkS ps+bulkP ls)=(r:Int)):=hide (by rw [szOut_yes (by omega)];congr 1;omega)
   clear hm hn hn2 hr;go_enter Tryz.func9,Tryz.ntmps9;go_wp2_with fail;refine (HC1.out _ (row_below H1.out (HB.out _))).mono ?_;rintro e w1 ⟨rfl,rfl⟩;go_wp2_with fail;refine (HC2.out _ (row_below H2.out (HB.out _))).mono ?_;rintro e w2 ⟨rfl,hb2⟩;go_wp2_with fail;go_ret;rw [HO.out];exact ⟨rfl,(HB.out _).trans (hb2.mono (HB.out _).size)⟩
theorem toDisk_any (v:Value) (ps:List ByteArray) (ls:List (Int×ByteArray)) (hp:ps.length<=1048576) (hl:ls.length<=1048576) (w:World) (hd:DiskAt w v ps ls):
  Calls Tryz.prog 17 #[v] w fun e w'=>∃v',e= .returned v'/\DiskOwn w' w.heap.size v' ps ls/\Below w.heap.size w w':=by
 obtain ⟨vp,vl,rfl,h1,h2⟩:=hd
 have HC1:=hide (fun wx h=>toStringS_any ps hp vp wx h)
 have HC2:=hide (fun wx h=>toPutS_any ls hl vl wx h)
 have H1:=hide h1;have H2:=hide h2;clear h1 h2 hp hl;obtain ⟨w0,hw0⟩:∃w0,w0=((w.alloc (Obj.cells #[vp,vl] 25)).alloc (Obj.cells #[.slice none 0 0,.slice none 0 0] 41)).alloc (Obj.cells #[.slice none 0 0,.slice none 0 0] 41):=⟨_,rfl⟩
 have hb0:Below w.heap.size w w0:=by rw [hw0];exact (((Below.refl w.heap.size w).alloc (Nat.le_refl _) _).alloc (by simp) _).alloc (by simp;omega) _
 go_enter Tryz.func17,Tryz.ntmps17;go_wp2_with fail;rw [<-hw0];refine (HC1.out _ (row_below H1.out hb0)).mono ?_;rintro e w1 ⟨u1,rfl,hown1,hb1⟩;obtain ⟨x1,c1,rfl⟩:=own_slice hown1;obtain ⟨q0,q1,q2,hs0⟩:=three_allocs w (Obj.cells #[vp,vl] 25) (Obj.cells #[.slice none 0 0,.slice none 0 0] 41) (Obj.cells #[.slice none 0 0,.slice none 0 0] 41);rw [<-hw0] at q0 q1 q2 hs0;obtain ⟨a0,ha0⟩:∃a,a=w.heap.size:=⟨_,rfl⟩;rw [<-ha0] at q0 q1 q2 hs0⊢;obtain ⟨a1,ha1⟩:∃a,a=a0+1:=⟨_,rfl⟩;obtain ⟨a2,ha2⟩:∃a,a=a0+1+1:=⟨_,rfl⟩;rw [<-ha2,<-ha1];rw [<-ha1] at q1;rw [<-ha2] at q2;have HW0:=hide hw0;have HA:=hide (⟨ha0,ha1,ha2,hs0⟩:a0=w.heap.size/\a1=a0+1/\a2=a0+1+1/\w0.heap.size=a0+3);have HB0:=hide hb0
 have r0:=(hb1.block a0 (by omega)).trans q0
 have r1:=(hb1.block a1 (by omega)).trans q1
 have r2:=(hb1.block a2 (by omega)).trans q2
 have hn20:a2≠a0:=by omega
 have hn21:a2≠a1:=by omega
 have hn10:a1≠a0:=by omega
 have HN:=hide (⟨hn20,hn21,hn10⟩:a2≠a0/\a2≠a1/\a1≠a0);clear hw0 ha0 ha1 ha2 hs0 hb0 q0 q1 q2;have s2:(w1.setCell ⟨a2,0,none⟩ (.slice x1 ps.length c1)).heap[a2]?=some (Obj.cells #[(.slice x1 ps.length c1),.slice none 0 0] 41):=heap_setCell_same w1 a2 0 _ _ _ r2
 have s0:(w1.setCell ⟨a2,0,none⟩ (.slice x1 ps.length c1)).heap[a0]?=some (Obj.cells #[vp,vl] 25):=(heap_setCell_other w1 ⟨a2,0,none⟩ a0 (.slice x1 ps.length c1) (by exact fun e=>hn20 e.symm)).trans r0
 have s1:(w1.setCell ⟨a2,0,none⟩ (.slice x1 ps.length c1)).heap[a1]?=some (Obj.cells #[.slice none 0 0,.slice none 0 0] 41):=(heap_setCell_other w1 ⟨a2,0,none⟩ a1 (.slice x1 ps.length c1) (by exact fun e=>hn21 e.symm)).trans r1
 have c20:w1.cell? ⟨a2,0,none⟩=some (.slice none 0 0):=(cell_at r2 0).1;have f20:=(cell_at r2 0).2;have c01:(w1.setCell ⟨a2,0,none⟩ (.slice x1 ps.length c1)).cell? ⟨a0,1,none⟩=some vl:=(cell_at s0 1).1;have HB1:=hide hb1;have HO1:=hide hown1;have HR:=hide (⟨s0,s1,s2⟩:(w1.setCell ⟨a2,0,none⟩ (.slice x1 ps.length c1)).heap[a0]?=some (Obj.cells #[vp,vl] 25)/\(w1.setCell ⟨a2,0,none⟩ (.slice x1 ps.length c1)).heap[a1]?=some (Obj.cells #[.slice none 0 0,.slice none 0 0] 41)/\(w1.setCell ⟨a2,0,none⟩ (.slice x1 ps.length c1)).heap[a2]?=some (Obj.cells #[(.slice x1 ps.length c1),.slice none 0 0] 41));clear hb1 hown1 r0 r1 r2 s0 s1 s2 hn20 hn21 hn10;go_wp2_with fail
 have HB2:Hid (Below w.heap.size w (w1.setCell ⟨a2,0,none⟩ (.slice x1 ps.length c1))):=hide ((HB0.out.trans (HB1.out.mono HB0.out.size)).setCell (by have:=HA.out;show _<=a2;omega) _)
 refine (HC2.out _ (row_below H2.out HB2.out)).mono ?_;rintro e w3 ⟨u2,rfl,hown2,hb3⟩;obtain ⟨x2,c2,rfl⟩:=own_slice hown2
 have hsz:(w1.setCell ⟨a2,0,none⟩ (.slice x1 ps.length c1)).heap.size=w1.heap.size:=by simp
 have hlt2:a2<(w1.setCell ⟨a2,0,none⟩ (.slice x1 ps.length c1)).heap.size:=(Array.getElem?_eq_some_iff.1 HR.out.2.2).1;have hlt1:a1<(w1.setCell ⟨a2,0,none⟩ (.slice x1 ps.length c1)).heap.size:=(Array.getElem?_eq_some_iff.1 HR.out.2.1).1;have t1:=(hb3.block a1 hlt1).trans HR.out.2.1;have t2:=(hb3.block a2 hlt2).trans HR.out.2.2;have d21:w3.cell? ⟨a2,1,none⟩=some (.slice none 0 0):=(cell_at t2 1).1;have f21:=(cell_at t2 1).2;have v2:(w3.setCell ⟨a2,1,none⟩ (.slice x2 ls.length c2)).heap[a2]?=some (Obj.cells #[.slice x1 ps.length c1,.slice x2 ls.length c2] 41):=heap_setCell_same w3 a2 1 _ _ _ t2
 have v1:(w3.setCell ⟨a2,1,none⟩ (.slice x2 ls.length c2)).heap[a1]?=some (Obj.cells #[.slice none 0 0,.slice none 0 0] 41):=(heap_setCell_other w3 ⟨a2,1,none⟩ a1 _ (by exact fun e=>HN.out.2.1 e.symm)).trans t1
 have e20:(w3.setCell ⟨a2,1,none⟩ (.slice x2 ls.length c2)).cell? ⟨a2,0,none⟩=some (.slice x1 ps.length c1):=(cell_at v2 0).1;have e21:(w3.setCell ⟨a2,1,none⟩ (.slice x2 ls.length c2)).cell? ⟨a2,1,none⟩=some (.slice x2 ls.length c2):=(cell_at v2 1).1;have e10:(w3.setCell ⟨a2,1,none⟩ (.slice x2 ls.length c2)).cell? ⟨a1,0,none⟩=some (.slice none 0 0):=(cell_at v1 0).1;have e11:(w3.setCell ⟨a2,1,none⟩ (.slice x2 ls.length c2)).cell? ⟨a1,1,none⟩=some (.slice none 0 0):=(cell_at v1 1).1;have g10:=(cell_at v1 0).2;have g11:=(cell_at v1 1).2;have HB3:=hide hb3;have HO2:=hide hown2;have HV:=hide v1;clear hb3 hown2 t1 t2 v1 v2 hlt1 hlt2 hsz;go_wp2_with fail;have y1:((w3.setCell ⟨a2,1,none⟩ (.slice x2 ls.length c2)).setCell ⟨a1,0,none⟩ (.slice x1 ps.length c1)).heap[a1]?=some (Obj.cells #[.slice x1 ps.length c1,.slice none 0 0] 41):=heap_setCell_same _ a1 0 _ _ _ HV.out;have y2:(((w3.setCell ⟨a2,1,none⟩ (.slice x2 ls.length c2)).setCell ⟨a1,0,none⟩ (.slice x1 ps.length c1)).setCell ⟨a1,1,none⟩ (.slice x2 ls.length c2)).heap[a1]?=some (Obj.cells #[.slice x1 ps.length c1,.slice x2 ls.length c2] 41):=heap_setCell_same _ a1 1 _ _ _ y1;have z0:=(cell_at y2 0).1;have z1:=(cell_at y2 1).1;have hA:=HA.out
 have k1:Kept w1 (w1.setCell ⟨a2,0,none⟩ (.slice x1 ps.length c1)) (fun k=>k=a1\/k=a2):=kept_mono (kept_setCell _ _ _ _) (fun j _ h=>Or.inr h)
 have k2:Kept w3 (((w3.setCell ⟨a2,1,none⟩ (.slice x2 ls.length c2)).setCell ⟨a1,0,none⟩ (.slice x1 ps.length c1)).setCell ⟨a1,1,none⟩ (.slice x2 ls.length c2)) (fun k=>k=a1\/k=a2):=kept_trans (kept_trans (kept_mono (kept_setCell _ _ _ _) (fun j _ h=>Or.inr h)) (kept_setCell _ _ _ _) (fun j _ h=>Or.inl h)) (kept_setCell _ _ _ _) (fun j _ h=>Or.inl h)
 have k3:=kept_trans (kept_trans k1 (kept_of_all HB3.out (fun _=>False)) (fun j _ h=>h.elim)) k2 (fun j _ h=>h)
 refine bodyPost_ret (v:= .agg #[.slice x1 ps.length c1,.slice x2 ls.length c2]) (by simp [results,Tryz.results17,go_sem,z0,z1]) rfl ⟨_,rfl,⟨_,_,rfl,?_,?_⟩,?_⟩
 ·exact own_down (own_kept HO1.out k3 (fun k hk=>by have:=(HO1.out.lt k hk).1;omega)) (by omega)
 ·refine own_down (own_kept HO2.out k2 (fun k hk=>by have h1:=(HO2.out.lt k hk).1;have h2:=HB1.out.size;simp at h1;omega)) (by have h2:=HB1.out.size;simp;omega)
 ·refine ((((HB2.out.trans (HB3.out.mono HB2.out.size)).setCell ?_ _).setCell ?_ _).setCell ?_ _)
  ·show _<=a2;omega
  ·show _<=a1;omega
  ·show _<=a1;omega
theorem eqDisk_any (v u:Value) (ps qs:List ByteArray) (ls ms:List (Int×ByteArray)) (hp:ps.length<=9223372036854775807) (hq:qs.length<=9223372036854775807) (hl:ls.length<=9223372036854775807) (hm:ms.length<=9223372036854775807) (w:World) (hd:DiskAt w v ps ls) (hu:DiskAt w u qs ms):
  Calls Tryz.prog 26 #[v,u] w fun e w'=>e= .returned (.bool (decide ((ps,ls)=(qs,ms))))/\Below w.heap.size w w':=by
 obtain ⟨vp,vl,rfl,h1,h2⟩:=hd;obtain ⟨up,ul,rfl,h3,h4⟩:=hu
 have HC1:=hide (fun wx h h'=>eqStringS_row ps qs hp hq vp up wx h h')
 have HC2:=hide (fun wx h h'=>eqPutS_row ls ms hl hm vl ul wx h h')
 have HR:=hide (⟨h1,h2,h3,h4⟩:RowAt w 1 vp ps.length (strs ps)/\RowAt w 2 vl ls.length (puts ls)/\RowAt w 1 up qs.length (strs qs)/\RowAt w 2 ul ms.length (puts ms));clear h1 h2 h3 h4 hp hq hl hm;obtain ⟨w0,hw0⟩:∃w0,w0=(w.alloc (Obj.cells #[vp,vl] 41)).alloc (Obj.cells #[up,ul] 41):=⟨_,rfl⟩
 have hb0:Below w.heap.size w w0:=by rw [hw0];exact ((Below.refl w.heap.size w).alloc (Nat.le_refl _) _).alloc (by simp) _
 obtain ⟨q0,q1,hs0⟩:=two_allocs w (Obj.cells #[vp,vl] 41) (Obj.cells #[up,ul] 41);rw [<-hw0] at q0 q1 hs0;have HB0:=hide hb0;have HQ:=hide (⟨q0,q1,hs0⟩:w0.heap[w.heap.size]?=some (Obj.cells #[vp,vl] 41)/\w0.heap[w.heap.size+1]?=some (Obj.cells #[up,ul] 41)/\w0.heap.size=w.heap.size+2);clear hb0 q0 q1 hs0
 by_cases h1:ps=qs
 ·rw [decide_eq_true h1] at HC1
  go_enter Tryz.func26,Tryz.ntmps26;go_wp2_with fail;rw [<-hw0];refine (HC1.out _ (row_below HR.out.1 HB0.out) (row_below HR.out.2.2.1 HB0.out)).mono ?_;rintro e w1 ⟨rfl,hb1⟩;have HB1:Hid (Below w.heap.size w w1):=hide (HB0.out.trans (hb1.mono HB0.out.size))
  have c0:w1.cell? ⟨w.heap.size,1,none⟩=some vl:=(cell_at ((hb1.block _ (by rw [HQ.out.2.2];omega)).trans HQ.out.1) 1).1
  have c1:w1.cell? ⟨w.heap.size+1,1,none⟩=some ul:=(cell_at ((hb1.block _ (by rw [HQ.out.2.2];omega)).trans HQ.out.2.1) 1).1
  have HW:=hide hw0;clear hb1 hw0
  by_cases h2:ls=ms
  ·rw [decide_eq_true h2] at HC2
   have HD:Hid (decide ((ps,ls)=(qs,ms))=true):=hide (by rw [h1,h2];simp)
   clear h1 h2;go_wp2_with fail;refine (HC2.out _ (row_below HR.out.2.1 HB1.out) (row_below HR.out.2.2.2 HB1.out)).mono ?_;rintro e w2 ⟨rfl,hb2⟩;go_wp2_with fail;go_ret;rw [HD.out];exact ⟨rfl,HB1.out.trans (hb2.mono HB1.out.size)⟩
  ·rw [decide_eq_false h2] at HC2
   have HD:Hid (decide ((ps,ls)=(qs,ms))=false):=hide (by simp [h2])
   clear h1 h2;go_wp2_with fail;refine (HC2.out _ (row_below HR.out.2.1 HB1.out) (row_below HR.out.2.2.2 HB1.out)).mono ?_;rintro e w2 ⟨rfl,hb2⟩;go_wp2_with fail;go_ret;rw [HD.out];exact ⟨rfl,HB1.out.trans (hb2.mono HB1.out.size)⟩
 ·rw [decide_eq_false h1] at HC1
  have HD:Hid (decide ((ps,ls)=(qs,ms))=false):=hide (by simp [h1])
  clear h1;go_enter Tryz.func26,Tryz.ntmps26;go_wp2_with fail;rw [<-hw0];refine (HC1.out _ (row_below HR.out.1 HB0.out) (row_below HR.out.2.2.1 HB0.out)).mono ?_;rintro e w1 ⟨rfl,hb1⟩;have HW:=hide hw0;clear hw0;go_wp2_with fail;go_ret;rw [HD.out];exact ⟨rfl,HB0.out.trans (hb1.mono HB0.out.size)⟩
open Go.RowKit
theorem disk_form {w:World} {B:Nat} {v:Value} {ps:List ByteArray} {ls:List (Int×ByteArray)} (h:DiskOwn w B v ps ls):∃x c y d,v= .agg #[.slice x ps.length c,.slice y ls.length d]:=by
 obtain ⟨vp,vl,rfl,h1,h2⟩:=h;obtain ⟨x,c,rfl⟩:=own_slice h1;obtain ⟨y,d,rfl⟩:=own_slice h2;exact ⟨x,c,y,d,rfl⟩
open Go.RowKit
def IntOwn (w:World) (B:Nat) (v:Value) (l:List Int):Prop:=
 ∃a cap,v= .slice a l.length cap/\l.length<=cap/\(a=none/\l= []\/∃g off cs,a=some ⟨g,off,none⟩/\B<=g/\w.heap[g]?=some (.cells cs 3 (0,0))/\∀i,i<l.length->cs[off+i]?=(ints l)[i]?)
theorem intOwn_cap {w:World} {B:Nat} {v:Value} {l:List Int} (h:IntOwn w B v l):∃a cap,v= .slice a l.length cap/\l.length<=cap:=by
 obtain ⟨a,cap,e,hc,-⟩:=h;exact ⟨a,cap,e,hc⟩
theorem intOwn_row {w:World} {B:Nat} {v:Value} {l:List Int} (h:IntOwn w B v l):RowAt w 1 v l.length (ints l):=by
 obtain ⟨a,cap,rfl,hcap,h⟩:=h
 refine ⟨by rw [ints_length];omega,a,cap,rfl,?_⟩
 rcases h with ⟨-,rfl⟩ | ⟨g,off,cs,rfl,-,hh,hc⟩
 ·exact Or.inl rfl
 ·exact Or.inr ⟨g,off,rfl,(Array.getElem?_eq_some_iff.1 hh).1,fun j hj=>(cell_at hh (off+j)).1.trans (hc j (by omega))⟩
theorem intOwn_slice {w:World} {B:Nat} {v:Value} {l:List Int} (h:IntOwn w B v l):∃a cap,v= .slice a l.length cap:=by
 obtain ⟨a,cap,e,-⟩:=h;exact ⟨a,cap,e⟩
theorem intOwn_lt {w:World} {B:Nat} {v:Value} {l:List Int} (h:IntOwn w B v l):∀k,v.ownBlock=some k->B<=k/\k<w.heap.size:=by
 obtain ⟨a,cap,rfl,hcap,h⟩:=h;intro k hk
 rcases h with ⟨rfl,-⟩ | ⟨g,off,cs,rfl,hB,hh,-⟩
 ·cases hk
 ·injection hk with hk
  have hk:g=k:=hk;subst hk;exact ⟨hB,(Array.getElem?_eq_some_iff.1 hh).1⟩
theorem intOwn_kept {w w':World} {B:Nat} {v:Value} {l:List Int} {S:Nat->Prop} (h:IntOwn w B v l) (hk:Kept w w' S) (hS:∀k,v.ownBlock=some k->¬S k):IntOwn w' B v l:=by
 obtain ⟨a,cap,rfl,hcap,h⟩:=h;refine ⟨a,cap,rfl,hcap,?_⟩
 rcases h with h | ⟨g,off,cs,rfl,hB,hh,hc⟩
 ·exact Or.inl h
 ·exact Or.inr ⟨g,off,cs,rfl,hB,(hk.2.2.2.2 g (Array.getElem?_eq_some_iff.1 hh).1 (hS g rfl)).trans hh,hc⟩
theorem intOwn_down {w:World} {B B':Nat} {v:Value} {l:List Int} (h:IntOwn w B v l) (hB:B'<=B):IntOwn w B' v l:=by
 obtain ⟨a,cap,rfl,hcap,h⟩:=h;refine ⟨a,cap,rfl,hcap,?_⟩
 rcases h with h | ⟨g,off,cs,rfl,hg,hh,hc⟩
 ·exact Or.inl h
 ·exact Or.inr ⟨g,off,cs,rfl,Nat.le_trans hB hg,hh,hc⟩
theorem intOwn_of_own {w:World} {B:Nat} {v:Value} {l:List Int} (h:w.ownsRow B 3 1 v l.length (ints l)):IntOwn w B v l:=by
 have hc:=h
 rcases h.2 with ⟨rfl,h0⟩ | ⟨g,cap,cur,rfl,hg,hh,hnc,-⟩
 ·have h0:l.length=0:=h0
  exact ⟨none,0,by rw [h0],by omega,Or.inl ⟨rfl,List.eq_nil_of_length_eq_zero h0⟩⟩
 ·exact ⟨_,_,rfl,hnc,Or.inr ⟨g,0,cur,rfl,hg,hh,fun i hi=>by rw [Nat.zero_add];exact (cell_at hh i).1.symm.trans (hc.cellAt i (by omega))⟩⟩
end Go.Proofs.YtjmgdmdleamenaaGreatDoor
