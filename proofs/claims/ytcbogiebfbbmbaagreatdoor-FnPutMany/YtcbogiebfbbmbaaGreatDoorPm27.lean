/-
  Facts and contracts that the law's own text rests on, by their texts' names: RangeSep, AlSpec, PairRow, BuildI1.
-/
import Derived.Below
import Derived.RangeFuncBound
import Derived.RangeFuncBox
import Derived.RangeFuncCalls
import Derived.RangeFuncLeaves
import Derived.RangeFuncNested
import Derived.Test.YtcbogiebfbbmbaaGreatDoorPm1
import Derived.Test.YtcbogiebfbbmbaaGreatDoorPm9
import Derived.Deep.RegionHeld3
import Derived.BigQuiet
import Derived.Test.YtcbogiebfbbmbaaGreatDoorPm7
set_option maxHeartbeats 16000000
set_option maxRecDepth 100000
namespace Go.Proofs.YtcbogiebfbbmbaaGreatDoor
open Go Go.RowKit
def KeptC (C:Nat->Prop) (W W':World):Prop:=W'.os=W.os/\W'.tape=W.tape/\W'.output=W.output/\W.heap.size<=W'.heap.size/\∀k,k<W.heap.size->¬C k->W'.heap[k]?=W.heap[k]?
theorem zeR (C:Nat->Prop) (W:World):KeptC C W W:=⟨rfl,rfl,rfl,Nat.le_refl _,fun _ _ _=>rfl⟩
theorem zar {C C':Nat->Prop} {A B D:World} (h:KeptC C A B) (k:KeptC C' B D) (hC:∀j,C' j->C j\/A.heap.size<=j):KeptC C A D:=
 ⟨k.1.trans h.1,k.2.1.trans h.2.1,k.2.2.1.trans h.2.2.1,Nat.le_trans h.2.2.2.1 k.2.2.2.1,fun j hj hn=>(k.2.2.2.2 j (Nat.lt_of_lt_of_le hj h.2.2.2.1) (fun hc=>by rcases hC j hc with h1 | h1;exact hn h1;omega)).trans (h.2.2.2.2 j hj hn)⟩
theorem zdF {C C':Nat->Prop} {A B:World} (h:KeptC C A B) (hC:∀j,j<A.heap.size->C j->C' j):KeptC C' A B:=
 ⟨h.1,h.2.1,h.2.2.1,h.2.2.2.1,fun j hj hn=>h.2.2.2.2 j hj (fun hc=>hn (hC j hj hc))⟩
theorem zaG {C:Nat->Prop} {A B:World} {n0:Nat} (h:KeptC C A B) (hC:∀k,C k->n0<=k) (hn:n0<=A.heap.size):Below n0 A B:=
 ⟨h.1,h.2.1,h.2.2.1,h.2.2.2.1,fun k hk=>h.2.2.2.2 k (by omega) (fun hc=>by have:=hC k hc;omega)⟩
theorem zaq {C:Nat->Prop} {A B:World} (h:Below A.heap.size A B):KeptC C A B:=
 ⟨h.os,h.tape,h.output,h.size,fun k hk _=>h.block k hk⟩
theorem zcQ (C:Nat->Prop) (W:World) (o:Obj):KeptC C W (W.alloc o):=zaq ((Below.refl _ W).alloc (Nat.le_refl _) _)
theorem zaT {C:Nat->Prop} (W:World) {l:Nat} (o:Obj) (hl:C l):KeptC C W (W.putObj l o):=
 ⟨rfl,rfl,rfl,by simp,fun k _ hn=>World.putObj_heap_other (fun e=>hn (e▸hl))⟩
theorem zbw {C:Nat->Prop} (W:World) {b:Nat} (j:Nat) (v:Value) (hl:C b):KeptC C W (W.setCell ⟨b,j,none⟩ v):=
 ⟨rfl,rfl,rfl,(KeepsWalks.setCell W _ v).size,fun k _ hn=>Below.heap_setCell _ _ _ k (fun e=>hn (by rw [e];exact hl))⟩
def sepPost {α:Type} (I:List α->(Nat->Prop)->World->Prop) (Ix:Code->List α->(Nat->Prop)->World->Prop) (xs:List α) (C:Nat->Prop) (W:World):Exit->Act->World->Prop
 | .normal,_,W'=>∃C',KeptC C W W'/\(∀k,C' k->C k\/W.heap.size<=k)/\I xs C' W'
 | .ret,_,W'=>∃C',KeptC C W W'/\(∀k,C' k->C k\/W.heap.size<=k)/\Ix .ret xs C' W'
 | .exit _,_,_=>False
 | .goto _,_,_=>False
 | .panic _,_,_=>False
 | .outgrown,_,_=>False
open Go.RowKit
def prs (l:List (ByteArray×ByteArray)):List Value:=l.flatMap fun p=> [.string p.1,.string p.2]
theorem znr (l:List (ByteArray×ByteArray)) (k v:ByteArray):prs l++ [.string k,.string v]=prs (l++ [(k,v)]):=by simp [prs]
theorem ziG (l:List Int) (x:Int):ints l++ [.int .i64 x]=ints (l++ [x]):=by simp [ints]
def AlIs (W:World) (ga:Nat) (a:Al) (vp vg vd:Value):Prop:=
 W.heap[ga]?=some (.cells #[vp,vg,vd,.bool a.bad,.bool a.loose] 67 (0,0))/\W.ownsRow (ga+1) 41 2 vp a.pairs.length (prs a.pairs)/\W.ownsRow (ga+1) 3 1 vg a.pages.length (ints a.pages)/\W.ownsRow (ga+1) 3 1 vd a.depths.length (ints a.depths)/\(∀k,vg.ownBlock=some k->vd.ownBlock≠some k)
def AlF (ga:Nat) (vp vg vd:Value) (k:Nat):Prop:=k=ga\/vp.ownBlock=some k\/vg.ownBlock=some k\/vd.ownBlock=some k
theorem al_lt {W:World} {ga:Nat} {a:Al} {vp vg vd:Value} (h:AlIs W ga a vp vg vd):∀k,AlF ga vp vg vd k->ga<=k/\k<W.heap.size:=by
 obtain ⟨h1,h2,h3,h4,-⟩:=h;rintro k (rfl | hk | hk | hk)
 ·exact ⟨Nat.le_refl _,(Array.getElem?_eq_some_iff.1 h1).1⟩
 ·have:=h2.lt k hk;omega
 ·have:=h3.lt k hk;omega
 ·have:=h4.lt k hk;omega
theorem Tryz.pair_int:(41:Nat)≠3:=by decide
theorem al_kept {W W':World} {ga:Nat} {a:Al} {vp vg vd:Value} {S:Nat->Prop} (h:AlIs W ga a vp vg vd) (hk:Kept W W' S) (hS:∀k,AlF ga vp vg vd k->¬S k):AlIs W' ga a vp vg vd:=by
 obtain ⟨h1,h2,h3,h4,h5⟩:=h
 exact ⟨(hk.2.2.2.2 ga (Array.getElem?_eq_some_iff.1 h1).1 (hS ga (Or.inl rfl))).trans h1,za7 h2 hk (fun k e=>hS k (Or.inr (Or.inl e))),za7 h3 hk (fun k e=>hS k (Or.inr (Or.inr (Or.inl e)))),za7 h4 hk (fun k e=>hS k (Or.inr (Or.inr (Or.inr e)))),h5⟩
theorem zbY {W W':World} {ga:Nat} {a:Al} {vp vg vd:Value} (h:AlIs W ga a vp vg vd) (hb:Below W.heap.size W W'):AlIs W' ga a vp vg vd:=al_kept h (zcH hb (fun _=>False)) (fun _ _ h=>h)
theorem al_bad {W:World} {ga:Nat} {a:Al} {vp vg vd:Value} (h:AlIs W ga a vp vg vd) (b:Bool):AlIs (W.setCell ⟨ga,3,none⟩ (.bool b)) ga {a with bad:=b} vp vg vd:=by
 obtain ⟨h1,h2,h3,h4,h5⟩:=h;have hk:=zab W ga 3 (.bool b)
 refine ⟨heap_setCell_same _ ga 3 _ _ _ h1,za7 h2 hk (fun k e=> ?_),za7 h3 hk (fun k e=> ?_),za7 h4 hk (fun k e=> ?_),h5⟩
 ·have:=(h2.lt k e).1;omega
 ·have:=(h3.lt k e).1;omega
 ·have:=(h4.lt k e).1;omega
theorem zki {W:World} {ga:Nat} {a:Al} {vp vg vd:Value} (h:AlIs W ga a vp vg vd) (b:Bool):AlIs (W.setCell ⟨ga,4,none⟩ (.bool b)) ga {a with loose:=b} vp vg vd:=by
 obtain ⟨h1,h2,h3,h4,h5⟩:=h;have hk:=zab W ga 4 (.bool b)
 refine ⟨heap_setCell_same _ ga 4 _ _ _ h1,za7 h2 hk (fun k e=> ?_),za7 h3 hk (fun k e=> ?_),za7 h4 hk (fun k e=> ?_),h5⟩
 ·have:=(h2.lt k e).1;omega
 ·have:=(h3.lt k e).1;omega
 ·have:=(h4.lt k e).1;omega
theorem zbx {W w':World} {o:Obj} {v:Value} (hg:(W.alloc o).grownBy w' v.ownBlock):Kept W w' (fun k=>v.ownBlock=some k):=
 ⟨hg.os,hg.tape,hg.output,Nat.le_trans (by simp) hg.size,fun k hk hn=>(hg.block k (by simp;omega) (fun e=>hn e.symm)).trans (heap_alloc_old W o hk)⟩
theorem zm7 {W w':World} {ga b cap:Nat} {a:Al} {vp vg vd:Value} {p:Int} {o:Obj} (h:AlIs W ga a vp vg vd) (hown:w'.ownsRow (ga+1) 3 1 (.slice (some ⟨b,0,none⟩) (a.pages.length+1) cap) (a.pages.length+1) (ints a.pages++ [.int .i64 p])) (hg:(W.alloc o).grownBy w' vg.ownBlock) (hb:vg.ownBlock=some b\/b=W.heap.size+1):
  AlIs (w'.setCell ⟨ga,1,none⟩ (.slice (some ⟨b,0,none⟩) (a.pages.length+1) cap)) ga {a with pages:=a.pages++ [p]} vp (.slice (some ⟨b,0,none⟩) (a.pages.length+1) cap) vd/\
  KeptC (AlF ga vp vg vd) W (w'.setCell ⟨ga,1,none⟩ (.slice (some ⟨b,0,none⟩) (a.pages.length+1) cap))/\(∀k,AlF ga vp (.slice (some ⟨b,0,none⟩) (a.pages.length+1) cap) vd k->AlF ga vp vg vd k\/W.heap.size<=k)/\
  w'.cell? ⟨ga,1,none⟩=some vg/\w'.frozen? ⟨ga,1,none⟩=false:=by
 obtain ⟨h1,h2,h3,h4,h5⟩:=h
 have k1:Kept W w' (fun k=>vg.ownBlock=some k):=zbx hg
 have hga:ga<W.heap.size:=(Array.getElem?_eq_some_iff.1 h1).1
 have g1:=(k1.2.2.2.2 ga hga (fun e=>by have:=(h3.lt ga e).1;omega)).trans h1
 have k2:=zab w' ga 1 (.slice (some ⟨b,0,none⟩) (a.pages.length+1) cap);have hbe:=hb
 refine ⟨⟨heap_setCell_same _ ga 1 _ _ _ g1,za7 (za7 h2 k1 (fun k e=>zbf h2 h3 Tryz.pair_int k e)) k2 (fun k e=>by have:=(h2.lt k e).1;omega),?_,za7 (za7 h4 k1 (fun k e e2=>h5 k e2 e)) k2 (fun k e=>by have:=(h4.lt k e).1;omega),fun k e=> ?_⟩,?_,fun k hk=> ?_,(za0 g1 1).1,(za0 g1 1).2⟩
 ·have ho:=za7 hown k2 (fun k e=>by have:=(hown.lt k e).1;omega)
  rw [ziG] at ho;rw [List.length_append,List.length_singleton];exact ho
 ·injection e with e
  have e:b=k:=e;subst e
  rcases hbe with e2 | e2
  ·exact h5 b e2
  ·intro e3
   have:=(h4.lt b e3).2
   omega
 ·refine zar (C:=AlF ga vp vg vd) (C':=fun k=>k=ga) ⟨k1.1,k1.2.1,k1.2.2.1,k1.2.2.2.1,fun k hk hn=>k1.2.2.2.2 k hk (fun e=>hn (Or.inr (Or.inr (Or.inl e))))⟩ k2 (fun j e=>Or.inl (Or.inl e))
 ·rcases hk with hk | hk | hk | hk
  ·exact Or.inl (Or.inl hk)
  ·exact Or.inl (Or.inr (Or.inl hk))
  ·injection hk with hk
   have hk:b=k:=hk;subst hk
   rcases hbe with e2 | e2
   ·exact Or.inl (Or.inr (Or.inr (Or.inl e2)))
   ·exact Or.inr (by omega)
  ·exact Or.inl (Or.inr (Or.inr (Or.inr hk)))
theorem zns {W w':World} {ga b cap:Nat} {a:Al} {vp vg vd:Value} {p:Int} {o:Obj} (h:AlIs W ga a vp vg vd) (hown:w'.ownsRow (ga+1) 3 1 (.slice (some ⟨b,0,none⟩) (a.depths.length+1) cap) (a.depths.length+1) (ints a.depths++ [.int .i64 p])) (hg:(W.alloc o).grownBy w' vd.ownBlock) (hb:vd.ownBlock=some b\/b=W.heap.size+1):
  AlIs (w'.setCell ⟨ga,2,none⟩ (.slice (some ⟨b,0,none⟩) (a.depths.length+1) cap)) ga {a with depths:=a.depths++ [p]} vp vg (.slice (some ⟨b,0,none⟩) (a.depths.length+1) cap)/\
  KeptC (AlF ga vp vg vd) W (w'.setCell ⟨ga,2,none⟩ (.slice (some ⟨b,0,none⟩) (a.depths.length+1) cap))/\(∀k,AlF ga vp vg (.slice (some ⟨b,0,none⟩) (a.depths.length+1) cap) k->AlF ga vp vg vd k\/W.heap.size<=k)/\
  w'.cell? ⟨ga,2,none⟩=some vd/\w'.frozen? ⟨ga,2,none⟩=false:=by
 obtain ⟨h1,h2,h3,h4,h5⟩:=h
 have k1:Kept W w' (fun k=>vd.ownBlock=some k):=zbx hg
 have hga:ga<W.heap.size:=(Array.getElem?_eq_some_iff.1 h1).1
 have g1:=(k1.2.2.2.2 ga hga (fun e=>by have:=(h4.lt ga e).1;omega)).trans h1
 have k2:=zab w' ga 2 (.slice (some ⟨b,0,none⟩) (a.depths.length+1) cap);have hbe:=hb
 refine ⟨⟨heap_setCell_same _ ga 2 _ _ _ g1,za7 (za7 h2 k1 (fun k e=>zbf h2 h4 Tryz.pair_int k e)) k2 (fun k e=>by have:=(h2.lt k e).1;omega),za7 (za7 h3 k1 (fun k e e2=>h5 k e e2)) k2 (fun k e=>by have:=(h3.lt k e).1;omega),?_,fun k e e3=> ?_⟩,?_,fun k hk=> ?_,(za0 g1 2).1,(za0 g1 2).2⟩
 ·have ho:=za7 hown k2 (fun k e=>by have:=(hown.lt k e).1;omega)
  rw [ziG] at ho;rw [List.length_append,List.length_singleton];exact ho
 ·injection e3 with e3
  have e3:b=k:=e3;subst e3
  rcases hbe with e2 | e2
  ·exact h5 b e e2
  ·have:=(h3.lt b e).2
   omega
 ·refine zar (C:=AlF ga vp vg vd) (C':=fun k=>k=ga) ⟨k1.1,k1.2.1,k1.2.2.1,k1.2.2.2.1,fun k hk hn=>k1.2.2.2.2 k hk (fun e=>hn (Or.inr (Or.inr (Or.inr e))))⟩ k2 (fun j e=>Or.inl (Or.inl e))
 ·rcases hk with hk | hk | hk | hk
  ·exact Or.inl (Or.inl hk)
  ·exact Or.inl (Or.inr (Or.inl hk))
  ·exact Or.inl (Or.inr (Or.inr (Or.inl hk)))
  ·injection hk with hk
   have hk:b=k:=hk;subst hk
   rcases hbe with e2 | e2
   ·exact Or.inl (Or.inr (Or.inr (Or.inr e2)))
   ·exact Or.inr (by omega)
theorem zhK {W w':World} {ga b cap:Nat} {a:Al} {vp vg vd:Value} {x y:ByteArray} {o:Obj} (h:AlIs W ga a vp vg vd) (hown:w'.ownsRow (ga+1) 41 2 (.slice (some ⟨b,0,none⟩) (a.pairs.length+1) cap) (a.pairs.length+1) (prs a.pairs++ [.string x,.string y])) (hg:(W.alloc o).grownBy w' vp.ownBlock) (hb:vp.ownBlock=some b\/b=W.heap.size+1):
  AlIs (w'.setCell ⟨ga,0,none⟩ (.slice (some ⟨b,0,none⟩) (a.pairs.length+1) cap)) ga {a with pairs:=a.pairs++ [(x,y)]} (.slice (some ⟨b,0,none⟩) (a.pairs.length+1) cap) vg vd/\
  KeptC (AlF ga vp vg vd) W (w'.setCell ⟨ga,0,none⟩ (.slice (some ⟨b,0,none⟩) (a.pairs.length+1) cap))/\(∀k,AlF ga (.slice (some ⟨b,0,none⟩) (a.pairs.length+1) cap) vg vd k->AlF ga vp vg vd k\/W.heap.size<=k)/\
  w'.cell? ⟨ga,0,none⟩=some vp/\w'.frozen? ⟨ga,0,none⟩=false:=by
 obtain ⟨h1,h2,h3,h4,h5⟩:=h
 have k1:Kept W w' (fun k=>vp.ownBlock=some k):=zbx hg
 have hga:ga<W.heap.size:=(Array.getElem?_eq_some_iff.1 h1).1
 have g1:=(k1.2.2.2.2 ga hga (fun e=>by have:=(h2.lt ga e).1;omega)).trans h1
 have k2:=zab w' ga 0 (.slice (some ⟨b,0,none⟩) (a.pairs.length+1) cap);have hbe:=hb
 refine ⟨⟨heap_setCell_same _ ga 0 _ _ _ g1,?_,za7 (za7 h3 k1 (fun k e=>zbf h3 h2 (Ne.symm Tryz.pair_int) k e)) k2 (fun k e=>by have:=(h3.lt k e).1;omega),za7 (za7 h4 k1 (fun k e=>zbf h4 h2 (Ne.symm Tryz.pair_int) k e)) k2 (fun k e=>by have:=(h4.lt k e).1;omega),h5⟩,?_,fun k hk=> ?_,(za0 g1 0).1,(za0 g1 0).2⟩
 ·have ho:=za7 hown k2 (fun k e=>by have:=(hown.lt k e).1;omega)
  rw [znr] at ho;rw [List.length_append,List.length_singleton];exact ho
 ·refine zar (C:=AlF ga vp vg vd) (C':=fun k=>k=ga) ⟨k1.1,k1.2.1,k1.2.2.1,k1.2.2.2.1,fun k hk hn=>k1.2.2.2.2 k hk (fun e=>hn (Or.inr (Or.inl e)))⟩ k2 (fun j e=>Or.inl (Or.inl e))
 ·rcases hk with hk | hk | hk | hk
  ·exact Or.inl (Or.inl hk)
  ·injection hk with hk
   have hk:b=k:=hk;subst hk
   rcases hbe with e2 | e2
   ·exact Or.inl (Or.inr (Or.inl e2))
   ·exact Or.inr (by omega)
  ·exact Or.inl (Or.inr (Or.inr (Or.inl hk)))
  ·exact Or.inl (Or.inr (Or.inr (Or.inr hk)))
open Go.RowKit
theorem znt (p:ByteArray×ByteArray) (l:List (ByteArray×ByteArray)):prs (p :: l)=Value.string p.1 :: .string p.2 :: prs l:=rfl
theorem prs_at (l:List (ByteArray×ByteArray)):∀k (h:k<l.length),(prs l)[k * 2]?=some (.string l[k].1)/\(prs l)[k * 2+1]?=some (.string l[k].2):=by
 induction l with
 | nil=>intro k h;simp at h
 | cons p l ih=>
  intro k h
  cases k with
  | zero=>exact ⟨rfl,rfl⟩
  | succ k=>
   rw [znt,show (k+1) * 2=k * 2+1+1 from by omega]
   exact ih k (by simpa using h)
open Go.RowKit
def hvs (l:List (ByteArray×Int)):List Value:=l.flatMap fun p=> [.string p.1,.int .i64 p.2]
theorem hvs_at (l:List (ByteArray×Int)):∀(i:Nat) (h:i<l.length),(hvs l)[i * 2]?=some (.string l[i].1)/\(hvs l)[i * 2+1]?=some (.int .i64 l[i].2):=by
 induction l with
 | nil=>intro i h;simp at h
 | cons x l ih=>
  intro i h
  cases i with
  | zero=>simp [hvs]
  | succ i=>
   have hh:=ih i (by simpa using h)
   have key:∀j,(hvs (x :: l))[(i+1) * 2+j]?=(hvs l)[i * 2+j]?:=fun j=>by
    rw [show hvs (x :: l)= [.string x.1,.int .i64 x.2]++hvs l from rfl,List.getElem?_append_right (by simp;omega)]
    congr 1
    simp;omega
   have k0:=key 0
   simp only [Nat.add_zero] at k0
   rw [k0,key 1];exact hh
theorem zeq (l:List (ByteArray×Int)) (hl:l.length<=1048576) (v:Value) (w:World) (hr:RowAt w 2 v l.length (hvs l)):
  Calls Tryz.prog 61 #[v] w fun e w'=>∃v1 v2,e= .returned (.tuple #[v1,v2])/\w'.ownsRow w.heap.size 9 1 v1 l.length (strs (l.map (·.1)))/\w'.ownsRow w.heap.size 3 1 v2 l.length (ints (l.map (·.2)))/\Below w.heap.size w w':=by
 obtain ⟨-,a,cap,rfl,h2⟩:=hr;have HR:=hide h2;clear h2;obtain ⟨n,hn⟩:∃n,l.length=n:=⟨_,rfl⟩;have HN:=hide hn;rw [hn] at hl⊢;clear hn
 have hS0:=zhr (zbC (zhr (zbC (zeJ w.heap.size w) (Obj.cells #[] 9) (Nat.le_refl _))) (Obj.cells #[] 3) (by simp))
 rw [World.size_alloc] at hS0;have HS0:=hide hS0;clear hS0;go_enter Tryz.func61,Tryz.ntmps61
 go_wp2
 go_loopg [4,5,12] n (fun q kv cv iv wr=>∃(i:Nat) (vk vc:Value),i<=n/\q+i=n/\iv= .int .i64 (i:Int)/\vk=kv/\vc=cv/\Hid (Sep w.heap.size wr [rowA w.heap.size 3 1 vc i (ints ((l.map (·.2)).take i)),rowA w.heap.size 9 1 vk i (strs ((l.map (·.1)).take i))])/\Hid (Below w.heap.size w wr))
 case atStart=>exact ⟨0,_,_,Nat.zero_le _,rfl,rfl,rfl,rfl,HS0,hide (((Below.refl w.heap.size w).alloc (Nat.le_refl _) _).alloc (by simp) _)⟩
 case round=>
  obtain ⟨i,vk,vc,hin,hq,rfl,rfl,rfl,HS,HW⟩:=hrel;have HQ:=hide hq;clear hq HS0
  by_cases hlt:i<n
  ·rcases HR.out with hn0 | ⟨b,off,rfl,hbl,hc⟩
   ·have:=HN.out;omega
   have hil:i<l.length:=by have:=HN.out;omega
   obtain ⟨x,hx⟩:∃x,x=l[i].1:=⟨_,rfl⟩;obtain ⟨y,hy⟩:∃y,y=l[i].2:=⟨_,rfl⟩
   have c0:wr.cell? ⟨b,off+i * 2,none⟩=some (.string x):=by rw [HW.out.cell (by exact hbl),hc (i * 2) (by omega),(hvs_at l i hil).1,hx]
   have c1:wr.cell? ⟨b,off+i * 2+1,none⟩=some (.int .i64 y):=by rw [HW.out.cell (by exact hbl),Nat.add_assoc,hc (i * 2+1) (by omega),(hvs_at l i hil).2,hy]
   have HT:Hid ((l.map (·.1)).take (i+1)=(l.map (·.1)).take i++ [x]/\(l.map (·.2)).take (i+1)=(l.map (·.2)).take i++ [y]):=hide (by rw [List.take_succ_eq_append_getElem (by simpa using hil),List.take_succ_eq_append_getElem (l:=l.map (·.2)) (by simpa using hil),List.getElem_map,List.getElem_map,hx,hy];exact ⟨rfl,rfl⟩)
   have hS1:=zbC HS.out (Obj.cells #[.string x,.int .i64 y] 111) HW.out.size;have HS1:=hide hS1;have HB1:Hid (Below w.heap.size w (wr.alloc (Obj.cells #[.string x,.int .i64 y] 111))):=hide (HW.out.alloc HW.out.size _)
   have hi0:(0:Int)<=(i:Int):=by omega
   have hi1:(i:Int)<(n:Int):=by omega
   have hi2:i<=3000000:=by omega
   clear hx hy hc hS1
   go_wp2_with (at_builtin;refine zjk HS1.out 2 rfl (Nat.le_refl _) HB1.out.size HB1.out.size rfl (.tmp 16) (.tmp 19) rfl rfl x (by simp) rfl hi2 ?_)
   intro b4 c4 w4 hs4 hb4;have HS4:=hide hs4;have HB4:=hide (HB1.out.trans hb4);have cv:w4.cell? ⟨wr.heap.size,1,none⟩=some (.int .i64 y):=(za0 (za5 HS4.out 0 rfl:w4.heap[wr.heap.size]?=some (Obj.cells #[.string x,.int .i64 y] 111)) 1).1;clear hs4 hb4
   go_wp2_with (at_builtin;refine zcN HS4.out 1 rfl (Nat.le_refl _) HB4.out.size HB4.out.size rfl (.tmp 21) (.tmp 24) rfl rfl y rfl rfl hi2 ?_)
   intro b5 c5 w5 hs5 hb5;have HS5:=hide hs5;have HB5:=hide (HB4.out.trans hb5);clear hs5 hb5;go_wp2_with fail
   go_roundg (gk - 1)
   case measure=>have:=HQ.out;omega
   case rel=>exact ⟨i+1,_,_,by omega,by have:=HQ.out;omega,by go_num,rfl,rfl,hide (by rw [HT.out.1,HT.out.2];exact sep_del HS5.out),HB5⟩
  ·obtain rfl:i=n:=by omega
   go_wp2
   go_ret2;refine ⟨_,_,rfl,?_,?_,HW.out⟩
   ·have h:wr.ownsRow w.heap.size 9 1 vk i (strs ((l.map (·.1)).take i)):=za5 HS.out 1 rfl
    rw [List.take_of_length_le (by rw [List.length_map,HN.out];exact Nat.le_refl _)] at h
    exact h
   ·have h:wr.ownsRow w.heap.size 3 1 vc i (ints ((l.map (·.2)).take i)):=za5 HS.out 0 rfl
    rw [List.take_of_length_le (by rw [List.length_map,HN.out];exact Nat.le_refl _)] at h
    exact h
end Go.Proofs.YtcbogiebfbbmbaaGreatDoor
