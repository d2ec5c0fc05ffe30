/-
  Facts and contracts that the law's own text rests on, by their texts' names: Draw, Draw2, NodeGrow, SepNode, SepRow, TwoWays, Plain18, Plain19, SpecIn, SrtPlain, SpecSorted, SpecDrop, FreeRow, FreeRow2.
-/
import Derived.BigQuiet
import Derived.Deep.QuietTactic
import Derived.Laws.BitsAllLaws
import Derived.Laws.OwnMore
import Derived.Laws.Pointers
import Derived.Laws.Shifts
import Derived.Outline
import Derived.OwnWalk
import Derived.WalkKit
import Derived.WalkSmall
import Derived.WalkSpells
import Derived.Test.YtjmgdmdleamenaaGreatDoorSr3
import Derived.Test.YtjmgdmdleamenaaGreatDoorProg
import Derived.Deep.LoopGhost
import Derived.Test.YtjmgdmdleamenaaGreatDoorSr1
import Derived.Deep.AppendLies
import Derived.Test.YtjmgdmdleamenaaGreatDoorSr6
import Derived.Test.YtjmgdmdleamenaaGreatDoorSr5
import Derived.Maps.AppendAt
import Derived.Deep.RegionHeld3
import Derived.Deep.RegionHeld
import Derived.Deep.RegionLaw
import Derived.Test.YtjmgdmdleamenaaGreatDoorSr4
set_option maxHeartbeats 16000000
set_option maxRecDepth 100000
namespace Go.Proofs.YtjmgdmdleamenaaGreatDoor
open Go.RowKit
theorem grown_setCell (w:World) (g j:Nat) (u:Value):w.grownBy (w.setCell ⟨g,j,none⟩ u) (some g):=
 ⟨rfl,rfl,rfl,by simp,fun k _ hk=>heap_setCell_other w ⟨g,j,none⟩ k u (fun e=>hk (by simp [e]))⟩
theorem grown_trans {a b c:World} {r:Option Nat} (h:a.grownBy b r) (k:b.grownBy c r):a.grownBy c r:=
 ⟨k.os.trans h.os,k.tape.trans h.tape,k.output.trans h.output,Nat.le_trans h.size k.size,fun j hj hne=>(k.block j (Nat.lt_of_lt_of_le hj h.size) hne).trans (h.block j hj hne)⟩
open Go.RowKit
theorem grown_alloc {a b:World} {r:Option Nat} (h:a.grownBy b r) (o:Obj):a.grownBy (b.alloc o) r:=grown_trans h (World.grownBy_alloc b o r)
open Go.RowKit
def NSt (w:World) (gn:Nat) (n:Nd) (v1 v2 v3:Value):Prop:=
 w.heap[gn]?=some (.cells #[.bool n.lf,v1,v2,v3] 115 (0,0))/\w.ownsRow (gn+1) 9 1 v1 n.ks.length (strs n.ks)/\w.ownsRow (gn+1) 9 1 v2 n.vs.length (strs n.vs)/\w.ownsRow (gn+1) 3 1 v3 n.cs.length (ints n.cs)/\∀k,v1.ownBlock=some k->v2.ownBlock≠some k
theorem nst_lt {w:World} {gn:Nat} {n:Nd} {v1 v2 v3:Value} (h:NSt w gn n v1 v2 v3):gn<w.heap.size:=(Array.getElem?_eq_some_iff.1 h.1).1
theorem nst_grown {w w':World} {g gn:Nat} {n:Nd} {v1 v2 v3:Value} (h:NSt w gn n v1 v2 v3) (hg:w.grownBy w' (some g)) (hlt:g<gn):NSt w' gn n v1 v2 v3:=by
 have hl:=nst_lt h;obtain ⟨h0,h1,h2,h3,h4⟩:=h
 refine ⟨(hg.block gn hl (fun e=>by injection e with e;omega)).trans h0,h1.kept hg (Or.inr (fun e=>by have:=(h1.lt _ e).1;omega)),h2.kept hg (Or.inr (fun e=>by have:=(h2.lt _ e).1;omega)),h3.kept hg (Or.inr (fun e=>by have:=(h3.lt _ e).1;omega)),h4⟩
theorem nst_below {w w':World} {gn:Nat} {n:Nd} {v1 v2 v3:Value} (h:NSt w gn n v1 v2 v3) (hb:Below w.heap.size w w'):NSt w' gn n v1 v2 v3:=by
 have hl:=nst_lt h;obtain ⟨h0,h1,h2,h3,h4⟩:=h;exact ⟨(hb.block gn hl).trans h0,own_stays h1 hb,own_stays h2 hb,own_stays h3 hb,h4⟩
theorem nst_node {w:World} {gn:Nat} {n:Nd} {v1 v2 v3:Value} (h:NSt w gn n v1 v2 v3):NodeOwn w (gn+1) (.agg #[.bool n.lf,v1,v2,v3]) n.lf n.ks n.vs n.cs:=⟨v1,v2,v3,rfl,h.2.1,h.2.2.1,h.2.2.2.1,h.2.2.2.2⟩
theorem str_snoc (l:List ByteArray) (x:ByteArray):strs l++ [.string x]=strs (l++ [x]):=by simp [strs]
theorem int_snoc (l:List Int) (x:Int):ints l++ [.int .i64 x]=ints (l++ [x]):=by simp [ints]
theorem one_new (w:World) (n:Nat) (hn:n=w.heap.size) (x:Value) (T:TypeId):∀(j:Nat) (u:Value),[x][j]?=some u->(w.alloc (Obj.cells #[x] T)).cell? ((⟨n,0,none⟩:Addr).add j)=some u:=by
 subst hn;intro j u hj
 obtain rfl:j=0:=by have:=(List.getElem?_eq_some_iff.1 hj).1;simp at this;omega
 rw [Addr.add_lit,<-hj];exact (cell_at (heap_alloc_new w _) 0).1
theorem apart {u v:Value} (h:∀k,u.ownBlock=some k->v.ownBlock≠some k):v.ownBlock=none\/v.ownBlock≠u.ownBlock:=by
 cases hv:v.ownBlock with
 | none=>exact Or.inl rfl
 | some k=>exact Or.inr (fun e=>h k e.symm hv)
theorem away {u:Value} {gn:Nat} (h:∀k,u.ownBlock=some k->gn<k):some gn≠u.ownBlock:=fun e=>by have:=h gn e.symm;omega
theorem nst_key {w w':World} {gn b cap:Nat} {n:Nd} {v1 v2 v3:Value} {x:ByteArray} (h:NSt w gn n v1 v2 v3) (hown:w'.ownsRow (gn+1) 9 1 (.slice (some ⟨b,0,none⟩) (n.ks.length+1) cap) (n.ks.length+1) (strs n.ks++ [.string x])) (hg:w.grownBy w' v1.ownBlock) (hb:v1.ownBlock=some b\/b=w.heap.size):
  NSt (w'.setCell ⟨gn,1,none⟩ (.slice (some ⟨b,0,none⟩) (n.ks.length+1) cap)) gn ⟨n.lf,n.ks++ [x],n.vs,n.cs⟩ (.slice (some ⟨b,0,none⟩) (n.ks.length+1) cap) v2 v3:=by
 have hl:=nst_lt h;obtain ⟨h0,h1,h2,h3,h4⟩:=h
 have hgn:w'.heap[gn]?=_:=(hg.block gn hl (away (fun k e=>by have:=(h1.lt k e).1;omega))).trans h0
 have hs:=grown_setCell w' gn 1 (.slice (some ⟨b,0,none⟩) (n.ks.length+1) cap);have k2:=h2.kept hg (apart h4)
 have k3:=h3.kept hg (apart (fun k e=>one_type h1 h3 Tryz.str_int k e))
 refine ⟨heap_setCell_same w' gn 1 _ _ _ hgn,?_,k2.kept hs (Or.inr (fun e=>by have:=(h2.lt _ e).1;omega)),k3.kept hs (Or.inr (fun e=>by have:=(h3.lt _ e).1;omega)),?_⟩
 ·rw [List.length_append,<-str_snoc]
  exact hown.kept hs (Or.inr (fun e=>by have:=(hown.lt _ e).1;omega))
 ·intro k e1 e2
  have e1:b=k:=Option.some.inj e1;subst e1
  rcases hb with hb | hb
  ·exact h4 b hb e2
  ·have:=(h2.lt b e2).2;omega
theorem nst_val {w w':World} {gn b cap:Nat} {n:Nd} {v1 v2 v3:Value} {x:ByteArray} (h:NSt w gn n v1 v2 v3) (hown:w'.ownsRow (gn+1) 9 1 (.slice (some ⟨b,0,none⟩) (n.vs.length+1) cap) (n.vs.length+1) (strs n.vs++ [.string x])) (hg:w.grownBy w' v2.ownBlock) (hb:v2.ownBlock=some b\/b=w.heap.size):
  NSt (w'.setCell ⟨gn,2,none⟩ (.slice (some ⟨b,0,none⟩) (n.vs.length+1) cap)) gn ⟨n.lf,n.ks,n.vs++ [x],n.cs⟩ v1 (.slice (some ⟨b,0,none⟩) (n.vs.length+1) cap) v3:=by
 have hl:=nst_lt h;obtain ⟨h0,h1,h2,h3,h4⟩:=h
 have hgn:w'.heap[gn]?=_:=(hg.block gn hl (away (fun k e=>by have:=(h2.lt k e).1;omega))).trans h0
 have hs:=grown_setCell w' gn 2 (.slice (some ⟨b,0,none⟩) (n.vs.length+1) cap)
 have k1:=h1.kept hg (apart (fun k e e'=>h4 k e' e))
 have k3:=h3.kept hg (apart (fun k e=>one_type h2 h3 Tryz.str_int k e))
 refine ⟨heap_setCell_same w' gn 2 _ _ _ hgn,k1.kept hs (Or.inr (fun e=>by have:=(h1.lt _ e).1;omega)),?_,k3.kept hs (Or.inr (fun e=>by have:=(h3.lt _ e).1;omega)),?_⟩
 ·rw [List.length_append,<-str_snoc]
  exact hown.kept hs (Or.inr (fun e=>by have:=(hown.lt _ e).1;omega))
 ·intro k e1 e2
  have e2:b=k:=Option.some.inj e2;subst e2
  rcases hb with hb | hb
  ·exact h4 b e1 hb
  ·have:=(h1.lt b e1).2;omega
theorem nst_kid {w w':World} {gn b cap:Nat} {n:Nd} {v1 v2 v3:Value} {x:Int} (h:NSt w gn n v1 v2 v3) (hown:w'.ownsRow (gn+1) 3 1 (.slice (some ⟨b,0,none⟩) (n.cs.length+1) cap) (n.cs.length+1) (ints n.cs++ [.int .i64 x])) (hg:w.grownBy w' v3.ownBlock):
  NSt (w'.setCell ⟨gn,3,none⟩ (.slice (some ⟨b,0,none⟩) (n.cs.length+1) cap)) gn ⟨n.lf,n.ks,n.vs,n.cs++ [x]⟩ v1 v2 (.slice (some ⟨b,0,none⟩) (n.cs.length+1) cap):=by
 have hl:=nst_lt h;obtain ⟨h0,h1,h2,h3,h4⟩:=h
 have hgn:w'.heap[gn]?=_:=(hg.block gn hl (away (fun k e=>by have:=(h3.lt k e).1;omega))).trans h0
 have hs:=grown_setCell w' gn 3 (.slice (some ⟨b,0,none⟩) (n.cs.length+1) cap)
 have k1:=h1.kept hg (apart (fun k e=>one_type h3 h1 Tryz.str_int.symm k e))
 have k2:=h2.kept hg (apart (fun k e=>one_type h3 h2 Tryz.str_int.symm k e))
 refine ⟨heap_setCell_same w' gn 3 _ _ _ hgn,k1.kept hs (Or.inr (fun e=>by have:=(h1.lt _ e).1;omega)),k2.kept hs (Or.inr (fun e=>by have:=(h2.lt _ e).1;omega)),?_,h4⟩
 rw [List.length_append,<-int_snoc]
 exact hown.kept hs (Or.inr (fun e=>by have:=(hown.lt _ e).1;omega))
theorem key_step {w w':World} {gn b cap:Nat} {n:Nd} {v1 v2 v3:Value} {x:ByteArray} {o:Obj} (h:NSt w gn n v1 v2 v3) (hown:w'.ownsRow (gn+1) 9 1 (.slice (some ⟨b,0,none⟩) (n.ks.length+1) cap) (n.ks.length+1) (strs n.ks++ [.string x])) (hg:(w.alloc o).grownBy w' v1.ownBlock) (hb:v1.ownBlock=some b\/b=(w.alloc o).heap.size):
  NSt (w'.setCell ⟨gn,1,none⟩ (.slice (some ⟨b,0,none⟩) (n.ks.length+1) cap)) gn ⟨n.lf,n.ks++ [x],n.vs,n.cs⟩ (.slice (some ⟨b,0,none⟩) (n.ks.length+1) cap) v2 v3/\Below gn w (w'.setCell ⟨gn,1,none⟩ (.slice (some ⟨b,0,none⟩) (n.ks.length+1) cap))/\w'.cell? ⟨gn,1,none⟩=some v1/\w'.frozen? ⟨gn,1,none⟩=false:=by
 have hl:=nst_lt h;have hba:Below w.heap.size w (w.alloc o):=(Below.refl _ _).alloc (Nat.le_refl _) _;have hA:=nst_below h hba
 have hlt:=fun k e=>(h.2.1.lt k e).1
 have cg:w'.heap[gn]?=_:=(hg.block gn (nst_lt hA) (away (fun k e=>by have:=hlt k e;omega))).trans hA.1
 refine ⟨nst_key hA hown hg hb,?_,(cell_at cg 1).1,(cell_at cg 1).2⟩
 have h1:Below gn w w':=((Below.refl gn w).alloc (by omega) o).grown hg (by have:=nst_lt hA;omega) (fun k e=>by have:=hlt k e;omega)
 exact h1.grown (grown_setCell w' gn 1 _) (by have:=h1.size;omega) (fun k e=>by injection e with e;omega)
theorem val_step {w w':World} {gn b cap:Nat} {n:Nd} {v1 v2 v3:Value} {x:ByteArray} {o:Obj} (h:NSt w gn n v1 v2 v3) (hown:w'.ownsRow (gn+1) 9 1 (.slice (some ⟨b,0,none⟩) (n.vs.length+1) cap) (n.vs.length+1) (strs n.vs++ [.string x])) (hg:(w.alloc o).grownBy w' v2.ownBlock) (hb:v2.ownBlock=some b\/b=(w.alloc o).heap.size):
  NSt (w'.setCell ⟨gn,2,none⟩ (.slice (some ⟨b,0,none⟩) (n.vs.length+1) cap)) gn ⟨n.lf,n.ks,n.vs++ [x],n.cs⟩ v1 (.slice (some ⟨b,0,none⟩) (n.vs.length+1) cap) v3/\Below gn w (w'.setCell ⟨gn,2,none⟩ (.slice (some ⟨b,0,none⟩) (n.vs.length+1) cap))/\w'.cell? ⟨gn,2,none⟩=some v2/\w'.frozen? ⟨gn,2,none⟩=false:=by
 have hl:=nst_lt h;have hba:Below w.heap.size w (w.alloc o):=(Below.refl _ _).alloc (Nat.le_refl _) _;have hA:=nst_below h hba
 have hlt:=fun k e=>(h.2.2.1.lt k e).1
 have cg:w'.heap[gn]?=_:=(hg.block gn (nst_lt hA) (away (fun k e=>by have:=hlt k e;omega))).trans hA.1
 refine ⟨nst_val hA hown hg hb,?_,(cell_at cg 2).1,(cell_at cg 2).2⟩
 have h1:Below gn w w':=((Below.refl gn w).alloc (by omega) o).grown hg (by have:=nst_lt hA;omega) (fun k e=>by have:=hlt k e;omega)
 exact h1.grown (grown_setCell w' gn 2 _) (by have:=h1.size;omega) (fun k e=>by injection e with e;omega)
theorem kid_step {w w':World} {gn b cap:Nat} {n:Nd} {v1 v2 v3:Value} {x:Int} {o:Obj} (h:NSt w gn n v1 v2 v3) (hown:w'.ownsRow (gn+1) 3 1 (.slice (some ⟨b,0,none⟩) (n.cs.length+1) cap) (n.cs.length+1) (ints n.cs++ [.int .i64 x])) (hg:(w.alloc o).grownBy w' v3.ownBlock) (_hb:v3.ownBlock=some b\/b=(w.alloc o).heap.size):
  NSt (w'.setCell ⟨gn,3,none⟩ (.slice (some ⟨b,0,none⟩) (n.cs.length+1) cap)) gn ⟨n.lf,n.ks,n.vs,n.cs++ [x]⟩ v1 v2 (.slice (some ⟨b,0,none⟩) (n.cs.length+1) cap)/\Below gn w (w'.setCell ⟨gn,3,none⟩ (.slice (some ⟨b,0,none⟩) (n.cs.length+1) cap))/\w'.cell? ⟨gn,3,none⟩=some v3/\w'.frozen? ⟨gn,3,none⟩=false:=by
 have hl:=nst_lt h;have hba:Below w.heap.size w (w.alloc o):=(Below.refl _ _).alloc (Nat.le_refl _) _;have hA:=nst_below h hba
 have hlt:=fun k e=>(h.2.2.2.1.lt k e).1
 have cg:w'.heap[gn]?=_:=(hg.block gn (nst_lt hA) (away (fun k e=>by have:=hlt k e;omega))).trans hA.1
 refine ⟨nst_kid hA hown hg,?_,(cell_at cg 3).1,(cell_at cg 3).2⟩
 have h1:Below gn w w':=((Below.refl gn w).alloc (by omega) o).grown hg (by have:=nst_lt hA;omega) (fun k e=>by have:=hlt k e;omega)
 exact h1.grown (grown_setCell w' gn 3 _) (by have:=h1.size;omega) (fun k e=>by injection e with e;omega)
theorem grown_low {a b c:World} {g gn:Nat} (h:a.grownBy b (some g)) (k:Below gn b c) (hle:a.heap.size<=gn):a.grownBy c (some g):=
 ⟨k.os.trans h.os,k.tape.trans h.tape,k.output.trans h.output,Nat.le_trans h.size k.size,fun j hj hne=>by
  rw [k.block j (by omega)]
  exact h.block j hj hne⟩
theorem ret_node {w:World} {a B:Nat} {lf:Bool} {v1 v2 v3 c0 c1 c2 c3:Value} {ks vs:List ByteArray} {cs:List Int} (hq:w.heap[a]?=some (.cells #[c0,c1,c2,c3] 115 (0,0))) (hn:NodeOwn w B (.agg #[.bool lf,v1,v2,v3]) lf ks vs cs) (hlt:a<B):
  ((((w.setCell ⟨a,0,none⟩ (.bool lf)).setCell ⟨a,1,none⟩ v1).setCell ⟨a,2,none⟩ v2).setCell ⟨a,3,none⟩ v3).heap[a]?=some (.cells #[.bool lf,v1,v2,v3] 115 (0,0))/\
  NodeOwn ((((w.setCell ⟨a,0,none⟩ (.bool lf)).setCell ⟨a,1,none⟩ v1).setCell ⟨a,2,none⟩ v2).setCell ⟨a,3,none⟩ v3) B (.agg #[.bool lf,v1,v2,v3]) lf ks vs cs/\
  Below a w ((((w.setCell ⟨a,0,none⟩ (.bool lf)).setCell ⟨a,1,none⟩ v1).setCell ⟨a,2,none⟩ v2).setCell ⟨a,3,none⟩ v3):=by
 have hal:a<w.heap.size:=(Array.getElem?_eq_some_iff.1 hq).1;have g1:=grown_trans (grown_trans (grown_trans (grown_setCell w a 0 (.bool lf)) (grown_setCell _ a 1 v1)) (grown_setCell _ a 2 v2)) (grown_setCell _ a 3 v3)
 refine ⟨heap_setCell_same _ a 3 _ _ _ (heap_setCell_same _ a 2 _ _ _ (heap_setCell_same _ a 1 _ _ _ (heap_setCell_same w a 0 _ _ _ hq))),?_,(Below.refl a w).grown g1 (by omega) (fun k e=>by injection e with e;omega)⟩
 obtain ⟨u1,u2,u3,e,h1,h2,h3,h4⟩:=hn;obtain ⟨-,rfl,rfl,rfl⟩:=agg4 e
 exact ⟨_,_,_,rfl,h1.kept g1 (Or.inr (fun e=>by have:=(h1.lt _ e).1;omega)),h2.kept g1 (Or.inr (fun e=>by have:=(h2.lt _ e).1;omega)),h3.kept g1 (Or.inr (fun e=>by have:=(h3.lt _ e).1;omega)),h4⟩
theorem nodeOwn_down {w:World} {B B':Nat} {v:Value} {lf:Bool} {ks vs:List ByteArray} {cs:List Int} (h:NodeOwn w B v lf ks vs cs) (hb:B'<=B):NodeOwn w B' v lf ks vs cs:=by
 obtain ⟨u1,u2,u3,e,h1,h2,h3,h4⟩:=h;exact ⟨u1,u2,u3,e,own_down h1 hb,own_down h2 hb,own_down h3 hb,h4⟩
open Go.RowKit
def workA (B:Nat) (v:Value) (k:Wk):Ast:=⟨workBlocks v,fun W=>WorkOwn W B v k,fun W W' h hk=>by
 obtain ⟨vp,vl,vu,vg,vf,rfl,h1,h2,h3,h4,h5⟩:=h
 have hi:∀{u:Value} {l:List Int},IntOwn W B u l->(∀j,u.ownBlock=some j->W'.heap[j]?=W.heap[j]?)->IntOwn W' B u l:=fun {u l} h hk=>by
  obtain ⟨a,cap,e,hc,h⟩:=h;refine ⟨a,cap,e,hc,?_⟩
  rcases h with h | ⟨g,off,cs,e2,hB,hh,hr⟩
  ·exact Or.inl h
  ·subst e e2
   exact Or.inr ⟨g,off,cs,rfl,hB,(hk g rfl).trans hh,hr⟩
 exact ⟨vp,vl,vu,vg,vf,rfl,(diskA B (.agg #[vp,vl]) k.ps k.ls).loc W W' h1 (fun j e=>hk j ⟨_,_,_,_,_,_,rfl,Or.inl e⟩),hi h2 (fun j e=>hk j ⟨_,_,_,_,_,_,rfl,Or.inr (Or.inl e)⟩),hi h3 (fun j e=>hk j ⟨_,_,_,_,_,_,rfl,Or.inr (Or.inr (Or.inl e))⟩),hi h4 (fun j e=>hk j ⟨_,_,_,_,_,_,rfl,Or.inr (Or.inr (Or.inr e))⟩),h5⟩⟩
theorem strs_snocN (l:List ByteArray) (x:ByteArray):strs l++ [.string x]=strs (l++ [x]):=by simp [strs]
theorem strs_lenN (l:List ByteArray):(strs l).length=l.length:=by simp [strs]
theorem row_nS {W:World} {B e n:Nat} {v:Value} {l:List ByteArray} (h:W.ownsRow B e 1 v n (strs l)):n=l.length:=by
 have:=h.1;rw [strs_lenN] at this
 omega
theorem wpList_str1 {ops:Array Oper} {rest:List Oper} {o:Oper} {a:Act} {Q:Exit->Act->World->Prop} {B:Nat} {W:World} {l:List Ast} (h:Sep B W l) (i:Nat) {B' n:Nat} {v:Value} {xs:List ByteArray} (hi:l[i]?=some (rowA B' 9 1 v n (strs xs))) (hBB:B<=B') (hBW:B<=W.heap.size) (hBW':B'<=W.heap.size)
  (hgd:o.guard=none) (s x:Operand) (ho:o.op= .call {callee:= .builtin .append,args:= #[s,x],argTypes:= #[22,22]}) (hs:a.eval s=v) (p:ByteArray) {H:Nat} (hH:H=W.heap.size) (hx:a.eval x= .slice (some ⟨H,0,none⟩) 1 1) (hn:n<=3000000)
  (hK:∀b c w',Sep B w' (l.set i (rowA B' 9 1 (.slice (some ⟨b,0,none⟩) (n+1) c) (n+1) (strs (xs++ [p]))))->Below B W w'->wpList Tryz.prog ops Q rest (a.put o.dst (.slice (some ⟨b,0,none⟩) (n+1) c)) w'):
  wpList Tryz.prog ops Q (o :: rest) a (W.alloc (Obj.cells #[.string p] 9)):=by
 obtain ⟨i0,hinf,hz0,hz1,hz2⟩:=info_parts Tryz.infoStrR
 refine wpList_sep1 h i hi hBB hBW hBW' hgd s x 22 ho i0 (.string ⟨#[]⟩) 16 Tryz.underlying22 hinf hz0 hz1 hz2 rfl (by decide) hs #[.string p] hH hx rfl (fun u hu=>by simp at hu;subst hu;rfl) (by unfold maxLen;omega) (by omega) (fun b c w' k1 k2=>hK b c w' ?_ k2)
 rw [<-strs_snocN];exact k1
theorem rowat_cellS {w wx:World} {n c b off:Nat} {l:List ByteArray} (h:RowAt w 1 (.slice (some ⟨b,off,none⟩) n c) n (strs l)) (hb:Below w.heap.size w wx) (i:Nat) (hi:i<n) (hn:n=l.length):wx.cell? ⟨b,off+i,none⟩=some (.string (l.getD i ⟨#[]⟩)):=by
 obtain ⟨-,a',cap,e,h⟩:=h
 injection e with e1 e2 e3
 subst e1
 rcases h with h0 | ⟨b',off',e,hlt,hc⟩
 ·omega
 ·injection e with e
  injection e with e e'
  subst e e'
  rw [hb.cell (by exact hlt),hc i (by omega)]
  simp [strs,List.getD_eq_getElem?_getD,show i<l.length by omega]
abbrev set4 (wr:World) (a:Nat) (u0 u1 u2 u3:Value):World:=(((wr.setCell ⟨a,0,none⟩ u0).setCell ⟨a,1,none⟩ u1).setCell ⟨a,2,none⟩ u2).setCell ⟨a,3,none⟩ u3
theorem sep_swap {B:Nat} {W:World} {A A':Ast} {l:List Ast} (h:Sep B W (A :: A' :: l)):Sep B W (A' :: A :: l):=sep_perm h (List.Perm.swap _ _ _)
open Go.RowKit
theorem run_append_sep {P:Program} (w:World) (t ty:TypeId) (base:Nat) (e:TypeId) (i:TypeInfo) (z:Value) (size bytes:Nat) (ht:P.underlying t=some (.slice e)) (hi:P.info? e=some i) (hz:i.zero=some z)
  (hsize:i.size=size) (hby:i.bytes=bytes) (hzs:z.cells.size=size) (hsz:0<size)
  (v:Value) (n:Nat) (xs:List Value) (hown:w.ownsRow base e size v n xs)
  (u:Value) (m:Nat) (ys:List Value) (hrow:RowAt w size u m ys) (h1:∀y∈ys,y.oneCell'=true)
  (h63:n+m<=maxLen) (hbytes:(n+m) * bytes<=140737488355328) (hbase:base<=w.heap.size):
  ∃x c w',(Builtin.append_ #[t,t] ty #[v,u]).run P w= .ok (.slice x (n+m) c) w'/\w'.ownsRow base e size (.slice x (n+m) c) (n+m) (xs++ys)/\w.grownBy w' v.ownBlock/\∀j,(Value.slice x (n+m) c).ownBlock=some j->v.ownBlock=some j\/j=w.heap.size:=by
 have key:∀(v':Value) (w':World),w'.ownsRow base e size v' (n+m) (xs++ys)->∃x c,v'=Value.slice x (n+m) c:=fun v' w' h=>by
  obtain ⟨-,a,cap,ee,-⟩:=row_of_own h;exact ⟨a,cap,ee⟩
 obtain ⟨hl,a,cap,rfl,h2⟩:=hrow
 rcases a with _ | ad
 ·rcases h2 with h0 | ⟨b,off,e,_⟩
  ·subst h0
   have hy:ys= []:=List.length_eq_zero_iff.1 (by rw [hl];omega)
   subst hy
   obtain ⟨x,c,hx⟩:=key v w (by rw [List.append_nil];exact hown)
   refine ⟨x,c,w,?_,?_,⟨rfl,rfl,rfl,Nat.le_refl _,fun _ _ _=>rfl⟩,fun j hj=>Or.inl (by rw [hx];exact hj)⟩
   ·rw [<-hx]
    rcases hown.2 with ⟨rfl,rfl⟩ | ⟨g,cap,cur,rfl,_,_,hnc,_⟩
    ·simp [Builtin.append_,run_underlying ht,sizeOf,typeInfo,hi,Builtin.lenOf,Builtin.firstCells]
    ·simp [Builtin.append_,run_underlying ht,sizeOf,typeInfo,hi,Builtin.lenOf,Builtin.firstCells,hnc,storeCells]
   ·rw [<-hx,List.append_nil];exact hown
  ·cases e
 ·have hnews:∀j y,ys[j]?=some y->w.cell? (ad.add j)=some y:=fun j y hj=>by
   have hjl:j<m * size:=by rw [<-hl];exact (List.getElem?_eq_some_iff.1 hj).1
   rcases h2 with h0 | ⟨b,off,e,hlt,hc⟩
   ·subst h0;simp at hjl
   ·injection e with e
    subst e;rw [Addr.add_lit,hc j hjl,hj]
  obtain ⟨v',w',hr,g2,g3,g4,g5⟩:=run_append_own_at (P:=P) w base t ty e i z size bytes ht hi hz hsize hby hzs hsz v n xs hown ad m cap ys hl hnews h1 h63 hbytes hbase;obtain ⟨x,c,rfl⟩:=key v' w' g2
  refine ⟨x,c,w',hr,g2,g3,fun j hj=> ?_⟩
  rcases g5 with g5 | g5
  ·exact Or.inl (by rw [<-g5];exact hj)
  ·rw [g5] at hj
   injection hj with hj
   exact Or.inr hj.symm
theorem row_sep {B:Nat} {W W':World} {l:List Ast} (h:Sep B W l) (i:Nat) {B' e sz n n' c:Nat} {x:Option Addr} {v:Value} {xs xs':List Value} (hi:l[i]?=some (rowA B' e sz v n xs)) (hBB:B<=B') (hBW:B<=W.heap.size) (hgr:W.grownBy W' v.ownBlock) (hown:W'.ownsRow B' e sz (.slice x n' c) n' xs') (hb:∀j,(Value.slice x n' c).ownBlock=some j->v.ownBlock=some j\/j=W.heap.size):
  Sep B W' (l.set i (rowA B' e sz (.slice x n' c) n' xs'))/\Below B W W':=by
 refine ⟨sep_set h i hi ⟨hgr.os,hgr.tape,hgr.output,hgr.size,fun j hj hn=>hgr.block j hj (fun e=>hn e.symm)⟩ _ hown (fun k hk=>⟨?_,(hown.lt k hk).2⟩) hBW,grown_below (Below.refl _ _) hgr (sep_get h i hi) hBB hBW⟩
 rcases hb k hk with h | h
 ·exact Or.inl h
 ·exact Or.inr (by omega)
open Go.RowKit
theorem branch2 {G A B:Prop} (hA:G->A) (hB:G->B) (h:G):A/\B:=⟨hA h,hB h⟩
theorem ready2 {P:Program} {md:Region.Mode} {ops:Array Oper} {Q:Exit->Act->World->Prop} {S:World->Prop} {fuel:Nat} {listed:Array Bool} {a:Act} {w:World} {i j:Nat} {oi oj:Oper} (hi:ops[i]?=some oi) (hj:ops[j]?=some oj)
  (h:(∀K':Act->World->Prop,Shut (∀a w,S w->(S w->wpAnyH P md ops Q S fuel (listed.setIfInBounds i true) a w)->K' a w)->if Region.wanted oi (yielded ops a.tmps)=true then Oper.wp P oi a w K' Q else K' (a.put oi.dst undef) w)/\
   (∀K':Act->World->Prop,Shut (∀a w,S w->(S w->wpAnyH P md ops Q S fuel (listed.setIfInBounds j true) a w)->K' a w)->if Region.wanted oj (yielded ops a.tmps)=true then Oper.wp P oj a w K' Q else K' (a.put oj.dst undef) w)):
  AllReadyH P md ops Q S fuel listed a w [i,j]:=AllReadyH.cons hi h.1 (AllReadyH.cons hj h.2 AllReadyH.nil)
theorem step_call3 {P : Program} (w : World) {ops : Array Oper} {o : Oper} {a : Act} {K : Act → World → Prop} {Q : Exit → Act → World → Prop} {E : Prop} (hgd : o.guard = none) (f : FuncId) (fn : Func) (hfn : P.funcs[f]? = some fn) (hname : ¬ fn.name = "runtime.NumGoroutine") (hbody : ¬ fn.body = none) (s x y : Operand) (ts : Array TypeId)
  (ho:o.op= .call {callee:= .value (.func f),args:= #[s,x,y],argTypes:=ts}) (u v z:Value) (hs:a.eval s=u) (hx:a.eval x=v) (hy:a.eval y=z)
  (R:Ending→World→Prop) (hc:Calls P f #[u,v,z] w R) (hR:∀e w',R e w'→∃r,e= .returned r∧K (a.put o.dst r) w'):
  if Region.wanted o (yielded ops a.tmps)=true then Oper.wp P o a w K Q else E:=by
 have hw:Region.wanted o (yielded ops a.tmps)=true:=by simp [Region.wanted,hgd]
 rw [if_pos hw];unfold Oper.wp execOp;have hf:a.eval (.func f)= .func (.func f) #[] #[]:=rfl
 simp only [ho,resolve,invoke,hf,Deferred.ofValue,callFunc,Sem.run_bind,Sem.run_pure,Result.andThen_ok,List.map_toArray,List.map_cons,List.map_nil,hs,hx,hy]
 simp [go_sem,hfn,hname,hbody]
 refine hc.mono ?_;intro e w' h;obtain ⟨r,rfl,hk⟩:=hR e w' h;exact hk
theorem takeW {P:Program} {md:Region.Mode} {ops:Array Oper} {Q:Exit->Act->World->Prop} {S:World->Prop} (i d:Nat) {oi:Oper} (v:Value) {fuel:Nat} {listed:Array Bool} {a:Act} {w:World} (hi:ops[i]?=some oi) (hd:oi.dst=some d)
  (hs:Region.noSelect ops=true) (hf:Region.free md ops listed i=true) (hr:(Region.ready md ops listed).contains i=true)
  (hQ:∀c a w,Q (.panic c) (a.put oi.dst v) w->Q (.panic c) a w) (hy:YieldsIf P ops S oi v a) (hS:S w)
  (h:wpAnyH P md ops Q S fuel (listed.setIfInBounds i true) ⟨a.tmps.setIfInBounds d v,a.defers⟩ w):wpAnyH P md ops Q S (fuel+1) listed a w:=
 wpAnyH_take hi hs hf hr hQ hy hS (by rw [hd];exact h)
theorem step_call7 {P : Program} (w : World) {ops : Array Oper} {o : Oper} {a : Act} {K : Act → World → Prop} {Q : Exit → Act → World → Prop} {E : Prop} (hgd : o.guard = none) (f : FuncId) (fn : Func) (hfn : P.funcs[f]? = some fn) (hname : ¬ fn.name = "runtime.NumGoroutine") (hbody : ¬ fn.body = none) (s x y p q r t : Operand) (ts : Array TypeId)
  (ho:o.op= .call {callee:= .value (.func f),args:= #[s,x,y,p,q,r,t],argTypes:=ts}) (u v z z1 z2 z3 z4:Value) (hs:a.eval s=u) (hx:a.eval x=v) (hy:a.eval y=z) (hp:a.eval p=z1) (hq:a.eval q=z2) (hr:a.eval r=z3) (ht:a.eval t=z4)
  (R:Ending→World→Prop) (hc:Calls P f #[u,v,z,z1,z2,z3,z4] w R) (hR:∀e w',R e w'→∃r',e= .returned r'∧K (a.put o.dst r') w'):
  if Region.wanted o (yielded ops a.tmps)=true then Oper.wp P o a w K Q else E:=by
 have hw:Region.wanted o (yielded ops a.tmps)=true:=by simp [Region.wanted,hgd]
 rw [if_pos hw];unfold Oper.wp execOp;have hf:a.eval (.func f)= .func (.func f) #[] #[]:=rfl
 simp only [ho,resolve,invoke,hf,Deferred.ofValue,callFunc,Sem.run_bind,Sem.run_pure,Result.andThen_ok,List.map_toArray,List.map_cons,List.map_nil,hs,hx,hy,hp,hq,hr,ht]
 simp [go_sem,hfn,hname,hbody]
 refine hc.mono ?_;intro e w' h;obtain ⟨r,rfl,hk⟩:=hR e w' h;exact hk
theorem tK {P : Program} {md : Region.Mode} {ops : Array Oper} {Q : Exit -> Act -> World -> Prop} {S : World -> Prop} (i d : Nat) {oi : Oper} (v : Value) {fuel : Nat} {listed : Array Bool} {a : Act} {w : World} (hi : ops[i]? = some oi) (hd : oi.dst = some d) (hk : (Region.noSelect ops && Region.free md ops listed i && (Region.ready md ops listed).contains i) = true) (hQ : ∀ c a w, Q (.panic c) (a.put oi.dst v) w -> Q (.panic c) a w) (hy : Region.wanted oi (yielded ops a.tmps) = true ∧ ∀ w, S w -> (execOp a.eval oi).run P w = .ok (.value v) w) (hS : S w) (h : wpAnyH P md ops Q S fuel (listed.setIfInBounds i true) ⟨a.tmps.setIfInBounds d v, a.defers⟩ w) : wpAnyH P md ops Q S (fuel + 1) listed a w := by
 rw [Bool.and_eq_true, Bool.and_eq_true] at hk
 exact takeW i d v hi hd hk.1.1 hk.1.2 hk.2 hQ (Or.inl hy) hS h
def pgsB (next:Int):List Int->Int->List Int->Option (List Int)
 | seen,_,[]=>some seen
 | seen,last,p :: ps=>if 2<=p/\p<next/\last<p/\p∉seen then pgsB next (seen++ [p]) p ps else none
def freesB (tx next:Int):List Int->Int->List (Int×List Int)->Bool
 | _,_,[]=>true
 | seen,last,f :: fs=>if last<f.1/\f.1<=tx/\1<=f.2.length/\f.2.length<=40 then (match pgsB next seen 1 f.2 with | none=>false | some s=>freesB tx next s f.1 fs) else false
def headOkB (tx root next:Int) (n:Nat):Bool:=decide (0<=tx/\tx<=100000/\2<=next/\next<=40/\(root=0\/2<=root/\root<next)/\n<=20)
structure Mt where
 tx:Int
 root:Int
 next:Int
 fs:List (Int×List Int)
def Mt.ok (m:Mt):Bool:=headOkB m.tx m.root m.next m.fs.length && freesB m.tx m.next [m.root] 0 m.fs
def MSt (tx root next:Int) (fs:List (Int×List Int)) (k:Nat) (seen:List Int) (last:Int):Prop:=
 seen.length<=1+40 * k/\freesB tx next seen last (fs.drop k)=freesB tx next [root] 0 fs/\0<=last/\(k=0->last=0)/\(∀f,0<k->fs[k - 1]?=some f->f.1=last)/\root∈seen/\∀x∈seen,x=root\/(2<=x/\x<next)
def PSt (next:Int) (seen0 ps:List Int) (j:Nat) (seen:List Int) (prev:Int):Prop:=
 seen.length=seen0.length+j/\pgsB next seen prev (ps.drop j)=pgsB next seen0 1 ps/\(j=0->prev=1)/\(∀x,0<j->ps[j - 1]?=some x->x=prev)/\(0<j->prev∈seen)/\(∀x,x∈seen0->x∈seen)/\∀x∈seen,x∈seen0\/(2<=x/\x<next)
theorem mst_start (tx root next:Int) (fs:List (Int×List Int)):MSt tx root next fs 0 [root] 0:=
 ⟨by simp,by simp,Int.le_refl _,fun _=>rfl,fun f h=>by omega,by simp,fun x hx=>Or.inl (by simpa using hx)⟩
theorem drop_at {α:Type} {l:List α} {k:Nat} {x:α} (h:l[k]?=some x):l.drop k=x :: l.drop (k+1):=by
 obtain ⟨hk,e⟩:=List.getElem?_eq_some_iff.1 h;rw [List.drop_eq_getElem_cons hk,e]
theorem mst_end {tx root next:Int} {fs:List (Int×List Int)} {k:Nat} {seen:List Int} {last:Int} (h:MSt tx root next fs k seen last) (hk:fs.length<=k):freesB tx next [root] 0 fs=true:=by
 rw [<-h.2.1,List.drop_eq_nil_of_le hk,freesB]
theorem mst_bad {tx root next:Int} {fs:List (Int×List Int)} {k:Nat} {seen:List Int} {last ftx:Int} {ps:List Int} (h:MSt tx root next fs k seen last) (hf:fs[k]?=some (ftx,ps)) (hb:¬(last<ftx/\ftx<=tx/\1<=ps.length/\ps.length<=40)):freesB tx next [root] 0 fs=false:=by
 rw [<-h.2.1,drop_at hf,freesB,if_neg hb]
theorem mst_none {tx root next:Int} {fs:List (Int×List Int)} {k:Nat} {seen:List Int} {last ftx:Int} {ps:List Int} (h:MSt tx root next fs k seen last) (hf:fs[k]?=some (ftx,ps)) (hb:pgsB next seen 1 ps=none):freesB tx next [root] 0 fs=false:=by
 rw [<-h.2.1,drop_at hf,freesB]
 split
 ·rw [hb]
 ·rfl
theorem mst_next {tx root next:Int} {fs:List (Int×List Int)} {k:Nat} {seen s:List Int} {last ftx:Int} {ps:List Int} (h:MSt tx root next fs k seen last) (hf:fs[k]?=some (ftx,ps)) (hb:last<ftx/\ftx<=tx/\1<=ps.length/\ps.length<=40)
  {prev:Int} (hp:PSt next seen ps ps.length s prev):MSt tx root next fs (k+1) s ftx:=by
 obtain ⟨p1,p2,p3,p4,p5,p6,p7⟩:=hp;rw [List.drop_length,pgsB] at p2
 refine ⟨by have:=h.1;omega,?_,by have:=h.2.2.1;omega,fun e=>by omega,fun f _ e=> ?_,p6 _ h.2.2.2.2.2.1,fun x hx=> ?_⟩
 ·rw [<-h.2.1,drop_at hf,freesB,if_pos hb]
  simp only [<-p2]
 ·rw [Nat.add_sub_cancel,hf] at e
  injection e with e
  rw [<-e]
 ·rcases p7 x hx with h1 | h1
  ·exact h.2.2.2.2.2.2 x h1
  ·exact Or.inr h1
theorem pst_start (next:Int) (seen ps:List Int):PSt next seen ps 0 seen 1:=⟨rfl,by simp,fun _=>rfl,fun x h=>by omega,fun h=>by omega,fun x h=>h,fun x h=>Or.inl h⟩
theorem pst_bad {next:Int} {seen0 ps:List Int} {j:Nat} {seen:List Int} {prev p:Int} (h:PSt next seen0 ps j seen prev) (hf:ps[j]?=some p) (hb:¬(2<=p/\p<next/\prev<p/\p∉seen)):pgsB next seen0 1 ps=none:=by
 rw [<-h.2.1,drop_at hf,pgsB,if_neg hb]
theorem pst_next {next:Int} {seen0 ps:List Int} {j:Nat} {seen:List Int} {prev p:Int} (h:PSt next seen0 ps j seen prev) (hf:ps[j]?=some p) (hb:2<=p/\p<next/\prev<p/\p∉seen):PSt next seen0 ps (j+1) (seen++ [p]) p:=by
 refine ⟨by rw [List.length_append];have:=h.1;simp;omega,?_,fun e=>by omega,fun x _ e=> ?_,fun _=>by simp,fun x hx=>List.mem_append_left _ (h.2.2.2.2.2.1 x hx),fun x hx=> ?_⟩
 ·rw [<-h.2.1,drop_at hf,pgsB,if_pos hb]
 ·rw [Nat.add_sub_cancel,hf] at e
  injection e with e
  exact e.symm
 ·rcases List.mem_append.1 hx with h1 | h1
  ·exact h.2.2.2.2.2.2 x h1
  ·rw [List.mem_singleton] at h1
   subst h1;exact Or.inr ⟨hb.1,hb.2.1⟩
theorem ok_head {m:Mt} (h:headOkB m.tx m.root m.next m.fs.length=false):m.ok=false:=by rw [Mt.ok,h];rfl
theorem ok_frees {m:Mt} (h:headOkB m.tx m.root m.next m.fs.length=true):m.ok=freesB m.tx m.next [m.root] 0 m.fs:=by rw [Mt.ok,h];rfl
open Go.RowKit
theorem in_dec (x a b:Int) (w:World):Calls Tryz.prog 35 #[.int .i64 x,.int .i64 a,.int .i64 b] w fun e w'=>e= .returned (.bool (decide (a<=x/\x<=b)))/\w=w':=by
 by_cases h:a<=x/\x<=b
 ·rw [decide_eq_true h];exact l01In_yes x a b w h.1 h.2
 ·rw [decide_eq_false h];exact l01In_no x a b w (by omega)
theorem bel_dn {B:Nat} {a b:World} {n:Nat} (h:Below B a b):Below B a (b.drewN n):=below_drewN h n
theorem l06In_any (l:List Int) (hl:l.length<=1048576) (x:Int) (v:Value) (w:World) (hr:RowAt w 1 v l.length (ints l)):
  Calls Tryz.prog 36 #[v,.int .i64 x] w fun e w'=>e= .returned (.bool (decide (x∈l)))/\w=w':=by
 obtain ⟨-,a,cap,rfl,h2⟩:=hr;have HR:=hide h2;clear h2;go_enter Tryz.func36,Tryz.ntmps36
 go_wp2
 go_loopg [5] l.length (fun q iv wr=>∃k:Nat,k<=l.length/\iv= .int .i64 (k:Int)/\q+k=l.length/\Hid (x∉l.take k)/\w=wr)
 case atStart=>exact ⟨0,Nat.zero_le _,rfl,rfl,hide (by simp),rfl⟩
 case round=>
  obtain ⟨k,hk,rfl,hg,HT,rfl⟩:=hrel;have HG:=hide hg;clear hg
  by_cases hlt:k<l.length
  ·rcases HR.out with hn0 | ⟨b,off,rfl,hbl,hc⟩
   ·omega
   ·obtain ⟨y,hy⟩:∃y,y=l[k]:=⟨_,rfl⟩
    have hcx:w.cell? ⟨b,off+k,none⟩=some (.int .i64 y):=by rw [hc k (by omega),ints_at l k hlt,hy]
    have HY:=hide hy
    have hk0:(0:Int)<=(k:Int):=by omega
    have hk1:(k:Int)<(l.length:Int):=by omega
    clear hc hy
    by_cases hxy:y=x
    ·have HD:Hid (decide (x∈l)=true):=hide (decide_eq_true (by rw [<-hxy,HY.out];exact List.getElem_mem hlt))
     subst hxy
     go_wp2
     go_ret;rw [HD.out];exact ⟨rfl,rfl⟩
    ·have HT2:Hid (x∉l.take (k+1)):=hide (fun h=>by
      rw [List.take_succ_eq_append_getElem hlt] at h
      rcases List.mem_append.1 h with h | h
      ·exact HT.out h
      ·rw [List.mem_singleton,<-HY.out] at h;exact hxy h.symm)
     have hbq:(y ==x)=false:=by simp [hxy]
     have hbd:decide (y=x)=false:=decide_eq_false hxy;clear hxy
     go_wp2
     go_roundg (gk - 1)
     case measure=>have:=HG.out;omega
     case rel=>exact ⟨k+1,by omega,by go_num,by have:=HG.out;omega,HT2,rfl⟩
  ·have HD:Hid (decide (x∈l)=false):=hide (decide_eq_false (by
    have h1:=HT.out
    rw [List.take_of_length_le (by omega)] at h1
    exact h1))
   go_wp2
   go_ret;rw [HD.out];exact ⟨rfl,rfl⟩
def Srt (l:List Int):Prop:=l.Pairwise (fun x y=>x<=y)
theorem srt_one {l m:List Int} (h:l.Perm m) (hl:Srt l) (hm:Srt m):l=m:=
 h.eq_of_pairwise (fun _ _ _ _ h1 h2=>Int.le_antisymm h1 h2) hl hm
structure InsI (l0 l:List Int) (i k:Nat):Prop where
 perm:l.Perm l0
 ki:k<=i
 il:i<l.length
 ord:∀a b,a<b->b<=i->b≠k->l.getD a 0<=l.getD b 0
theorem srt_of {l:List Int} (h:∀a b,a<b->b<l.length->l.getD a 0<=l.getD b 0):Srt l:=by
 rw [Srt,List.pairwise_iff_getElem];intro i j hi hj hij;have:=h i j hij hj
 simpa [List.getD_eq_getElem?_getD,hi,hj] using this
def xch (l:List Int) (k:Nat):List Int:=(l.set k (l.getD (k - 1) 0)).set (k - 1) (l.getD k 0)
theorem xch_length (l:List Int) (k:Nat):(xch l k).length=l.length:=by simp [xch]
theorem xch_perm (l:List Int) (k:Nat) (h:k<l.length):(xch l k).Perm l:=by
 have h1:k - 1<l.length:=by omega
 have:=List.set_set_perm (i:=k) (j:=k - 1) h h1
 simpa [xch,List.getD_eq_getElem?_getD,h,h1] using this
theorem xch_at (l:List Int) (k a:Nat) (hk:0<k) (h:k<l.length):(xch l k).getD a 0=if a=k then l.getD (k - 1) 0 else if a=k - 1 then l.getD k 0 else l.getD a 0:=by
 have h1:k - 1<l.length:=by omega
 simp only [xch,List.getD_eq_getElem?_getD,List.getElem?_set,List.length_set]
 by_cases e1:a=k
 ·subst e1
  have:¬a - 1=a:=by omega
  simp [this,h]
 ·by_cases e2:a=k - 1
  ·subst e2;simp [h1,e1]
  ·have g1:¬k - 1=a:=fun e=>e2 e.symm
   have g2:¬k=a:=fun e=>e1 e.symm
   simp [g1,g2,e1,e2]
theorem InsI.step {l0 l:List Int} {i k:Nat} (h:InsI l0 l i k) (hk:0<k) (hgt:l.getD k 0<l.getD (k - 1) 0):InsI l0 (xch l k) i (k - 1) where
 perm:=(xch_perm l k (Nat.lt_of_le_of_lt h.ki h.il)).trans h.perm
 ki:=by have:=h.ki;omega
 il:=by rw [xch_length];exact h.il
 ord a b hab hb hbk:=by
  have hkl:=Nat.lt_of_le_of_lt h.ki h.il;rw [xch_at l k a hk hkl,xch_at l k b hk hkl]
  by_cases b1:b=k
  ·subst b1
   rw [if_pos rfl,if_neg (by omega)]
   by_cases a1:a=b - 1
   ·rw [if_pos a1];omega
   ·rw [if_neg a1];exact h.ord a (b - 1) (by omega) (by omega) (by omega)
  ·rw [if_neg b1,if_neg hbk]
   by_cases a1:a=k
   ·rw [if_pos a1];exact h.ord (k - 1) b (by omega) hb b1
   ·rw [if_neg a1]
    by_cases a2:a=k - 1
    ·rw [if_pos a2];have:=h.ord k b (by omega) hb b1;exact this
    ·rw [if_neg a2];exact h.ord a b hab hb b1
theorem InsI.fin {l0 l:List Int} {i k:Nat} (h:InsI l0 l i k) (hd:k=0\/¬(l.getD k 0<l.getD (k - 1) 0)):∀a b,a<b->b<=i->l.getD a 0<=l.getD b 0:=by
 intro a b hab hb
 by_cases b1:b=k
 ·subst b1
  rcases hd with hd | hd
  ·omega
  ·by_cases a1:a=b - 1
   ·rw [a1];omega
   ·have:=h.ord a (b - 1) (by omega) (by omega) (by omega);omega
 ·exact h.ord a b hab hb b1
open Go.RowKit
theorem at_getD {l:List Int} {k:Nat} (h:k<l.length):(ints l)[k]?=some (.int .i64 (l.getD k 0)):=by rw [ints_at l k h];simp [List.getD_eq_getElem?_getD,h]
theorem l07Sorted_any (l:List Int) (hl:l.length<=1048576) (v:Value) (w:World) (hr:RowAt w 1 v l.length (ints l)):
  Calls Tryz.prog 39 #[v] w fun e w'=>∃v' m,e= .returned v'/\w'.ownsRow w.heap.size 3 1 v' m.length (ints m)/\m.Perm l/\Srt m/\Below w.heap.size w w':=by
 obtain ⟨i0,hi,hz0,hz1,hz2⟩:=info_parts Tryz.infoIntR;obtain ⟨w0,hw0⟩:∃w0,w0=w.alloc (Obj.cells #[] 3):=⟨_,rfl⟩
 have hb0:Below w.heap.size w w0:=by rw [hw0];exact (Below.refl _ _).alloc (Nat.le_refl _) _
 have hown0:w0.ownsRow w.heap.size 3 1 (.slice (some ⟨w.heap.size,0,none⟩) 0 0) 0 (ints []):=by rw [hw0];exact ⟨rfl,Or.inr ⟨_,0,#[],rfl,Nat.le_refl _,heap_alloc_new w _,Nat.le_refl _,Nat.zero_le _,rfl,rfl⟩⟩
 have HRow:=hide (row_below hr hb0);clear hr;go_enter Tryz.func39,Tryz.ntmps39
 go_wp2_with (at_builtin;rw [<-hw0];refine wpList_append_row _ rfl _ _ 30 rfl w.heap.size 3 i0 (.int .i64 0) 1 8 Tryz.underlying30 hi hz0 hz1 hz2 rfl (by decide) _ _ _ rfl hown0 _ _ _ rfl HRow.out (ints_one _) ?_ ?_ ?_ ?_)
 ·unfold maxLen;omega
 ·omega
 ·exact hb0.size
 intro y c w1 hown1 hg1;rw [<-hw0] at hg1
 have HB1:Hid (Below w.heap.size w w1):=hide (hb0.grown hg1 hb0.size (fun k hk=>by cases hk;exact Nat.le_refl _))
 have HO1:Hid (w1.ownsRow w.heap.size 3 1 (.slice y l.length c) l.length (ints l)):=hide hown1;clear hown1 hg1 hw0 HRow hown0 hb0;go_wp2_with fail
 go_loopg [4] l.length (fun q iv wr=>∃(i:Nat) (m:List Int),1<=i/\i<=l.length+1/\q+i=l.length+1/\iv= .int .i64 (i:Int)/\Hid (wr.ownsRow w.heap.size 3 1 (.slice y l.length c) l.length (ints m))/\Hid (m.Perm l/\∀a b,a<b->b<i->b<m.length->m.getD a 0<=m.getD b 0)/\Hid (Below w.heap.size w wr))
 case atStart=>exact ⟨1,l,Nat.le_refl _,by omega,rfl,rfl,HO1,hide ⟨List.Perm.refl _,fun a b h1 h2 h3=>by omega⟩,HB1⟩
 case round=>
  obtain ⟨i,m,hi1,hi2,hq,rfl,HOw,HM,HB⟩:=hrel;have HQ:=hide hq;clear hq
  by_cases hlt:i<l.length
  ·obtain ⟨g,rfl⟩:∃g,y=some ⟨g,0,none⟩:=by
    rcases HOw.out.2 with ⟨e,h0⟩ | ⟨g,cc,cur,e,_⟩
    ·omega
    ·injection e with e1;exact ⟨g,e1⟩
   have hi0:(0:Int)<=(i:Int):=by omega
   have hil:(i:Int)<(l.length:Int):=by omega
   obtain ⟨go,hgo⟩:∃go,go=gk:=⟨_,rfl⟩;rw [<-hgo] at HQ
   have HI0:Hid (InsI l m i i):=hide ⟨HM.out.1,Nat.le_refl _,by rw [HM.out.1.length_eq];exact hlt,fun a b h1 h2 h3=>HM.out.2 a b h1 (by omega) (by rw [HM.out.1.length_eq];omega)⟩
   clear HM HO1 HB1;go_wp2_with fail
   go_loopg [5] i (fun q kv wr=>∃(k:Nat) (m2:List Int),k<=i/\q=k/\kv= .int .i64 (k:Int)/\Hid (wr.ownsRow w.heap.size 3 1 (.slice (some ⟨g,0,none⟩) l.length c) l.length (ints m2))/\Hid (InsI l m2 i k)/\Hid (Below w.heap.size w wr))
   case atStart=>exact ⟨i,m,Nat.le_refl _,rfl,rfl,HOw,HI0,HB⟩
   case round=>
    clear HOw HI0 HB;obtain ⟨k,m2,hk,hqk,rfl,HOw,HI,HB⟩:=hrel;have HK:=hide hqk;clear hqk;have hml:m2.length=l.length:=HI.out.perm.length_eq;have HML:=hide hml
    have HFin:(k=0\/¬(m2.getD k 0<m2.getD (k - 1) 0))->Hid (m2.Perm l/\∀a b,a<b->b<i+1->b<m2.length->m2.getD a 0<=m2.getD b 0):=fun hd=>hide ⟨HI.out.perm,fun a b h1 h2 _=>HI.out.fin hd a b h1 (by omega)⟩
    clear hml
    rcases Nat.eq_zero_or_pos k with rfl | hkp
    ·have HF:=HFin (Or.inl rfl)
     clear HFin;go_wp2_with fail
     go_quiet (fail)
     go_wp2_with fail
     go_roundg (go - 1)
     case measure=>have:=HQ.out;omega
     case rel=>exact ⟨i+1,m2,by omega,by omega,by have:=HQ.out;omega,by go_num,HOw,HF,hide (below_drewN HB.out _)⟩
    ·obtain ⟨j,rfl⟩:∃j,k=j+1:=⟨k - 1,by omega⟩
     obtain ⟨x,hx⟩:∃x,x=m2.getD (j+1) 0:=⟨_,rfl⟩;obtain ⟨z,hz⟩:∃z,z=m2.getD j 0:=⟨_,rfl⟩;have ho:=HOw.out
     have c1:wr.cell? ⟨g,j+1,none⟩=some (.int .i64 x):=by rw [ho.cellAt (j+1) (by omega),at_getD (by rw [HML.out];omega),hx]
     have c0:wr.cell? ⟨g,j,none⟩=some (.int .i64 z):=by rw [ho.cellAt j (by omega),at_getD (by rw [HML.out];omega),hz]
     have hj0:(0:Int)<=(j:Int):=by omega
     have hj1:(j:Int)+1<(l.length:Int):=by omega
     have hj2:(j:Int)<(l.length:Int):=by omega
     have HX:Hid ((m2.set (j+1) z).set j x=xch m2 (j+1)):=hide (by rw [xch,hx,hz];rfl)
     have HZ:=hide hz
     have HSt:x<z->Hid (InsI l ((m2.set (j+1) z).set j x) i j):=fun h=>hide (by rw [HX.out];exact HI.out.step hkp (by rw [<-hx];exact hz▸h))
     have HNo:¬(x<z)->Hid (m2.Perm l/\∀a b,a<b->b<i+1->b<m2.length->m2.getD a 0<=m2.getD b 0):=fun h=>HFin (Or.inr (by rw [<-hx];exact hz▸h))
     clear ho HFin hx hz
     by_cases hgt:x<z
     ·have HS:=HSt hgt
      clear HSt HNo;go_wp2_with fail
      go_quiet (fail)
      obtain ⟨wq,hwq⟩:∃wq,wq=wr.drewN nq:=⟨_,rfl⟩
      have HOq:Hid (wq.ownsRow w.heap.size 3 1 (.slice (some ⟨g,0,none⟩) l.length c) l.length (ints m2)):=hide (by rw [hwq];exact HOw.out)
      have HBq:Hid (Below w.heap.size w wq):=hide (by rw [hwq];exact below_drewN HB.out _)
      have d1:wq.cell? ⟨g,j+1,none⟩=some (.int .i64 x):=by rw [hwq];exact c1
      have d0:wq.cell? ⟨g,j,none⟩=some (.int .i64 z):=by rw [hwq];exact c0
      have ho:=HOq.out;rw [<-hwq];clear hwq c1 c0;have f1:wq.frozen? ⟨g,j+1,none⟩=false:=ho.frozenAt (j+1);have HO2:=hide ((ho.stored (j+1) (.int .i64 z)).1);rw [ints_set] at HO2
      have c2:(wq.setCell ⟨g,j+1,none⟩ (.int .i64 z)).cell? ⟨g,j,none⟩=some (.int .i64 z):=by
       rw [HO2.out.cellAt j (by omega),at_getD (by rw [List.length_set,HML.out];omega)]
       simp [List.getD_eq_getElem?_getD,HZ.out]
      have f2:(wq.setCell ⟨g,j+1,none⟩ (.int .i64 z)).frozen? ⟨g,j,none⟩=false:=HO2.out.frozenAt j;have HO3:=hide ((HO2.out.stored j (.int .i64 x)).1);rw [ints_set] at HO3;have HB3:Hid (Below w.heap.size w ((wq.setCell ⟨g,j+1,none⟩ (.int .i64 z)).setCell ⟨g,j,none⟩ (.int .i64 x))):=hide ((HBq.out.setCell (HOq.out.lt g rfl).1 _).setCell (HOq.out.lt g rfl).1 _);clear ho;go_wp2_with fail
      go_roundg (gk - 1)
      case measure=>have:=HK.out;omega
      case rel=>exact ⟨j,_,by omega,by have:=HK.out;omega,by go_num,HO3,HS,HB3⟩
     ·have HN:=HNo hgt
      clear HSt HNo;go_wp2_with fail
      go_quiet (fail)
      go_wp2_with fail
      go_roundg (go - 1)
      case measure=>have:=HQ.out;omega
      case rel=>exact ⟨i+1,m2,by omega,by omega,by have:=HQ.out;omega,by go_num,HOw,HN,hide (below_drewN HB.out _)⟩
  ·have HS:Hid (Srt m):=hide (srt_of fun a b h1 h2=>HM.out.2 a b h1 (by have:=HM.out.1.length_eq;omega) h2)
   go_wp2_with fail;go_ret
   exact ⟨_,m,rfl,by rw [HM.out.1.length_eq];exact HOw.out,HM.out.1,HS.out,HB.out⟩
open Go.RowKit
theorem rowForm {w:World} {sz n:Nat} {v:Value} {xs:List Value} (h:RowAt w sz v n xs):∃a cap,v= .slice a n cap:=by
 obtain ⟨-,a,cap,e,-⟩:=h;exact ⟨a,cap,e⟩
open Go.RowKit
def frs (l:List (Int×Value)):List Value:=l.flatMap fun p=> [.int .i64 p.1,p.2]
theorem frs_cons (p:Int×Value) (l:List (Int×Value)):frs (p :: l)=Value.int .i64 p.1 :: p.2 :: frs l:=rfl
theorem frs_length (l:List (Int×Value)):(frs l).length=l.length * 2:=by
 induction l with
 | nil=>rfl
 | cons p l ih=>rw [frs_cons,List.length_cons,List.length_cons,ih,List.length_cons];omega
theorem frs_at (l:List (Int×Value)):∀k p,l[k]?=some p->(frs l)[k * 2]?=some (.int .i64 p.1)/\(frs l)[k * 2+1]?=some p.2:=by
 induction l with
 | nil=>intro k p h;simp at h
 | cons q l ih=>
  intro k p h;rw [frs_cons]
  cases k with
  | zero=>simp at h;subst h;exact ⟨rfl,rfl⟩
  | succ k=>
   have:=ih k p (by simpa using h)
   rw [show (k+1) * 2=k * 2+1+1 from by omega]
   simpa using this
theorem frs_set (l:List (Int×Value)):∀(k:Nat) (x:Int) (u:Value),k<l.length->((frs l).set (k * 2) (.int .i64 x)).set (k * 2+1) u=frs (l.set k (x,u)):=by
 induction l with
 | nil=>intro k p x h;simp at h
 | cons q l ih=>
  intro k x u h
  cases k with
  | zero=>rfl
  | succ k=>
   have h2:=ih k x u (by simpa using h)
   rw [List.set_cons_succ,frs_cons,show (k+1) * 2=k * 2+1+1 from by omega,frs_cons,<-h2]
   rfl
theorem frs_made (n:Nat):(madeCells #[Value.int .i64 0,.slice none 0 0] (n * 2)).toList=frs (List.replicate n (0,.slice none 0 0)):=by
 apply List.ext_getElem?
 intro i
 have hlen:(frs (List.replicate n ((0:Int),Value.slice none 0 0))).length=n * 2:=by rw [frs_length,List.length_replicate]
 by_cases hi:i<n * 2
 ·have h1:(madeCells #[Value.int .i64 0,.slice none 0 0] (n * 2)).toList[i]?=some (#[Value.int .i64 0,.slice none 0 0][i % 2]!):=by
   simp [madeCells,hi]
  have h2:=frs_at (List.replicate n ((0:Int),Value.slice none 0 0)) (i / 2) (0,.slice none 0 0) (by rw [List.getElem?_replicate,if_pos (by omega)])
  rw [h1]
  rcases Nat.mod_two_eq_zero_or_one i with h | h
  ·rw [h,show i=i / 2 * 2 from by omega,h2.1];simp
  ·rw [h,show i=i / 2 * 2+1 from by omega,h2.2];simp
 ·rw [List.getElem?_eq_none (by simp [madeCells];omega),List.getElem?_eq_none (by rw [hlen];omega)]
def FreesAt (w:World) (v:Value) (fs:List (Int×List Int)):Prop:=
 ∃l:List (Int×Value),l.length=fs.length/\RowAt w 2 v fs.length (frs l)/\∀(k:Nat) (p:Int×Value) (f:Int×List Int),l[k]?=some p->fs[k]?=some f->p.1=f.1/\RowAt w 1 p.2 f.2.length (ints f.2)
theorem frees_below {w w':World} {v:Value} {fs:List (Int×List Int)} (h:FreesAt w v fs) (hb:Below w.heap.size w w'):FreesAt w' v fs:=by
 obtain ⟨l,h1,h2,h3⟩:=h
 exact ⟨l,h1,row_below h2 hb,fun k p f hp hf=>⟨(h3 k p f hp hf).1,row_below (h3 k p f hp hf).2 hb⟩⟩
theorem frees_slice {w:World} {v:Value} {fs:List (Int×List Int)} (h:FreesAt w v fs):∃a cap,v= .slice a fs.length cap:=by
 obtain ⟨l,h1,h2,h3⟩:=h;obtain ⟨-,a,cap,e,-⟩:=h2;exact ⟨a,cap,e⟩
theorem frees_at {w:World} {a:Option Addr} {n cap:Nat} {fs:List (Int×List Int)} (h:FreesAt w (.slice a n cap) fs) {k:Nat} {tx:Int} {ps:List Int} (hk:fs[k]?=some (tx,ps)):
  ∃b off x c,a=some ⟨b,off,none⟩/\b<w.heap.size/\w.cell? ⟨b,off+k * 2,none⟩=some (.int .i64 tx)/\w.cell? ⟨b,off+k * 2+1,none⟩=some (.slice x ps.length c)/\RowAt w 1 (.slice x ps.length c) ps.length (ints ps):=by
 obtain ⟨l,h1,h2,h3⟩:=h;have hlt:k<fs.length:=(List.getElem?_eq_some_iff.1 hk).1
 obtain ⟨p,hp⟩:∃p,l[k]?=some p:=⟨_,List.getElem?_eq_getElem (by omega)⟩
 obtain ⟨e1,e2⟩:=h3 k p _ hp hk;obtain ⟨-,a',cap',e,hr⟩:=h2
 injection e with e _ _
 subst e
 rcases hr with h0 | ⟨b,off,rfl,hb,hc⟩
 ·omega
 ·obtain ⟨x,c,hx⟩:∃x c,p.2= .slice x ps.length c:=by obtain ⟨-,x,c,e,-⟩:=e2;exact ⟨x,c,e⟩
  rw [hx] at e2;refine ⟨b,off,x,c,rfl,hb,?_,?_,e2⟩
  ·rw [hc (k * 2) (by omega),(frs_at l k p hp).1,e1]
  ·rw [Nat.add_assoc,hc (k * 2+1) (by omega),(frs_at l k p hp).2,hx]
def OwnTo (w:World) (B:Nat) (m:List (Int×Value)) (fs:List (Int×List Int)) (k:Nat):Prop:=
 m.length=fs.length/\(∀(i:Nat) (p:Int×Value) (f:Int×List Int),i<k->m[i]?=some p->fs[i]?=some f->p.1=f.1/\w.ownsRow B 3 1 p.2 f.2.length (ints f.2))/\∀(i j:Nat) (p q:Int×Value) (b:Nat),i<k->j<k->m[i]?=some p->m[j]?=some q->p.2.ownBlock=some b->q.2.ownBlock=some b->i=j
def OwnF (w:World) (B:Nat) (v:Value) (m:List (Int×Value)) (fs:List (Int×List Int)):Prop:=w.ownsRow B 83 2 v fs.length (frs m)/\OwnTo w B m fs fs.length
theorem ownTo_kept {w w':World} {B k:Nat} {m:List (Int×Value)} {fs:List (Int×List Int)} {S:Nat->Prop} (h:OwnTo w B m fs k) (hk:Kept w w' S) (hS:∀(i:Nat) (p:Int×Value) (b:Nat),i<k->m[i]?=some p->p.2.ownBlock=some b->¬S b):OwnTo w' B m fs k:=
 ⟨h.1,fun i p f hi hp hf=>⟨(h.2.1 i p f hi hp hf).1,own_kept (h.2.1 i p f hi hp hf).2 hk (fun b hb=>hS i p b hi hp hb)⟩,h.2.2⟩
theorem ownTo_stays {w w':World} {B k:Nat} {m:List (Int×Value)} {fs:List (Int×List Int)} (h:OwnTo w B m fs k) (hb:Below w.heap.size w w'):OwnTo w' B m fs k:=
 ⟨h.1,fun i p f hi hp hf=>⟨(h.2.1 i p f hi hp hf).1,own_stays (h.2.1 i p f hi hp hf).2 hb⟩,h.2.2⟩
theorem ownTo_down {w:World} {B B' k:Nat} {m:List (Int×Value)} {fs:List (Int×List Int)} (h:OwnTo w B m fs k) (hb:B'<=B):OwnTo w B' m fs k:=
 ⟨h.1,fun i p f hi hp hf=>⟨(h.2.1 i p f hi hp hf).1,own_down (h.2.1 i p f hi hp hf).2 hb⟩,h.2.2⟩
theorem ownF_down {w:World} {B B':Nat} {v:Value} {m:List (Int×Value)} {fs:List (Int×List Int)} (h:OwnF w B v m fs) (hb:B'<=B):OwnF w B' v m fs:=⟨own_down h.1 hb,ownTo_down h.2 hb⟩
theorem frees_of_own {w:World} {B:Nat} {v:Value} {m:List (Int×Value)} {fs:List (Int×List Int)} (h:OwnF w B v m fs):FreesAt w v fs:=
 ⟨m,h.2.1,row_of_own h.1,fun k p f hp hf=>⟨(h.2.2.1 k p f (List.getElem?_eq_some_iff.1 hf).1 hp hf).1,row_of_own (h.2.2.1 k p f (List.getElem?_eq_some_iff.1 hf).1 hp hf).2⟩⟩
theorem Tryz.free_int:(83:Nat)≠3:=by decide
def freeBlocks (v:Value) (m:List (Int×Value)) (b:Nat):Prop:=v.ownBlock=some b\/∃(i:Nat) (p:Int×Value),m[i]?=some p/\p.2.ownBlock=some b
theorem ownF_lt {w:World} {B:Nat} {v:Value} {m:List (Int×Value)} {fs:List (Int×List Int)} (h:OwnF w B v m fs):∀b,freeBlocks v m b->B<=b/\b<w.heap.size:=by
 rintro b (hb | ⟨i,p,hp,hb⟩)
 ·exact h.1.lt b hb
 ·have hi:i<fs.length:=by have:=(List.getElem?_eq_some_iff.1 hp).1;have:=h.2.1;omega
  exact (h.2.2.1 i p _ hi hp (List.getElem?_eq_getElem hi)).2.lt b hb
theorem ownF_kept {w w':World} {B:Nat} {v:Value} {m:List (Int×Value)} {fs:List (Int×List Int)} {S:Nat->Prop} (h:OwnF w B v m fs) (hk:Kept w w' S) (hS:∀b,freeBlocks v m b->¬S b):OwnF w' B v m fs:=
 ⟨own_kept h.1 hk (fun b hb=>hS b (Or.inl hb)),ownTo_kept h.2 hk (fun i p b _ hp hb=>hS b (Or.inr ⟨i,p,hp,hb⟩))⟩
theorem ownTo_set {w:World} {B k:Nat} {m:List (Int×Value)} {fs:List (Int×List Int)} {tx:Int} {ps:List Int} {u:Value} (h:OwnTo w B m fs k) (hf:fs[k]?=some (tx,ps)) (hu:w.ownsRow B 3 1 u ps.length (ints ps))
  (hn:∀(i:Nat) (p:Int×Value) (b:Nat),i<k->m[i]?=some p->p.2.ownBlock=some b->u.ownBlock≠some b):OwnTo w B (m.set k (tx,u)) fs (k+1):=by
 have hkl:k<m.length:=by rw [h.1];exact (List.getElem?_eq_some_iff.1 hf).1
 refine ⟨by rw [List.length_set];exact h.1,fun i p f hi hp hf'=> ?_,fun i j p q b hi hj hp hq h1 h2=> ?_⟩
 ·by_cases e:k=i
  ·subst e
   rw [List.getElem?_set_self hkl] at hp
   injection hp with hp
   rw [hf] at hf'
   injection hf' with hf'
   subst hp hf';exact ⟨rfl,hu⟩
  ·rw [List.getElem?_set_ne e] at hp
   exact h.2.1 i p f (by omega) hp hf'
 ·by_cases e:k=i
  ·by_cases e':k=j
   ·omega
   ·subst e
    rw [List.getElem?_set_self hkl] at hp;rw [List.getElem?_set_ne e'] at hq
    injection hp with hp
    subst hp
    exact absurd h1 (hn j q b (by omega) hq h2)
  ·by_cases e':k=j
   ·subst e'
    rw [List.getElem?_set_self hkl] at hq;rw [List.getElem?_set_ne e] at hp
    injection hq with hq
    subst hq
    exact absurd h2 (hn i p b (by omega) hp h1)
   ·rw [List.getElem?_set_ne e] at hp
    rw [List.getElem?_set_ne e'] at hq
    exact h.2.2 i j p q b (by omega) (by omega) hp hq h1 h2
def sumF (l:List (Int×List Int)) (k:Nat):Nat:=((l.take k).map fun p=>p.2.length).sum
theorem sumF_succ (l:List (Int×List Int)) (k:Nat) {tx:Int} {ps:List Int} (h:l[k]?=some (tx,ps)):sumF l (k+1)=sumF l k+ps.length:=by
 obtain ⟨hk,e⟩:=List.getElem?_eq_some_iff.1 h;unfold sumF;rw [List.take_succ_eq_append_getElem hk,List.map_append,List.sum_append,e]
 simp
theorem sumF_zero (l:List (Int×List Int)):sumF l 0=0:=by simp [sumF]
theorem sumF_mono (l:List (Int×List Int)) (k:Nat):sumF l k<=sumF l l.length:=by
 unfold sumF
 conv=>rhs;rw [List.take_length,<-List.take_append_drop k l,List.map_append,List.sum_append]
 omega
def bulkF (l:List (Int×List Int)):Nat:=l.length+sumF l l.length
theorem bulkF_in {l:List (Int×List Int)} {m:Nat} (h:bulkF l<=m):l.length<=m/\∀f∈l,f.2.length<=m:=by
 unfold bulkF at h
 refine ⟨by omega,fun f hf=> ?_⟩
 obtain ⟨i,hi,rfl⟩:=List.getElem_of_mem hf;have h1:=sumF_succ l i (tx:=l[i].1) (ps:=l[i].2) (List.getElem?_eq_getElem hi);have h2:=sumF_mono l (i+1)
 omega
theorem szFree_any (tx:Int) (a:Option Addr) (n cap:Nat) (hn:n<=maxLen) (left:Nat) (hleft:left<=1048576) (w:World):
  Calls Tryz.prog 66 #[.agg #[.int .i64 tx,.slice a n cap],.int .i64 (left:Int)] w fun e w'=>e= .returned (.int .i64 (szOut left n))/\Below w.heap.size w w':=by
 have HC:=hide (fun wx=>szIntS_any a n cap hn left hleft wx)
 have HB:Hid (∀o,Below w.heap.size w (w.alloc o)):=hide (fun o=>(Below.refl w.heap.size w).alloc (Nat.le_refl _) _)
 by_cases h:n<=left
 ·rw [szOut_yes h] at HC⊢
  obtain ⟨z,hz⟩:∃z,z=left - n:=⟨_,rfl⟩;rw [<-hz] at HC⊢;clear hz h hn;go_enter Tryz.func66,Tryz.ntmps66;go_wp2_with fail;refine (HC.out _).mono ?_;rintro e w1 ⟨rfl,rfl⟩;go_wp2_with fail;go_ret;exact ⟨rfl,HB.out _⟩
 ·rw [szOut_no (by omega)] at HC⊢
  clear h hn;go_enter Tryz.func66,Tryz.ntmps66;go_wp2_with fail;refine (HC.out _).mono ?_;rintro e w1 ⟨rfl,rfl⟩;go_wp2_with fail;go_ret;exact ⟨rfl,HB.out _⟩
theorem szFreeS_any (l:List (Int×List Int)) (hl:l.length<=maxLen) (hs:∀p∈l,p.2.length<=maxLen) (v:Value) (left:Nat) (hleft:left<=1048576) (w:World) (hr:FreesAt w v l):
  Calls Tryz.prog 32 #[v,.int .i64 (left:Int)] w fun e w'=>e= .returned (.int .i64 (szOut left (bulkF l)))/\Below w.heap.size w w':=by
 obtain ⟨a,cap,rfl⟩:=frees_slice hr;have HR:=hide hr;have HS:=hide hs;clear hr hs;unfold maxLen at hl;have HBk:Hid (bulkF l=l.length+sumF l l.length):=hide rfl
 by_cases h0:left<l.length
 ·have HO:Hid (szOut left (bulkF l)= -1):=hide (szOut_no (by rw [HBk.out];omega))
  go_enter Tryz.func32,Tryz.ntmps32
  go_wp2
  go_ret;rw [HO.out];exact ⟨rfl,Below.refl _ _⟩
 ·go_enter Tryz.func32,Tryz.ntmps32
  go_wp2
  go_loopg [1,5] l.length (fun g lv iv wr=>∃k m:Nat,k<=l.length/\iv= .int .i64 (k:Int)/\g+k=l.length/\lv= .int .i64 (m:Int)/\m<=1048576/\Hid (m+l.length+sumF l k=left)/\Below w.heap.size w wr)
  case atStart=>exact ⟨0,left - l.length,Nat.zero_le _,rfl,rfl,by go_num,by omega,hide (by rw [sumF_zero];omega),Below.refl _ _⟩
  case round=>
   obtain ⟨k,m,hk,rfl,hg,rfl,hm,HM,hb⟩:=hrel;have HG:=hide hg;clear hg
   by_cases hlt:k<l.length
   ·obtain ⟨tx,ps,hf⟩:∃tx ps,l[k]?=some (tx,ps):=⟨_,_,List.getElem?_eq_getElem hlt⟩
    obtain ⟨b,off,x,c,rfl,hbl,hc0,hc1,-⟩:=frees_at (frees_below HR.out hb) hf;have hxs:ps.length<=maxLen:=HS.out _ (List.mem_of_getElem? hf);have HSum:=hide (sumF_succ l k hf);obtain ⟨n,hn⟩:∃n,n=ps.length:=⟨_,rfl⟩;rw [<-hn] at hc1 hxs HSum
    have hk0:(0:Int)<=(k:Int):=by omega
    have hk1:(k:Int)<(l.length:Int):=by omega
    clear hf hn
    by_cases hneg:m<n
    ·have HO:Hid (szOut left (bulkF l)= -1):=hide (szOut_no (by have h1:=HBk.out;have h2:=HM.out;have h3:=HSum.out;have h4:=sumF_mono l (k+1);omega))
     have HC:=hide (szFree_any tx x n c hxs m hm);rw [szOut_no hneg] at HC;go_wp2_with fail;refine (HC.out _).mono ?_;rintro e w2 ⟨rfl,hb2⟩;go_wp2_with fail;go_ret;rw [HO.out];exact ⟨rfl,hb.trans (hb2.mono hb.size)⟩
    ·have HC:=hide (szFree_any tx x n c hxs m hm)
     rw [szOut_yes (by omega)] at HC
     obtain ⟨m',hm'⟩:∃m',m'=m - n:=⟨_,rfl⟩;rw [<-hm'] at HC
     have hml:m'<=1048576:=by omega
     have HM2:Hid (m'+l.length+sumF l (k+1)=left):=hide (by have h2:=HM.out;have h3:=HSum.out;omega)
     clear hm' hneg;go_wp2_with fail;refine (HC.out _).mono ?_;rintro e w2 ⟨rfl,hb2⟩;go_wp2_with fail
     go_roundg (gk - 1)
     case measure=>have:=HG.out;omega
     case rel=>exact ⟨k+1,m',by omega,by go_num,by have:=HG.out;omega,rfl,hml,HM2,hb.trans (hb2.mono hb.size)⟩
   ·have HO:Hid (szOut left (bulkF l)=(m:Int)):=hide (by
     have h1:=HBk.out;have h2:=HM.out
     obtain rfl:k=l.length:=by omega
     rw [szOut_yes (by omega)]
     congr 1
     omega)
    go_wp2
    go_ret;rw [HO.out];exact ⟨rfl,hb⟩
open Go.RowKit
theorem toFree_any (tx:Int) (ps:List Int) (hp:ps.length<=1048576) (v:Value) (w:World) (hr:RowAt w 1 v ps.length (ints ps)):
  Calls Tryz.prog 78 #[.agg #[.int .i64 tx,v]] w fun e w'=>∃v',e= .returned (.agg #[.int .i64 tx,v'])/\w'.ownsRow w.heap.size 3 1 v' ps.length (ints ps)/\Below w.heap.size w w':=by
 obtain ⟨pa,pc,rfl⟩:∃a cap,v= .slice a ps.length cap:=by obtain ⟨-,a,cap,e,-⟩:=hr;exact ⟨a,cap,e⟩
 have HC3:=hide (fun wx h=>toIntS_any ps hp (.slice pa ps.length pc) wx h)
 have H3:=hide hr;clear hr hp;obtain ⟨w0,hw0⟩:∃w0,w0=((w.alloc (Obj.cells #[.int .i64 tx,.slice pa ps.length pc] 133)).alloc (Obj.cells #[.int .i64 0,.slice none 0 0] 83)).alloc (Obj.cells #[.int .i64 tx,.slice none 0 0] 83):=⟨_,rfl⟩
 have hb0:Below w.heap.size w w0:=by rw [hw0];exact (((Below.refl w.heap.size w).alloc (Nat.le_refl _) _).alloc (by simp) _).alloc (by simp;omega) _
 obtain ⟨-,q1,q2,hs0⟩:=three_allocs w (Obj.cells #[.int .i64 tx,.slice pa ps.length pc] 133) (Obj.cells #[.int .i64 0,.slice none 0 0] 83) (Obj.cells #[.int .i64 tx,.slice none 0 0] 83);rw [<-hw0] at q1 q2 hs0;have HB0:=hide hb0;clear hb0;go_enter Tryz.func78,Tryz.ntmps78;go_wp2_with fail;rw [<-hw0];clear hw0;refine (HC3.out _ (row_below H3.out HB0.out)).mono ?_;rintro e w3 ⟨u3,rfl,hown3,hb3⟩;obtain ⟨x3,c3,rfl⟩:=own_slice hown3;obtain ⟨a1,ha1⟩:∃a,a=w.heap.size+1:=⟨_,rfl⟩;obtain ⟨a2,ha2⟩:∃a,a=w.heap.size+1+1:=⟨_,rfl⟩;rw [<-ha2,<-ha1];rw [<-ha1] at q1;rw [<-ha2] at q2;have HA:=hide (⟨ha1,ha2,hs0⟩:a1=w.heap.size+1/\a2=w.heap.size+1+1/\w0.heap.size=w.heap.size+3)
 have hne:a1≠a2:=by omega
 have r3:=(hb3.block a1 (by omega)).trans q1
 have o3:=(hb3.block a2 (by omega)).trans q2
 have c23:w3.cell? ⟨a2,1,none⟩=some (.slice none 0 0):=(cell_at o3 1).1;have f23:=(cell_at o3 1).2;obtain ⟨y3,hy3⟩:∃y,y=w3.setCell ⟨a2,1,none⟩ (.slice x3 ps.length c3):=⟨_,rfl⟩
 have r3':y3.heap[a1]?=some (Obj.cells #[.int .i64 0,.slice none 0 0] 83):=by rw [hy3];exact blk_other r3 hne
 have o3':y3.heap[a2]?=some (Obj.cells #[.int .i64 tx,.slice x3 ps.length c3] 83):=by rw [hy3];exact heap_setCell_same w3 a2 1 _ _ _ o3
 have k3:Kept w3 y3 (fun k=>k=a1\/k=a2):=by rw [hy3];exact kept_mono (kept_setCell _ _ _ _) (fun j _ h=>Or.inr h)
 have d0:(w3.setCell ⟨a2,1,none⟩ (.slice x3 ps.length c3)).cell? ⟨a2,0,none⟩=some (.int .i64 tx):=by rw [<-hy3];exact (cell_at o3' 0).1
 have d1:(w3.setCell ⟨a2,1,none⟩ (.slice x3 ps.length c3)).cell? ⟨a2,1,none⟩=some (.slice x3 ps.length c3):=by rw [<-hy3];exact (cell_at o3' 1).1
 have e0:(w3.setCell ⟨a2,1,none⟩ (.slice x3 ps.length c3)).cell? ⟨a1,0,none⟩=some (.int .i64 0):=by rw [<-hy3];exact (cell_at r3' 0).1
 have e1:(w3.setCell ⟨a2,1,none⟩ (.slice x3 ps.length c3)).cell? ⟨a1,1,none⟩=some (.slice none 0 0):=by rw [<-hy3];exact (cell_at r3' 1).1
 have g0:(w3.setCell ⟨a2,1,none⟩ (.slice x3 ps.length c3)).frozen? ⟨a1,0,none⟩=false:=by rw [<-hy3];exact (cell_at r3' 0).2
 have g1:(w3.setCell ⟨a2,1,none⟩ (.slice x3 ps.length c3)).frozen? ⟨a1,1,none⟩=false:=by rw [<-hy3];exact (cell_at r3' 1).2
 have HR3:=hide r3';have HK3:=hide k3;have HY3:=hide hy3;have HO3:=hide hown3;have HB3:=hide hb3;clear hb3 hown3 r3 o3 r3' o3' k3 hy3 ha1 ha2 hs0 q1 q2 hne;go_wp2_with fail;rw [<-HY3.out]
 have k4:Kept w3 ((y3.setCell ⟨a1,0,none⟩ (.int .i64 tx)).setCell ⟨a1,1,none⟩ (.slice x3 ps.length c3)) (fun k=>k=a1\/k=a2):=kept_trans (kept_trans HK3.out (kept_setCell _ _ _ _) (fun j _ h=>Or.inl h)) (kept_setCell _ _ _ _) (fun j _ h=>Or.inl h)
 have z:((y3.setCell ⟨a1,0,none⟩ (.int .i64 tx)).setCell ⟨a1,1,none⟩ (.slice x3 ps.length c3)).heap[a1]?=some (Obj.cells #[.int .i64 tx,.slice x3 ps.length c3] 83):=heap_setCell_same _ a1 1 _ _ _ (heap_setCell_same _ a1 0 _ _ _ HR3.out);have z0:=(cell_at z 0).1;have z1:=(cell_at z 1).1;have hA:=HA.out;have hsz3:=HB3.out.size
 refine bodyPost_ret (v:= .agg #[.int .i64 tx,.slice x3 ps.length c3]) (by simp [results,Tryz.results78,go_sem,z0,z1]) rfl ⟨_,rfl,?_,?_⟩
 ·exact own_down (own_kept HO3.out k4 (fun k hk=>by have:=(HO3.out.lt k hk).1;omega)) (by omega)
 ·exact (HB0.out.trans (HB3.out.mono HB0.out.size)).trans (below_of_kept k4 (by have:=HB0.out.size;omega) (fun k hk=>by omega))
theorem Tryz.infoFree:(Tryz.prog.info? 83).map (fun i=>(i.zero,i.size,i.bytes))=some (some (.agg #[.int .i64 0,.slice none 0 0]),2,32):=by kernel_rfl
theorem toFreeS_any (fs:List (Int×List Int)) (hl:fs.length<=1048576) (hs:∀f∈fs,f.2.length<=1048576) (v:Value) (w:World) (hr:FreesAt w v fs):
  Calls Tryz.prog 47 #[v] w fun e w'=>∃v' m,e= .returned v'/\OwnF w' w.heap.size v' m fs/\Below w.heap.size w w':=by
 obtain ⟨i0,hi,hz0,hz1,hz2⟩:=info_parts Tryz.infoFree;obtain ⟨a,cap,rfl⟩:=frees_slice hr;have HR:=hide hr;have HS:=hide hs;clear hr hs;go_enter Tryz.func47,Tryz.ntmps47
 go_wp2_with (at_make;refine wpList_make_full _ rfl _ _ 42 rfl w.heap.size 83 i0 (.agg #[.int .i64 0,.slice none 0 0]) 2 Tryz.underlying42 hi hz0 hz1 .i64 .i64 _ _ fs.length rfl rfl rfl rfl (by rw [hz2];omega) (by unfold maxLen;omega) (Nat.le_refl _) ?_)
 intro w1 hown1 hg1
 have hb1:Below w.heap.size w w1:=(Below.refl _ _).grown hg1 (Nat.le_refl _) (fun k hk=>by cases hk)
 have hown2:w1.ownsRow w.heap.size 83 2 (.slice (some ⟨w.heap.size,0,none⟩) fs.length fs.length) fs.length (frs (List.replicate fs.length (0,.slice none 0 0))):=own_n hown1 rfl (frs_made _);clear hg1 hown1
 go_wp2
 go_loopg [4] fs.length (fun q iv wr=>∃(k:Nat) (m:List (Int×Value)),k<=fs.length/\iv= .int .i64 (k:Int)/\q+k=fs.length/\wr.ownsRow w.heap.size 83 2 (.slice (some ⟨w.heap.size,0,none⟩) fs.length fs.length) fs.length (frs m)/\Hid (OwnTo wr w.heap.size m fs k)/\Below w.heap.size w wr)
 case atStart=>exact ⟨0,_,Nat.zero_le _,rfl,rfl,hown2,hide ⟨by simp,fun i p f h=>by omega,fun i j p q b h=>by omega⟩,hb1⟩
 case round=>
  obtain ⟨k,m,hk,rfl,hg,hown,HM,hb⟩:=hrel;have HG:=hide hg;clear hg hown2 hb1
  by_cases hlt:k<fs.length
  ·obtain ⟨tx,ps,hf⟩:∃tx ps,fs[k]?=some (tx,ps):=⟨_,_,List.getElem?_eq_getElem hlt⟩
   obtain ⟨b,off,x,c,rfl,hbl,hc0,hc1,hrow⟩:=frees_at (frees_below HR.out hb) hf
   have HC:=hide (fun wx h=>toFree_any tx ps (HS.out _ (List.mem_of_getElem? hf)) (.slice x ps.length c) wx h)
   have HRow:=hide hrow
   have hkm:k<m.length:=by rw [HM.out.1];exact hlt
   obtain ⟨p,hp⟩:∃p,m[k]?=some p:=⟨_,List.getElem?_eq_getElem hkm⟩;obtain ⟨u0,u1,hu⟩:∃(u0:Int) (u1:Value),(frs m)[k * 2]?=some (.int .i64 u0)/\(frs m)[k * 2+1]?=some u1:=⟨_,_,frs_at m k p hp⟩;have HU:=hide hu;have HF:=hide hf;have HKm:=hide hkm
   have hk0:(0:Int)<=(k:Int):=by omega
   have hk1:(k:Int)<(fs.length:Int):=by omega
   clear hkm hu hf hrow hp;go_wp2_with fail;refine (HC.out _ HRow.out).mono ?_;rintro e w2 ⟨u,rfl,hou,hb2⟩;obtain ⟨ua,uc,rfl⟩:=own_slice hou;have hown2:=own_stays hown hb2
   have hd0:w2.cell? ⟨w.heap.size,k * 2,none⟩=some (.int .i64 u0):=by rw [hown2.cellAt (k * 2) (by omega),HU.out.1]
   have hd1:w2.cell? ⟨w.heap.size,k * 2+1,none⟩=some u1:=by rw [hown2.cellAt (k * 2+1) (by omega),HU.out.2]
   have hf0:w2.frozen? ⟨w.heap.size,k * 2,none⟩=false:=hown2.frozenAt _;have hf1:w2.frozen? ⟨w.heap.size,k * 2+1,none⟩=false:=hown2.frozenAt _;have hb3:Below w.heap.size w w2:=hb.trans (hb2.mono hb.size);have HO:=hide (((hown2.stored (k * 2) (.int .i64 tx)).1.stored (k * 2+1) (.slice ua ps.length uc)).1);rw [frs_set m k tx _ HKm.out] at HO
   have HM2:Hid (OwnTo ((w2.setCell ⟨w.heap.size,k * 2,none⟩ (.int .i64 tx)).setCell ⟨w.heap.size,k * 2+1,none⟩ (.slice ua ps.length uc)) w.heap.size (m.set k (tx,.slice ua ps.length uc)) fs (k+1)):=hide (by
    have h1:=ownTo_stays HM.out hb2
    have h2:OwnTo w2 w.heap.size (m.set k (tx,.slice ua ps.length uc)) fs (k+1):=ownTo_set h1 HF.out (own_down hou hb.size) (fun i p b hi hp hpb hub=>by
     have hil:i<fs.length:=by omega
     have:=((HM.out.2.1 i p _ hi hp (List.getElem?_eq_getElem hil)).2.lt b hpb).2;have:=(hou.lt b hub).1
     omega)
    refine ownTo_kept h2 (kept_trans (kept_setCell w2 w.heap.size (k * 2) _) (kept_setCell _ w.heap.size (k * 2+1) _) (fun j _ h=>h)) (fun i p b hi hp hpb hbw=> ?_)
    have hil:i<fs.length:=by omega
    have h3:=(h2.2.1 i p _ hi hp (List.getElem?_eq_getElem hil)).2
    exact one_type hown2 h3 Tryz.free_int b (by rw [hbw];rfl) hpb)
   clear hown hb2 hou;go_wp2_with fail
   go_roundg (gk - 1)
   case measure=>have:=HG.out;omega
   case rel=>exact ⟨k+1,_,by omega,by go_num,by have:=HG.out;omega,HO.out,HM2,(hb3.setCell (Nat.le_refl _) _).setCell (Nat.le_refl _) _⟩
  ·obtain rfl:k=fs.length:=by omega
   go_wp2
   go_ret;exact ⟨_,m,rfl,⟨hown,HM.out⟩,hb⟩
theorem eqFree_same (tx:Int) (ps:List Int) (hp:ps.length<=1048576) (v u:Value) (w:World) (hr:RowAt w 1 v ps.length (ints ps)) (hq:RowAt w 1 u ps.length (ints ps)):
  Calls Tryz.prog 92 #[.agg #[.int .i64 tx,v],.agg #[.int .i64 tx,u]] w fun e w'=>e= .returned (.bool true)/\Below w.heap.size w w':=by
 have HC3:=hide (fun wx h h'=>eqIntS_row ps ps (by omega) (by omega) v u wx h h')
 rw [decide_eq_true rfl] at HC3;have HR:=hide (⟨hr,hq⟩:_/\_);clear hr hq hp;obtain ⟨w0,hw0⟩:∃w0,w0=(w.alloc (Obj.cells #[.int .i64 tx,v] 83)).alloc (Obj.cells #[.int .i64 tx,u] 83):=⟨_,rfl⟩
 have hb0:Below w.heap.size w w0:=by rw [hw0];exact ((Below.refl w.heap.size w).alloc (Nat.le_refl _) _).alloc (by simp) _
 have HB0:=hide hb0
 have dl:(tx !=tx)=false:=by simp
 clear hb0;go_enter Tryz.func92,Tryz.ntmps92;go_wp2_with fail;rw [<-hw0];clear hw0;refine (HC3.out _ (row_below HR.out.1 HB0.out) (row_below HR.out.2 HB0.out)).mono ?_;rintro e w3 ⟨rfl,hb3⟩;have HB3:Hid (Below w.heap.size w w3):=hide (HB0.out.trans (hb3.mono HB0.out.size));clear hb3;go_wp2_with fail;go_ret;exact ⟨rfl,HB3.out⟩
theorem eqFreeS_same (fs:List (Int×List Int)) (hl:fs.length<=1048576) (hs:∀f∈fs,f.2.length<=1048576) (v u:Value) (w:World) (hr:FreesAt w v fs) (hq:FreesAt w u fs):
  Calls Tryz.prog 62 #[v,u] w fun e w'=>e= .returned (.bool true)/\Below w.heap.size w w':=by
 obtain ⟨a,cap,rfl⟩:=frees_slice hr;obtain ⟨a',cap',rfl⟩:=frees_slice hq;have HR:=hide hr;have HQ:=hide hq;have HS:=hide hs;clear hr hq hs;go_enter Tryz.func62,Tryz.ntmps62
 go_wp2
 go_loopg [5] fs.length (fun q iv wr=>∃k:Nat,k<=fs.length/\iv= .int .i64 (k:Int)/\q+k=fs.length/\Below w.heap.size w wr)
 case atStart=>exact ⟨0,Nat.zero_le _,rfl,rfl,Below.refl _ _⟩
 case round=>
  obtain ⟨k,hk,rfl,hg,hb⟩:=hrel;have HG:=hide hg;clear hg
  by_cases hlt:k<fs.length
  ·obtain ⟨tx,ps,hf⟩:∃tx ps,fs[k]?=some (tx,ps):=⟨_,_,List.getElem?_eq_getElem hlt⟩
   obtain ⟨b,off,x,c,rfl,hbl,hc0,hc1,hrow⟩:=frees_at (frees_below HR.out hb) hf;obtain ⟨b',off',x',c',rfl,hbl',hd0,hd1,hrow'⟩:=frees_at (frees_below HQ.out hb) hf
   have HC:=hide (fun wx h h'=>eqFree_same tx ps (HS.out _ (List.mem_of_getElem? hf)) (.slice x ps.length c) (.slice x' ps.length c') wx h h')
   have HRow:=hide (⟨hrow,hrow'⟩:_/\_)
   have hk0:(0:Int)<=(k:Int):=by omega
   have hk1:(k:Int)<(fs.length:Int):=by omega
   obtain ⟨n,hn⟩:∃n,n=ps.length:=⟨_,rfl⟩;rw [<-hn] at hc1 hd1 HC HRow;clear hf hrow hrow' hn;go_wp2_with fail
   go_region_held3 (fun wx=>wx.cell? ⟨b,off+k * 2,none⟩=some (.int .i64 tx)/\wx.cell? ⟨b,off+k * 2+1,none⟩=some (.slice x n c)/\wx.cell? ⟨b',off'+k * 2,none⟩=some (.int .i64 tx)/\wx.cell? ⟨b',off'+k * 2+1,none⟩=some (.slice x' n c')) (first | exact ⟨hc0,hc1,hd0,hd1⟩ | exact hS2) ((go_at_call 92;refine (HC.out _ (row_below HRow.out.1 (Below.refl _ _).drew) (row_below HRow.out.2 (Below.refl _ _).drew)).mono ?_;rintro e w2 ⟨rfl,hb2⟩;have hS2:w2.cell? ⟨b,off+k * 2,none⟩=some (.int .i64 tx)/\w2.cell? ⟨b,off+k * 2+1,none⟩=some (.slice x n c)/\w2.cell? ⟨b',off'+k * 2,none⟩=some (.int .i64 tx)/\w2.cell? ⟨b',off'+k * 2+1,none⟩=some (.slice x' n c'):=⟨(hb2.cell (by exact hbl)).trans hc0,(hb2.cell (by exact hbl)).trans hc1,(hb2.cell (by exact hbl')).trans hd0,(hb2.cell (by exact hbl')).trans hd1⟩))
   all_goals
    have hb3:Below w.heap.size w w2:=hb.trans ((Below.refl _ _).drew.trans (hb2.mono hb.size));clear hb2;go_wp2_with fail
    go_roundg (gk - 1)
    case measure=>have:=HG.out;omega
    case rel=>exact ⟨k+1,by omega,by go_num,by have:=HG.out;omega,hb3⟩
  ·go_wp2
   go_ret;exact ⟨rfl,hb⟩
end Go.Proofs.YtjmgdmdleamenaaGreatDoor
