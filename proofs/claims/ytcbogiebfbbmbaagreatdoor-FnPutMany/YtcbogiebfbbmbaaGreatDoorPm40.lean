/-
  Facts and contracts that the law's own text rests on, by their texts' names: SepRow, SpecDeep, SpecPutKey, TreePl6.
-/
import Derived.Maps.AppendAt
import Derived.Test.YtcbogiebfbbmbaaGreatDoorPm1
import Derived.Test.YtcbogiebfbbmbaaGreatDoorPm9
import Derived.Test.YtcbogiebfbbmbaaGreatDoorPm21
import Derived.Test.YtcbogiebfbbmbaaGreatDoorPm7
import Derived.Test.YtcbogiebfbbmbaaGreatDoorPm37
import Derived.Test.YtcbogiebfbbmbaaGreatDoorPm12
set_option maxHeartbeats 16000000
set_option maxRecDepth 100000
namespace Go.Proofs.YtcbogiebfbbmbaaGreatDoor
open Go.RowKit
theorem zgJ {P:Program} (w:World) (t ty:TypeId) (base:Nat) (e:TypeId) (i:TypeInfo) (z:Value) (size bytes:Nat) (ht:P.underlying t=some (.slice e)) (hi:P.info? e=some i) (hz:i.zero=some z)
  (hsize:i.size=size) (hby:i.bytes=bytes) (hzs:z.cells.size=size) (hsz:0<size)
  (v:Value) (n:Nat) (xs:List Value) (hown:w.ownsRow base e size v n xs)
  (u:Value) (m:Nat) (ys:List Value) (hrow:RowAt w size u m ys) (h1:∀y∈ys,y.oneCell'=true)
  (h63:n+m<=maxLen) (hbytes:(n+m) * bytes<=140737488355328) (hbase:base<=w.heap.size):
  ∃x c w',(Builtin.append_ #[t,t] ty #[v,u]).run P w= .ok (.slice x (n+m) c) w'/\w'.ownsRow base e size (.slice x (n+m) c) (n+m) (xs++ys)/\w.grownBy w' v.ownBlock/\∀j,(Value.slice x (n+m) c).ownBlock=some j->v.ownBlock=some j\/j=w.heap.size:=by
 have key:∀(v':Value) (w':World),w'.ownsRow base e size v' (n+m) (xs++ys)->∃x c,v'=Value.slice x (n+m) c:=fun v' w' h=>by
  obtain ⟨-,a,cap,ee,-⟩:=zac h;exact ⟨a,cap,ee⟩
 obtain ⟨hl,a,cap,rfl,h2⟩:=hrow
 rcases a with _ | ad
 ·rcases h2 with h0 | ⟨b,off,e,_⟩
  ·subst h0
   have hy:ys= []:=List.length_eq_zero_iff.1 (by rw [hl];omega)
   subst hy
   obtain ⟨x,c,hx⟩:=key v w (by rw [List.append_nil];exact hown)
   refine ⟨x,c,w,?_,?_,⟨rfl,rfl,rfl,Nat.le_refl _,fun _ _ _=>rfl⟩,fun j hj=>Or.inl (by rw [hx];exact hj)⟩
   ·rw [<-hx]
    rcases hown.2 with ⟨rfl,rfl⟩ | ⟨g,cap,cur,rfl,_,_,hnc,_⟩
    ·simp [Builtin.append_,run_underlying ht,sizeOf,typeInfo,hi,Builtin.lenOf,Builtin.firstCells]
    ·simp [Builtin.append_,run_underlying ht,sizeOf,typeInfo,hi,Builtin.lenOf,Builtin.firstCells,hnc,storeCells]
   ·rw [<-hx,List.append_nil];exact hown
  ·cases e
 ·have hnews:∀j y,ys[j]?=some y->w.cell? (ad.add j)=some y:=fun j y hj=>by
   have hjl:j<m * size:=by rw [<-hl];exact (List.getElem?_eq_some_iff.1 hj).1
   rcases h2 with h0 | ⟨b,off,e,hlt,hc⟩
   ·subst h0;simp at hjl
   ·injection e with e
    subst e;rw [Addr.add_lit,hc j hjl,hj]
  obtain ⟨v',w',hr,g2,g3,g4,g5⟩:=run_append_own_at (P:=P) w base t ty e i z size bytes ht hi hz hsize hby hzs hsz v n xs hown ad m cap ys hl hnews h1 h63 hbytes hbase;obtain ⟨x,c,rfl⟩:=key v' w' g2
  refine ⟨x,c,w',hr,g2,g3,fun j hj=> ?_⟩
  rcases g5 with g5 | g5
  ·exact Or.inl (by rw [<-g5];exact hj)
  ·rw [g5] at hj
   injection hj with hj
   exact Or.inr hj.symm
theorem row_sep {B:Nat} {W W':World} {l:List Ast} (h:Sep B W l) (i:Nat) {B' e sz n n' c:Nat} {x:Option Addr} {v:Value} {xs xs':List Value} (hi:l[i]?=some (rowA B' e sz v n xs)) (hBB:B<=B') (hBW:B<=W.heap.size) (hgr:W.grownBy W' v.ownBlock) (hown:W'.ownsRow B' e sz (.slice x n' c) n' xs') (hb:∀j,(Value.slice x n' c).ownBlock=some j->v.ownBlock=some j\/j=W.heap.size):
  Sep B W' (l.set i (rowA B' e sz (.slice x n' c) n' xs'))/\Below B W W':=by
 refine ⟨zdT h i hi ⟨hgr.os,hgr.tape,hgr.output,hgr.size,fun j hj hn=>hgr.block j hj (fun e=>hn e.symm)⟩ _ hown (fun k hk=>⟨?_,(hown.lt k hk).2⟩) hBW,zfR (Below.refl _ _) hgr (za5 h i hi) hBB hBW⟩
 rcases hb k hk with h | h
 ·exact Or.inl h
 ·exact Or.inr (by omega)
theorem zdJ {B:Nat} {W:World} {l:List Ast} (h:Sep B W l) (B' e:Nat):Sep B W (rowA B' e 1 (.slice none 0 0) 0 [] :: l):=
 zb5.2 ⟨⟨⟨rfl,Or.inl ⟨rfl,rfl⟩⟩,fun j hj=>by cases hj⟩,fun _ _ j hj=>(by cases hj),h⟩
open Go.RowKit
noncomputable def deepL (R:Int->Nd×Bool):Nat->Int->Nat->Nat
 | 0,_,_=>8
 | q+1,p,d=>if (R p).2=false\/(R p).1.lf=true then d else deepL R q ((R p).1.cs.getD 0 0) (d+1)
noncomputable def deepD (R:Int->Nd×Bool) (root:Int):Nat:=deepL R 8 root 1
open Go.RowKit
noncomputable def putS (k:Wk) (root:Int) (key val:ByteArray):Wk×Int×Bool:=
 if 24<key.size\/24<val.size then (k,root,false)
 else if root=0 then (if putP k true [key] [val] []=0 then (k,root,false) else (putK k true [key] [val] [],putP k true [key] [val] [],true))
 else if (goPut key val 8 k root).2.2.2=false then (k,root,false)
 else if (goPut key val 8 k root).2.2.1.length=1 then ((goPut key val 8 k root).1,(goPut key val 8 k root).2.2.1.getD 0 0,true)
 else if 8<=deepD (fun q=>rdN (readD (goPut key val 8 k root).1.ps (goPut key val 8 k root).1.ls q)) ((goPut key val 8 k root).2.2.1.getD 0 0) then (k,root,false)
 else if putP (goPut key val 8 k root).1 false (goPut key val 8 k root).2.1 [] (goPut key val 8 k root).2.2.1=0 then (k,root,false)
 else (putK (goPut key val 8 k root).1 false (goPut key val 8 k root).2.1 [] (goPut key val 8 k root).2.2.1,putP (goPut key val 8 k root).1 false (goPut key val 8 k root).2.1 [] (goPut key val 8 k root).2.2.1,true)
open Go.RowKit
def IsRoot (R:Int->Nd×Bool) (root:Int) (L:Prs) (P:List Int):Prop:=(root=0/\L= []/\P= [])\/∃h f,h<=8/\root≠0/\IsTree R h root f L P
theorem ziU {R:Int->Nd×Bool}:∀(h q:Nat) {p:Int} {f:ByteArray} {L:Prs} {P:List Int} (d:Nat),IsTree R h p f L P->h<=q->deepL R q p d+1=d+h
 | 0,_,_,_,_,_,_,ht,_=>ht.elim
 | h+1,0,_,_,_,_,_,_,hq=>by omega
 | h+1,q+1,p,f,L,P,d,⟨n,h1,h2,h3,h4⟩,hq=>by
  rw [deepL,h1]
  rcases h4 with ⟨a,b,c,e⟩ | ⟨a,P',c,e⟩
  ·rw [if_pos (Or.inr a)]
   omega
  ·rw [if_neg (by rintro (x | x);cases x;rw [a] at x;cases x)]
   have hp:=zel h2
   cases hk:n.ks with
   | nil=>rw [hk] at hp;simp at hp
   | cons x ks=>
    rw [hk] at c
    cases hc:n.cs with
    | nil=>rw [hc] at c;exact c.elim
    | cons y cs=>
     rw [hc] at c;obtain ⟨g,L1,P1,L2,P2,k1,-⟩:=c
     have:=ziU h q (d+1) k1 (by omega)
     show deepL R q y (d+1)+1=_
     omega
end Go.Proofs.YtcbogiebfbbmbaaGreatDoor
