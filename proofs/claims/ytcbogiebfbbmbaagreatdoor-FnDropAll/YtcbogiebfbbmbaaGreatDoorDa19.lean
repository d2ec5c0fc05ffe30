/-
  Facts and contracts that the law's own text rests on, by their texts' names: SepCells, SepRow, BuildI2, BuildI3, BuildI4, BuildI5, HeldZ.
-/
import Derived.Deep.MidRow
import Derived.Test.YtcbogiebfbbmbaaGreatDoorDa7
import Derived.Maps.AppendAt
import Derived.Test.YtcbogiebfbbmbaaGreatDoorDa1
import Derived.BigQuiet
import Derived.Deep.Cut
import Derived.Test.YtcbogiebfbbmbaaGreatDoorDa18
import Derived.Deep.RegionHeld
set_option maxHeartbeats 16000000
set_option maxRecDepth 100000
namespace Go.Proofs.YtcbogiebfbbmbaaGreatDoor
open Go.RowKit
def overL:List Value->Nat->List Value->List Value
 | cs,_,[]=>cs
 | cs,o,v :: r=>overL (cs.set o v) (o+1) r
def over:Array Value->Nat->List Value->Array Value
 | cs,_,[]=>cs
 | cs,o,v :: r=>over (cs.setIfInBounds o v) (o+1) r
theorem zix:∀(vs:List Value) (cs:Array Value) (o:Nat),(over cs o vs).toList=overL cs.toList o vs
 | [],_,_=>rfl
 | v :: r,cs,o=>by
  rw [over,overL,zix r,Array.toList_setIfInBounds]
theorem ziy:∀(vs pre cs:List Value),vs.length=cs.length->overL (pre++cs) pre.length vs=pre++vs
 | [],pre,cs,h=>by
  rw [List.eq_nil_of_length_eq_zero h.symm]
  rfl
 | v :: r,pre,[],h=>by simp at h
 | v :: r,pre,c :: cs,h=>by
  have ih:=ziy r (pre++ [v]) cs (by simpa using h)
  rw [overL,List.set_append_right _ _ (Nat.le_refl _),Nat.sub_self,List.set_cons_zero];rw [List.length_append,List.length_singleton,List.append_assoc,List.append_assoc] at ih;exact ih
theorem zmO {α:Type} {l:List α} {i:Nat} {x:α} (h:l[i]?=some x):l.set i x=l:=by
 obtain ⟨hi,rfl⟩:=List.getElem?_eq_some_iff.1 h;exact List.set_getElem_self hi
theorem zgt {B:Nat}:∀(vs:List Value) (off:Nat) {W:World} {l:List Ast} (_:Sep B W l) (i:Nat) {g:Nat} {cs:Array Value} {T:TypeId} (_:l[i]?=some (cellA g (.cells cs T (0,0)))),Sep B (W.setCells g off vs) (l.set i (cellA g (.cells (over cs off vs) T (0,0))))
 | [],off,W,l,h,i,g,cs,T,hi=>by
  rw [show over cs off []=cs from rfl,zmO hi]
  exact h
 | v :: r,off,W,l,h,i,g,cs,T,hi=>by
  have hlt:i<l.length:=(List.getElem?_eq_some_iff.1 hi).1
  have h2:=zgt r (off+1) (zb6 h i hi off v) i (g:=g) (cs:=cs.setIfInBounds off v) (T:=T) (by rw [List.getElem?_set_self hlt])
  rw [List.set_set] at h2;exact h2
theorem zje {B:Nat} {W:World} {l:List Ast} (h:Sep B W l) (i:Nat) {g:Nat} {cs:Array Value} {T:TypeId} (hi:l[i]?=some (cellA g (.cells cs T (0,0)))) (off:Nat) (vs:List Value) (cs':Array Value) (he:overL cs.toList off vs=cs'.toList):Sep B (W.setCells g off vs) (l.set i (cellA g (.cells cs' T (0,0)))):=by
 have e:over cs off vs=cs':=Array.toList_inj.1 (by rw [zix];exact he)
 subst e;exact zgt vs off h i hi
theorem zaq {B:Nat} {W:World} {l:List Ast} (h:Sep B W l) (i:Nat) {g:Nat} {cs:Array Value} {T:TypeId} (hi:l[i]?=some (cellA g (.cells cs T (0,0)))) (cs':Array Value) (hn:cs'.size=cs.size):Sep B (W.setCells g 0 cs'.toList) (l.set i (cellA g (.cells cs' T (0,0)))):=
 zje h i hi 0 cs'.toList cs' (ziy cs'.toList [] cs.toList (by simpa using hn))
theorem zai {B:Nat} {W0:World} {g:Nat} (hg:B<=g):∀(vs:List Value) (o:Nat) (W:World),Below B W0 W->Below B W0 (W.setCells g o vs)
 | [],_,_,h=>h
 | v :: r,o,_,h=>zai hg r (o+1) _ (h.setCell (p:=⟨g,o,none⟩) hg v)
theorem zcG (g:Nat):∀(vs:List Value) (o:Nat) (W:World),(W.setCells g o vs).heap.size=W.heap.size
 | [],_,_=>rfl
 | v :: r,o,W=>by rw [World.setCells,zcG g r (o+1)];simp
theorem zav {W:World} {g:Nat} {cs:Array Value} {T:TypeId} (h:W.heap[g]?=some (.cells cs T (0,0))) (o n:Nat) (hn:o+n<=cs.size):W.there g o n:=fun j hj=>by
 refine ⟨?_,(za0 h (o+j)).2⟩
 rw [(za0 h (o+j)).1,Array.getElem?_eq_getElem (by omega)]
 rfl
theorem zay {P:Program} {ops:Array Oper} {rest:List Oper} {op:Oper} {a:Act} {w:World} {Q:Exit->Act->World->Prop} (hgd:op.guard=none) (ty:TypeId) (x:Operand) (ho:op.op= .load ty x)
  (b o:Nat) (hx:a.eval x= .pointer (some ⟨b,o,none⟩)) (cs:Array Value) (hc:w.rangeAt b o cs.toList) (d:TypeDesc)
  (hu:P.underlying ty=some d) (hd:d.isRow=true) (hi:(P.info? ty).map (·.size)=some cs.size)
  (h:wpList P ops Q rest (a.put op.dst (.agg cs)) w):wpList P ops Q (op :: rest) a w:=
 wpList_load_mid hgd ty x ho b o hx cs.toList d hc hu hd (by rw [hi,Array.length_toList]) (by rw [Array.toArray_toList];exact h)
theorem zao {P:Program} {ops:Array Oper} {rest:List Oper} {op:Oper} {a:Act} {w w':World} {Q:Exit->Act->World->Prop} (hgd:op.guard=none) (ty:TypeId) (x y:Operand) (ho:op.op= .store ty x y)
  (b o:Nat) (cs:Array Value) (hx:a.eval x= .pointer (some ⟨b,o,none⟩)) (hy:a.eval y= .agg cs)
  (ht:w.there b o cs.size) (hi:(P.info? ty).map (·.size)=some cs.size) (h1:cs.toList.all (·.oneCell')=true) (hw:w.setCells b o cs.toList=w')
  (h:wpList P ops Q rest (a.put op.dst undef) w'):wpList P ops Q (op :: rest) a w:=by
 subst hw
 exact wpList_store_mid hgd ty x y ho b o cs hx hy ht hi (by rw [<-Array.all_toList];exact h1) h
theorem zb0 {P:Program} {ops:Array Oper} {o:Oper} {a:Act} {K:Act->World->Prop} {Q:Exit->Act->World->Prop} {E:Prop} {W W':World} (hgd:o.guard=none) (ty:TypeId) (x y:Operand) (ho:o.op= .store ty x y)
  (b off:Nat) (cs:Array Value) (hx:a.eval x= .pointer (some ⟨b,off,none⟩)) (hy:a.eval y= .agg cs)
  (ht:W.there b off cs.size) (hi:(P.info? ty).map (·.size)=some cs.size) (h1:cs.toList.all (·.oneCell')=true) (hw:W.setCells b off cs.toList=W')
  (h:K (a.put o.dst undef) W'):if Region.wanted o (yielded ops a.tmps)=true then Oper.wp P o a W K Q else E:=by
 have hw':Region.wanted o (yielded ops a.tmps)=true:=by simp [Region.wanted,hgd]
 rw [if_pos hw'];subst hw
 exact wp_store_mid ty x y ho b off cs hx hy ht hi (by rw [<-Array.all_toList];exact h1) h
theorem zbT {P:Program} {ops:Array Oper} {S:World->Prop} {op:Oper} {a:Act} (hw:Region.wanted op (yielded ops a.tmps)=true) (ty:TypeId) (x:Operand) (ho:op.op= .load ty x)
  (b o:Nat) (hx:a.eval x= .pointer (some ⟨b,o,none⟩)) (cs:Array Value) (d:TypeDesc) (hS:∀w,S w->w.rangeAt b o cs.toList)
  (hu:P.underlying ty=some d) (hd:d.isRow=true) (hi:(P.info? ty).map (·.size)=some cs.size):YieldsIf P ops S op (.agg cs) a:=by
 have h:=yieldsIf_load_mid (ops:=ops) hw ty x ho b o hx cs.toList d hS hu hd (by rw [hi,Array.length_toList])
 rw [Array.toArray_toList] at h;exact h
theorem zaj {W:World} {g:Nat} {cs:Array Value} {T:TypeId} (h:W.heap[g]?=some (.cells cs T (0,0))):W.rangeAt g 0 cs.toList:=fun j v hv=>by
 rw [(za0 h (0+j)).1,Nat.zero_add]
 simpa using hv
theorem zcX {P:Program} {w:World} {b:Nat} {ty:TypeId} {cs:Array Value} {d:TypeDesc} (hc:w.rangeAt b 0 cs.toList) (hu:P.underlying ty=some d) (hd:d.isRow=true) (hi:(P.info? ty).map (·.size)=some cs.size):(loadVar ty ⟨b,0,none⟩).run P w= .ok (.agg cs) w:=by
 have h:=run_loadVar_mid w b 0 ty cs.toList d hc hu hd (by rw [hi,Array.length_toList])
 rw [Array.toArray_toList] at h;exact h
theorem zgu {P:Program} {fn:Func} {t:Tmp} {ty:TypeId} (h:fn.results= #[.cell t ty]) {tmps:Array Value} {w:World} {b:Nat} (hp:tmps.getD t undef= .pointer (some ⟨b,0,none⟩)) {cs:Array Value} (hl:(loadVar ty ⟨b,0,none⟩).run P w= .ok (.agg cs) w):(results fn tmps).run P w= .ok (.agg cs) w:=by
 simp only [Array.getD_eq_getD_getElem?] at hp
 simp [results,h,hp,asAddr,hl]
theorem zkJ {P:Program} {fn:Func} {t u:Tmp} {ty:TypeId} (h:fn.results= #[.cell t ty,.tmp u]) {tmps:Array Value} {w:World} {b:Nat} (hp:tmps.getD t undef= .pointer (some ⟨b,0,none⟩)) {cs:Array Value} {x:Value} (hx:tmps.getD u undef=x) (hl:(loadVar ty ⟨b,0,none⟩).run P w= .ok (.agg cs) w):(results fn tmps).run P w= .ok (.tuple #[.agg cs,x]) w:=by
 simp only [Array.getD_eq_getD_getElem?] at hp hx
 simp [results,h,hp,hx,asAddr,hl]
open Go.RowKit
theorem zdU {P:Program} (w:World) (t ty:TypeId) (base:Nat) (e:TypeId) (i:TypeInfo) (z:Value) (size bytes:Nat) (ht:P.underlying t=some (.slice e)) (hi:P.info? e=some i) (hz:i.zero=some z)
  (hsize:i.size=size) (hby:i.bytes=bytes) (hzs:z.cells.size=size) (hsz:0<size)
  (v:Value) (n:Nat) (xs:List Value) (hown:w.ownsRow base e size v n xs)
  (u:Value) (m:Nat) (ys:List Value) (hrow:RowAt w size u m ys) (h1:∀y∈ys,y.oneCell'=true)
  (h63:n+m<=maxLen) (hbytes:(n+m) * bytes<=140737488355328) (hbase:base<=w.heap.size):
  ∃x c w',(Builtin.append_ #[t,t] ty #[v,u]).run P w= .ok (.slice x (n+m) c) w'/\w'.ownsRow base e size (.slice x (n+m) c) (n+m) (xs++ys)/\w.grownBy w' v.ownBlock/\∀j,(Value.slice x (n+m) c).ownBlock=some j->v.ownBlock=some j\/j=w.heap.size:=by
 have key:∀(v':Value) (w':World),w'.ownsRow base e size v' (n+m) (xs++ys)->∃x c,v'=Value.slice x (n+m) c:=fun v' w' h=>by
  obtain ⟨-,a,cap,ee,-⟩:=zaa h;exact ⟨a,cap,ee⟩
 obtain ⟨hl,a,cap,rfl,h2⟩:=hrow
 rcases a with _ | ad
 ·rcases h2 with h0 | ⟨b,off,e,_⟩
  ·subst h0
   have hy:ys= []:=List.length_eq_zero_iff.1 (by rw [hl];omega)
   subst hy
   obtain ⟨x,c,hx⟩:=key v w (by rw [List.append_nil];exact hown)
   refine ⟨x,c,w,?_,?_,⟨rfl,rfl,rfl,Nat.le_refl _,fun _ _ _=>rfl⟩,fun j hj=>Or.inl (by rw [hx];exact hj)⟩
   ·rw [<-hx]
    rcases hown.2 with ⟨rfl,rfl⟩ | ⟨g,cap,cur,rfl,_,_,hnc,_⟩
    ·simp [Builtin.append_,run_underlying ht,sizeOf,typeInfo,hi,Builtin.lenOf,Builtin.firstCells]
    ·simp [Builtin.append_,run_underlying ht,sizeOf,typeInfo,hi,Builtin.lenOf,Builtin.firstCells,hnc,storeCells]
   ·rw [<-hx,List.append_nil];exact hown
  ·cases e
 ·have hnews:∀j y,ys[j]?=some y->w.cell? (ad.add j)=some y:=fun j y hj=>by
   have hjl:j<m * size:=by rw [<-hl];exact (List.getElem?_eq_some_iff.1 hj).1
   rcases h2 with h0 | ⟨b,off,e,hlt,hc⟩
   ·subst h0;simp at hjl
   ·injection e with e
    subst e;rw [Addr.add_lit,hc j hjl,hj]
  obtain ⟨v',w',hr,g2,g3,g4,g5⟩:=run_append_own_at (P:=P) w base t ty e i z size bytes ht hi hz hsize hby hzs hsz v n xs hown ad m cap ys hl hnews h1 h63 hbytes hbase;obtain ⟨x,c,rfl⟩:=key v' w' g2
  refine ⟨x,c,w',hr,g2,g3,fun j hj=> ?_⟩
  rcases g5 with g5 | g5
  ·exact Or.inl (by rw [<-g5];exact hj)
  ·rw [g5] at hj
   injection hj with hj
   exact Or.inr hj.symm
theorem zlH {B:Nat} {W W':World} {l:List Ast} (h:Sep B W l) (i:Nat) {B' e sz n n' c:Nat} {x:Option Addr} {v:Value} {xs xs':List Value} (hi:l[i]?=some (rowA B' e sz v n xs)) (hBB:B<=B') (hBW:B<=W.heap.size) (hgr:W.grownBy W' v.ownBlock) (hown:W'.ownsRow B' e sz (.slice x n' c) n' xs') (hb:∀j,(Value.slice x n' c).ownBlock=some j->v.ownBlock=some j\/j=W.heap.size):
  Sep B W' (l.set i (rowA B' e sz (.slice x n' c) n' xs'))/\Below B W W':=by
 refine ⟨ze5 h i hi ⟨hgr.os,hgr.tape,hgr.output,hgr.size,fun j hj hn=>hgr.block j hj (fun e=>hn e.symm)⟩ _ hown (fun k hk=>⟨?_,(hown.lt k hk).2⟩) hBW,zgl (Below.refl _ _) hgr (za2 h i hi) hBB hBW⟩
 rcases hb k hk with h | h
 ·exact Or.inl h
 ·exact Or.inr (by omega)
theorem zc6 {B:Nat} {W:World} {l:List Ast} (h:Sep B W l) (B' e:Nat):Sep B W (rowA B' e 1 (.slice none 0 0) 0 [] :: l):=
 zaY.2 ⟨⟨⟨rfl,Or.inl ⟨rfl,rfl⟩⟩,fun j hj=>by cases hj⟩,fun _ _ j hj=>(by cases hj),h⟩
open Go.RowKit
theorem Tryz.sizeWorkB:(Tryz.prog.info? 34).map (·.size)=some 6:=by kernel_rfl
open Go.RowKit
theorem zeA {w:World} {B:Nat} {v:Value} {k:Wk} (h:WorkOwn w B v k):∃cs:Array Value,v= .agg cs/\cs.size=6/\cs.toList.all (·.oneCell')=true:=by
 obtain ⟨a1,c1,a2,c2,a3,c3,a4,c4,a5,c5,rfl⟩:=zaH h;exact ⟨_,rfl,rfl,rfl⟩
theorem zcm {P:Program} {fn:Func} {t u s:Tmp} {ty:TypeId} (h:fn.results= #[.cell t ty,.tmp u,.tmp s]) {tmps:Array Value} {w:World} {b:Nat} (hp:tmps.getD t undef= .pointer (some ⟨b,0,none⟩)) {cs:Array Value} {x y:Value} (hx:tmps.getD u undef=x) (hy:tmps.getD s undef=y) (hl:(loadVar ty ⟨b,0,none⟩).run P w= .ok (.agg cs) w):(results fn tmps).run P w= .ok (.tuple #[.agg cs,x,y]) w:=by
 simp only [Array.getD_eq_getD_getElem?] at hp hx hy
 simp [results,h,hp,hx,hy,asAddr,hl]
theorem lvl_no {N:Nat->Bool×List ByteArray×List ByteArray×List Int} {M i:Nat} {st:Bst} {lf:Bool} (hi:i<M) (hlf:(N i).1=lf) (h0:putP st.1 lf (N i).2.1 (N i).2.2.1 (N i).2.2.2=0):lvlR N (M - i) i st=none:=by
 rw [show M - i=M - (i+1)+1 from by omega,lvlR,hlf,oneS,if_pos h0]
 rfl
theorem zlI {N:Nat->Bool×List ByteArray×List ByteArray×List Int} {M i:Nat} {st:Bst} {lf:Bool} (hi:i<M) (hlf:(N i).1=lf) (h0:putP st.1 lf (N i).2.1 (N i).2.2.1 (N i).2.2.2≠0):lvlR N (M - i) i st=lvlR N (M - (i+1)) (i+1) (putK st.1 lf (N i).2.1 (N i).2.2.1 (N i).2.2.2,st.2.1++ [(N i).2.1.getD 0 ⟨#[]⟩],st.2.2++ [putP st.1 lf (N i).2.1 (N i).2.2.1 (N i).2.2.2]):=by
 rw [show M - i=M - (i+1)+1 from by omega,lvlR,hlf,oneS,if_neg h0]
 rfl
theorem zlJ {st:Bst} {lf:Bool} {ks vs:List ByteArray} {cs:List Int} {i m:Nat} (hs:st.ok i (m+1)) (hk:∀s∈ks,s.size<=1048576) (h0:putP st.1 lf ks vs cs≠0):Bst.ok (putK st.1 lf ks vs cs,st.2.1++ [ks.getD 0 ⟨#[]⟩],st.2.2++ [putP st.1 lf ks vs cs]) (i+1) m:=
 one_ok hs hk (by rw [oneS,if_neg h0])
open Go.RowKit
theorem zk4 {w:World} {B e sz n cap:Nat} {a:Option Addr} {xs:List Value} (h:w.ownsRow B e sz (.slice a n cap) n xs):n<=cap:=by
 rcases h.2 with ⟨e,h0⟩ | ⟨g,c,cur,e,-,-,h1,-⟩
 ·omega
 ·injection e with e1 e2 e3
  omega
open Go.RowKit
theorem zeB {w:World} {sz n:Nat} {v:Value} {xs:List Value} (h:RowAt w sz v n xs):∃a cap,v= .slice a n cap:=by
 obtain ⟨-,a,cap,e,-⟩:=h;exact ⟨a,cap,e⟩
theorem zlK {w:World} {v:Value} {k:Wk} (h:WorkAt w v k):∃cs:Array Value,v= .agg cs/\cs.size=6/\cs.toList.all (·.oneCell')=true:=by
 obtain ⟨vp,vl,vu,vg,vf,rfl,⟨vp',vl',e,h1,h1'⟩,h2,h3,h4,-⟩:=h
 injection e with e
 obtain ⟨rfl,rfl⟩:vp=vp'/\vl=vl':=by simpa using e
 obtain ⟨_,_,rfl⟩:=zeB h1;obtain ⟨_,_,rfl⟩:=zeB h1';obtain ⟨_,_,rfl⟩:=zeB h2;obtain ⟨_,_,rfl⟩:=zeB h3;obtain ⟨_,_,rfl⟩:=zeB h4;exact ⟨_,rfl,rfl,rfl⟩
open Go
def wpAnyZ (P:Program) (md:Region.Mode) (ops:Array Oper) (Q:Exit->Act->World->Prop) (S:World->Prop) (z:Nat):Nat->Array Bool->Act->World->Prop
 | 0,listed,a,w=>Region.ready md ops listed= []/\Q .normal a w
 | fuel+1,listed,a,w=>
  (Region.ready md ops listed= []->Q .normal a w)/\
  ∀i∈Region.ready md ops listed,wpOp P ops Q i (fun a' w'=>(i=z\/S w')/\wpAnyZ P md ops Q S z fuel (listed.setIfInBounds i true) a' w') a w
section
variable {P:Program} {ops:Array Oper} {Q:Exit->Act->World->Prop} {md:Region.Mode} {S:World->Prop} {z:Nat}
theorem zdV:∀(fuel:Nat) (listed:Array Bool) (a:Act) (w:World),wpAnyZ P md ops Q S z fuel listed a w->wpAny P md ops Q fuel listed a w
 | 0,_,_,_,h=>h
 | fuel+1,_,_,_,h=>⟨h.1,fun i hi=>wpOp_mono (fun a' w' h'=>zdV fuel _ a' w' h'.2) (h.2 i hi)⟩
def waitsB (md:Region.Mode) (ops:Array Oper) (z i:Nat):Bool:=match ops[z]? with | some o=>o.after.any (fun e=>Region.binds md e && e.on ==i) | none=>false
theorem ziz {i:Nat} {oi:Oper} {v:Value} (hi:ops[i]?=some oi) (hz:waitsB md ops z i=true) (hsel:∀(j:Nat) (o:Oper) cs b,ops[j]?=some o->o.op≠ .select cs b)
  (hQ:∀c a w,Q (.panic c) (a.put oi.dst v) w->Q (.panic c) a w):
  ∀(fuel:Nat) (listed:Array Bool) (a:Act) (w:World),
   (∀j oj,ops[j]?=some oj->j≠i->listed.getD j true=false->(∀e∈oj.after,Region.binds md e=true->e.on≠i)->oi.apart ops oj=true)->
   i∈Region.ready md ops listed->YieldsIf P ops S oi v a->S w->
   wpAnyZ P md ops Q S z fuel (listed.setIfInBounds i true) (a.put oi.dst v) w->wpAnyZ P md ops Q S z (fuel+1) listed a w:=by
 intro fuel
 induction fuel with
 | zero=>
  intro listed a w _ hr hy hS H
  refine ⟨fun h=>(by rw [h] at hr;cases hr),fun j hj=> ?_⟩
  by_cases hji:j=i
  ·subst hji;exact hy.wpOp hi hS ⟨Or.inr hS,H⟩
  ·have:=ready_mono hj hji
   rw [H.1] at this
   cases this
 | succ fuel ih=>
  intro listed a w hfree hr hy hS H
  refine ⟨fun h=>(by rw [h] at hr;cases hr),fun j hj=> ?_⟩
  by_cases hji:j=i
  ·subst hji;exact hy.wpOp hi hS ⟨Or.inr hS,H⟩
  ·have h1:=H.2 j (ready_mono hj hji)
   obtain ⟨hjun,oj,hoj,hall⟩:=mem_ready.1 hj
   have hnot:∀e∈oj.after,Region.binds md e=true->e.on≠i:=fun e he hb heq=>by
    have h1:=hall e he hb;have h0:=(mem_ready.1 hr).1;rw [heq] at h1
    rcases Nat.lt_or_ge i listed.size with h' | h'
    ·simp [h'] at h0 h1;rw [h0] at h1;cases h1
    ·simp [Array.getElem?_eq_none h'] at h1
   have hjz:j≠z:=fun e=>by
    subst e;unfold waitsB at hz;rw [hoj] at hz;obtain ⟨e,he,hb⟩:=Array.any_eq_true'.1 hz;rw [Bool.and_eq_true,beq_iff_eq] at hb;exact hnot e he hb.1 hb.2
   have h2:=wpOp_putIf hoj (hfree j oj hoj hji hjun hnot) (fun cs b=>hsel i oi cs b hi) (fun cs b=>hsel j oj cs b hoj) hQ hy h1
   have hfree':∀k ok,ops[k]?=some ok->k≠i->(listed.setIfInBounds j true).getD k true=false->
     (∀e∈ok.after,Region.binds md e=true->e.on≠i)->oi.apart ops ok=true:=fun k ok hk hki hun hno=>by
    refine hfree k ok hk hki ?_ hno
    by_cases hjk:j=k
    ·subst hjk;exact hjun
    ·rw [getD_set_ne true hjk] at hun;exact hun
   refine wpOp_mono (fun a' w' h3=>⟨h3.2.1,ih (listed.setIfInBounds j true) a' w' hfree' (ready_mono hr (Ne.symm hji)) h3.1 (h3.2.1.resolve_left hjz) ?_⟩) h2
   rw [Array.setIfInBounds_comm _ _ hji];exact h3.2.2
theorem takeZ (i d:Nat) {oi:Oper} (v:Value) {fuel:Nat} {listed:Array Bool} {a:Act} {w:World} (hi:ops[i]?=some oi) (hd:oi.dst=some d)
  (hs:Region.noSelect ops=true) (hf:Region.free md ops listed i=true) (hr:(Region.ready md ops listed).contains i=true) (hz:waitsB md ops z i=true)
  (hQ:∀c a w,Q (.panic c) (a.put oi.dst v) w->Q (.panic c) a w) (hy:YieldsIf P ops S oi v a) (hS:S w)
  (h:wpAnyZ P md ops Q S z fuel (listed.setIfInBounds i true) ⟨a.tmps.setIfInBounds d v,a.defers⟩ w):wpAnyZ P md ops Q S z (fuel+1) listed a w:=
 ziz hi hz (Region.noSelect_spec hs) hQ fuel listed a w (Region.free_spec hi hf) (by simpa using hr) hy hS (by rw [hd];exact h)
theorem zhh {i:Nat} {o:Oper} {fuel:Nat} {listed:Array Bool} {a:Act} {w:World} (hr:Region.ready md ops listed= [i]) (ho:ops[i]?=some o)
  (h:∀K':Act->World->Prop,Shut (∀a w,(i=z\/S w)->wpAnyZ P md ops Q S z fuel (listed.setIfInBounds i true) a w->K' a w)->if Region.wanted o (yielded ops a.tmps)=true then Oper.wp P o a w K' Q else K' (a.put o.dst undef) w):
  wpAnyZ P md ops Q S z (fuel+1) listed a w:=by
 refine ⟨fun h0=>absurd (hr▸h0) (by simp),fun j hj=> ?_⟩
 rw [hr,List.mem_singleton] at hj;subst hj;unfold wpOp
 simp only [ho]
 have h1:=h (fun a' w'=>(j=z\/S w')/\wpAnyZ P md ops Q S z fuel (listed.setIfInBounds j true) a' w') (fun a w hS hk=>⟨hS,hk⟩)
 split
 ·rename_i hw
  rw [if_pos hw] at h1;exact Or.inl h1
 ·rename_i hw
  rw [if_neg hw] at h1;exact h1
theorem doneZ {listed:Array Bool} {a:Act} {w:World} (hr:Region.ready md ops listed= []) (h:Q .normal a w):
  ∀fuel,wpAnyZ P md ops Q S z fuel listed a w
 | 0=>⟨hr,h⟩
 | _+1=>⟨fun _=>h,by rw [hr];simp⟩
theorem zhi {id:Nat} {a:Act} {w:World} (z:Nat) (hm:P.follows .mixedOrders=true)
  (h:wpAnyZ P .any ops Q S z ops.size (Array.replicate ops.size false) a w.drew):(Code.region id ops true).wp P Q a w:=
 wp_region_any hm (zdV _ _ _ _ h)
end
end Go.Proofs.YtcbogiebfbbmbaaGreatDoor
