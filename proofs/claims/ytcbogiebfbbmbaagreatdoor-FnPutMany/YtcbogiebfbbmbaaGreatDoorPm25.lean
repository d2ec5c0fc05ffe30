/-
  Facts and contracts that the law's own text rests on, by their texts' names: SepCells.
-/
import Derived.Deep.MidRow
import Derived.Test.YtcbogiebfbbmbaaGreatDoorPm7
set_option maxHeartbeats 16000000
set_option maxRecDepth 100000
namespace Go.Proofs.YtcbogiebfbbmbaaGreatDoor
open Go.RowKit
def overL:List Value->Nat->List Value->List Value
 | cs,_,[]=>cs
 | cs,o,v :: r=>overL (cs.set o v) (o+1) r
def over:Array Value->Nat->List Value->Array Value
 | cs,_,[]=>cs
 | cs,o,v :: r=>over (cs.setIfInBounds o v) (o+1) r
theorem ziB:∀(vs:List Value) (cs:Array Value) (o:Nat),(over cs o vs).toList=overL cs.toList o vs
 | [],_,_=>rfl
 | v :: r,cs,o=>by
  rw [over,overL,ziB r,Array.toList_setIfInBounds]
theorem ziC:∀(vs pre cs:List Value),vs.length=cs.length->overL (pre++cs) pre.length vs=pre++vs
 | [],pre,cs,h=>by
  rw [List.eq_nil_of_length_eq_zero h.symm]
  rfl
 | v :: r,pre,[],h=>by simp at h
 | v :: r,pre,c :: cs,h=>by
  have ih:=ziC r (pre++ [v]) cs (by simpa using h)
  rw [overL,List.set_append_right _ _ (Nat.le_refl _),Nat.sub_self,List.set_cons_zero];rw [List.length_append,List.length_singleton,List.append_assoc,List.append_assoc] at ih;exact ih
theorem znp {α:Type} {l:List α} {i:Nat} {x:α} (h:l[i]?=some x):l.set i x=l:=by
 obtain ⟨hi,rfl⟩:=List.getElem?_eq_some_iff.1 h;exact List.set_getElem_self hi
theorem ziD {B:Nat}:∀(vs:List Value) (off:Nat) {W:World} {l:List Ast} (_:Sep B W l) (i:Nat) {g:Nat} {cs:Array Value} {T:TypeId} (_:l[i]?=some (cellA g (.cells cs T (0,0)))),Sep B (W.setCells g off vs) (l.set i (cellA g (.cells (over cs off vs) T (0,0))))
 | [],off,W,l,h,i,g,cs,T,hi=>by
  rw [show over cs off []=cs from rfl,znp hi]
  exact h
 | v :: r,off,W,l,h,i,g,cs,T,hi=>by
  have hlt:i<l.length:=(List.getElem?_eq_some_iff.1 hi).1
  have h2:=ziD r (off+1) (zbs h i hi off v) i (g:=g) (cs:=cs.setIfInBounds off v) (T:=T) (by rw [List.getElem?_set_self hlt])
  rw [List.set_set] at h2;exact h2
theorem zjv {B:Nat} {W:World} {l:List Ast} (h:Sep B W l) (i:Nat) {g:Nat} {cs:Array Value} {T:TypeId} (hi:l[i]?=some (cellA g (.cells cs T (0,0)))) (off:Nat) (vs:List Value) (cs':Array Value) (he:overL cs.toList off vs=cs'.toList):Sep B (W.setCells g off vs) (l.set i (cellA g (.cells cs' T (0,0)))):=by
 have e:over cs off vs=cs':=Array.toList_inj.1 (by rw [ziB];exact he)
 subst e;exact ziD vs off h i hi
theorem ziE {B:Nat} {W:World} {l:List Ast} (h:Sep B W l) (i:Nat) {g:Nat} {cs:Array Value} {T:TypeId} (hi:l[i]?=some (cellA g (.cells cs T (0,0)))) (cs':Array Value) (hn:cs'.size=cs.size):Sep B (W.setCells g 0 cs'.toList) (l.set i (cellA g (.cells cs' T (0,0)))):=
 zjv h i hi 0 cs'.toList cs' (ziC cs'.toList [] cs.toList (by simpa using hn))
theorem zag {B:Nat} {W0:World} {g:Nat} (hg:B<=g):∀(vs:List Value) (o:Nat) (W:World),Below B W0 W->Below B W0 (W.setCells g o vs)
 | [],_,_,h=>h
 | v :: r,o,_,h=>zag hg r (o+1) _ (h.setCell (p:=⟨g,o,none⟩) hg v)
theorem zaA (g:Nat):∀(vs:List Value) (o:Nat) (W:World),(W.setCells g o vs).heap.size=W.heap.size
 | [],_,_=>rfl
 | v :: r,o,W=>by rw [World.setCells,zaA g r (o+1)];simp
theorem znq {W:World} {g:Nat} {cs:Array Value} {T:TypeId} (h:W.heap[g]?=some (.cells cs T (0,0))) (o n:Nat):W.rangeAt g o ((cs.toList.drop o).take n):=fun j v hv=>by
 rw [(za0 h (o+j)).1];rw [List.getElem?_take] at hv
 split at hv
 ·rw [List.getElem?_drop] at hv
  simpa using hv
 ·cases hv
theorem zcp {W:World} {g:Nat} {cs:Array Value} {T:TypeId} (h:W.heap[g]?=some (.cells cs T (0,0))) (o n:Nat) (hn:o+n<=cs.size):W.there g o n:=fun j hj=>by
 refine ⟨?_,(za0 h (o+j)).2⟩
 rw [(za0 h (o+j)).1,Array.getElem?_eq_getElem (by omega)]
 rfl
theorem zb8 {P:Program} {ops:Array Oper} {o:Oper} {a:Act} {K:Act->World->Prop} {Q:Exit->Act->World->Prop} {E:Prop} {W W':World} (hgd:o.guard=none) (ty:TypeId) (x y:Operand) (ho:o.op= .store ty x y)
  (b off:Nat) (cs:Array Value) (hx:a.eval x= .pointer (some ⟨b,off,none⟩)) (hy:a.eval y= .agg cs)
  (ht:W.there b off cs.size) (hi:(P.info? ty).map (·.size)=some cs.size) (h1:cs.toList.all (·.oneCell')=true) (hw:W.setCells b off cs.toList=W')
  (h:K (a.put o.dst undef) W'):if Region.wanted o (yielded ops a.tmps)=true then Oper.wp P o a W K Q else E:=by
 have hw':Region.wanted o (yielded ops a.tmps)=true:=by simp [Region.wanted,hgd]
 rw [if_pos hw'];subst hw
 exact wp_store_mid ty x y ho b off cs hx hy ht hi (by rw [<-Array.all_toList];exact h1) h
theorem zbo {P:Program} {ops:Array Oper} {S:World->Prop} {op:Oper} {a:Act} (hw:Region.wanted op (yielded ops a.tmps)=true) (ty:TypeId) (x:Operand) (ho:op.op= .load ty x)
  (b o:Nat) (hx:a.eval x= .pointer (some ⟨b,o,none⟩)) (cs:Array Value) (d:TypeDesc) (hS:∀w,S w->w.rangeAt b o cs.toList)
  (hu:P.underlying ty=some d) (hd:d.isRow=true) (hi:(P.info? ty).map (·.size)=some cs.size):YieldsIf P ops S op (.agg cs) a:=by
 have h:=yieldsIf_load_mid (ops:=ops) hw ty x ho b o hx cs.toList d hS hu hd (by rw [hi,Array.length_toList])
 rw [Array.toArray_toList] at h;exact h
theorem zb0 {W:World} {g:Nat} {cs:Array Value} {T:TypeId} (h:W.heap[g]?=some (.cells cs T (0,0))):W.rangeAt g 0 cs.toList:=fun j v hv=>by
 rw [(za0 h (0+j)).1,Nat.zero_add]
 simpa using hv
theorem zcr {P:Program} {w:World} {b:Nat} {ty:TypeId} {cs:Array Value} {d:TypeDesc} (hc:w.rangeAt b 0 cs.toList) (hu:P.underlying ty=some d) (hd:d.isRow=true) (hi:(P.info? ty).map (·.size)=some cs.size):(loadVar ty ⟨b,0,none⟩).run P w= .ok (.agg cs) w:=by
 have h:=run_loadVar_mid w b 0 ty cs.toList d hc hu hd (by rw [hi,Array.length_toList])
 rw [Array.toArray_toList] at h;exact h
theorem zbe {P:Program} {fn:Func} {t:Tmp} {ty:TypeId} (h:fn.results= #[.cell t ty]) {tmps:Array Value} {w:World} {b:Nat} (hp:tmps.getD t undef= .pointer (some ⟨b,0,none⟩)) {cs:Array Value} (hl:(loadVar ty ⟨b,0,none⟩).run P w= .ok (.agg cs) w):(results fn tmps).run P w= .ok (.agg cs) w:=by
 simp only [Array.getD_eq_getD_getElem?] at hp
 simp [results,h,hp,asAddr,hl]
end Go.Proofs.YtcbogiebfbbmbaaGreatDoor
