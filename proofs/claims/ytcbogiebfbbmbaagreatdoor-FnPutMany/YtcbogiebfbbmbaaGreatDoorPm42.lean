/-
  Facts and contracts that the law's own text rests on, by their texts' names: UpPl, HeldZs.
-/
import Derived.Test.YtcbogiebfbbmbaaGreatDoorPm41
import Derived.Test.YtcbogiebfbbmbaaGreatDoorPm13
import Derived.Deep.RegionHeld
import Derived.Test.YtcbogiebfbbmbaaGreatDoorPm7
set_option maxHeartbeats 16000000
set_option maxRecDepth 100000
namespace Go.Proofs.YtcbogiebfbbmbaaGreatDoor
open Go.RowKit
def WGood:List WLvl->Prop
 | []=>False
 | [x]=>x.2.1.ok=true/\x.2.1.lf=true/\ -1<=x.2.2/\x.2.2<(x.2.1.ks.length:Int)
 | x :: y :: r=>(x.2.1.ok=true/\x.2.1.lf=false/\0<=x.2.2/\x.2.2<(x.2.1.ks.length:Int))/\WGood (y :: r)
theorem ziX {R:Int->Nd×Bool} (hR:∀p,(R p).2=true->(R p).1.ok=true) {key:ByteArray}:∀{f:Nat} {p:Int} {ws:List WLvl},wayS R key f p=some ws->WGood ws
 | 0,_,_,h=>by cases h
 | f+1,p,ws,h=>by
  rw [wayS] at h
  split at h
  ·cases h
  ·next h1=>
   have hok:(R p).1.ok=true:=hR p (by simpa using h1)
   have hr:=zeZ (R p).1.ks key (R p).1.ks.length
   split at h
   ·next h2=>
    injection h with h;subst h
    exact ⟨hok,h2,hr.1,hr.2⟩
   ·next h2=>
    obtain ⟨r,h3,h⟩:=Option.map_eq_some_iff.1 h;subst h;have hg:=ziX hR h3;have hp:=zel hok
    cases r with
    | nil=>exact hg.elim
    | cons y r=>exact ⟨⟨hok,by simpa using h2,by show 0<=max _ _;omega,by show max (placeK (R p).1.ks key (R p).1.ks.length) 0<((R p).1.ks.length:Int);omega⟩,hg⟩
theorem zhQ:∀{ws:List WLvl} {i:Nat} (h:i<ws.length),WGood ws->ws[i].2.1.ok=true/\ws[i].2.2<(ws[i].2.1.ks.length:Int)/\((i+1<ws.length/\ws[i].2.1.lf=false/\0<=ws[i].2.2)\/(i+1=ws.length/\ws[i].2.1.lf=true/\ -1<=ws[i].2.2))
 | [],_,_,h=>h.elim
 | [x],0,_,h=>⟨h.1,h.2.2.2,Or.inr ⟨rfl,h.2.1,h.2.2.1⟩⟩
 | [x],i+1,hi,_=>by simp at hi
 | x :: y :: r,0,_,h=>⟨h.1.1,h.1.2.2.2,Or.inl ⟨by simp,h.1.2.1,h.1.2.2.1⟩⟩
 | x :: y :: r,i+1,hi,h=>by
  obtain ⟨a,b,c⟩:=zhQ (ws:=y :: r) (i:=i) (by simpa using hi) h.2
  refine ⟨a,b,?_⟩
  rcases c with ⟨c1,c2⟩ | ⟨c1,c2⟩
  ·exact Or.inl ⟨by simp at c1⊢;omega,c2⟩
  ·exact Or.inr ⟨by simp at c1⊢;omega,c2⟩
theorem zjD (key val:ByteArray) {k:Wk} (h:JOk k):∀ws:List WLvl,JOk (upS key val ws k).1
 | []=>h
 | [x]=>zhE (zde _ _ h) _
 | x :: y :: r=>by
  rw [upS]
  split
  ·exact zjD key val h (y :: r)
  ·exact zhE (zde _ _ (zjD key val h (y :: r))) _
theorem zgr (key val:ByteArray) {k:Wk}:∀(ws:List WLvl) (m:Nat),k.sm (m+3 * ws.length)->(upS key val ws k).2.1.length=(upS key val ws k).2.2.1.length/\(upS key val ws k).2.1.length<=2/\((upS key val ws k).2.2.2=true->1<=(upS key val ws k).2.1.length)/\(upS key val ws k).1.sm m/\∀s∈(upS key val ws k).2.1,s.size<=24
 | [],m,h=>⟨rfl,Nat.zero_le _,(fun e=>by cases e),h,(fun s hs=>by cases hs)⟩
 | [x],m,h=>by
  have h1:=zdd (page:=x.1) (zcl k true (wpK x.2.1 x.2.2 key) (wpV x.2.1 x.2.2 key val) [])
  exact ⟨h1.1,h1.2.1,h1.2.2,zk8 (zht (zaD h (by simp)) _ _ _ _),zfq (zcz _ _ _)⟩
 | x :: y :: r,m,h=>by
  have ih:=zgr key val (y :: r) (m+3) (zaD h (by simp;omega))
  rw [upS]
  split
  ·exact ⟨ih.1,ih.2.1,ih.2.2.1,zaD ih.2.2.2.1 (by omega),ih.2.2.2.2⟩
  ·have h1:=zdd (page:=x.1) (zcl (upS key val (y :: r) k).1 false (whK x.2.1 x.2.2.toNat (upS key val (y :: r) k).2.1) [] (whC x.2.1 x.2.2.toNat (upS key val (y :: r) k).2.2.1))
   exact ⟨h1.1,h1.2.1,h1.2.2,zk8 (zht (zaD ih.2.2.2.1 (by omega)) _ _ _ _),zfq (zcz _ _ _)⟩
theorem zmF {key val:ByteArray} {k:Wk} {ws:List WLvl} {i:Nat} (hi:i+1<ws.length) (ho:(upS key val (ws.drop i) k).2.2.2=true):
  (upS key val (ws.drop (i+1)) k).2.2.2=true/\upS key val (ws.drop i) k=finK ws[i].1 (halfS (upS key val (ws.drop (i+1)) k).1 false (whK ws[i].2.1 ws[i].2.2.toNat (upS key val (ws.drop (i+1)) k).2.1) [] (whC ws[i].2.1 ws[i].2.2.toNat (upS key val (ws.drop (i+1)) k).2.2.1))/\
  (halfS (upS key val (ws.drop (i+1)) k).1 false (whK ws[i].2.1 ws[i].2.2.toNat (upS key val (ws.drop (i+1)) k).2.1) [] (whC ws[i].2.1 ws[i].2.2.toNat (upS key val (ws.drop (i+1)) k).2.2.1)).2.2.2=true:=by
 rw [List.drop_eq_getElem_cons (show i<ws.length by omega)] at ho⊢
 cases hd:ws.drop (i+1) with
 | nil=>have:=congrArg List.length hd;simp at this;omega
 | cons y r=>
  rw [hd] at ho;rw [upS] at ho⊢
  split at ho
  ·next e=>rw [e] at ho;cases ho
  ·next e=>
   rw [if_neg e]
   exact ⟨by simpa using e,rfl,zem ho⟩
theorem up_all {key val:ByteArray} {k:Wk} {ws:List WLvl} (ho:(upS key val ws k).2.2.2=true):∀i,i<ws.length->(upS key val (ws.drop i) k).2.2.2=true
 | 0,_=>ho
 | i+1,hi=>(zmF hi (up_all ho i (by omega))).1
theorem up_leaf {key val:ByteArray} {k:Wk} {ws:List WLvl} {n:Nat} (hn:ws.length=n+1):upS key val (ws.drop n) k=finK (ws[n]'(by omega)).1 (halfS k true (wpK (ws[n]'(by omega)).2.1 (ws[n]'(by omega)).2.2 key) (wpV (ws[n]'(by omega)).2.1 (ws[n]'(by omega)).2.2 key val) []):=by
 rw [List.drop_eq_getElem_cons (show n<ws.length by omega),List.drop_eq_nil_of_le (by omega)]
 rfl
theorem znF {n:Nd} (hok:n.ok=true) (hl:n.lf=true) {a:Int} (_: -1<=a) (h2:a<(n.ks.length:Int)) {key val:ByteArray} (hk:key.size<=24) (hv:val.size<=24):
  (wpV n a key val).length=(wpK n a key).length/\0<(wpK n a key).length/\(wpK n a key).length<=1000/\(∀s∈wpK n a key,s.size<=1048576)/\∀s∈wpV n a key val,s.size<=1048576:=by
 obtain ⟨s1,s2,-,s4⟩:=zgl hok;have hev:=((zaY hok).1 hl).1;have hp:=zel hok;unfold wpK wpV
 split
 ·refine ⟨by simp;omega,hp,by omega,fun s hs=>by have:=s1 s hs;omega,fun s hs=> ?_⟩
  rcases List.mem_append.1 hs with e | e
  ·rcases List.mem_append.1 e with e | e
   ·have:=s2 s (List.mem_of_mem_take e);omega
   ·rw [List.mem_singleton] at e;rw [e];omega
  ·have:=s2 s (List.mem_of_mem_drop e);omega
 ·refine ⟨by simp;omega,by simp;omega,by simp;omega,fun s hs=> ?_,fun s hs=> ?_⟩
  ·rcases List.mem_append.1 hs with e | e
   ·rcases List.mem_append.1 e with e | e
    ·have:=s1 s (List.mem_of_mem_take e);omega
    ·rw [List.mem_singleton] at e;rw [e];omega
   ·have:=s1 s (List.mem_of_mem_drop e);omega
  ·rcases List.mem_append.1 hs with e | e
   ·rcases List.mem_append.1 e with e | e
    ·have:=s2 s (List.mem_of_mem_take e);omega
    ·rw [List.mem_singleton] at e;rw [e];omega
   ·have:=s2 s (List.mem_of_mem_drop e);omega
theorem znG {n:Nd} (hok:n.ok=true) (hl:n.lf=false) {a:Nat} (h2:a<n.ks.length) {K:List ByteArray} {C:List Int} (hKC:K.length=C.length) (hK1:1<=K.length) (hK2:K.length<=2) (hK:∀s∈K,s.size<=24):
  (whC n a C).length=(whK n a K).length/\0<(whK n a K).length/\(whK n a K).length<=1000/\∀s∈whK n a K,s.size<=1048576:=by
 obtain ⟨s1,s2,-,s4⟩:=zgl hok;have hev:=((zaY hok).2 hl).1;unfold whK whC
 refine ⟨by simp;omega,by simp;omega,by simp;omega,fun s hs=> ?_⟩
 have hf:(firstK n.ks a K).size<=24:=by
  unfold firstK
  split
  ·rw [getD_lt K 0 (by omega)]
   exact hK _ (List.getElem_mem _)
  ·rw [getD_lt n.ks a h2]
   exact s1 _ (List.getElem_mem _)
 rcases List.mem_append.1 hs with e | e
 ·rcases List.mem_append.1 e with e | e
  ·have:=s1 s (List.mem_of_mem_take e);omega
  ·rcases List.mem_cons.1 e with e | e
   ·rw [e];omega
   ·have:=hK s (List.mem_of_mem_drop e);omega
 ·have:=s1 s (List.mem_of_mem_drop e);omega
open Go
def wpAnyZs (P:Program) (md:Region.Mode) (ops:Array Oper) (Q:Exit->Act->World->Prop) (S:World->Prop) (zs:List Nat):Nat->Array Bool->Act->World->Prop
 | 0,listed,a,w=>Region.ready md ops listed= []/\Q .normal a w
 | fuel+1,listed,a,w=>
  (Region.ready md ops listed= []->Q .normal a w)/\
  ∀i∈Region.ready md ops listed,wpOp P ops Q i (fun a' w'=>(i∈zs\/S w')/\wpAnyZs P md ops Q S zs fuel (listed.setIfInBounds i true) a' w') a w
section
variable {P:Program} {ops:Array Oper} {Q:Exit->Act->World->Prop} {md:Region.Mode} {S:World->Prop} {zs:List Nat}
theorem zdn:∀(fuel:Nat) (listed:Array Bool) (a:Act) (w:World),wpAnyZs P md ops Q S zs fuel listed a w->wpAny P md ops Q fuel listed a w
 | 0,_,_,_,h=>h
 | fuel+1,_,_,_,h=>⟨h.1,fun i hi=>wpOp_mono (fun a' w' h'=>zdn fuel _ a' w' h'.2) (h.2 i hi)⟩
def waitsBs (md:Region.Mode) (ops:Array Oper) (zs:List Nat) (i:Nat):Bool:=zs.all fun z=>match ops[z]? with | some o=>o.after.any (fun e=>Region.binds md e && e.on ==i) | none=>false
theorem zhR {i:Nat} {oi:Oper} {v:Value} (hi:ops[i]?=some oi) (hz:waitsBs md ops zs i=true) (hsel:∀(j:Nat) (o:Oper) cs b,ops[j]?=some o->o.op≠ .select cs b)
  (hQ:∀c a w,Q (.panic c) (a.put oi.dst v) w->Q (.panic c) a w):
  ∀(fuel:Nat) (listed:Array Bool) (a:Act) (w:World),
   (∀j oj,ops[j]?=some oj->j≠i->listed.getD j true=false->(∀e∈oj.after,Region.binds md e=true->e.on≠i)->oi.apart ops oj=true)->
   i∈Region.ready md ops listed->YieldsIf P ops S oi v a->S w->
   wpAnyZs P md ops Q S zs fuel (listed.setIfInBounds i true) (a.put oi.dst v) w->wpAnyZs P md ops Q S zs (fuel+1) listed a w:=by
 intro fuel
 induction fuel with
 | zero=>
  intro listed a w _ hr hy hS H
  refine ⟨fun h=>(by rw [h] at hr;cases hr),fun j hj=> ?_⟩
  by_cases hji:j=i
  ·subst hji;exact hy.wpOp hi hS ⟨Or.inr hS,H⟩
  ·have:=ready_mono hj hji
   rw [H.1] at this
   cases this
 | succ fuel ih=>
  intro listed a w hfree hr hy hS H
  refine ⟨fun h=>(by rw [h] at hr;cases hr),fun j hj=> ?_⟩
  by_cases hji:j=i
  ·subst hji;exact hy.wpOp hi hS ⟨Or.inr hS,H⟩
  ·have h1:=H.2 j (ready_mono hj hji)
   obtain ⟨hjun,oj,hoj,hall⟩:=mem_ready.1 hj
   have hnot:∀e∈oj.after,Region.binds md e=true->e.on≠i:=fun e he hb heq=>by
    have h1:=hall e he hb;have h0:=(mem_ready.1 hr).1;rw [heq] at h1
    rcases Nat.lt_or_ge i listed.size with h' | h'
    ·simp [h'] at h0 h1;rw [h0] at h1;cases h1
    ·simp [Array.getElem?_eq_none h'] at h1
   have hjz:j∉zs:=fun e=>by
    have hz:=List.all_eq_true.1 hz j e;rw [hoj] at hz;obtain ⟨e,he,hb⟩:=Array.any_eq_true'.1 hz;rw [Bool.and_eq_true,beq_iff_eq] at hb;exact hnot e he hb.1 hb.2
   have h2:=wpOp_putIf hoj (hfree j oj hoj hji hjun hnot) (fun cs b=>hsel i oi cs b hi) (fun cs b=>hsel j oj cs b hoj) hQ hy h1
   have hfree':∀k ok,ops[k]?=some ok->k≠i->(listed.setIfInBounds j true).getD k true=false->
     (∀e∈ok.after,Region.binds md e=true->e.on≠i)->oi.apart ops ok=true:=fun k ok hk hki hun hno=>by
    refine hfree k ok hk hki ?_ hno
    by_cases hjk:j=k
    ·subst hjk;exact hjun
    ·rw [getD_set_ne true hjk] at hun;exact hun
   refine wpOp_mono (fun a' w' h3=>⟨h3.2.1,ih (listed.setIfInBounds j true) a' w' hfree' (ready_mono hr (Ne.symm hji)) h3.1 (h3.2.1.resolve_left hjz) ?_⟩) h2
   rw [Array.setIfInBounds_comm _ _ hji];exact h3.2.2
theorem zaj (i d:Nat) {oi:Oper} (v:Value) {fuel:Nat} {listed:Array Bool} {a:Act} {w:World} (hi:ops[i]?=some oi) (hd:oi.dst=some d)
  (hs:Region.noSelect ops=true) (hf:Region.free md ops listed i=true) (hr:(Region.ready md ops listed).contains i=true) (hz:waitsBs md ops zs i=true)
  (hQ:∀c a w,Q (.panic c) (a.put oi.dst v) w->Q (.panic c) a w) (hy:YieldsIf P ops S oi v a) (hS:S w)
  (h:wpAnyZs P md ops Q S zs fuel (listed.setIfInBounds i true) ⟨a.tmps.setIfInBounds d v,a.defers⟩ w):wpAnyZs P md ops Q S zs (fuel+1) listed a w:=
 zhR hi hz (Region.noSelect_spec hs) hQ fuel listed a w (Region.free_spec hi hf) (by simpa using hr) hy hS (by rw [hd];exact h)
def GoZs (P:Program) (md:Region.Mode) (ops:Array Oper) (Q:Exit->Act->World->Prop) (S:World->Prop) (zs:List Nat) (fuel:Nat) (listed:Array Bool) (a:Act) (w:World) (i:Nat) (o:Oper):Prop:=
 ∀K':Act->World->Prop,Shut (∀a w,(i∈zs\/S w)->wpAnyZs P md ops Q S zs fuel (listed.setIfInBounds i true) a w->K' a w)->if Region.wanted o (yielded ops a.tmps)=true then Oper.wp P o a w K' Q else K' (a.put o.dst undef) w
theorem zjE {i:Nat} {o:Oper} {fuel:Nat} {listed:Array Bool} {a:Act} {w:World} (ho:ops[i]?=some o) (h:GoZs P md ops Q S zs fuel listed a w i o):wpOp P ops Q i (fun a' w'=>(i∈zs\/S w')/\wpAnyZs P md ops Q S zs fuel (listed.setIfInBounds i true) a' w') a w:=by
 unfold wpOp
 simp only [ho]
 have h1:=h (fun a' w'=>(i∈zs\/S w')/\wpAnyZs P md ops Q S zs fuel (listed.setIfInBounds i true) a' w') (fun a w hS hk=>⟨hS,hk⟩)
 split
 ·rename_i hw
  rw [if_pos hw] at h1;exact Or.inl h1
 ·rename_i hw
  rw [if_neg hw] at h1;exact h1
theorem zau {i:Nat} {o:Oper} {fuel:Nat} {listed:Array Bool} {a:Act} {w:World} (hr:Region.ready md ops listed= [i]) (ho:ops[i]?=some o) (h:GoZs P md ops Q S zs fuel listed a w i o):wpAnyZs P md ops Q S zs (fuel+1) listed a w:=by
 refine ⟨fun h0=>absurd (hr▸h0) (by simp),fun j hj=> ?_⟩
 rw [hr,List.mem_singleton] at hj;subst hj;exact zjE ho h
theorem zhS {i i':Nat} {o o':Oper} {fuel:Nat} {listed:Array Bool} {a:Act} {w:World} (hr:Region.ready md ops listed= [i,i']) (ho:ops[i]?=some o) (ho':ops[i']?=some o') (h:GoZs P md ops Q S zs fuel listed a w i o) (h':GoZs P md ops Q S zs fuel listed a w i' o'):wpAnyZs P md ops Q S zs (fuel+1) listed a w:=by
 refine ⟨fun h0=>absurd (hr▸h0) (by simp),fun j hj=> ?_⟩
 rw [hr,List.mem_cons,List.mem_singleton] at hj
 rcases hj with e | e <;> subst e
 ·exact zjE ho h
 ·exact zjE ho' h'
theorem zgs {listed:Array Bool} {a:Act} {w:World} (hr:Region.ready md ops listed= []) (h:Q .normal a w):
  ∀fuel,wpAnyZs P md ops Q S zs fuel listed a w
 | 0=>⟨hr,h⟩
 | _+1=>⟨fun _=>h,by rw [hr];simp⟩
theorem zcV {id:Nat} {a:Act} {w:World} (zs:List Nat) (hm:P.follows .mixedOrders=true)
  (h:wpAnyZs P .any ops Q S zs ops.size (Array.replicate ops.size false) a w.drew):(Code.region id ops true).wp P Q a w:=
 wp_region_any hm (zdn _ _ _ _ h)
end
end Go.Proofs.YtcbogiebfbbmbaaGreatDoor
