/-
  Facts and contracts that the law's own text rests on, by their texts' names: HeldZt.
-/
import Derived.Test.YtcbogiebfbbmbaaGreatDoorDa35
set_option maxHeartbeats 16000000
set_option maxRecDepth 100000
namespace Go.Proofs.YtcbogiebfbbmbaaGreatDoor
open Go
def anyL (zs:List Nat) (listed:Array Bool):Bool:=zs.any fun z=>listed.getD z false
theorem zeO {zs:List Nat} {i:Nat} (hi:i∉zs) (listed:Array Bool):anyL zs (listed.setIfInBounds i true)=anyL zs listed:=by
 unfold anyL;rw [Bool.eq_iff_iff,List.any_eq_true,List.any_eq_true]
 constructor
 ·rintro ⟨z,hz,h⟩
  exact ⟨z,hz,by rwa [getD_set_ne false (fun e=>hi (by rw [e];exact hz))] at h⟩
 ·rintro ⟨z,hz,h⟩
  exact ⟨z,hz,by rwa [getD_set_ne false (fun e=>hi (by rw [e];exact hz))]⟩
def wpAnyZt (P:Program) (md:Region.Mode) (ops:Array Oper) (Q:Exit->Act->World->Prop) (S S0:World->Prop) (zs:List Nat):Nat->Array Bool->Act->World->Prop
 | 0,listed,a,w=>Region.ready md ops listed= []/\Q .normal a w
 | fuel+1,listed,a,w=>
  (Region.ready md ops listed= []->Q .normal a w)/\
  ∀i∈Region.ready md ops listed,wpOp P ops Q i (fun a' w'=>(S0 w'/\(anyL zs (listed.setIfInBounds i true)=true\/S w'))/\wpAnyZt P md ops Q S S0 zs fuel (listed.setIfInBounds i true) a' w') a w
section
variable {P:Program} {ops:Array Oper} {Q:Exit->Act->World->Prop} {md:Region.Mode} {S S0:World->Prop} {zs:List Nat}
theorem zdy:∀(fuel:Nat) (listed:Array Bool) (a:Act) (w:World),wpAnyZt P md ops Q S S0 zs fuel listed a w->wpAny P md ops Q fuel listed a w
 | 0,_,_,_,h=>h
 | fuel+1,_,_,_,h=>⟨h.1,fun i hi=>wpOp_mono (fun a' w' h'=>zdy fuel _ a' w' h'.2) (h.2 i hi)⟩
theorem zeP {i:Nat} {oi:Oper} {v:Value} (hi:ops[i]?=some oi) (hzi:i∉zs) (hsel:∀(j:Nat) (o:Oper) cs b,ops[j]?=some o->o.op≠ .select cs b)
  (hQ:∀c a w,Q (.panic c) (a.put oi.dst v) w->Q (.panic c) a w) (E:World->Prop) (hE:∀w,E w->S0 w) (hb:waitsBs md ops zs i=true\/∀w,S0 w->E w) (hbs:∀w,S0 w->S w->E w):
  ∀(fuel:Nat) (listed:Array Bool) (a:Act) (w:World),
   (∀j oj,ops[j]?=some oj->j≠i->listed.getD j true=false->(∀e∈oj.after,Region.binds md e=true->e.on≠i)->oi.apart ops oj=true)->
   i∈Region.ready md ops listed->YieldsIf P ops E oi v a->E w->(waitsBs md ops zs i=true->anyL zs listed=false)->(anyL zs listed=true\/S w)->
   wpAnyZt P md ops Q S S0 zs fuel (listed.setIfInBounds i true) (a.put oi.dst v) w->wpAnyZt P md ops Q S S0 zs (fuel+1) listed a w:=by
 intro fuel
 induction fuel with
 | zero=>
  intro listed a w _ hr hy hS hun hSS H
  refine ⟨fun h=>(by rw [h] at hr;cases hr),fun j hj=> ?_⟩
  by_cases hji:j=i
  ·subst hji;exact hy.wpOp hi hS ⟨⟨hE _ hS,by rw [zeO hzi];exact hSS⟩,H⟩
  ·have:=ready_mono hj hji
   rw [H.1] at this
   cases this
 | succ fuel ih=>
  intro listed a w hfree hr hy hS hun hSS H
  refine ⟨fun h=>(by rw [h] at hr;cases hr),fun j hj=> ?_⟩
  by_cases hji:j=i
  ·subst hji;exact hy.wpOp hi hS ⟨⟨hE _ hS,by rw [zeO hzi];exact hSS⟩,H⟩
  ·have h1:=H.2 j (ready_mono hj hji)
   obtain ⟨hjun,oj,hoj,hall⟩:=mem_ready.1 hj
   have hnot:∀e∈oj.after,Region.binds md e=true->e.on≠i:=fun e he hb heq=>by
    have h1:=hall e he hb;have h0:=(mem_ready.1 hr).1;rw [heq] at h1
    rcases Nat.lt_or_ge i listed.size with h' | h'
    ·simp [h'] at h0 h1;rw [h0] at h1;cases h1
    ·simp [Array.getElem?_eq_none h'] at h1
   have hjz:waitsBs md ops zs i=true->j∉zs:=fun hz e=>by
    have hz:=List.all_eq_true.1 hz j e;rw [hoj] at hz;obtain ⟨e,he,hb⟩:=Array.any_eq_true'.1 hz;rw [Bool.and_eq_true,beq_iff_eq] at hb;exact hnot e he hb.1 hb.2
   have h2:=wpOp_putIf hoj (hfree j oj hoj hji hjun hnot) (fun cs b=>hsel i oi cs b hi) (fun cs b=>hsel j oj cs b hoj) hQ hy h1
   have hfree':∀k ok,ops[k]?=some ok->k≠i->(listed.setIfInBounds j true).getD k true=false->
     (∀e∈ok.after,Region.binds md e=true->e.on≠i)->oi.apart ops ok=true:=fun k ok hk hki hun hno=>by
    refine hfree k ok hk hki ?_ hno
    by_cases hjk:j=k
    ·subst hjk;exact hjun
    ·rw [getD_set_ne true hjk] at hun;exact hun
   refine wpOp_mono (fun a' w' h3=> ?_) h2
   obtain ⟨h4,⟨h5,h6⟩,h7⟩:=h3;rw [Array.setIfInBounds_comm _ _ (Ne.symm hji),zeO hzi] at h6
   have hun':waitsBs md ops zs i=true->anyL zs (listed.setIfInBounds j true)=false:=fun hz=>by rw [zeO (hjz hz)];exact hun hz
   have hE':E w':=by
    rcases hb with hz | hz
    ·exact hbs _ h5 (h6.resolve_left (by rw [hun' hz];decide))
    ·exact hz _ h5
   refine ⟨⟨h5,h6⟩,ih (listed.setIfInBounds j true) a' w' hfree' (ready_mono hr (Ne.symm hji)) h4 hE' hun' h6 ?_⟩;rw [Array.setIfInBounds_comm _ _ hji];exact h7
theorem takeZt (i d:Nat) {oi:Oper} (v:Value) {fuel:Nat} {listed:Array Bool} {a:Act} {w:World} (hi:ops[i]?=some oi) (hd:oi.dst=some d) (hzi:i∉zs)
  (hs:Region.noSelect ops=true) (hf:Region.free md ops listed i=true) (hr:(Region.ready md ops listed).contains i=true) (hz:waitsBs md ops zs i=true) (hu:anyL zs listed=false)
  (hQ:∀c a w,Q (.panic c) (a.put oi.dst v) w->Q (.panic c) a w) (hy:YieldsIf P ops (fun w=>S w/\S0 w) oi v a) (hS:S w/\S0 w)
  (h:wpAnyZt P md ops Q S S0 zs fuel (listed.setIfInBounds i true) ⟨a.tmps.setIfInBounds d v,a.defers⟩ w):wpAnyZt P md ops Q S S0 zs (fuel+1) listed a w:=
 zeP hi hzi (Region.noSelect_spec hs) hQ (fun w=>S w/\S0 w) (fun _ h=>h.2) (Or.inl hz) (fun _ h0 h1=>⟨h1,h0⟩) fuel listed a w (Region.free_spec hi hf) (by simpa using hr) hy hS (fun _=>hu) (Or.inr hS.1) (by rw [hd];exact h)
theorem zgO (i d:Nat) {oi:Oper} (v:Value) {fuel:Nat} {listed:Array Bool} {a:Act} {w:World} (hi:ops[i]?=some oi) (hd:oi.dst=some d) (hzi:i∉zs)
  (hs:Region.noSelect ops=true) (hf:Region.free md ops listed i=true) (hr:(Region.ready md ops listed).contains i=true) (hu:anyL zs listed=false)
  (hQ:∀c a w,Q (.panic c) (a.put oi.dst v) w->Q (.panic c) a w) (hy:YieldsIf P ops S0 oi v a) (hS:S w/\S0 w)
  (h:wpAnyZt P md ops Q S S0 zs fuel (listed.setIfInBounds i true) ⟨a.tmps.setIfInBounds d v,a.defers⟩ w):wpAnyZt P md ops Q S S0 zs (fuel+1) listed a w:=
 zeP hi hzi (Region.noSelect_spec hs) hQ S0 (fun _ h=>h) (Or.inr (fun _ h=>h)) (fun _ h0 _=>h0) fuel listed a w (Region.free_spec hi hf) (by simpa using hr) hy hS.2 (fun _=>hu) (Or.inr hS.1) (by rw [hd];exact h)
def GoZt (P:Program) (md:Region.Mode) (ops:Array Oper) (Q:Exit->Act->World->Prop) (S S0:World->Prop) (zs:List Nat) (fuel:Nat) (listed:Array Bool) (a:Act) (w:World) (i:Nat) (o:Oper):Prop:=
 ∀K':Act->World->Prop,Shut (∀a w,(S0 w/\(anyL zs (listed.setIfInBounds i true)=true\/S w))->wpAnyZt P md ops Q S S0 zs fuel (listed.setIfInBounds i true) a w->K' a w)->if Region.wanted o (yielded ops a.tmps)=true then Oper.wp P o a w K' Q else K' (a.put o.dst undef) w
theorem zjA {i:Nat} {o:Oper} {fuel:Nat} {listed:Array Bool} {a:Act} {w:World} (hr:Region.ready md ops listed= [i]) (ho:ops[i]?=some o) (h:GoZt P md ops Q S S0 zs fuel listed a w i o):wpAnyZt P md ops Q S S0 zs (fuel+1) listed a w:=by
 refine ⟨fun h0=>absurd (hr▸h0) (by simp),fun j hj=> ?_⟩
 rw [hr,List.mem_singleton] at hj;subst hj;unfold wpOp
 simp only [ho]
 have h1:=h (fun a' w'=>(S0 w'/\(anyL zs (listed.setIfInBounds j true)=true\/S w'))/\wpAnyZt P md ops Q S S0 zs fuel (listed.setIfInBounds j true) a' w') (fun a w hS hk=>⟨hS,hk⟩)
 split
 ·rename_i hw
  rw [if_pos hw] at h1;exact Or.inl h1
 ·rename_i hw
  rw [if_neg hw] at h1;exact h1
theorem doneZt {listed:Array Bool} {a:Act} {w:World} (hr:Region.ready md ops listed= []) (h:Q .normal a w):
  ∀fuel,wpAnyZt P md ops Q S S0 zs fuel listed a w
 | 0=>⟨hr,h⟩
 | _+1=>⟨fun _=>h,by rw [hr];simp⟩
theorem zjB {id:Nat} {a:Act} {w:World} (zs:List Nat) (hm:P.follows .mixedOrders=true)
  (h:wpAnyZt P .any ops Q S S0 zs ops.size (Array.replicate ops.size false) a w.drew):(Code.region id ops true).wp P Q a w:=
 wp_region_any hm (zdy _ _ _ _ h)
end
end Go.Proofs.YtcbogiebfbbmbaaGreatDoor
