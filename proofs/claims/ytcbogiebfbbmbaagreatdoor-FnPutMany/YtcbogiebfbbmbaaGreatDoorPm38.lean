/-
  Facts and contracts that the law's own text rests on, by their texts' names: RoundAny.
-/
import Derived.ControlIn
import Derived.Orders
import Derived.OrdersHeld
import Derived.OrdersIn
import Derived.OwnWalkIn
import Derived.Test.YtcbogiebfbbmbaaGreatDoorPm27
set_option maxHeartbeats 16000000
set_option maxRecDepth 100000
namespace Go.Proofs.YtcbogiebfbbmbaaGreatDoor
open Go
theorem zgI {l n:Nat} {P:Program} {o:Oper} {a:Act} {K K':Act->World->Prop} {Q:Exit->Act->World->Prop} (hK:∀a w,K a w->K' a w):∀r:Result Next,o.upon P a K Q r->o.uponIn (Fence.wide.inRound l) n P a K' Q r:=by
 intro r h
 cases r with
 | ok v w=>
  cases v with
  | value v=>exact hK _ _ h
  | skip=>exact hK _ _ h
  | defer d=>exact hK _ _ h
  | enter f args=>
   refine ⟨fun e=>by simp [Fence.wide] at e,CallsIn.inRound l (callsIn_wide.2 (Calls.mono h ?_))⟩
   intro e w' h'
   cases e with
   | returned v=>exact hK _ _ h'
   | panicked c=>exact h'
   | outgrown=>exact h'
  | row row args=>
   refine ⟨fun e=>by simp [Fence.wide] at e,fun c cs _=> ?_⟩
   obtain ⟨v,w',r,st⟩:=h c cs;exact ⟨v,w',hK _ _ r,stepsIn_wide.2 st⟩
  | round l f tmps assign body=>exact h.elim
  | _=>exact h.elim
 | halt hh w=>
  cases hh with
  | panic v=>exact h
  | _=>exact h.elim
theorem zbl {l n:Nat} {P:Program} {md:Region.Mode} {ops:Array Oper} {Q:Exit->Act->World->Prop} (hno:¬LetsOut Q) (hnd:∀(i:Nat) (o:Oper),ops[i]?=some o->∀c,o.op≠ .defer c):
  ∀(fuel:Nat) (listed:Array Bool) (a:Act) (w:World),wpAny P md ops Q fuel listed a w->wpAnyIn (Fence.wide.inRound l) n P md ops Q fuel listed a w
 | 0,listed,a,w,h=>h
 | fuel+1,listed,a,w,h=>by
  refine ⟨h.1,fun i hi=> ?_⟩
  have h2:=h.2 i hi;unfold wpOp at h2;unfold wpOpIn
  cases ho:ops[i]? with
  | none=>rw [ho] at h2;exact zbl hno hnd fuel _ _ _ h2
  | some o=>
   rw [ho] at h2
   simp only at h2⊢
   split at h2
   ·rename_i hw
    rw [if_pos hw]
    rcases h2 with h2 | h2
    ·refine ⟨fun _ _=>trivial,?_⟩
     rw [Oper.semAt_plain _ _ _ (hnd i o ho)]
     exact zgI (fun a w h=>zbl hno hnd fuel _ a w h) _ h2
    ·exact (hno h2.2).elim
   ·rename_i hw
    rw [if_neg hw]
    exact ⟨fun _ _=>trivial,zbl hno hnd fuel _ _ _ h2⟩
theorem ziQ {l n id:Nat} {P:Program} {ops:Array Oper} {Q:Exit->Act->World->Prop} {S:World->Prop} {a:Act} {w:World} (hm:P.follows .mixedOrders=true) (hno:¬LetsOut Q) (hnd:∀(i:Nat) (o:Oper),ops[i]?=some o->∀c,o.op≠ .defer c) (hS:S w.drew)
  (h:S w.drew->wpAnyH P .any ops Q S ops.size (Array.replicate ops.size false) a w.drew):(Code.region id ops true).wpIn (Fence.wide.inRound l) n P Q a w:=
 wpIn_region_any hm (zbl hno hnd _ _ _ _ (wpAny_of_held _ _ _ _ (h hS)))
end Go.Proofs.YtcbogiebfbbmbaaGreatDoor
