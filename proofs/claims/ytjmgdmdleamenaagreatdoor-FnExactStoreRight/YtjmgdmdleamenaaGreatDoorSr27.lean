/-
  Facts and contracts that the law's own text rests on, by their texts' names: RangeSep2, SeqNodes, AllPlain, RoundAny, AllImpl, AllPlain2, Plain17, PlaceFacts.
-/
import Derived.Test.YtjmgdmdleamenaaGreatDoorSr14
import Derived.Laws.EntriesVeiled
import Derived.Test.YtjmgdmdleamenaaGreatDoorSr26
import Derived.ControlIn
import Derived.Orders
import Derived.OrdersHeld
import Derived.OrdersIn
import Derived.OwnWalkIn
import Derived.Test.YtjmgdmdleamenaaGreatDoorSr6
set_option maxHeartbeats 16000000
set_option maxRecDepth 100000
namespace Go.Proofs.YtjmgdmdleamenaaGreatDoor
open Go Go.RowKit
def SeqSep2 {α:Type} (F:Fence) (n:Nat) (P:Program) (g:Nat) (lb:Array Value) (encs:α->Array Value) (Lies:α->(Nat->Prop)->World->Prop) (M:Nat->Prop) (n0:Nat) (S Sp:List α->Prop) (w:World):Prop:=
 ∀(l:Nat) (J Jx:List α->(Nat->Prop)->World->Prop) (C0:Nat->Prop) (W:World),Below w.heap.size w W->(∀k,C0 k->¬M k)->
  (∀pre C A B,J pre C A->KeptC (fun k=>¬C k) A B->J pre C B)->
  (∀pre C A,J pre C A->∀k,C k->n0<=k/\k<A.heap.size)->
  (∀pre x C W1 m,Sp (pre++ [x])->J pre C W1->Lies x C W1->YieldAt F m P l (encs x) W1 fun e W'=>∃C',KeptC C W1 W'/\(∀k,C' k->C k\/W1.heap.size<=k)/\
   ((e= .returned (.bool true)/\J (pre++ [x]) C' W')\/(e= .returned (.bool false)/\Jx (pre++ [x]) C' W')))->
  J [] C0 W->
  CallsIn F n P g (#[.func (.yield l) #[] #[]]++lb) W fun e W'=>(∃v,e= .returned v)/\Below n0 W W'/\((∃xs C,S xs/\J xs C W')\/(∃pre C,Sp pre/\Jx pre C W'))
theorem wpIn_rangeFunc_sep2 {F:Fence} {n:Nat} {P:Program} {α:Type} {g:Operand} {ps:Array Tmp} {assign body:Code} {Q:Exit->Act->World->Prop} {a:Act} {w:World}
  (hro:F.round=none) (hdep:F.depth=none) {gf:Nat} {lb:Array Value} (hg:a.eval g= .func (.func gf) #[] lb) (hFg:F.fn gf) (eg:∀args w,(callFunc gf args).run P w= .ok (.enter gf args) w)
  {encs:α->Array Value} {Lies:α->(Nat->Prop)->World->Prop} {M:Nat->Prop} {n0:Nat} {S Sp:List α->Prop} (hseq:SeqSep2 F (n - 1) P gf lb encs Lies M n0 S Sp w) (hn0:n0<=w.heap.size) (hM:∀k,M k->k<w.heap.size)
  (hL:∀x C C' A B,Lies x C A->KeptC C A B->(∀k,C' k->C k\/A.heap.size<=k)->Lies x C' B)
  (hps:∀x,(encs x).size=ps.size)
  (I:List α->(Nat->Prop)->World->Prop) (Ix:Code->List α->(Nat->Prop)->World->Prop)
  (hI:∀pre C A B,I pre C A->KeptC (fun k=>¬C k) A B->I pre C B) (hIx:∀c pre C A B,Ix c pre C A->KeptC (fun k=>¬C k) A B->Ix c pre C B)
  (hIn:∀pre C A,I pre C A->∀k,C k->n0<=k/\k<A.heap.size)
  (C0:Nat->Prop) (h0:I [] C0 w) (hC0:∀k,C0 k->¬M k)
  (Ax:α->Act->(Nat->Prop)->World->Prop) (hAx:∀x a' C A B,Ax x a' C A->KeptC (fun k=>¬C k) A B->Ax x a' C B)
  (hassign:∀(l:Nat) (m:Nat) (pre:List α) (x:α) (C:Nat->Prop) (W:World) (K:Act->World->Prop),I pre C W->Lies x C W->(∀a' C' W',KeptC C W W'->(∀k,C' k->C k\/W.heap.size<=k)->I pre C' W'->Ax x a' C' W'->K a' W')->
   assign.wpIn (F.inRound l) m P (Exit.then K (fun _ _ _=>False)) {tmps:=(ps.zip (encs x)).foldl (fun t (p,v)=>t.setIfInBounds p v) a.tmps,defers:= []} W)
  (hbody:∀(l:Nat) (m:Nat) (pre:List α) (x:α) (a':Act) (C:Nat->Prop) (W:World),Sp (pre++ [x])->I pre C W->Ax x a' C W->Lies x C W->body.wpIn (F.inRound l) m P (sepPost I Ix (pre++ [x]) C W) a' W)
  (hdone:∀(D:Nat) (xs:List α) (C:Nat->Prop) (W:World),w.heap.size<=D->¬C D->S xs->I xs C W->Below n0 w W->W.heap[D]?=some (.deferred (some []))->Q .normal {a with defers:={target:= .collected D,args:= #[]} :: a.defers} W)
  (hstop:∀(D:Nat) (c:Code) (pre:List α) (C:Nat->Prop) (W:World),w.heap.size<=D->¬C D->Sp pre->Ix c pre C W->Below n0 w W->W.heap[D]?=some (.deferred (some []))->c.wpIn F n P Q {a with defers:={target:= .collected D,args:= #[]} :: a.defers} W):
  (Code.rangeFunc g ps assign body).wpIn F n P Q a w:=by
 refine wpIn_rangeFunc ?_;intro fn hfn;rw [hro]
 obtain ⟨rec,hrec⟩:∃rec:LoopState->Option Code->Loop,rec=fun st pe=>{state:=st,pending:=pe,fn,tmps:=a.tmps,params:=ps,assign,body,defers:=w.heap.size}:=⟨_,rfl⟩
 obtain ⟨W1,hW1⟩:∃W1,(w.alloc (.deferred (some []))).alloc (.loop (rec .ready none))=W1:=⟨_,rfl⟩
 have hL1:W1.heap[w.heap.size+1]?=some (.loop (rec .ready none)):=by
  rw [<-hW1];have:=World.alloc_heap_new (w.alloc (.deferred (some []))) (.loop (rec .ready none));rwa [World.size_alloc] at this
 have hK1:W1.heap[w.heap.size]?=some (.deferred (some [])):=by
  rw [<-hW1];exact (Below.heap_alloc _ _ _ (by simp)).trans (World.alloc_heap_new w _)
 have hB1:Below w.heap.size w W1:=by
  rw [<-hW1];exact ((Below.refl _ w).alloc (Nat.le_refl _) _).alloc (by simp) _
 have hI1:I [] C0 W1:=hI _ _ _ _ h0 (keptC_of_below hB1)
 have hlw:∀k,C0 k->k<w.heap.size:=fun k hk=>(hIn _ _ _ h0 k hk).2
 refine ⟨w.heap.size+1,[{target:= .collected w.heap.size,args:= #[]}],W1,{target:= .fn (.func gf) lb,args:= #[.func (.yield (w.heap.size+1)) #[] #[]]},W1,gf,
  #[.func (.yield (w.heap.size+1)) #[] #[]]++lb,W1,?_,?_,?_,?_,(fun h=>by rw [hdep] at h;cases h),?_⟩
 ·rw [<-hW1,hrec];exact run_enterLoop_outer _ _ _ _ _
 ·simp only [resolve,hg]
  simp [go_sem]
 ·intro f' hf';simp [Target.leads] at hf';subst hf';exact hFg
 ·simp [invoke,go_sem,eg]
 ·obtain ⟨X,hX⟩:∃X:Nat->Prop,X=fun k=>k=w.heap.size+1\/k=w.heap.size:=⟨_,rfl⟩
  have hXl:X (w.heap.size+1):=by rw [hX];exact Or.inl rfl
  have hXd:X w.heap.size:=by rw [hX];exact Or.inr rfl
  have hXc:∀k,X k->k=w.heap.size+1\/k=w.heap.size:=fun k h=>by rw [hX] at h;exact h
  refine (hseq (w.heap.size+1)
   (fun pre C W=>∃C1,C=(fun k=>C1 k\/X k)/\(∀k,C1 k->¬X k)/\I pre C1 W/\W.heap[w.heap.size+1]?=some (.loop (rec .ready none))/\W.heap[w.heap.size]?=some (.deferred (some [])))
   (fun pre C W=>∃c C1,C=(fun k=>C1 k\/X k)/\(∀k,C1 k->¬X k)/\Ix c pre C1 W/\W.heap[w.heap.size+1]?=some (.loop (rec .done (some c)))/\W.heap[w.heap.size]?=some (.deferred (some [])))
   (fun k=>C0 k\/X k) W1 hB1 ?_ ?_ ?_ ?_ ⟨C0,rfl,fun k hk hx=>by have:=hlw k hk;rcases hXc k hx with h | h <;> omega,hI1,hL1,hK1⟩).mono ?_
  ·rintro k (hk | hk) hm
   ·exact hC0 k hk hm
   ·have:=hM k hm
    rcases hXc k hk with h | h <;> omega
  ·rintro pre C A B ⟨C1,rfl,hd,hi,hl,hk⟩ hAB
   have hs:∀j,(C1 j\/X j)->j<A.heap.size->B.heap[j]?=A.heap[j]?:=fun j hj hlt=>hAB.2.2.2.2 j hlt (fun h=>h hj)
   exact ⟨C1,rfl,hd,hI _ _ _ _ hi (keptC_mono hAB (fun j _ hn hc=>hn (Or.inl hc))),(hs _ (Or.inr hXl) (Array.getElem?_eq_some_iff.1 hl).1).trans hl,(hs _ (Or.inr hXd) (Array.getElem?_eq_some_iff.1 hk).1).trans hk⟩
  ·rintro pre C A ⟨C1,rfl,hd,hi,hl,hk⟩ k (hc | hc)
   ·exact hIn _ _ _ hi k hc
   ·have h1:=(Array.getElem?_eq_some_iff.1 hl).1
    rcases hXc k hc with h | h <;> constructor <;> omega
  ·-- one round
   rintro pre x C W m hsp ⟨C1,rfl,hd,hi,hl,hk⟩ hlies;have hlt:w.heap.size+1<W.heap.size:=(Array.getElem?_eq_some_iff.1 hl).1
   have hy:=run_yield (P:=P) (args:=encs x) hl (by rw [hrec];exact hps x)
   rw [hrec] at hy
   have hlies1:Lies x C1 W:=hL x _ C1 W W hlies (keptC_refl _ _) (fun k h=>Or.inl (Or.inl h))
   refine ⟨fn,_,assign,body,hy,roundIn_of_wpIn hfn (hassign _ m pre x C1 W _ hi hlies1 ?_)⟩;clear hy;intro a' C2 Wa hka hca hia hax
   have hnl:¬C1 (w.heap.size+1):=fun h=>hd _ h hXl
   have hnd:¬C1 w.heap.size:=fun h=>hd _ h hXd
   have hla:=(hka.2.2.2.2 _ hlt hnl).trans hl
   have hkaa:=(hka.2.2.2.2 _ (by omega) hnd).trans hk
   have hnl2:¬C2 (w.heap.size+1):=fun h=>by rcases hca _ h with h | h;exact hnl h;omega
   have hnd2:¬C2 w.heap.size:=fun h=>by rcases hca _ h with h | h;exact hnd h;omega
   have hlta:w.heap.size+1<Wa.heap.size:=(Array.getElem?_eq_some_iff.1 hla).1
   refine ⟨_,run_beginRound hla (by rw [hrec]),?_⟩
   obtain ⟨Wb,hWb⟩:∃Wb,Wb=Wa.putObj (w.heap.size+1) (.loop {rec .ready none with state:= .busy}):=⟨_,rfl⟩
   rw [<-hWb]
   have hlb:Wb.heap[w.heap.size+1]?=some (.loop {rec .ready none with state:= .busy}):=by rw [hWb];exact World.putObj_heap_same hlta
   have hkb:Wb.heap[w.heap.size]?=some (.deferred (some [])):=by rw [hWb];exact (World.putObj_heap_other (by omega)).trans hkaa
   have hab:KeptC (fun k=>¬C2 k) Wa Wb:=by rw [hWb];exact keptC_putObj Wa _ hnl2
   have habX:KeptC X Wa Wb:=by rw [hWb];exact keptC_putObj Wa _ hXl
   have hszb:Wb.heap.size=Wa.heap.size:=by rw [hWb];simp
   have hlies2:Lies x C2 Wb:=hL x (fun k=>C2 k\/X k) C2 Wa Wb (hL x _ _ W Wa hlies (keptC_mono hka (fun j _ h=>Or.inl h)) (fun k h=>by
    rcases h with h | h
    ·rcases hca k h with h | h
     ·exact Or.inl (Or.inl h)
     ·exact Or.inr h
    ·exact Or.inl (Or.inr h))) (keptC_mono habX (fun j _ h=>Or.inr h)) (fun k h=>Or.inl (Or.inl h))
   refine wpIn_mono (hbody _ m pre x a' C2 Wb hsp (hI _ _ _ _ hia hab) (hAx _ _ _ _ _ hax hab) hlies2) ?_
   have hWX:KeptC (fun k=>C1 k\/X k) W Wb:=keptC_trans (keptC_mono hka (fun j _ h=>Or.inl h)) habX (fun j h=>Or.inl (Or.inr h))
   have hszW:W.heap.size<=Wb.heap.size:=hWX.2.2.2.1
   have fin:∀(jump:Option Code) (C3:Nat->Prop) (W3:World),KeptC C2 Wb W3->(∀k,C3 k->C2 k\/Wb.heap.size<=k)->
     (Instr.endRound (w.heap.size+1) jump).run P W3= .ok (.bool jump.isNone) (W3.putObj (w.heap.size+1) (.loop (rec (if jump.isNone then .ready else .done) jump)))/\
     (W3.putObj (w.heap.size+1) (.loop (rec (if jump.isNone then .ready else .done) jump))).heap[w.heap.size+1]?=some (.loop (rec (if jump.isNone then .ready else .done) jump))/\
     (W3.putObj (w.heap.size+1) (.loop (rec (if jump.isNone then .ready else .done) jump))).heap[w.heap.size]?=some (.deferred (some []))/\
     (∀k,C3 k->¬X k)/\KeptC (fun k=>¬C3 k) W3 (W3.putObj (w.heap.size+1) (.loop (rec (if jump.isNone then .ready else .done) jump)))/\
     KeptC (fun k=>C1 k\/X k) W (W3.putObj (w.heap.size+1) (.loop (rec (if jump.isNone then .ready else .done) jump)))/\(∀k,(C3 k\/X k)->(C1 k\/X k)\/W.heap.size<=k):=fun jump C3 W3 hk3 hc3=>by
    have hl3:=(hk3.2.2.2.2 _ (Array.getElem?_eq_some_iff.1 hlb).1 hnl2).trans hlb;have hd3:=(hk3.2.2.2.2 _ (Array.getElem?_eq_some_iff.1 hkb).1 hnd2).trans hkb;have:=run_endRound (P:=P) jump hl3
    have hx3:∀k,C3 k->¬X k:=fun k h hx=>by
     rcases hc3 k h with h | h
     ·rcases hXc k hx with e | e <;> subst e
      ·exact hnl2 h
      ·exact hnd2 h
     ·rcases hXc k hx with e | e <;> omega
    rw [hrec] at this⊢
    refine ⟨this,World.putObj_heap_same (Array.getElem?_eq_some_iff.1 hl3).1,(World.putObj_heap_other (by omega)).trans hd3,hx3,keptC_putObj W3 _ (fun h=>hx3 _ h hXl),?_,?_⟩
    ·refine keptC_trans (keptC_trans hWX hk3 (fun j h=> ?_)) (keptC_putObj (C:=X) W3 _ hXl) (fun j h=>Or.inl (Or.inr h))
     rcases hca j h with h | h
     ·exact Or.inl (Or.inl h)
     ·exact Or.inr h
    ·rintro k (h | h)
     ·rcases hc3 k h with h | h
      ·rcases hca k h with h | h
       ·exact Or.inl (Or.inl h)
       ·exact Or.inr h
      ·exact Or.inr (by omega)
     ·exact Or.inl (Or.inr h)
   rintro e a3 W3 hp
   cases e with
   | normal=>
    obtain ⟨C3,hk3,hc3,hi3⟩:=hp;obtain ⟨hr,hl4,hk4,hx4,hs4,hw4,hn4⟩:=fin none C3 W3 hk3 hc3;exact ⟨_,_,hr,_,hw4,hn4,.inl ⟨rfl,C3,rfl,hx4,hI _ _ _ _ hi3 hs4,hl4,hk4⟩⟩
   | ret=>
    obtain ⟨C3,hk3,hc3,hi3⟩:=hp;obtain ⟨hr,hl4,hk4,hx4,hs4,hw4,hn4⟩:=fin (some .ret) C3 W3 hk3 hc3;exact ⟨_,_,hr,_,hw4,hn4,.inr ⟨rfl,.ret,C3,rfl,hx4,hIx _ _ _ _ _ hi3 hs4,hl4,hk4⟩⟩
   | exit id=>exact hp.elim
   | goto t=>exact hp.elim
   | panic ch=>exact hp.elim
   | outgrown=>exact hp.elim
  ·-- behind the iterator
   rintro e W2 ⟨⟨v,rfl⟩,hb2,(⟨xs,C,hS,C1,rfl,hd,hi,hl,hk⟩ | ⟨pre,C,hSp,c,C1,rfl,hd,hi,hl,hk⟩)⟩
   ·have hnl:¬C1 (w.heap.size+1):=fun h=>hd _ h hXl
    refine ⟨none,_,by have:=run_endLoop (P:=P) hl (by rw [hrec];simp);rw [hrec] at this;exact this,hdone _ xs C1 _ (Nat.le_refl _) (fun h=>hd _ h hXd) hS (hI _ _ _ _ hi (keptC_putObj W2 _ hnl)) ?_ ((World.putObj_heap_other (by omega)).trans hk)⟩
    exact ((hB1.mono hn0).trans hb2).trans (keptC_below (keptC_putObj (C:=X) W2 _ hXl) (fun k h=>by rcases hXc k h with e | e <;> omega) (by have:=hb2.size;have:=hB1.size;omega))
   ·have hnl:¬C1 (w.heap.size+1):=fun h=>hd _ h hXl
    refine ⟨some c,_,by have:=run_endLoop (P:=P) hl (by rw [hrec];simp);rw [hrec] at this;exact this,hstop _ c pre C1 _ (Nat.le_refl _) (fun h=>hd _ h hXd) hSp (hIx _ _ _ _ _ hi (keptC_putObj W2 _ hnl)) ?_ ((World.putObj_heap_other (by omega)).trans hk)⟩
    exact ((hB1.mono hn0).trans hb2).trans (keptC_below (keptC_putObj (C:=X) W2 _ hXl) (fun k h=>by rcases hXc k h with e | e <;> omega) (by have:=hb2.size;have:=hB1.size;omega))
open Go.RowKit Go.Shelf
noncomputable def comes (R:Int->Nd×Bool) (root:Int):List (Option Vis):=if root=0 then [] else evs (downL R 8 root [] [])
theorem nodesOf_seq {w Wc:World} {ps:List ByteArray} {ls:List (Int×ByteArray)} {vp vl:Value} (n:Nat) (root:Int) (gr gd:Nat) (hp:ps.length<=1048576) (hl:ls.length<=1048576) (hps:∀s∈ps,s.size<=1048576) (hls:∀p∈ls,p.2.size<=1048576) (hT:SumTab w) (hd:DiskAt w (.agg #[vp,vl]) ps ls)
  (hlow:Below w.heap.size w Wc) (hgr:Wc.heap[gr]?=some (.cells #[.int .i64 root] 3 (0,0))) (hgd:Wc.heap[gd]?=some (.cells #[vp,vl] 41 (0,0))):
  SeqSep2 Fence.wide n Tryz.prog 80 #[.pointer (some ⟨gr,0,none⟩),.pointer (some ⟨gd,0,none⟩)] encs (Lies w.heap.size) (fun k=>k=gr\/k=gd) w.heap.size
   (fun xs=>xs.map Ev.plain=comes (fun q=>rdN (readD ps ls q)) root) (fun pre=>∃t,pre.map Ev.plain++t=comes (fun q=>rdN (readD ps ls q)) root) Wc:=by
 intro l J Jx C0 W hW hC0 hJ hJn hY hj0;obtain ⟨vp',vl',ed,hr1,hr2⟩:=id hd;obtain ⟨ap,cp,rfl⟩:=row_slice hr1;obtain ⟨al,cl,rfl⟩:=row_slice hr2
 injection ed with ed
 have ed:=congrArg Array.toList ed
 simp only [List.cons.injEq,and_true] at ed
 obtain ⟨rfl,rfl⟩:=ed;clear hr1 hr2;obtain ⟨np,hnp⟩:∃x,x=ps.length:=⟨_,rfl⟩;obtain ⟨nl,hnl⟩:∃x,x=ls.length:=⟨_,rfl⟩;rw [<-hnp,<-hnl] at hd hgd;refine callsIn_wide.2 ?_
 have hK:DCtx w ps ls (.slice ap np cp) (.slice al nl cl) W.heap.size l J Jx (fun pre=>∃t,pre.map Ev.plain++t=comes (fun q=>rdN (readD ps ls q)) root):=⟨by omega,by omega,hps,hls,hT,hd,hJ,hJn,hY⟩
 have hlW:Below w.heap.size w W:=hlow.trans (hW.mono hlow.size);obtain ⟨W1,hW1⟩:∃W1,W1=W.alloc (.cells #[.slice ap np cp,.slice al nl cl,.slice none 0 0,.func (.yield l) #[] #[]] 158 (0,0)):=⟨_,rfl⟩
 have hb1:Below W.heap.size W W1:=by rw [hW1];exact (Below.refl _ _).alloc (Nat.le_refl _) _
 have hst:DSt w W1 W.heap.size l (.slice ap np cp) (.slice al nl cl) C0 [] (.slice none 0 0):={
  low:=hlW.trans (hb1.mono hlW.size)
  wk:=by rw [hW1];exact heap_alloc_new W _
  gc:=fun hc=>by have:=(hJn _ _ _ hj0 _ hc).2;omega
  gn:=hlW.size
  row:=World.ownsRow_nil _ _ _ _
  rc:=fun j e=>by cases e}
 have hway:WayAt W1 w.heap.size C0 (.slice none 0 0) []:=⟨[],rfl,World.ownsRow_nil _ _ _ _,fun j e=>(by cases e),fun x h=>(by cases h)⟩
 have HD0:=hide (fun hz:¬root=0=>down_any hK 8 root [] (.slice none 0 0) [] (.slice none 0 0) [] C0 W1 hst (hJ _ _ _ _ hj0 (keptC_of_below hb1)) hway rfl (by decide) (fun q t h=>⟨t,by rw [comes,if_neg hz];exact h⟩))
 have HJn:=hide hJn;have HJ0:=hide hj0;have HLW:=hide hlW;have HB1:=hide hb1;have r0:=(cell_at (stays hgr hW) 0).1;have d0:=(cell_at (stays hgd hW) 0).1;have d1:=(cell_at (stays hgd hW) 1).1
 obtain ⟨cm,hcm⟩:∃cm,cm=comes (fun q=>rdN (readD ps ls q)) root:=⟨_,rfl⟩
 rw [<-hcm]
 obtain ⟨PP,hPP⟩:∃PP:World->Prop,PP=fun W'=>(∃xs C,xs.map Ev.plain=cm/\J xs C W')\/(∃pre C,(∃t,pre.map Ev.plain++t=cm)/\Jx pre C W'):=⟨_,rfl⟩
 refine Calls.mono (R:=fun e W'=>(∃v,e= .returned v)/\Below w.heap.size W W'/\PP W') ?_ (fun e W' h=>by rw [hPP] at h;exact h)
 have HPP:=hide hPP;have r1:=(cell_at (stays (stays hgr hW) hb1) 0).1;rw [hW1] at r1;clear hPP
 by_cases hz:root=0
 ·have HC:Hid (cm= []):=hide (by rw [hcm,comes,if_pos hz])
  subst hz;clear hK hJ hJn hY hj0 hlW hb1 hst hway hW hC0 hp hl hps hls hT hd hlow hgr hgd hcm hnp hnl HD0;go_enter Tryz.func80,Tryz.ntmps80;go_wp2_with fail;refine bodyPost_ret (results_none rfl _ _ _) rfl ?_
  exact ⟨⟨_,rfl⟩,Below.refl _ _,by rw [HPP.out];exact Or.inl ⟨[],C0,by rw [HC.out];rfl,HJ0.out⟩⟩
 ·have HC:Hid (cm=evs (downL (fun q=>rdN (readD ps ls q)) 8 root [] [])):=hide (by rw [hcm,comes,if_neg hz])
  have HD:=hide (HD0.out hz)
  have hz0:(root ==0)=false:=by simp [hz]
  clear HD0;clear hK hJ hJn hY hj0 hlW hb1 hst hway hW hC0 hp hl hps hls hT hd hlow hgr hgd hcm hnp hnl hz;go_enter Tryz.func80,Tryz.ntmps80;go_wp2_with fail;rw [<-hW1];refine HD.out.mono ?_;rintro e W2 ⟨b,q,C',rfl,hC',hk,hor⟩
  have HBl:Hid (Below w.heap.size W W2):=hide ((HB1.out.mono HLW.out.size).trans (keptC_below hk (fun k h=>by
   rcases h with h | h | h
   ·exact (HJn.out _ _ _ HJ0.out k h).1
   ·rw [h];exact HLW.out.size
   ·cases h) (Nat.le_trans HLW.out.size HB1.out.size)))
  have HO:Hid ((∃xs C,xs.map Ev.plain=cm/\J xs C W2)\/(∃pre C,(∃t,pre.map Ev.plain++t=cm)/\Jx pre C W2)):=hide (by
   rw [HC.out]
   rcases hor with ⟨-,s',vs',h1,h2,h3,-,-⟩ | ⟨-,h1,h2,h3⟩ | ⟨-,h1,h3⟩
   ·exact Or.inl ⟨q,C',by rw [h2,evs,h1];simp,h3⟩
   ·exact Or.inl ⟨q,C',by rw [h2,evs,h1];simp,h3⟩
   ·exact Or.inr ⟨q,C',h1,h3⟩)
  clear hC' hk hor;go_wp2_with fail
  first | go_ret | go_ret2 | go_end0
  exact ⟨⟨_,rfl⟩,HBl.out,by rw [HPP.out];exact HO.out⟩
theorem comes_seen (R:Int->Nd×Bool) (root:Int):comes R root=(seenI R root).1.map some++(if (seenI R root).2=true then [] else [none]):=by
 unfold comes seenI
 by_cases h:root=0
 ·rw [if_pos h,if_pos h];rfl
 ·rw [if_neg h,if_neg h,evs]
  cases hd:(downL R 8 root [] []).2 with
  | none=>simp
  | some s=>simp
theorem plain_ok {xs:List Ev} (h:∀x∈xs,x.ok=true):xs.map Ev.plain=(xs.map Ev.vis).map some:=by
 rw [List.map_map]
 exact List.map_congr_left (fun x hx=>by rw [Ev.plain,if_pos (h x hx)];rfl)
theorem all_done (R:Int->Nd×Bool) (root:Int) {xs:List Ev} (h:∀x∈xs,x.ok=true) (hx:xs.map Ev.plain=comes R root):allI R root=(pairsV (xs.map Ev.vis),true)/\(seenI R root).1=xs.map Ev.vis/\(seenI R root).2=true:=by
 rw [plain_ok h,comes_seen] at hx
 have h2:(seenI R root).2=true:=by
  cases hc:(seenI R root).2 with
  | true=>rfl
  | false=>
   rw [hc] at hx
   have:(none:Option Vis)∈(xs.map Ev.vis).map some:=by rw [hx];simp
   simp at this
 rw [h2,if_pos rfl,List.append_nil] at hx
 have h3:(seenI R root).1=xs.map Ev.vis:=((List.map_inj_right (fun _ _ e=>Option.some.inj e)).1 hx).symm
 exact ⟨by rw [allI,if_pos h2,h3],h3,h2⟩
theorem all_stop (R:Int->Nd×Bool) (root:Int) {pre:List Ev} {x:Ev} (hx:x.ok=false) {t:List (Option Vis)} (ht:(pre++ [x]).map Ev.plain++t=comes R root):allI R root=([],false)/\(seenI R root).2=false:=by
 have h2:(seenI R root).2=false:=by
  cases hc:(seenI R root).2 with
  | false=>rfl
  | true=>
   rw [comes_seen,hc,if_pos rfl,List.append_nil] at ht
   have:(none:Option Vis)∈(seenI R root).1.map some:=by
    rw [<-ht]
    have:x.plain=none:=by rw [Ev.plain,if_neg (by rw [hx];decide)]
    simp [this]
   simp at this
 exact ⟨by rw [allI,if_neg (by rw [h2];decide)],h2⟩
open Go
theorem uponIn_of_upon {l n:Nat} {P:Program} {o:Oper} {a:Act} {K K':Act->World->Prop} {Q:Exit->Act->World->Prop} (hK:∀a w,K a w->K' a w):∀r:Result Next,o.upon P a K Q r->o.uponIn (Fence.wide.inRound l) n P a K' Q r:=by
 intro r h
 cases r with
 | ok v w=>
  cases v with
  | value v=>exact hK _ _ h
  | skip=>exact hK _ _ h
  | defer d=>exact hK _ _ h
  | enter f args=>
   refine ⟨fun e=>by simp [Fence.wide] at e,CallsIn.inRound l (callsIn_wide.2 (Calls.mono h ?_))⟩
   intro e w' h'
   cases e with
   | returned v=>exact hK _ _ h'
   | panicked c=>exact h'
   | outgrown=>exact h'
  | row row args=>
   refine ⟨fun e=>by simp [Fence.wide] at e,fun c cs _=> ?_⟩
   obtain ⟨v,w',r,st⟩:=h c cs;exact ⟨v,w',hK _ _ r,stepsIn_wide.2 st⟩
  | round l f tmps assign body=>exact h.elim
  | _=>exact h.elim
 | halt hh w=>
  cases hh with
  | panic v=>exact h
  | _=>exact h.elim
theorem wpAnyIn_of_wpAny {l n:Nat} {P:Program} {md:Region.Mode} {ops:Array Oper} {Q:Exit->Act->World->Prop} (hno:¬LetsOut Q) (hnd:∀(i:Nat) (o:Oper),ops[i]?=some o->∀c,o.op≠ .defer c):
  ∀(fuel:Nat) (listed:Array Bool) (a:Act) (w:World),wpAny P md ops Q fuel listed a w->wpAnyIn (Fence.wide.inRound l) n P md ops Q fuel listed a w
 | 0,listed,a,w,h=>h
 | fuel+1,listed,a,w,h=>by
  refine ⟨h.1,fun i hi=> ?_⟩
  have h2:=h.2 i hi;unfold wpOp at h2;unfold wpOpIn
  cases ho:ops[i]? with
  | none=>rw [ho] at h2;exact wpAnyIn_of_wpAny hno hnd fuel _ _ _ h2
  | some o=>
   rw [ho] at h2
   simp only at h2⊢
   split at h2
   ·rename_i hw
    rw [if_pos hw]
    rcases h2 with h2 | h2
    ·refine ⟨fun _ _=>trivial,?_⟩
     rw [Oper.semAt_plain _ _ _ (hnd i o ho)]
     exact uponIn_of_upon (fun a w h=>wpAnyIn_of_wpAny hno hnd fuel _ a w h) _ h2
    ·exact (hno h2.2).elim
   ·rename_i hw
    rw [if_neg hw]
    exact ⟨fun _ _=>trivial,wpAnyIn_of_wpAny hno hnd fuel _ _ _ h2⟩
theorem region_round {l n id:Nat} {P:Program} {ops:Array Oper} {Q:Exit->Act->World->Prop} {S:World->Prop} {a:Act} {w:World} (hm:P.follows .mixedOrders=true) (hno:¬LetsOut Q) (hnd:∀(i:Nat) (o:Oper),ops[i]?=some o->∀c,o.op≠ .defer c) (hS:S w.drew)
  (h:S w.drew->wpAnyH P .any ops Q S ops.size (Array.replicate ops.size false) a w.drew):(Code.region id ops true).wpIn (Fence.wide.inRound l) n P Q a w:=
 wpIn_region_any hm (wpAnyIn_of_wpAny hno hnd _ _ _ _ (wpAny_of_held _ _ _ _ (h hS)))
open Go.RowKit Go.Shelf
attribute [local go_sem] Oper.semAt_some
def APs (w W:World) (vr:Value) (L:List (ByteArray×ByteArray)):Prop:=
 (∃v,W.heap[w.heap.size+1]?=some (.cells #[v] 87 (0,0)))/\W.heap[w.heap.size+2]?=some (.cells #[.bool false] 4 (0,0))/\W.heap[w.heap.size+4]?=some (.cells #[vr] 87 (0,0))/\W.ownsRow w.heap.size 91 2 vr L.length (prs L)
def APC (w:World) (vr:Value) (k:Nat):Prop:=k=w.heap.size+1\/k=w.heap.size+2\/k=w.heap.size+4\/vr.ownBlock=some k
def API (w:World) (pre:List Ev) (C:Nat->Prop) (W:World):Prop:=(∀x∈pre,x.ok=true)/\∃vr,(∀k,APC w vr k->C k)/\(∀k,C k->w.heap.size<=k/\k<W.heap.size)/\APs w W vr (pairsV (pre.map Ev.vis))
def APX (w:World) (c:Code) (pre:List Ev) (C:Nat->Prop) (W:World):Prop:=
 c= .ret/\(∃pr x,pre=pr++ [x]/\x.ok=false)/\∃v,W.heap[w.heap.size+1]?=some (.cells #[v] 87 (0,0))/\W.heap[w.heap.size+2]?=some (.cells #[.bool false] 4 (0,0))/\W.ownsRow w.heap.size 91 2 v 0 []/\(∀k,(k=w.heap.size+1\/k=w.heap.size+2\/v.ownBlock=some k)->C k)
theorem apc_lt {w W:World} {vr:Value} {L:List (ByteArray×ByteArray)} (h:APs w W vr L):∀k,APC w vr k->w.heap.size<=k/\k<W.heap.size:=by
 obtain ⟨⟨v,h1⟩,h2,h3,h4⟩:=h;rintro k (rfl | rfl | rfl | hk)
 ·exact ⟨by omega,(Array.getElem?_eq_some_iff.1 h1).1⟩
 ·exact ⟨by omega,(Array.getElem?_eq_some_iff.1 h2).1⟩
 ·exact ⟨by omega,(Array.getElem?_eq_some_iff.1 h3).1⟩
 ·exact h4.lt k hk
theorem aps_kept {w A B:World} {vr:Value} {L:List (ByteArray×ByteArray)} (h:APs w A vr L) (hk:KeptC (fun k=>¬APC w vr k) A B):APs w B vr L:=by
 have hlt:=apc_lt h;obtain ⟨⟨v,h1⟩,h2,h3,h4⟩:=h
 have key:∀k,APC w vr k->B.heap[k]?=A.heap[k]?:=fun k hc=>hk.2.2.2.2 k (hlt k hc).2 (fun hn=>hn hc)
 exact ⟨⟨v,(key _ (Or.inl rfl)).trans h1⟩,(key _ (Or.inr (Or.inl rfl))).trans h2,(key _ (Or.inr (Or.inr (Or.inl rfl)))).trans h3,own_kept h4 hk (fun k e hn=>hn (Or.inr (Or.inr (Or.inr e))))⟩
theorem api_kept {w:World} (pre:List Ev) (C:Nat->Prop) (A B:World) (h:API w pre C A) (hk:KeptC (fun k=>¬C k) A B):API w pre C B:=by
 obtain ⟨h1,vr,hc,hn,h2⟩:=h
 exact ⟨h1,vr,hc,fun k h=>⟨(hn k h).1,Nat.lt_of_lt_of_le (hn k h).2 hk.2.2.2.1⟩,aps_kept h2 (keptC_mono hk (fun j _ h hx=>h (hc j hx)))⟩
theorem api_lt {w:World} (pre:List Ev) (C:Nat->Prop) (A:World) (h:API w pre C A):∀k,C k->w.heap.size<=k/\k<A.heap.size:=by
 obtain ⟨h1,vr,hc,hn,h2⟩:=h;exact hn
theorem apx_kept {w:World} (c:Code) (pre:List Ev) (C:Nat->Prop) (A B:World) (h:APX w c pre C A) (hk:KeptC (fun k=>¬C k) A B):APX w c pre C B:=by
 obtain ⟨h0,h1,v,h2,h3,h4,h5⟩:=h
 have key:∀k,(k=w.heap.size+1\/k=w.heap.size+2\/v.ownBlock=some k)->k<A.heap.size->B.heap[k]?=A.heap[k]?:=fun k hc hlt=>hk.2.2.2.2 k hlt (fun hn=>hn (h5 k hc))
 exact ⟨h0,h1,v,(key _ (Or.inl rfl) (Array.getElem?_eq_some_iff.1 h2).1).trans h2,(key _ (Or.inr (Or.inl rfl)) (Array.getElem?_eq_some_iff.1 h3).1).trans h3,own_kept h4 hk (fun k e hn=>hn (h5 k (Or.inr (Or.inr e)))),h5⟩
theorem comes_len (R:Int->Nd×Bool) (root:Int) {pre:List Ev} {t:List (Option Vis)} (h:pre.map Ev.plain++t=comes R root):pre.length<=(comes R root).length:=by
 rw [<-h]
 simp
theorem kids_vis {R:Int->Nd×Bool} {f:Int->List (Nd×Nat)->List Int->List Vis×Option (List Int)} (hf:∀p way s,∀v∈(f p way s).1,R v.page=(v.nd,true)) (n:Nd) (way:List (Nd×Nat)) (s:List Int):∀i,∀v∈(kidsL f n way s i).1,R v.page=(v.nd,true)
 | 0,v,h=>by simp [kidsL] at h
 | i+1,v,h=>by
  rw [kidsL] at h
  split at h
  ·next e=>exact kids_vis hf n way s i v (by rw [e];exact h)
  ·next vs s1 e=>
   rcases List.mem_append.1 h with h | h
   ·exact kids_vis hf n way s i v (by rw [e];exact h)
   ·exact hf _ _ _ v h
theorem down_vis (R:Int->Nd×Bool):∀(k:Nat) (p:Int) (way:List (Nd×Nat)) (s:List Int),∀v∈(downL R k p way s).1,R v.page=(v.nd,true)
 | 0,p,way,s,v,h=>by simp [downL] at h
 | k+1,p,way,s,v,h=>by
  rw [downL] at h
  split at h
  ·cases h
  ·next hn=>
   rcases List.mem_cons.1 h with rfl | h
   ·have h2:(R p).2=true:=by
     cases hc:(R p).2 with
     | true=>rfl
     | false=>exact absurd (Or.inl hc) hn
    show R p=((R p).1,true)
    rw [<-h2]
   ·exact kids_vis (down_vis R k) _ _ _ _ v h
theorem kids_cnt {f:Int->List (Nd×Nat)->List Int->List Vis×Option (List Int)} {c:Nat} (hf:∀p way s,(f p way s).1.length<=c) (n:Nd) (way:List (Nd×Nat)) (s:List Int):∀i,(kidsL f n way s i).1.length<=i * c
 | 0=>by simp [kidsL]
 | i+1=>by
  have ih:=kids_cnt hf n way s i;rw [kidsL]
  split
  ·next vs e=>
   rw [e] at ih;have ih:vs.length<=i * c:=ih;have:=Nat.add_mul i 1 c
   show vs.length<=_
   omega
  ·next vs s1 e=>
   rw [e] at ih;have h2:=hf (n.cs.getD i 0) (way++ [(n,i)]) s1;have:=Nat.add_mul i 1 c
   show (vs++_).length<=_
   rw [List.length_append];have ih:vs.length<=i * c:=ih
   omega
theorem down_cnt (R:Int->Nd×Bool) (hR:∀p,(R p).2=true->(R p).1.cs.length<=4):∀(k:Nat) (p:Int) (way:List (Nd×Nat)) (s:List Int),(downL R k p way s).1.length<=cntK k
 | 0,p,way,s=>by simp [downL]
 | k+1,p,way,s=>by
  rw [downL]
  split
  ·exact Nat.zero_le _
  ·next hn=>
   have h2:(R p).2=true:=by
    cases hc:(R p).2 with
    | true=>rfl
    | false=>exact absurd (Or.inl hc) hn
   have h4:=hR p h2;have hk:=kids_cnt (down_cnt R hR k) (R p).1 way (s++ [p]) (R p).1.cs.length;have hm:(R p).1.cs.length * cntK k<=4 * cntK k:=Nat.mul_le_mul_right _ h4
   show (_ :: _).length<=_
   rw [List.length_cons,cntK]
   omega
theorem comes_vis (R:Int->Nd×Bool) (root:Int) {pre:List Ev} {x:Ev} (hx:x.ok=true) {t:List (Option Vis)} (ht:(pre++ [x]).map Ev.plain++t=comes R root):R x.vis.page=(x.vis.nd,true):=by
 have hm:some x.vis∈comes R root:=by
  rw [<-ht]
  have:x.plain=some x.vis:=by rw [Ev.plain,if_pos hx]
  simp [this]
 unfold comes at hm
 split at hm
 ·cases hm
 ·rw [evs] at hm
  rcases List.mem_append.1 hm with hm | hm
  ·obtain ⟨v,hv,e⟩:=List.mem_map.1 hm
   injection e with e
   subst e;exact down_vis R 8 root [] [] _ hv
  ·split at hm
   ·simp at hm
   ·cases hm
theorem cntK8A:cntK 8<=22000:=by decide
theorem comes_cnt (R:Int->Nd×Bool) (hR:∀p,(R p).2=true->(R p).1.cs.length<=4) (root:Int) {pre:List Ev} {t:List (Option Vis)} (ht:pre.map Ev.plain++t=comes R root):pre.length<=22001:=by
 have h1:=comes_len R root ht
 have h2:(comes R root).length<=22001:=by
  unfold comes
  split
  ·exact Nat.zero_le _
  ·rw [evs,List.length_append,List.length_map]
   have:=down_cnt R hR 8 root [] [];have:=cntK8A
   split
   ·show _+1<=_;omega
   ·show _+0<=_;omega
 omega
theorem pairsV_snoc (l:List Vis) (v:Vis):pairsV (l++ [v])=pairsV l++pairsN v.nd:=by simp [pairsV]
theorem pairsV_len {l:List Vis} (h:∀v∈l,v.nd.vs.length<=4):(pairsV l).length<=4 * l.length:=by
 induction l with
 | nil=>simp [pairsV]
 | cons v l ih=>
  have h1:=h v (by simp)
  have h2:=ih (fun u hu=>h u (by simp [hu]))
  have h3:pairsV (v :: l)=pairsN v.nd++pairsV l:=by simp [pairsV]
  have h4:(pairsN v.nd).length<=4:=by simp [pairsN];exact h1
  rw [h3,List.length_append,List.length_cons]
  omega
theorem ok_cnt {n:Nd} (h:n.ok=true):n.vs.length<=n.ks.length/\n.vs.length<=4/\n.cs.length<=4:=by
 obtain ⟨h1,h2,h3,h4⟩:=cnt_yes (node_yes h).1
 cases hl:n.lf with
 | true=>have:=h3 hl;omega
 | false=>have:=h4 hl;omega
theorem pairs_step (n:Nd) (i:Nat) (h:i<n.vs.length):(pairsN n).take i++ [(n.ks.getD i ⟨#[]⟩,n.vs.getD i ⟨#[]⟩)]=(pairsN n).take (i+1):=by
 have hl:i<(pairsN n).length:=by simp [pairsN];exact h
 rw [List.take_succ_eq_append_getElem hl]
 simp [pairsN]
theorem pairsN_len (n:Nd):(pairsN n).length=n.vs.length:=by simp [pairsN]
open Go.RowKit
theorem less_total:∀(s t:List UInt8),Op.bytesLess s t=false->(s ==t)=false->Op.bytesLess t s=true
 | [],[],_,h=>by simp at h
 | [],_ :: _,h,_=>by simp [Op.bytesLess] at h
 | _ :: _,[],_,_=>by simp [Op.bytesLess]
 | x :: s,y :: t,h,hq=>by
  rw [Op.bytesLess] at h⊢
  by_cases he:x=y
  ·subst he
   have hq':(s ==t)=false:=by
    rw [beq_eq_false_iff_ne] at hq⊢
    intro e;exact hq (by rw [e])
   simp at h⊢
   exact less_total s t h hq'
  ·have h1:¬x<y:=by intro hl;simp [hl] at h
   have h2:y<x:=by
    rcases UInt8.lt_or_lt_of_ne he with h | h
    ·exact absurd h h1
    ·exact h
   simp [h2]
open Go.RowKit
theorem less_irrefl:∀s:List UInt8,Op.bytesLess s s=false
 | []=>rfl
 | x :: s=>by rw [Op.bytesLess];simp [less_irrefl s]
theorem less_trans:∀(s t u:List UInt8),Op.bytesLess s t=true->Op.bytesLess t u=true->Op.bytesLess s u=true
 | [],[],_,h,_=>by simp [Op.bytesLess] at h
 | [],_ :: _,[],_,k=>by simp [Op.bytesLess] at k
 | [],_ :: _,_ :: _,_,_=>by simp [Op.bytesLess]
 | _ :: _,[],_,h,_=>by simp [Op.bytesLess] at h
 | _ :: _,_ :: _,[],_,k=>by simp [Op.bytesLess] at k
 | x :: s,y :: t,z :: u,h,k=>by
  simp only [Op.bytesLess,Bool.or_eq_true,Bool.and_eq_true,decide_eq_true_eq,beq_iff_eq] at h k⊢
  rcases h with h | ⟨rfl,h⟩
  ·rcases k with k | ⟨rfl,k⟩
   ·exact Or.inl (UInt8.lt_trans h k)
   ·exact Or.inl h
  ·rcases k with k | ⟨rfl,k⟩
   ·exact Or.inl k
   ·exact Or.inr ⟨rfl,less_trans s t u h k⟩
theorem less_not {s t:List UInt8} (h:Op.bytesLess s t=true):(Op.bytesLess t s || t ==s)=false:=by
 rw [Bool.or_eq_false_iff]
 constructor
 ·cases hb:Op.bytesLess t s with
  | false=>rfl
  | true=>have:=less_trans _ _ _ h hb;rw [less_irrefl] at this;cases this
 ·rw [beq_eq_false_iff_ne]
  rintro rfl;rw [less_irrefl] at h;cases h
end Go.Proofs.YtjmgdmdleamenaaGreatDoor
