/-
  Facts and contracts that the law's own text rests on, by their texts' names: RangeSep2, HalvesI, Plain27, Down0, DownDef.
-/
import Derived.Test.YtcbogiebfbbmbaaGreatDoorPm27
import Derived.Laws.EntriesVeiled
import Derived.Test.YtcbogiebfbbmbaaGreatDoorPm28
import Derived.Test.YtcbogiebfbbmbaaGreatDoorPm9
import Derived.LoopIn
import Derived.LoopNIn
import Derived.OwnWalkIn
import Derived.Shelf.Abstract
import Derived.Shelf.RegionOpen
import Derived.TacticsInMore
import Derived.WalkKit
import Derived.Test.YtcbogiebfbbmbaaGreatDoorPm1
import Derived.Test.YtcbogiebfbbmbaaGreatDoorPm14
import Derived.Test.YtcbogiebfbbmbaaGreatDoorPm22
import Derived.Test.YtcbogiebfbbmbaaGreatDoorPm18
set_option maxHeartbeats 16000000
set_option maxRecDepth 100000
namespace Go.Proofs.YtcbogiebfbbmbaaGreatDoor
open Go Go.RowKit
def SeqSep2 {α:Type} (F:Fence) (n:Nat) (P:Program) (g:Nat) (lb:Array Value) (encs:α->Array Value) (Lies:α->(Nat->Prop)->World->Prop) (M:Nat->Prop) (n0:Nat) (S Sp:List α->Prop) (w:World):Prop:=
 ∀(l:Nat) (J Jx:List α->(Nat->Prop)->World->Prop) (C0:Nat->Prop) (W:World),Below w.heap.size w W->(∀k,C0 k->¬M k)->
  (∀pre C A B,J pre C A->KeptC (fun k=>¬C k) A B->J pre C B)->
  (∀pre C A,J pre C A->∀k,C k->n0<=k/\k<A.heap.size)->
  (∀pre x C W1 m,Sp (pre++ [x])->J pre C W1->Lies x C W1->YieldAt F m P l (encs x) W1 fun e W'=>∃C',KeptC C W1 W'/\(∀k,C' k->C k\/W1.heap.size<=k)/\
   ((e= .returned (.bool true)/\J (pre++ [x]) C' W')\/(e= .returned (.bool false)/\Jx (pre++ [x]) C' W')))->
  J [] C0 W->
  CallsIn F n P g (#[.func (.yield l) #[] #[]]++lb) W fun e W'=>(∃v,e= .returned v)/\Below n0 W W'/\((∃xs C,S xs/\J xs C W')\/(∃pre C,Sp pre/\Jx pre C W'))
theorem ze1 {F:Fence} {n:Nat} {P:Program} {α:Type} {g:Operand} {ps:Array Tmp} {assign body:Code} {Q:Exit->Act->World->Prop} {a:Act} {w:World}
  (hro:F.round=none) (hdep:F.depth=none) {gf:Nat} {lb:Array Value} (hg:a.eval g= .func (.func gf) #[] lb) (hFg:F.fn gf) (eg:∀args w,(callFunc gf args).run P w= .ok (.enter gf args) w)
  {encs:α->Array Value} {Lies:α->(Nat->Prop)->World->Prop} {M:Nat->Prop} {n0:Nat} {S Sp:List α->Prop} (hseq:SeqSep2 F (n - 1) P gf lb encs Lies M n0 S Sp w) (hn0:n0<=w.heap.size) (hM:∀k,M k->k<w.heap.size)
  (hL:∀x C C' A B,Lies x C A->KeptC C A B->(∀k,C' k->C k\/A.heap.size<=k)->Lies x C' B)
  (hps:∀x,(encs x).size=ps.size)
  (I:List α->(Nat->Prop)->World->Prop) (Ix:Code->List α->(Nat->Prop)->World->Prop)
  (hI:∀pre C A B,I pre C A->KeptC (fun k=>¬C k) A B->I pre C B) (hIx:∀c pre C A B,Ix c pre C A->KeptC (fun k=>¬C k) A B->Ix c pre C B)
  (hIn:∀pre C A,I pre C A->∀k,C k->n0<=k/\k<A.heap.size)
  (C0:Nat->Prop) (h0:I [] C0 w) (hC0:∀k,C0 k->¬M k)
  (Ax:α->Act->(Nat->Prop)->World->Prop) (hAx:∀x a' C A B,Ax x a' C A->KeptC (fun k=>¬C k) A B->Ax x a' C B)
  (hassign:∀(l:Nat) (m:Nat) (pre:List α) (x:α) (C:Nat->Prop) (W:World) (K:Act->World->Prop),I pre C W->Lies x C W->(∀a' C' W',KeptC C W W'->(∀k,C' k->C k\/W.heap.size<=k)->I pre C' W'->Ax x a' C' W'->K a' W')->
   assign.wpIn (F.inRound l) m P (Exit.then K (fun _ _ _=>False)) {tmps:=(ps.zip (encs x)).foldl (fun t (p,v)=>t.setIfInBounds p v) a.tmps,defers:= []} W)
  (hbody:∀(l:Nat) (m:Nat) (pre:List α) (x:α) (a':Act) (C:Nat->Prop) (W:World),Sp (pre++ [x])->I pre C W->Ax x a' C W->Lies x C W->body.wpIn (F.inRound l) m P (sepPost I Ix (pre++ [x]) C W) a' W)
  (hdone:∀(D:Nat) (xs:List α) (C:Nat->Prop) (W:World),w.heap.size<=D->¬C D->S xs->I xs C W->Below n0 w W->W.heap[D]?=some (.deferred (some []))->Q .normal {a with defers:={target:= .collected D,args:= #[]} :: a.defers} W)
  (hstop:∀(D:Nat) (c:Code) (pre:List α) (C:Nat->Prop) (W:World),w.heap.size<=D->¬C D->Sp pre->Ix c pre C W->Below n0 w W->W.heap[D]?=some (.deferred (some []))->c.wpIn F n P Q {a with defers:={target:= .collected D,args:= #[]} :: a.defers} W):
  (Code.rangeFunc g ps assign body).wpIn F n P Q a w:=by
 refine wpIn_rangeFunc ?_;intro fn hfn;rw [hro]
 obtain ⟨rec,hrec⟩:∃rec:LoopState->Option Code->Loop,rec=fun st pe=>{state:=st,pending:=pe,fn,tmps:=a.tmps,params:=ps,assign,body,defers:=w.heap.size}:=⟨_,rfl⟩
 obtain ⟨W1,hW1⟩:∃W1,(w.alloc (.deferred (some []))).alloc (.loop (rec .ready none))=W1:=⟨_,rfl⟩
 have hL1:W1.heap[w.heap.size+1]?=some (.loop (rec .ready none)):=by
  rw [<-hW1];have:=World.alloc_heap_new (w.alloc (.deferred (some []))) (.loop (rec .ready none));rwa [World.size_alloc] at this
 have hK1:W1.heap[w.heap.size]?=some (.deferred (some [])):=by
  rw [<-hW1];exact (Below.heap_alloc _ _ _ (by simp)).trans (World.alloc_heap_new w _)
 have hB1:Below w.heap.size w W1:=by
  rw [<-hW1];exact ((Below.refl _ w).alloc (Nat.le_refl _) _).alloc (by simp) _
 have hI1:I [] C0 W1:=hI _ _ _ _ h0 (zaq hB1)
 have hlw:∀k,C0 k->k<w.heap.size:=fun k hk=>(hIn _ _ _ h0 k hk).2
 refine ⟨w.heap.size+1,[{target:= .collected w.heap.size,args:= #[]}],W1,{target:= .fn (.func gf) lb,args:= #[.func (.yield (w.heap.size+1)) #[] #[]]},W1,gf,
  #[.func (.yield (w.heap.size+1)) #[] #[]]++lb,W1,?_,?_,?_,?_,(fun h=>by rw [hdep] at h;cases h),?_⟩
 ·rw [<-hW1,hrec];exact run_enterLoop_outer _ _ _ _ _
 ·simp only [resolve,hg]
  simp [go_sem]
 ·intro f' hf';simp [Target.leads] at hf';subst hf';exact hFg
 ·simp [invoke,go_sem,eg]
 ·obtain ⟨X,hX⟩:∃X:Nat->Prop,X=fun k=>k=w.heap.size+1\/k=w.heap.size:=⟨_,rfl⟩
  have hXl:X (w.heap.size+1):=by rw [hX];exact Or.inl rfl
  have hXd:X w.heap.size:=by rw [hX];exact Or.inr rfl
  have hXc:∀k,X k->k=w.heap.size+1\/k=w.heap.size:=fun k h=>by rw [hX] at h;exact h
  refine (hseq (w.heap.size+1)
   (fun pre C W=>∃C1,C=(fun k=>C1 k\/X k)/\(∀k,C1 k->¬X k)/\I pre C1 W/\W.heap[w.heap.size+1]?=some (.loop (rec .ready none))/\W.heap[w.heap.size]?=some (.deferred (some [])))
   (fun pre C W=>∃c C1,C=(fun k=>C1 k\/X k)/\(∀k,C1 k->¬X k)/\Ix c pre C1 W/\W.heap[w.heap.size+1]?=some (.loop (rec .done (some c)))/\W.heap[w.heap.size]?=some (.deferred (some [])))
   (fun k=>C0 k\/X k) W1 hB1 ?_ ?_ ?_ ?_ ⟨C0,rfl,fun k hk hx=>by have:=hlw k hk;rcases hXc k hx with h | h <;> omega,hI1,hL1,hK1⟩).mono ?_
  ·rintro k (hk | hk) hm
   ·exact hC0 k hk hm
   ·have:=hM k hm
    rcases hXc k hk with h | h <;> omega
  ·rintro pre C A B ⟨C1,rfl,hd,hi,hl,hk⟩ hAB
   have hs:∀j,(C1 j\/X j)->j<A.heap.size->B.heap[j]?=A.heap[j]?:=fun j hj hlt=>hAB.2.2.2.2 j hlt (fun h=>h hj)
   exact ⟨C1,rfl,hd,hI _ _ _ _ hi (zdF hAB (fun j _ hn hc=>hn (Or.inl hc))),(hs _ (Or.inr hXl) (Array.getElem?_eq_some_iff.1 hl).1).trans hl,(hs _ (Or.inr hXd) (Array.getElem?_eq_some_iff.1 hk).1).trans hk⟩
  ·rintro pre C A ⟨C1,rfl,hd,hi,hl,hk⟩ k (hc | hc)
   ·exact hIn _ _ _ hi k hc
   ·have h1:=(Array.getElem?_eq_some_iff.1 hl).1
    rcases hXc k hc with h | h <;> constructor <;> omega
  ·-- one round
   rintro pre x C W m hsp ⟨C1,rfl,hd,hi,hl,hk⟩ hlies;have hlt:w.heap.size+1<W.heap.size:=(Array.getElem?_eq_some_iff.1 hl).1
   have hy:=run_yield (P:=P) (args:=encs x) hl (by rw [hrec];exact hps x)
   rw [hrec] at hy
   have hlies1:Lies x C1 W:=hL x _ C1 W W hlies (zeR _ _) (fun k h=>Or.inl (Or.inl h))
   refine ⟨fn,_,assign,body,hy,roundIn_of_wpIn hfn (hassign _ m pre x C1 W _ hi hlies1 ?_)⟩;clear hy;intro a' C2 Wa hka hca hia hax
   have hnl:¬C1 (w.heap.size+1):=fun h=>hd _ h hXl
   have hnd:¬C1 w.heap.size:=fun h=>hd _ h hXd
   have hla:=(hka.2.2.2.2 _ hlt hnl).trans hl
   have hkaa:=(hka.2.2.2.2 _ (by omega) hnd).trans hk
   have hnl2:¬C2 (w.heap.size+1):=fun h=>by rcases hca _ h with h | h;exact hnl h;omega
   have hnd2:¬C2 w.heap.size:=fun h=>by rcases hca _ h with h | h;exact hnd h;omega
   have hlta:w.heap.size+1<Wa.heap.size:=(Array.getElem?_eq_some_iff.1 hla).1
   refine ⟨_,run_beginRound hla (by rw [hrec]),?_⟩
   obtain ⟨Wb,hWb⟩:∃Wb,Wb=Wa.putObj (w.heap.size+1) (.loop {rec .ready none with state:= .busy}):=⟨_,rfl⟩
   rw [<-hWb]
   have hlb:Wb.heap[w.heap.size+1]?=some (.loop {rec .ready none with state:= .busy}):=by rw [hWb];exact World.putObj_heap_same hlta
   have hkb:Wb.heap[w.heap.size]?=some (.deferred (some [])):=by rw [hWb];exact (World.putObj_heap_other (by omega)).trans hkaa
   have hab:KeptC (fun k=>¬C2 k) Wa Wb:=by rw [hWb];exact zaT Wa _ hnl2
   have habX:KeptC X Wa Wb:=by rw [hWb];exact zaT Wa _ hXl
   have hszb:Wb.heap.size=Wa.heap.size:=by rw [hWb];simp
   have hlies2:Lies x C2 Wb:=hL x (fun k=>C2 k\/X k) C2 Wa Wb (hL x _ _ W Wa hlies (zdF hka (fun j _ h=>Or.inl h)) (fun k h=>by
    rcases h with h | h
    ·rcases hca k h with h | h
     ·exact Or.inl (Or.inl h)
     ·exact Or.inr h
    ·exact Or.inl (Or.inr h))) (zdF habX (fun j _ h=>Or.inr h)) (fun k h=>Or.inl (Or.inl h))
   refine wpIn_mono (hbody _ m pre x a' C2 Wb hsp (hI _ _ _ _ hia hab) (hAx _ _ _ _ _ hax hab) hlies2) ?_
   have hWX:KeptC (fun k=>C1 k\/X k) W Wb:=zar (zdF hka (fun j _ h=>Or.inl h)) habX (fun j h=>Or.inl (Or.inr h))
   have hszW:W.heap.size<=Wb.heap.size:=hWX.2.2.2.1
   have fin:∀(jump:Option Code) (C3:Nat->Prop) (W3:World),KeptC C2 Wb W3->(∀k,C3 k->C2 k\/Wb.heap.size<=k)->
     (Instr.endRound (w.heap.size+1) jump).run P W3= .ok (.bool jump.isNone) (W3.putObj (w.heap.size+1) (.loop (rec (if jump.isNone then .ready else .done) jump)))/\
     (W3.putObj (w.heap.size+1) (.loop (rec (if jump.isNone then .ready else .done) jump))).heap[w.heap.size+1]?=some (.loop (rec (if jump.isNone then .ready else .done) jump))/\
     (W3.putObj (w.heap.size+1) (.loop (rec (if jump.isNone then .ready else .done) jump))).heap[w.heap.size]?=some (.deferred (some []))/\
     (∀k,C3 k->¬X k)/\KeptC (fun k=>¬C3 k) W3 (W3.putObj (w.heap.size+1) (.loop (rec (if jump.isNone then .ready else .done) jump)))/\
     KeptC (fun k=>C1 k\/X k) W (W3.putObj (w.heap.size+1) (.loop (rec (if jump.isNone then .ready else .done) jump)))/\(∀k,(C3 k\/X k)->(C1 k\/X k)\/W.heap.size<=k):=fun jump C3 W3 hk3 hc3=>by
    have hl3:=(hk3.2.2.2.2 _ (Array.getElem?_eq_some_iff.1 hlb).1 hnl2).trans hlb;have hd3:=(hk3.2.2.2.2 _ (Array.getElem?_eq_some_iff.1 hkb).1 hnd2).trans hkb;have:=run_endRound (P:=P) jump hl3
    have hx3:∀k,C3 k->¬X k:=fun k h hx=>by
     rcases hc3 k h with h | h
     ·rcases hXc k hx with e | e <;> subst e
      ·exact hnl2 h
      ·exact hnd2 h
     ·rcases hXc k hx with e | e <;> omega
    rw [hrec] at this⊢
    refine ⟨this,World.putObj_heap_same (Array.getElem?_eq_some_iff.1 hl3).1,(World.putObj_heap_other (by omega)).trans hd3,hx3,zaT W3 _ (fun h=>hx3 _ h hXl),?_,?_⟩
    ·refine zar (zar hWX hk3 (fun j h=> ?_)) (zaT (C:=X) W3 _ hXl) (fun j h=>Or.inl (Or.inr h))
     rcases hca j h with h | h
     ·exact Or.inl (Or.inl h)
     ·exact Or.inr h
    ·rintro k (h | h)
     ·rcases hc3 k h with h | h
      ·rcases hca k h with h | h
       ·exact Or.inl (Or.inl h)
       ·exact Or.inr h
      ·exact Or.inr (by omega)
     ·exact Or.inl (Or.inr h)
   rintro e a3 W3 hp
   cases e with
   | normal=>
    obtain ⟨C3,hk3,hc3,hi3⟩:=hp;obtain ⟨hr,hl4,hk4,hx4,hs4,hw4,hn4⟩:=fin none C3 W3 hk3 hc3;exact ⟨_,_,hr,_,hw4,hn4,.inl ⟨rfl,C3,rfl,hx4,hI _ _ _ _ hi3 hs4,hl4,hk4⟩⟩
   | ret=>
    obtain ⟨C3,hk3,hc3,hi3⟩:=hp;obtain ⟨hr,hl4,hk4,hx4,hs4,hw4,hn4⟩:=fin (some .ret) C3 W3 hk3 hc3;exact ⟨_,_,hr,_,hw4,hn4,.inr ⟨rfl,.ret,C3,rfl,hx4,hIx _ _ _ _ _ hi3 hs4,hl4,hk4⟩⟩
   | exit id=>exact hp.elim
   | goto t=>exact hp.elim
   | panic ch=>exact hp.elim
   | outgrown=>exact hp.elim
  ·-- behind the iterator
   rintro e W2 ⟨⟨v,rfl⟩,hb2,(⟨xs,C,hS,C1,rfl,hd,hi,hl,hk⟩ | ⟨pre,C,hSp,c,C1,rfl,hd,hi,hl,hk⟩)⟩
   ·have hnl:¬C1 (w.heap.size+1):=fun h=>hd _ h hXl
    refine ⟨none,_,by have:=run_endLoop (P:=P) hl (by rw [hrec];simp);rw [hrec] at this;exact this,hdone _ xs C1 _ (Nat.le_refl _) (fun h=>hd _ h hXd) hS (hI _ _ _ _ hi (zaT W2 _ hnl)) ?_ ((World.putObj_heap_other (by omega)).trans hk)⟩
    exact ((hB1.mono hn0).trans hb2).trans (zaG (zaT (C:=X) W2 _ hXl) (fun k h=>by rcases hXc k h with e | e <;> omega) (by have:=hb2.size;have:=hB1.size;omega))
   ·have hnl:¬C1 (w.heap.size+1):=fun h=>hd _ h hXl
    refine ⟨some c,_,by have:=run_endLoop (P:=P) hl (by rw [hrec];simp);rw [hrec] at this;exact this,hstop _ c pre C1 _ (Nat.le_refl _) (fun h=>hd _ h hXd) hSp (hIx _ _ _ _ _ hi (zaT W2 _ hnl)) ?_ ((World.putObj_heap_other (by omega)).trans hk)⟩
    exact ((hB1.mono hn0).trans hb2).trans (zaG (zaT (C:=X) W2 _ hXl) (fun k h=>by rcases hXc k h with e | e <;> omega) (by have:=hb2.size;have:=hB1.size;omega))
open Go.RowKit Go.Shelf
theorem zhL {w:World} {n c f t:Nat} {a:Option Addr} {xs:List Value} (h:RowAt w 1 (.slice a n c) n xs) (h1:f<t) (h2:t<=n):∃b off,a=some ⟨b,off,none⟩/\RowAt w 1 (.slice (some ⟨b,off+f,none⟩) (t - f) (t - f)) (t - f) ((xs.drop f).take (t - f)):=by
 obtain ⟨hl,a',cap,ea,h3⟩:=h
 injection ea with e1 e2 e3
 subst e1
 rcases h3 with h0 | ⟨b,off,rfl,hlt,hc⟩
 ·omega
 ·refine ⟨b,off,rfl,by rw [List.length_take,List.length_drop];omega,_,_,rfl,Or.inr ⟨b,off+f,rfl,hlt,fun j hj=> ?_⟩⟩
  have:=hc (f+j) (by omega)
  rw [Nat.add_assoc,this,List.getElem?_take_of_lt (by omega),List.getElem?_drop]
theorem zgf {P:Program} (wx:World) (t:TypeId) {e:TypeId} (ht:P.underlying t=some (.slice e)) (hs:(P.info? e).map (·.size)=some 1) (g o n c f u:Nat) (h1:f<u) (h2:u<=n) (h3:n<=c):(Instr.slice t (.slice (some ⟨g,o,none⟩) n c) (some (.int .i64 (f:Int))) (some (.int .i64 (u:Int))) (some (.int .i64 (u:Int)))).run P wx= .ok (.slice (some ⟨g,o+f,none⟩) (u - f) (u - f)) wx:=by
 have ht2:P.underlying t=some (.slice (P.elem t)):=by rw [Program.elem,ht]
 have he:P.elem t=e:=by rw [Program.elem,ht]
 obtain ⟨j,hj,hjs⟩:=Option.map_eq_some_iff.1 hs
 have hz:(sizeOf (P.elem t)).run P wx= .ok 1 wx:=by rw [he];simp [sizeOf,typeInfo,hj,hjs]
 have a1:(u:Int)<=(c:Int):=by omega
 have a2:(f:Int)<=(u:Int):=by omega
 rw [run_slice_lhm wx t _ n c ht2 .i64 .i64 .i64 (f:Int) (u:Int) (u:Int) (by omega) (by omega) (by omega) (by omega),hz]
 simp only [Result.andThen,Int.toNat_natCast,sliced]
 rw [if_neg (by omega)]
 simp [zaO]
theorem zma {W:World} {g:Nat} {r0 r1 r2 r3:Value} {T:TypeId} (h:W.heap[g]?=some (.cells #[r0,r1,r2,r3] T (0,0))) (u0 u1 u2 u3:Value):((((W.setCell ⟨g,0,none⟩ u0).setCell ⟨g,1,none⟩ u1).setCell ⟨g,2,none⟩ u2).setCell ⟨g,3,none⟩ u3).heap[g]?=some (.cells #[u0,u1,u2,u3] T (0,0)):=
 heap_setCell_same _ _ 3 _ _ _ (heap_setCell_same _ _ 2 _ _ _ (heap_setCell_same _ _ 1 _ _ _ (heap_setCell_same _ _ 0 _ _ _ h)))
theorem ziI {B:Nat} {W0 W:World} {g:Nat} (h:Below B W0 W) (hg:B<=g) (u0 u1 u2 u3:Value):Below B W0 ((((W.setCell ⟨g,0,none⟩ u0).setCell ⟨g,1,none⟩ u1).setCell ⟨g,2,none⟩ u2).setCell ⟨g,3,none⟩ u3):=
 ((((h.setCell hg u0).setCell hg u1).setCell hg u2).setCell hg u3)
def cutV (lf:Bool) (vs:List ByteArray) (f t:Nat):List ByteArray:=if lf=true then (vs.drop f).take (t - f) else []
def cutC (lf:Bool) (cs:List Int) (f t:Nat):List Int:=if lf=true then [] else (cs.drop f).take (t - f)
theorem zkj (l:List ByteArray) (f n:Nat):(strs l |>.drop f |>.take n)=strs ((l.drop f).take n):=by simp [strs]
theorem znu (l:List Int) (f n:Nat):(ints l |>.drop f |>.take n)=ints ((l.drop f).take n):=by simp [ints]
theorem cut_any (lf:Bool) (ks vs:List ByteArray) (cs:List Int) (ak av ac:Option Addr) (ck cv cc:Nat) (hck:ks.length<=ck) (hcv:vs.length<=cv) (hcc:cs.length<=cc) (hv:lf=true->vs.length=ks.length) (hc:lf=false->cs.length=ks.length) (f t:Nat) (h1:f<t) (h2:t<=ks.length) (g:Nat) (W0 w:World)
  (hn:NodeAt W0 (.agg #[.bool lf,.slice ak ks.length ck,.slice av vs.length cv,.slice ac cs.length cc]) lf ks vs cs) (hg:w.heap[g]?=some (.cells #[.bool lf,.slice ak ks.length ck,.slice av vs.length cv,.slice ac cs.length cc] 71 (0,0))):
  Calls Tryz.prog 112 #[.int .i64 (f:Int),.int .i64 (t:Int),.pointer (some ⟨g,0,none⟩)] w fun e w'=>∃v,e= .returned v/\NodeAt W0 v lf ((ks.drop f).take (t - f)) (cutV lf vs f t) (cutC lf cs f t)/\Below w.heap.size w w':=by
 obtain ⟨vk,vv,vc,e,r1,r2,r3⟩:=hn;obtain ⟨-,rfl,rfl,rfl⟩:=agg4 e;obtain ⟨bk,ok,rfl,q1⟩:=zhL r1 h1 h2;rw [zkj] at q1;obtain ⟨nk,hnk⟩:∃m,m=ks.length:=⟨_,rfl⟩;obtain ⟨nv,hnv⟩:∃m,m=vs.length:=⟨_,rfl⟩;obtain ⟨nc,hnc⟩:∃m,m=cs.length:=⟨_,rfl⟩
 have lk:((ks.drop f).take (t - f)).length=t - f:=by rw [List.length_take,List.length_drop];omega
 have HQ1:Hid (RowAt W0 1 (.slice (some ⟨bk,ok+f,none⟩) (t - f) (t - f)) ((ks.drop f).take (t - f)).length (strs ((ks.drop f).take (t - f)))):=hide (by rw [lk];exact q1)
 have HR2:=hide r2;have HR3:=hide r3;have HNv:=hide hnv;have HNc:=hide hnc;have HNk:=hide hnk;have HV:=hide hv;have HC:=hide hc;rw [<-hnk,<-hnv,<-hnc] at hg;rw [<-hnk] at hck h2;rw [<-hnv] at hcv;rw [<-hnc] at hcc
 have hs1:=fun wx:World=>zgf wx 26 Tryz.underlying26 Tryz.onePart9 bk ok nk ck f t h1 h2 hck
 have HG:=hide hg;obtain ⟨w0,hw0⟩:∃x,x=w.alloc (.cells #[.bool false,.slice none 0 0,.slice none 0 0,.slice none 0 0] 71):=⟨_,rfl⟩
 have hb0:Below w.heap.size w w0:=by rw [hw0];exact (Below.refl _ _).alloc (Nat.le_refl _) _
 have hR0:w0.heap[w.heap.size]?=some (.cells #[.bool false,.slice none 0 0,.slice none 0 0,.slice none 0 0] 71 (0,0)):=by rw [hw0];exact heap_alloc_new w _
 have hg0:=stays hg hb0
 have hg1:∀o,(w0.alloc o).heap[g]?=_:=fun o=>stays hg0 ((Below.refl w0.heap.size w0).alloc (Nat.le_refl _) o)
 have c0:=(za0 hg0 0).1;have c1:=(za0 hg0 1).1;have d0:=(za0 (hg1 (.cells #[.bool false,.slice none 0 0,.slice none 0 0,.slice none 0 0] 71)) 0).1;have d1:=(za0 (hg1 (.cells #[.bool false,.slice none 0 0,.slice none 0 0,.slice none 0 0] 71)) 1).1;have HB0:=hide hb0;have HR0:=hide hR0;have HG0:=hide hg0;clear hb0 hR0 hg0 hg1 hv hc lk q1 r1 r2 r3 hnk hnv hnc hg
 cases lf with
 | true=>
  obtain ⟨bv,ov,rfl,q2⟩:=zhL HR2.out h1 (by rw [HV.out rfl,<-HNk.out];exact h2)
  rw [zkj] at q2
  have hs2:=fun wx:World=>zgf wx 26 Tryz.underlying26 Tryz.onePart9 bv ov nv cv f t h1 (by rw [HNv.out,HV.out rfl,<-HNk.out];exact h2) hcv
  have lv:((vs.drop f).take (t - f)).length=t - f:=by rw [List.length_take,List.length_drop,HV.out rfl,<-HNk.out];omega
  have HQ2:Hid (RowAt W0 1 (.slice (some ⟨bv,ov+f,none⟩) (t - f) (t - f)) ((vs.drop f).take (t - f)).length (strs ((vs.drop f).take (t - f)))):=hide (by rw [lv];exact q2)
  clear lv q2;go_enter Tryz.func112,Tryz.ntmps112
  go_upto_region 1 with fail
  rw [<-hw0];clear hw0
  go_region
  go_upto_region 2 with fail
  obtain ⟨w2,hw2⟩:∃x,x=(w0.alloc (.cells #[.bool true,.slice (some ⟨bk,ok+f,none⟩) (t - f) (t - f),.slice none 0 0,.slice none 0 0] 71)).drew:=⟨_,rfl⟩
  have hb2:Below w0.heap.size w0 w2:=by rw [hw2];exact ((Below.refl _ _).alloc (Nat.le_refl _) _).drew
  have hP2:w2.heap[w0.heap.size]?=some (.cells #[.bool true,.slice (some ⟨bk,ok+f,none⟩) (t - f) (t - f),.slice none 0 0,.slice none 0 0] 71 (0,0)):=by rw [hw2];exact heap_alloc_new w0 _
  have HG2:=hide (stays HG0.out hb2);have HR2':=hide (stays HR0.out hb2);have HB2:Hid (Below w.heap.size w w2):=hide (HB0.out.trans (hb2.mono HB0.out.size));have HP2:=hide hP2;rw [<-hw2];have a0:=(za0 HG2.out 0).1;have a2:=(za0 HG2.out 2).1;have p2:=(za0 hP2 2).1;have f2:=(za0 hP2 2).2;have hlt:w.heap.size<w0.heap.size:=(Array.getElem?_eq_some_iff.1 HR0.out).1;have HLt:=hide hlt;clear hw2 hb2 hP2 c0 c1 d0 d1 HG0 HR0 hlt
  go_upto_region 5 with fail
  obtain ⟨w3,hw3⟩:∃x,x=w2.setCell ⟨w0.heap.size,2,none⟩ (.slice (some ⟨bv,ov+f,none⟩) (t - f) (t - f)):=⟨_,rfl⟩
  have hP3:w3.heap[w0.heap.size]?=some (.cells #[.bool true,.slice (some ⟨bk,ok+f,none⟩) (t - f) (t - f),.slice (some ⟨bv,ov+f,none⟩) (t - f) (t - f),.slice none 0 0] 71 (0,0)):=by rw [hw3];exact heap_setCell_same _ _ 2 _ _ _ HP2.out
  have hR3:w3.heap[w.heap.size]?=some (.cells #[.bool false,.slice none 0 0,.slice none 0 0,.slice none 0 0] 71 (0,0)):=by rw [hw3];exact (heap_setCell_other w2 ⟨w0.heap.size,2,none⟩ _ _ (by have:=HLt.out;show w.heap.size≠w0.heap.size;omega)).trans HR2'.out
  have HB3:Hid (Below w.heap.size w w3):=hide (by rw [hw3];exact HB2.out.setCell (by have:=HLt.out;show w.heap.size<=w0.heap.size;omega) _)
  rw [<-hw3];clear hw3 a0 a2 p2 f2 HP2 HR2' HB2 HG2;have p0:=(za0 hP3 0).1;have p1:=(za0 hP3 1).1;have p2:=(za0 hP3 2).1;have p3:=(za0 hP3 3).1;have f0:=(za0 hR3 0).2;have f1:=(za0 hR3 1).2;have f2:=(za0 hR3 2).2;have f3:=(za0 hR3 3).2;have r0:=(za0 hR3 0).1;have r1:=(za0 hR3 1).1;have r2:=(za0 hR3 2).1;have r3:=(za0 hR3 3).1;have HR3':=hide hR3;clear hP3 hR3;go_wp2_with fail;have hR4:=zma HR3'.out (.bool true) (.slice (some ⟨bk,ok+f,none⟩) (t - f) (t - f)) (.slice (some ⟨bv,ov+f,none⟩) (t - f) (t - f)) (.slice none 0 0);have hB4:=ziI HB3.out (Nat.le_refl _) (.bool true) (.slice (some ⟨bk,ok+f,none⟩) (t - f) (t - f)) (.slice (some ⟨bv,ov+f,none⟩) (t - f) (t - f)) (.slice none 0 0);obtain ⟨w4,hw4⟩:∃x,x=((((w3.setCell ⟨w.heap.size,0,none⟩ (.bool true)).setCell ⟨w.heap.size,1,none⟩ (.slice (some ⟨bk,ok+f,none⟩) (t - f) (t - f))).setCell ⟨w.heap.size,2,none⟩ (.slice (some ⟨bv,ov+f,none⟩) (t - f) (t - f))).setCell ⟨w.heap.size,3,none⟩ (.slice none 0 0)):=⟨_,rfl⟩;rw [<-hw4] at hR4 hB4⊢;refine bodyPost_ret (v:= .agg #[.bool true,.slice (some ⟨bk,ok+f,none⟩) (t - f) (t - f),.slice (some ⟨bv,ov+f,none⟩) (t - f) (t - f),.slice none 0 0]) (zbe Tryz.results112 rfl (zcr (zb0 hR4) Tryz.underlying71 rfl Tryz.sizeNodeP)) rfl ?_;exact ⟨_,rfl,⟨_,_,_,rfl,HQ1.out,HQ2.out,⟨rfl,none,0,rfl,Or.inl rfl⟩⟩,hB4⟩
 | false=>
  obtain ⟨bv,ov,rfl,q2⟩:=zhL HR3.out h1 (by rw [HC.out rfl,<-HNk.out];exact h2)
  rw [znu] at q2
  have hs2:=fun wx:World=>zgf wx 32 Tryz.underlying32 Tryz.onePart3 bv ov nc cc f t h1 (by rw [HNc.out,HC.out rfl,<-HNk.out];exact h2) hcc
  have lv:((cs.drop f).take (t - f)).length=t - f:=by rw [List.length_take,List.length_drop,HC.out rfl,<-HNk.out];omega
  have HQ2:Hid (RowAt W0 1 (.slice (some ⟨bv,ov+f,none⟩) (t - f) (t - f)) ((cs.drop f).take (t - f)).length (ints ((cs.drop f).take (t - f)))):=hide (by rw [lv];exact q2)
  clear lv q2;go_enter Tryz.func112,Tryz.ntmps112
  go_upto_region 1 with fail
  rw [<-hw0];clear hw0
  go_region
  go_upto_region 2 with fail
  obtain ⟨w2,hw2⟩:∃x,x=(w0.alloc (.cells #[.bool false,.slice (some ⟨bk,ok+f,none⟩) (t - f) (t - f),.slice none 0 0,.slice none 0 0] 71)).drew:=⟨_,rfl⟩
  have hb2:Below w0.heap.size w0 w2:=by rw [hw2];exact ((Below.refl _ _).alloc (Nat.le_refl _) _).drew
  have hP2:w2.heap[w0.heap.size]?=some (.cells #[.bool false,.slice (some ⟨bk,ok+f,none⟩) (t - f) (t - f),.slice none 0 0,.slice none 0 0] 71 (0,0)):=by rw [hw2];exact heap_alloc_new w0 _
  have HG2:=hide (stays HG0.out hb2);have HR2':=hide (stays HR0.out hb2);have HB2:Hid (Below w.heap.size w w2):=hide (HB0.out.trans (hb2.mono HB0.out.size));have HP2:=hide hP2;rw [<-hw2];have a0:=(za0 HG2.out 0).1;have a2:=(za0 HG2.out 3).1;have p2:=(za0 hP2 3).1;have f2:=(za0 hP2 3).2;have hlt:w.heap.size<w0.heap.size:=(Array.getElem?_eq_some_iff.1 HR0.out).1;have HLt:=hide hlt;clear hw2 hb2 hP2 c0 c1 d0 d1 HG0 HR0 hlt
  go_upto_region 5 with fail
  obtain ⟨w3,hw3⟩:∃x,x=w2.setCell ⟨w0.heap.size,3,none⟩ (.slice (some ⟨bv,ov+f,none⟩) (t - f) (t - f)):=⟨_,rfl⟩
  have hP3:w3.heap[w0.heap.size]?=some (.cells #[.bool false,.slice (some ⟨bk,ok+f,none⟩) (t - f) (t - f),.slice none 0 0,.slice (some ⟨bv,ov+f,none⟩) (t - f) (t - f)] 71 (0,0)):=by rw [hw3];exact heap_setCell_same _ _ 3 _ _ _ HP2.out
  have hR3:w3.heap[w.heap.size]?=some (.cells #[.bool false,.slice none 0 0,.slice none 0 0,.slice none 0 0] 71 (0,0)):=by rw [hw3];exact (heap_setCell_other w2 ⟨w0.heap.size,3,none⟩ _ _ (by have:=HLt.out;show w.heap.size≠w0.heap.size;omega)).trans HR2'.out
  have HB3:Hid (Below w.heap.size w w3):=hide (by rw [hw3];exact HB2.out.setCell (by have:=HLt.out;show w.heap.size<=w0.heap.size;omega) _)
  rw [<-hw3];clear hw3 a0 a2 p2 f2 HP2 HR2' HB2 HG2;have p0:=(za0 hP3 0).1;have p1:=(za0 hP3 1).1;have p2:=(za0 hP3 2).1;have p3:=(za0 hP3 3).1;have f0:=(za0 hR3 0).2;have f1:=(za0 hR3 1).2;have f2:=(za0 hR3 2).2;have f3:=(za0 hR3 3).2;have r0:=(za0 hR3 0).1;have r1:=(za0 hR3 1).1;have r2:=(za0 hR3 2).1;have r3:=(za0 hR3 3).1;have HR3':=hide hR3;clear hP3 hR3;go_wp2_with fail;have hR4:=zma HR3'.out (.bool false) (.slice (some ⟨bk,ok+f,none⟩) (t - f) (t - f)) (.slice none 0 0) (.slice (some ⟨bv,ov+f,none⟩) (t - f) (t - f));have hB4:=ziI HB3.out (Nat.le_refl _) (.bool false) (.slice (some ⟨bk,ok+f,none⟩) (t - f) (t - f)) (.slice none 0 0) (.slice (some ⟨bv,ov+f,none⟩) (t - f) (t - f));obtain ⟨w4,hw4⟩:∃x,x=((((w3.setCell ⟨w.heap.size,0,none⟩ (.bool false)).setCell ⟨w.heap.size,1,none⟩ (.slice (some ⟨bk,ok+f,none⟩) (t - f) (t - f))).setCell ⟨w.heap.size,2,none⟩ (.slice none 0 0)).setCell ⟨w.heap.size,3,none⟩ (.slice (some ⟨bv,ov+f,none⟩) (t - f) (t - f))):=⟨_,rfl⟩;rw [<-hw4] at hR4 hB4⊢;refine bodyPost_ret (v:= .agg #[.bool false,.slice (some ⟨bk,ok+f,none⟩) (t - f) (t - f),.slice none 0 0,.slice (some ⟨bv,ov+f,none⟩) (t - f) (t - f)]) (zbe Tryz.results112 rfl (zcr (zb0 hR4) Tryz.underlying71 rfl Tryz.sizeNodeP)) rfl ?_;exact ⟨_,rfl,⟨_,_,_,rfl,HQ1.out,⟨rfl,none,0,rfl,Or.inl rfl⟩,HQ2.out⟩,hB4⟩
def cntK:Nat->Nat
 | 0=>0
 | k+1=>1+4 * cntK k
theorem ziJ (R:Int->Nd×Bool) (hR:Right R):∀(k:Nat) (p:Int) (deep:Nat) (low high:ByteArray) (has:Bool) (a:Al),
  (walkS R k p deep low high has a).pages.length<=a.pages.length+cntK k/\(walkS R k p deep low high has a).pairs.length<=a.pairs.length+4 * cntK k/\(walkS R k p deep low high has a).depths.length<=a.depths.length+cntK k
 | 0,p,deep,low,high,has,a=>by rw [walkS,cntK];exact ⟨Nat.le_refl _,Nat.le_refl _,Nat.le_refl _⟩
 | k+1,p,deep,low,high,has,a=>by
  rw [walkS,cntK]
  split
  ·exact ⟨Nat.le_add_right _ _,Nat.le_add_right _ _,Nat.le_add_right _ _⟩
  ·rename_i hb
   have hok:(R p).1.ok=true:=hR p (by cases hc:(R p).2;exact absurd (Or.inl hc) hb;rfl)
   obtain ⟨c1,c2,-,-⟩:=zaP (zan hok).1;obtain ⟨n,hn⟩:∃n,n=(R p).1:=⟨_,rfl⟩;rw [<-hn] at c1 c2⊢
   cases hlf:n.lf with
   | true=>
    rw [if_pos rfl]
    obtain ⟨h1,h2,h3,h4⟩:=zdy (walkS R k) n hlf deep low high has {a with pages:=a.pages++ [p]} n.ks.length
    simp only
    rw [h2,h3,h4]
    simp only [List.length_append,List.length_singleton,List.length_map,List.length_range]
    omega
   | false=>
    rw [if_neg (by decide)]
    have key:∀i,(loopS (walkS R k) n deep low high has {a with pages:=a.pages++ [p]} i).pages.length<=a.pages.length+1+i * cntK k/\(loopS (walkS R k) n deep low high has {a with pages:=a.pages++ [p]} i).pairs.length<=a.pairs.length+4 * (i * cntK k)/\(loopS (walkS R k) n deep low high has {a with pages:=a.pages++ [p]} i).depths.length<=a.depths.length+i * cntK k:=by
     intro i
     induction i with
     | zero=>simp [loopS]
     | succ i ih=>
      rw [loopS,stepS,if_neg (by rw [hlf];decide)]
      obtain ⟨r1,r2,r3⟩:=ziJ R hR k (n.cs.getD i 0) (deep+1) (leastB n i low) (nextB n i high has) (moreB n i high has) (loopS (walkS R k) n deep low high has {a with pages:=a.pages++ [p]} i)
      rw [Nat.succ_mul]
      omega
    obtain ⟨k1,k2,k3⟩:=key n.ks.length;have hm:n.ks.length * cntK k<=4 * cntK k:=Nat.mul_le_mul_right _ c2
    omega
theorem ziK (R:Int->Nd×Bool) (hR:Right R) (k:Nat) (n:Nd) (hlf:n.lf=false) (deep:Nat) (low high:ByteArray) (has:Bool) (a:Al):∀i,
  (loopS (walkS R k) n deep low high has a i).pages.length<=a.pages.length+i * cntK k/\(loopS (walkS R k) n deep low high has a i).pairs.length<=a.pairs.length+4 * (i * cntK k)/\(loopS (walkS R k) n deep low high has a i).depths.length<=a.depths.length+i * cntK k
 | 0=>by simp [loopS]
 | i+1=>by
  have ih:=ziK R hR k n hlf deep low high has a i
  rw [loopS,stepS,if_neg (by rw [hlf];decide)]
  obtain ⟨r1,r2,r3⟩:=ziJ R hR k (n.cs.getD i 0) (deep+1) (leastB n i low) (nextB n i high has) (moreB n i high has) (loopS (walkS R k) n deep low high has a i);rw [Nat.succ_mul]
  omega
open Go.RowKit Go.Shelf
theorem ziL (cs:List Int) (hc:cs.length<=1048576) (x:Int) (v:Value) (w:World) (h:RowAt w 1 v cs.length (ints cs)):
  Calls Tryz.prog 128 #[v,.int .i64 x] w fun e w'=>e= .returned (.bool (decide (x∈cs)))/\w=w':=by
 have HR:=hide h;obtain ⟨a,cap,rfl⟩:=zaJ h;clear h;go_enter Tryz.func128,Tryz.ntmps128;go_wp2_with fail;refine (zdi cs hc x _ _ HR.out).mono ?_;rintro e w1 ⟨r,rfl,rfl,hi⟩
 have hd:decide (0<=r)=decide (x∈cs):=by
  rcases hi with ⟨j,hj,rfl,hx,-⟩ | ⟨rfl,hx⟩
  ·have hm:x∈cs:=by
    rw [<-hx,List.getD_eq_getElem?_getD,List.getElem?_eq_getElem hj];exact List.getElem_mem hj
   simp [hm]
  ·have hm:¬x∈cs:=fun hm=>by
    obtain ⟨j,hj,e⟩:=List.getElem_of_mem hm
    apply hx j hj
    rw [List.getD_eq_getElem?_getD,List.getElem?_eq_getElem hj];exact e
   simp [hm]
 go_wp2_with fail;go_ret;exact ⟨rfl,rfl⟩
open Go.RowKit
def Typ (W:World) (j T:Nat):Prop:=∃cur fz,W.heap[j]?=some (.cells cur T fz)
theorem zcR {W:World} {B e sz n:Nat} {v:Value} {xs:List Value} (h:W.ownsRow B e sz v n xs) {j:Nat} (hj:v.ownBlock=some j):Typ W j e:=by
 rcases h.2 with ⟨rfl,-⟩ | ⟨g,cap,cur,rfl,-,hh,-⟩
 ·cases hj
 ·injection hj with hj
  subst hj;exact ⟨cur,_,hh⟩
theorem zcg {W:World} {j T T':Nat} (h:Typ W j T) (h':Typ W j T'):T=T':=by
 obtain ⟨c,f,h⟩:=h;obtain ⟨c',f',h'⟩:=h';rw [h] at h'
 cases h'
 rfl
end Go.Proofs.YtcbogiebfbbmbaaGreatDoor
