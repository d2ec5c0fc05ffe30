/-
  Facts and contracts that the law's own text rests on, by their texts' names: PagesRange.
-/
import Derived.Maps.OwnIn
import Derived.Test.YtjmgdmdleamenaaGreatDoorSr42
import Derived.Test.YtjmgdmdleamenaaGreatDoorSr32
set_option maxHeartbeats 16000000
set_option maxRecDepth 100000
namespace Go.Proofs.YtjmgdmdleamenaaGreatDoor.pagesOf
open Go.RowKit Go.Shelf
attribute [local go_sem] Oper.semAt_some
theorem pages_done (R:Int->Nd×Bool) (root:Int) {xs:List Ev} (h:∀x∈xs,x.ok=true) (hx:xs.map Ev.plain=comes R root):pagesI R root=(pagesV (xs.map Ev.vis),true)/\(seenI R root).1=xs.map Ev.vis/\(seenI R root).2=true:=by
 obtain ⟨-,h1,h2⟩:=all_done R root h hx
 exact ⟨by rw [pagesI,if_pos h2,h1],h1,h2⟩
theorem pages_stop (R:Int->Nd×Bool) (root:Int) {pre:List Ev} {x:Ev} (hx:x.ok=false) {t:List (Option Vis)} (ht:(pre++ [x]).map Ev.plain++t=comes R root):pagesI R root=([],false)/\(seenI R root).2=false:=by
 obtain ⟨-,h2⟩:=all_stop R root hx ht
 exact ⟨by rw [pagesI,if_neg (by rw [h2];decide)],h2⟩
def APs (w W:World) (vr:Value) (L:List Int):Prop:=
 (∃v,W.heap[w.heap.size+1]?=some (.cells #[v] 30 (0,0)))/\W.heap[w.heap.size+2]?=some (.cells #[.bool false] 4 (0,0))/\W.heap[w.heap.size+4]?=some (.cells #[vr] 30 (0,0))/\W.ownsRow w.heap.size 3 1 vr L.length (ints L)
def APC (w:World) (vr:Value) (k:Nat):Prop:=k=w.heap.size+1\/k=w.heap.size+2\/k=w.heap.size+4\/vr.ownBlock=some k
def API (w:World) (pre:List Ev) (C:Nat->Prop) (W:World):Prop:=(∀x∈pre,x.ok=true)/\∃vr,(∀k,APC w vr k->C k)/\(∀k,C k->w.heap.size<=k/\k<W.heap.size)/\APs w W vr (pagesV (pre.map Ev.vis))
def APX (w:World) (c:Code) (pre:List Ev) (C:Nat->Prop) (W:World):Prop:=
 c= .ret/\(∃pr x,pre=pr++ [x]/\x.ok=false)/\∃v,W.heap[w.heap.size+1]?=some (.cells #[v] 30 (0,0))/\W.heap[w.heap.size+2]?=some (.cells #[.bool false] 4 (0,0))/\W.ownsRow w.heap.size 3 1 v 0 []/\(∀k,(k=w.heap.size+1\/k=w.heap.size+2\/v.ownBlock=some k)->C k)
theorem apc_lt {w W:World} {vr:Value} {L:List Int} (h:APs w W vr L):∀k,APC w vr k->w.heap.size<=k/\k<W.heap.size:=by
 obtain ⟨⟨v,h1⟩,h2,h3,h4⟩:=h;rintro k (rfl | rfl | rfl | hk)
 ·exact ⟨by omega,(Array.getElem?_eq_some_iff.1 h1).1⟩
 ·exact ⟨by omega,(Array.getElem?_eq_some_iff.1 h2).1⟩
 ·exact ⟨by omega,(Array.getElem?_eq_some_iff.1 h3).1⟩
 ·exact h4.lt k hk
theorem aps_kept {w A B:World} {vr:Value} {L:List Int} (h:APs w A vr L) (hk:KeptC (fun k=>¬APC w vr k) A B):APs w B vr L:=by
 have hlt:=apc_lt h;obtain ⟨⟨v,h1⟩,h2,h3,h4⟩:=h
 have key:∀k,APC w vr k->B.heap[k]?=A.heap[k]?:=fun k hc=>hk.2.2.2.2 k (hlt k hc).2 (fun hn=>hn hc)
 exact ⟨⟨v,(key _ (Or.inl rfl)).trans h1⟩,(key _ (Or.inr (Or.inl rfl))).trans h2,(key _ (Or.inr (Or.inr (Or.inl rfl)))).trans h3,own_kept h4 hk (fun k e hn=>hn (Or.inr (Or.inr (Or.inr e))))⟩
theorem api_kept {w:World} (pre:List Ev) (C:Nat->Prop) (A B:World) (h:API w pre C A) (hk:KeptC (fun k=>¬C k) A B):API w pre C B:=by
 obtain ⟨h1,vr,hc,hn,h2⟩:=h
 exact ⟨h1,vr,hc,fun k h=>⟨(hn k h).1,Nat.lt_of_lt_of_le (hn k h).2 hk.2.2.2.1⟩,aps_kept h2 (keptC_mono hk (fun j _ h hx=>h (hc j hx)))⟩
theorem api_lt {w:World} (pre:List Ev) (C:Nat->Prop) (A:World) (h:API w pre C A):∀k,C k->w.heap.size<=k/\k<A.heap.size:=by
 obtain ⟨h1,vr,hc,hn,h2⟩:=h;exact hn
theorem apx_kept {w:World} (c:Code) (pre:List Ev) (C:Nat->Prop) (A B:World) (h:APX w c pre C A) (hk:KeptC (fun k=>¬C k) A B):APX w c pre C B:=by
 obtain ⟨h0,h1,v,h2,h3,h4,h5⟩:=h
 have key:∀k,(k=w.heap.size+1\/k=w.heap.size+2\/v.ownBlock=some k)->k<A.heap.size->B.heap[k]?=A.heap[k]?:=fun k hc hlt=>hk.2.2.2.2 k hlt (fun hn=>hn (h5 k hc))
 exact ⟨h0,h1,v,(key _ (Or.inl rfl) (Array.getElem?_eq_some_iff.1 h2).1).trans h2,(key _ (Or.inr (Or.inl rfl)) (Array.getElem?_eq_some_iff.1 h3).1).trans h3,own_kept h4 hk (fun k e hn=>hn (h5 k (Or.inr (Or.inr e)))),h5⟩
def apFrame (w:World) (ap al:Option Addr) (np nl cp cl:Nat) (root:Int) (gv:Nat) (x:Ev):Act:=
 ⟨#[.agg #[.slice ap np cp,.slice al nl cl],.int .i64 root,.pointer (some ⟨w.heap.size,0,none⟩),undef,.pointer (some ⟨w.heap.size+1,0,none⟩),.pointer (some ⟨w.heap.size+1+1,0,none⟩),.pointer (some ⟨w.heap.size+1+1+1+1,0,none⟩),.pointer (some ⟨gv,0,none⟩),.bool x.ok,.slice (some ⟨w.heap.size+1+1+1,0,none⟩) 0 0,.agg #[.slice ap np cp,.slice al nl cl],.int .i64 root,.func (.func 80) #[] #[.pointer (some ⟨w.heap.size+1+1+1+1+1+1,0,none⟩),.pointer (some ⟨w.heap.size+1+1+1+1+1,0,none⟩)],x.val,.bool x.ok,undef,undef,undef,undef,undef,undef,undef,undef,undef,undef,undef],[]⟩
def APAx (w:World) (ap al:Option Addr) (np nl cp cl:Nat) (root:Int) (x:Ev) (a:Act) (C:Nat->Prop) (W:World):Prop:=
 ∃gv cs,x.val= .agg cs/\C gv/\gv<W.heap.size/\W.heap[gv]?=some (.cells cs 118 (0,0))/\a=apFrame w ap al np nl cp cl root gv x
theorem apax_kept {w:World} {ap al:Option Addr} {np nl cp cl:Nat} {root:Int} (x:Ev) (a:Act) (C:Nat->Prop) (A B:World) (h:APAx w ap al np nl cp cl root x a C A) (hk:KeptC (fun k=>¬C k) A B):APAx w ap al np nl cp cl root x a C B:=by
 obtain ⟨gv,cs,h1,h2,h3,h4,h5⟩:=h
 exact ⟨gv,cs,h1,h2,Nat.lt_of_lt_of_le h3 hk.2.2.2.1,(hk.2.2.2.2 gv h3 (fun hn=>hn h2)).trans h4,h5⟩
theorem api_wide {w W:World} {pre:List Ev} {C:Nat->Prop} (h:API w pre C W) (o:Obj):API w pre (fun k=>C k\/k=W.heap.size) (W.alloc o):=by
 have h2:=api_kept pre C W (W.alloc o) h (keptC_alloc _ W o);obtain ⟨h1,vr,hc,hn,h3⟩:=h2
 have hs:w.heap.size<=W.heap.size:=by
  obtain ⟨-,vr,-,-,h4⟩:=h;have:=(apc_lt h4 (w.heap.size+1) (Or.inl rfl)).2
  omega
 refine ⟨h1,vr,fun k h=>Or.inl (hc k h),fun k h=> ?_,h3⟩
 rcases h with h | rfl
 ·exact hn k h
 ·exact ⟨hs,by simp⟩
theorem ap_stop {w W:World} {pre:List Ev} {x:Ev} {C:Nat->Prop} {v1:Value} (hok:x.ok=false) (hc1:C (w.heap.size+1)) (hc2:C (w.heap.size+2)) (h1:W.heap[w.heap.size+1]?=some (.cells #[v1] 30 (0,0))) (h2:W.heap[w.heap.size+2]?=some (.cells #[.bool false] 4 (0,0))):
  ∃C',KeptC C W (((W.setCell ⟨w.heap.size+1,0,none⟩ (.slice (some ⟨W.heap.size,0,none⟩) 0 0)).setCell ⟨w.heap.size+1+1,0,none⟩ (.bool false)).alloc (Obj.cells #[] 3))/\(∀k,C' k->C k\/W.heap.size<=k)/\
   APX w .ret (pre++ [x]) C' (((W.setCell ⟨w.heap.size+1,0,none⟩ (.slice (some ⟨W.heap.size,0,none⟩) 0 0)).setCell ⟨w.heap.size+1+1,0,none⟩ (.bool false)).alloc (Obj.cells #[] 3)):=by
 have g1:w.heap.size+1<W.heap.size:=(Array.getElem?_eq_some_iff.1 h1).1;have g2:w.heap.size+2<W.heap.size:=(Array.getElem?_eq_some_iff.1 h2).1;obtain ⟨X,hX⟩:∃X,X=(W.setCell ⟨w.heap.size+1,0,none⟩ (.slice (some ⟨W.heap.size,0,none⟩) 0 0)).setCell ⟨w.heap.size+1+1,0,none⟩ (.bool false):=⟨_,rfl⟩;rw [<-hX]
 have hs:X.heap.size=W.heap.size:=by rw [hX];simp
 have k1:KeptC C W X:=by
  rw [hX]
  exact keptC_trans (keptC_setCell W 0 _ hc1) (keptC_setCell (C:=C) _ 0 _ hc2) (fun j h=>Or.inl h)
 have e1:X.heap[w.heap.size+1]?=some (.cells #[.slice (some ⟨W.heap.size,0,none⟩) 0 0] 30 (0,0)):=by
  rw [hX]
  exact (Below.heap_setCell _ _ _ _ (by simp)).trans (heap_setCell_same _ _ 0 _ _ _ h1)
 have e2:X.heap[w.heap.size+2]?=some (.cells #[.bool false] 4 (0,0)):=by
  rw [hX]
  exact heap_setCell_same _ _ 0 _ _ _ ((Below.heap_setCell _ _ _ _ (by simp)).trans h2)
 refine ⟨fun k=>C k\/k=W.heap.size,keptC_trans k1 (keptC_alloc (fun _=>False) X _) (fun j h=>h.elim),fun k h=>by rcases h with h | h;exact Or.inl h;exact Or.inr (by omega),rfl,⟨pre,x,rfl,hok⟩,_,?_,?_,⟨rfl,Or.inr ⟨W.heap.size,0,#[],rfl,by omega,?_,Nat.le_refl _,Nat.zero_le _,rfl,rfl⟩⟩,?_⟩
 ·exact (Below.heap_alloc X _ _ (by omega)).trans e1
 ·exact (Below.heap_alloc X _ _ (by omega)).trans e2
 ·have:=heap_alloc_new X (Obj.cells #[] 3)
  rw [hs] at this;exact this
 ·rintro k (rfl | rfl | e)
  ·exact Or.inl hc1
  ·exact Or.inl hc2
  ·injection e with e
   exact Or.inr (by have e:W.heap.size=k:=e;omega)
def APL (w W:World) (C:Nat->Prop) (gv:Nat) (cs:Array Value) (L:List Int) (wr:World):Prop:=
 KeptC C W wr/\wr.heap[gv]?=some (.cells cs 118 (0,0))/\∃(C1:Nat->Prop) (vr:Value),(∀k,C1 k->C k\/W.heap.size<=k)/\(∀k,APC w vr k->C1 k)/\(∀k,C1 k->w.heap.size<=k/\k<wr.heap.size)/\APs w wr vr L
theorem ap_push {w W wd wB:World} {C:Nat->Prop} {gv b d lr:Nat} {cs:Array Value} {L:List Int} {vr:Value} {xk:Int} {o:Obj} {C1:Nat->Prop} {v1:Value} (hlr:lr=L.length) (hk:KeptC C W wd) (hgv:wd.heap[gv]?=some (.cells cs 118 (0,0))) (hsub:∀k,C1 k->C k\/W.heap.size<=k) (hap:∀k,APC w vr k->C1 k) (hbd:∀k,C1 k->w.heap.size<=k/\k<wd.heap.size)
  (h1:wd.heap[w.heap.size+1]?=some (.cells #[v1] 30 (0,0))) (h2:wd.heap[w.heap.size+2]?=some (.cells #[.bool false] 4 (0,0))) (h4:wd.heap[w.heap.size+4]?=some (.cells #[vr] 30 (0,0))) (h5:wd.ownsRow w.heap.size 3 1 vr L.length (ints L))
  (hgB:(wd.alloc o).grownBy wB vr.ownBlock) (hownB:wB.ownsRow w.heap.size 3 1 (.slice (some ⟨b,0,none⟩) (lr+1) d) (lr+1) (ints L++ [.int .i64 xk])) (hbB:vr.ownBlock=some b\/b=wd.heap.size+1):
  (KeptC C W wB/\wB.heap[gv]?=some (.cells cs 118 (0,0))/\wB.heap[w.heap.size+4]?=some (.cells #[vr] 30 (0,0)))/\
  APL w W C gv cs (L++ [xk]) (wB.setCell ⟨w.heap.size+4,0,none⟩ (.slice (some ⟨b,0,none⟩) (lr+1) d)):=by
 have hb1:Below wd.heap.size wd (wd.alloc o):=(Below.refl _ _).alloc (Nat.le_refl _) _
 have K1:KeptC (fun k=>vr.ownBlock=some k) wd wB:=⟨hgB.os.trans hb1.os,hgB.tape.trans hb1.tape,hgB.output.trans hb1.output,Nat.le_trans hb1.size hgB.size,fun j hj hn=>(hgB.block j (Nat.lt_of_lt_of_le hj hb1.size) (fun e=>hn e.symm)).trans (hb1.block j hj)⟩
 have far:∀{g:Nat} {cc:Array Value} {T:Nat},wd.heap[g]?=some (.cells cc T (0,0))->(3:Nat)≠T->wB.heap[g]?=some (.cells cc T (0,0)):=fun {g cc T} h hne=>(K1.2.2.2.2 g (Array.getElem?_eq_some_iff.1 h).1 (fun e=>hne (typ_one (own_typ h5 e) ⟨_,_,h⟩))).trans h
 have e1:=far h1 (by decide)
 have e2:=far h2 (by decide)
 have e4:=far h4 (by decide)
 have eg:=far hgv (by decide)
 have k1:KeptC C W wB:=keptC_trans hk K1 (fun j e=>hsub j (hap j (Or.inr (Or.inr (Or.inr e)))))
 have hne:gv≠w.heap.size+4:=fun e=>by
  rw [e,h4] at hgv
  injection hgv with hgv
  injection hgv with _ ht _
  exact absurd ht (by decide)
 refine ⟨⟨k1,eg,e4⟩,?_⟩;obtain ⟨X,hX⟩:∃X,X=wB.setCell ⟨w.heap.size+4,0,none⟩ (.slice (some ⟨b,0,none⟩) (lr+1) d):=⟨_,rfl⟩;rw [<-hX]
 have k2:KeptC (fun k=>k=w.heap.size+4) wB X:=by rw [hX];exact keptC_setCell (C:=fun k=>k=w.heap.size+4) wB 0 _ rfl
 have hs:X.heap.size=wB.heap.size:=by rw [hX];simp
 have f4:X.heap[w.heap.size+4]?=some (.cells #[.slice (some ⟨b,0,none⟩) (lr+1) d] 30 (0,0)):=by rw [hX];exact heap_setCell_same _ _ 0 _ _ _ e4
 have fx:∀{g:Nat} {ob:Obj},wB.heap[g]?=some ob->g≠w.heap.size+4->X.heap[g]?=some ob:=fun h hn=>(k2.2.2.2.2 _ (Array.getElem?_eq_some_iff.1 h).1 hn).trans h
 have hbl:=hownB.lt b rfl
 refine ⟨keptC_trans k1 k2 (fun j e=>by rw [e];exact hsub _ (hap _ (Or.inr (Or.inr (Or.inl rfl))))),fx eg hne,fun k=>C1 k\/k=b,.slice (some ⟨b,0,none⟩) (lr+1) d,fun k h=> ?_,fun k h=> ?_,fun k h=> ?_,⟨v1,fx e1 (by omega)⟩,fx e2 (by omega),f4,?_⟩
 ·rcases h with h | rfl
  ·exact hsub k h
  ·rcases hbB with hbB | hbB
   ·exact hsub k (hap k (Or.inr (Or.inr (Or.inr hbB))))
   ·exact Or.inr (by have:=hk.2.2.2.1;omega)
 ·rcases h with h | h | h | h
  ·exact Or.inl (hap k (Or.inl h))
  ·exact Or.inl (hap k (Or.inr (Or.inl h)))
  ·exact Or.inl (hap k (Or.inr (Or.inr (Or.inl h))))
  ·injection h with h
   exact Or.inr (by have h:b=k:=h;omega)
 ·rcases h with h | rfl
  ·have:=hbd k h
   have h3:=K1.2.2.2.1
   exact ⟨this.1,by omega⟩
  ·exact ⟨hbl.1,by omega⟩
 ·have hl:(L++ [xk]).length=lr+1:=by rw [hlr];simp
  have hp:ints (L++ [xk])=ints L++ [.int .i64 xk]:=by simp [ints]
  rw [hl,hp]
  refine own_kept hownB k2 (fun j e h=> ?_)
  exact absurd (typ_one (own_typ hownB e) (by rw [h];exact ⟨_,_,e4⟩)) (by decide)
theorem implPagesOf_any (ps:List ByteArray) (ls:List (Int×ByteArray)) (hp:ps.length<=1048576) (hl:ls.length<=1048576) (hps:∀s∈ps,s.size<=1048576) (hls:∀p∈ls,p.2.size<=1048576) (ap al:Option Addr) (np nl cp cl:Nat) (root:Int) (w:World) (hT:SumTab w) (hd:DiskAt w (.agg #[.slice ap np cp,.slice al nl cl]) ps ls):
  Calls Tryz.prog 53 #[.agg #[.slice ap np cp,.slice al nl cl],.int .i64 root] w fun e w'=>pgsO (pagesI (fun q=>rdN (readD ps ls q)) root) w w' e:=by
 have hmf:∀(fn:Fn) (first cap:Array Value) (w:World),(Instr.makeFunc fn first cap).run Tryz.prog w= .ok (.func fn first cap) w:=fun _ _ _ _=>rfl
 obtain ⟨Wc,hWc⟩:∃Wc,Wc=((((((w.alloc (.cells #[.slice ap np cp,.slice al nl cl] 41 (0,0))).alloc (.cells #[.slice none 0 0] 30 (0,0))).alloc (.cells #[.bool false] 4 (0,0))).alloc (.cells #[] 3 (0,0))).alloc (.cells #[.slice (some ⟨w.heap.size+1+1+1,0,none⟩) 0 0] 30 (0,0))).alloc (.cells #[.slice ap np cp,.slice al nl cl] 41 (0,0))).alloc (.cells #[.int .i64 root] 3 (0,0)):=⟨_,rfl⟩
 have hlow:Below w.heap.size w Wc:=by
  rw [hWc]
  refine Below.alloc (Below.alloc (Below.alloc (Below.alloc (Below.alloc (Below.alloc (Below.alloc (Below.refl _ _) ?_ _) ?_ _) ?_ _) ?_ _) ?_ _) ?_ _) ?_ _ <;> simp <;> omega
 have b1:Wc.heap[w.heap.size+1]?=some (.cells #[.slice none 0 0] 30 (0,0)):=by rw [hWc];simp only [alloc_get,World.size_alloc];simp
 have b2:Wc.heap[w.heap.size+2]?=some (.cells #[.bool false] 4 (0,0)):=by rw [hWc];simp only [alloc_get,World.size_alloc];simp
 have b3:Wc.heap[w.heap.size+3]?=some (.cells #[] 3 (0,0)):=by rw [hWc];simp only [alloc_get,World.size_alloc];simp
 have b4:Wc.heap[w.heap.size+4]?=some (.cells #[.slice (some ⟨w.heap.size+3,0,none⟩) 0 0] 30 (0,0)):=by rw [hWc];simp only [alloc_get,World.size_alloc];simp
 have b5:Wc.heap[w.heap.size+5]?=some (.cells #[.slice ap np cp,.slice al nl cl] 41 (0,0)):=by rw [hWc];simp only [alloc_get,World.size_alloc];simp
 have b6:Wc.heap[w.heap.size+6]?=some (.cells #[.int .i64 root] 3 (0,0)):=by rw [hWc];simp only [alloc_get,World.size_alloc];simp
 have hsz:Wc.heap.size=w.heap.size+7:=by rw [hWc];simp
 have hseq:=fun n=>nodesOf_seq n root (w.heap.size+6) (w.heap.size+5) hp hl hps hls hT hd hlow b6 b5
 have hP0:APs w Wc (.slice (some ⟨w.heap.size+3,0,none⟩) 0 0) []:=⟨⟨_,b1⟩,b2,b4,⟨rfl,Or.inr ⟨w.heap.size+3,0,#[],rfl,by omega,b3,Nat.le_refl _,Nat.zero_le _,rfl,rfl⟩⟩⟩
 have hI0:API w [] (APC w (.slice (some ⟨w.heap.size+3,0,none⟩) 0 0)) Wc:=⟨fun x h=>(by cases h),_,fun _ h=>h,apc_lt hP0,hP0⟩
 refine (callsIn_wide (n:=3)).1 ?_;refine callsIn_of_wp_marks Tryz.func53 rfl trivial ?_ rfl
 simp only [Tryz.ntmps53,List.size_toArray,List.length_cons,List.length_nil,Nat.reduceAdd,Nat.reduceSub,Array.replicate_succ,Array.replicate_zero,List.push_toArray,List.append_toArray,List.nil_append,List.cons_append]
 gi_wp2_with (refine ⟨trivial,?_⟩;gi_at_call 51;refine (callsIn_wide.2 (nodesOf_any (.slice ap np cp) (.slice al nl cl) root _)).mono ?_;rintro e w1 ⟨rfl,rfl⟩)
 rw [<-hWc]
 refine wpIn_rangeFunc_sep2 rfl rfl (gf:=80) (lb:= #[.pointer (some ⟨w.heap.size+6,0,none⟩),.pointer (some ⟨w.heap.size+5,0,none⟩)]) rfl trivial (enters_of Tryz.func80 (by kernel_rfl) rfl) (hseq _) hlow.size (fun k h=>by rcases h with h | h <;> omega) (fun x C C' A B h1 h2 h3=>lies_kept h1 h2 h3) (fun _=>rfl) (API w) (APX w) api_kept apx_kept api_lt (APC w (.slice (some ⟨w.heap.size+3,0,none⟩) 0 0)) hI0 (fun k h e=> ?apart) (APAx w ap al np nl cp cl root) apax_kept ?assign ?body ?done ?stop
 case apart=>
  rcases h with h | h | h | h
  ·omega
  ·omega
  ·omega
  ·injection h with h
   have h:w.heap.size+3=k:=h
   omega
 case done=>
  rintro D xs C W hD hnD0 hS ⟨hok,vr,hsub,hin,⟨v1,h1⟩,h2,h4,h5⟩ hlowW hdef
  have hnD:¬APC w vr D:=fun h=>hnD0 (hsub D h)
  clear hnD0 hsub hin;have HA:=hide (pages_done _ root hok hS).1;obtain ⟨xr,yr,rfl⟩:=own_slice h5;obtain ⟨lr,hlr⟩:∃lr,lr=(pagesV (xs.map Ev.vis)).length:=⟨_,rfl⟩;have HLr:=hide hlr;rw [<-hlr] at h4 h5 hnD;have c4:W.cell? ⟨w.heap.size+1+1+1+1,0,none⟩=some (.slice xr lr yr):=(cell_at h4 0).1;have c1:W.cell? ⟨w.heap.size+1,0,none⟩=some v1:=(cell_at h1 0).1;have c2:W.cell? ⟨w.heap.size+1+1,0,none⟩=some (.bool false):=(cell_at h2 0).1;have f1:W.frozen? ⟨w.heap.size+1,0,none⟩=false:=(cell_at h1 0).2;have f2:W.frozen? ⟨w.heap.size+1+1,0,none⟩=false:=(cell_at h2 0).2;have H1:=hide h1;have H2:=hide h2;have H5:=hide h5;have hll:=pages_len ps ls root;rw [(pages_done _ root hok hS).1] at hll
  have HSo:=hide (sort_own (pagesV (xs.map Ev.vis)) (Nat.le_trans hll (by decide)) w.heap.size (.slice xr lr yr) W (by rw [hlr] at h5⊢;exact h5))
  have HLo:=hide (hlow.trans hlowW);have HDe:=hide hdef;have H4:=hide h4;clear h1 h2 h4 h5 hll c1 c2 f1 f2 hlowW hdef hlr b1 b2 b3 b4 b5 b6 hseq hI0 hP0 hS hok hp hl hps hls hT hd hlow
  gi_wp2_with (refine ⟨trivial,?_⟩;gi_at_call 54;refine (callsIn_wide.2 HSo.out).mono ?_)
  rintro e Ws ⟨rfl,mm,hpm,hsm,hown,hkS⟩
  have far:∀{g:Nat} {cc:Array Value} {T:Nat},W.heap[g]?=some (.cells cc T (0,0))->(3:Nat)≠T->Ws.heap[g]?=some (.cells cc T (0,0)):=fun {g cc T} h hne=>(hkS.2.2.2.2 g (Array.getElem?_eq_some_iff.1 h).1 (fun e=>hne (typ_one (own_typ H5.out e) ⟨_,_,h⟩))).trans h
  have S1:=hide (far H1.out (by decide))
  have S2:=hide (far H2.out (by decide))
  have S4:=far H4.out (by decide)
  have S5:=hide hown
  have SDe:Hid (Ws.heap[D]?=some (.deferred (some []))):=hide ((hkS.2.2.2.2 D (Array.getElem?_eq_some_iff.1 HDe.out).1 (fun e=>hnD (Or.inr (Or.inr (Or.inr e))))).trans HDe.out)
  have SLo:=hide (HLo.out.trans (keptC_below hkS (fun k h=>(H5.out.lt k h).1) HLo.out.size))
  have c4:Ws.cell? ⟨w.heap.size+1+1+1+1,0,none⟩=some (.slice xr lr yr):=(cell_at S4 0).1;have c1:Ws.cell? ⟨w.heap.size+1,0,none⟩=some v1:=(cell_at S1.out 0).1;have c2:Ws.cell? ⟨w.heap.size+1+1,0,none⟩=some (.bool false):=(cell_at S2.out 0).1;have f1:Ws.frozen? ⟨w.heap.size+1,0,none⟩=false:=(cell_at S1.out 0).2;have f2:Ws.frozen? ⟨w.heap.size+1+1,0,none⟩=false:=(cell_at S2.out 0).2;have HPm:=hide hpm;have HSm:=hide hsm;clear far S4 hown hkS hpm hsm
  gi_wp2_with fail
  obtain ⟨W3,hW3⟩:∃W3,W3=(Ws.setCell ⟨w.heap.size+1,0,none⟩ (.slice xr lr yr)).setCell ⟨w.heap.size+1+1,0,none⟩ (.bool true):=⟨_,rfl⟩;rw [<-hW3]
  have hn1:D≠w.heap.size+1:=fun e=>hnD (Or.inl e)
  have hn2:D≠w.heap.size+1+1:=fun e=>hnD (Or.inr (Or.inl e))
  have k3:KeptC (fun k=>k=w.heap.size+1\/k=w.heap.size+1+1) Ws W3:=by
   rw [hW3]
   exact keptC_trans (keptC_setCell Ws 0 _ (Or.inl rfl)) (keptC_setCell (C:=fun k=>k=w.heap.size+1\/k=w.heap.size+1+1) _ 0 _ (Or.inr rfl)) (fun j h=>Or.inl h)
  have hD3:W3.heap[D]?=some (.deferred (some [])):=(k3.2.2.2.2 D (Array.getElem?_eq_some_iff.1 SDe.out).1 (fun e=>by rcases e with e | e;exact hn1 e;exact hn2 e)).trans SDe.out
  have g1:W3.heap[w.heap.size+1]?=some (.cells #[.slice xr lr yr] 30 (0,0)):=by
   rw [hW3]
   exact (Below.heap_setCell _ _ _ _ (by simp)).trans (heap_setCell_same _ _ 0 _ _ _ S1.out)
  have g2:W3.heap[w.heap.size+1+1]?=some (.cells #[.bool true] 4 (0,0)):=by
   rw [hW3]
   exact heap_setCell_same _ _ 0 _ _ _ ((Below.heap_setCell _ _ _ _ (by simp)).trans S2.out)
  refine ⟨by simp,.inl ⟨_,_,rfl,run_takeDeferred hD3,?_⟩⟩
  obtain ⟨W4,hW4⟩:∃W4,W4=W3.putObj D (.deferred none):=⟨_,rfl⟩;rw [<-hW4]
  have k4:KeptC (fun k=>k=D) W3 W4:=by rw [hW4];exact keptC_putObj W3 _ rfl
  have e1:=(cell_at ((k4.2.2.2.2 _ (Array.getElem?_eq_some_iff.1 g1).1 (fun e=>hn1 e.symm)).trans g1) 0).1
  have e2:=(cell_at ((k4.2.2.2.2 _ (Array.getElem?_eq_some_iff.1 g2).1 (fun e=>hn2 e.symm)).trans g2) 0).1
  refine ⟨.tuple #[.slice xr lr yr,.bool true],?_,?_⟩
  ·simp [results,e1,e2,go_sem]
  ·rw [HA.out]
   refine ⟨_,mm,rfl,?_,HPm.out,HSm.out,?_⟩
   ·have:=own_kept (own_kept S5.out k3 (fun j e hx=> ?_)) k4 (fun j e hx=>hnD (by rw [<-hx];exact Or.inr (Or.inr (Or.inr e))))
    ·exact this
    ·rcases hx with hx | hx
     ·subst hx;exact absurd (typ_one (own_typ S5.out e) ⟨_,_,S1.out⟩) (by decide)
     ·subst hx;exact absurd (typ_one (own_typ S5.out e) ⟨_,_,S2.out⟩) (by decide)
   ·have z1:w.heap.size<=Ws.heap.size:=SLo.out.size
    exact (SLo.out.trans (keptC_below k3 (fun k h=>by rcases h with h | h <;> omega) z1)).trans (keptC_below k4 (fun k h=>by rw [h];omega) (Nat.le_trans z1 k3.2.2.2.1))
 case stop=>
  rintro D c pre C W hD hnD ⟨t,ht⟩ ⟨rfl,⟨pr,x,rfl,hx⟩,v,h1,h2,h5,hC⟩ hlowW hdef;have HA:=hide (pages_stop _ root hx ht).1;obtain ⟨xr,yr,rfl⟩:=own_slice h5
  have hn1:D≠w.heap.size+1:=fun e=>hnD (hC D (Or.inl e))
  have hn2:D≠w.heap.size+1+1:=fun e=>hnD (hC D (Or.inr (Or.inl e)))
  have hn5:∀j,(Value.slice xr 0 yr).ownBlock=some j->j≠D:=fun j e h=>hnD (by rw [<-h];exact hC j (Or.inr (Or.inr e)))
  have H1:=hide h1;have H2:=hide h2;have H5:=hide h5;have HLo:=hide (hlow.trans hlowW);have HDe:=hide hdef;clear h1 h2 h5 hlowW hdef b1 b2 b3 b4 b5 b6 hseq hI0 hP0 ht hx hC hp hl hps hls hT hd hlow
  gi_wp2_with fail
  refine ⟨by simp,.inl ⟨_,_,rfl,run_takeDeferred HDe.out,?_⟩⟩
  obtain ⟨W4,hW4⟩:∃W4,W4=W.putObj D (.deferred none):=⟨_,rfl⟩;rw [<-hW4]
  have k4:KeptC (fun k=>k=D) W W4:=by rw [hW4];exact keptC_putObj W _ rfl
  have e1:=(cell_at ((k4.2.2.2.2 _ (Array.getElem?_eq_some_iff.1 H1.out).1 (fun e=>hn1 e.symm)).trans H1.out) 0).1
  have e2:W4.cell? ⟨w.heap.size+1+1,0,none⟩=_:=(cell_at ((k4.2.2.2.2 _ (Array.getElem?_eq_some_iff.1 H2.out).1 (fun e=>hn2 e.symm)).trans H2.out) 0).1
  refine ⟨.tuple #[.slice xr 0 yr,.bool false],?_,?_⟩
  ·simp [results,e1,e2,go_sem]
  ·rw [HA.out]
   exact ⟨_,[],rfl,own_kept H5.out k4 (fun j e h=>hn5 j e h),List.Perm.refl _,List.Pairwise.nil,HLo.out.trans (keptC_below k4 (fun k h=>by rw [h];have:=hsz;omega) HLo.out.size)⟩
 case assign=>
  intro l m pre x C W K hI hLi hK
  have hw2:=fun o=>api_wide hI o
  have HI2:=hide hw2;have HK:=hide hK
  have HLt:Hid (∀o,KeptC C W (W.alloc o)):=hide (fun o=>keptC_alloc C W o)
  clear b1 b2 b3 b4 b5 b6 hseq hI0 hP0 hw2 hK hI hp hl hps hls hT hd hlow hsz hWc
  simp only [encs]
  cases hok:x.ok with
  | false=>
   have hv:=hLi.1 hok;clear hLi;have HV:=hide hv;have HOk:=hide hok;rw [hv,badVal];clear hv hok
   gi_wp2_with fail
   refine HK.out _ (fun k=>C k\/k=W.heap.size) _ (HLt.out _) (fun k h=>by rcases h with h | h;exact Or.inl h;exact Or.inr (by omega)) (HI2.out _) ⟨W.heap.size,_,by rw [HV.out,badVal],Or.inr rfl,by simp,heap_alloc_new W _,?_⟩
   rw [apFrame,HV.out,HOk.out,badVal]
  | true=>
   obtain ⟨vk,vv,vc,vw,hv,hno,-,hwy⟩:=hLi.2 hok;obtain ⟨a1,c1,a2,c2,a3,c3,e⟩:=nodeOwn_cells hno;obtain ⟨-,rfl,rfl,rfl⟩:=agg4 e
   obtain ⟨a4,c4,rfl⟩:∃a4 c4,vw= .slice a4 x.vis.way.length c4:=by obtain ⟨X,-,h,-⟩:=hwy;exact own_slice h
   clear hLi hno hwy e;have HV:=hide hv;have HOk:=hide hok;rw [hv];clear hv hok
   gi_wp2_with fail
   refine HK.out _ (fun k=>C k\/k=W.heap.size) _ (HLt.out _) (fun k h=>by rcases h with h | h;exact Or.inl h;exact Or.inr (by omega)) (HI2.out _) ⟨W.heap.size,_,HV.out,Or.inr rfl,by simp,heap_alloc_new W _,?_⟩
   rw [apFrame,HV.out,HOk.out]
 case body=>
  intro l m pre x a' C W hSp hI hAx hLi;obtain ⟨gv,cs,hv,hCg,hgl,hgv,rfl⟩:=hAx;obtain ⟨hpre,vr,hc,hn,⟨v1,h1⟩,h2,h4,h5⟩:=hI;clear b1 b2 b3 b4 b5 b6 hseq hI0 hP0 hlow hsz hWc
  cases hok:x.ok with
  | false=>
   have hvb:=hLi.1 hok;have q1:W.cell? ⟨w.heap.size+1,0,none⟩=some v1:=(cell_at h1 0).1;have q2:W.cell? ⟨w.heap.size+1+1,0,none⟩=some (.bool false):=(cell_at h2 0).1;have z1:W.frozen? ⟨w.heap.size+1,0,none⟩=false:=(cell_at h1 0).2;have z2:W.frozen? ⟨w.heap.size+1+1,0,none⟩=false:=(cell_at h2 0).2;have g1:w.heap.size+1<W.heap.size:=(Array.getElem?_eq_some_iff.1 h1).1;have g2:w.heap.size+2<W.heap.size:=(Array.getElem?_eq_some_iff.1 h2).1;have HS:=hide (⟨hpre,hc,hn,h1,h2,hSp,hok,hvb⟩:_/\_/\_/\_/\_/\_/\_/\_);rw [apFrame,hok];clear hpre hc hn h1 h2 h4 h5 hSp hLi hvb hv hgv hgl hCg hp hl hps hls hT hd hok
   gi_wp2_with fail
   obtain ⟨-,hc,-,h1,h2,-,hok,-⟩:=HS.out;exact ap_stop hok (hc _ (Or.inl rfl)) (hc _ (Or.inr (Or.inl rfl))) h1 h2
  | true=>
   obtain ⟨vk,vv,vc,vw,hv2,hno,-,-⟩:=hLi.2 hok;obtain ⟨a1,c1,a2,c2,a3,c3,e⟩:=nodeOwn_cells hno;obtain ⟨-,rfl,rfl,rfl⟩:=agg4 e;obtain ⟨t,ht⟩:=hSp;rw [hv] at hv2
   injection hv2 with hv2
   subst hv2
   have hcnt:=comes_cnt _ (fun p hp=>(ok_cnt (rdN_right2 ps ls p hp)).2.2) root ht
   obtain ⟨L0,hL0⟩:∃L0,L0=pagesV (pre.map Ev.vis):=⟨_,rfl⟩
   have hpl:L0.length<=22001:=by
    rw [hL0,pagesV,List.length_map,List.length_map];rw [List.length_append] at hcnt
    omega
   have HEnd:Hid (pagesV ((pre++ [x]).map Ev.vis)=L0++ [x.vis.page]):=hide (by rw [hL0,List.map_append];simp [pagesV])
   have HPre:Hid (∀y∈pre++ [x],y.ok=true):=hide (fun y hy=>by rcases List.mem_append.1 hy with h | h;exact hpre y h;rw [List.mem_singleton.1 h];exact hok)
   rw [<-hL0] at h5;obtain ⟨xr,yr,rfl⟩:=own_slice h5;obtain ⟨lr,hlr⟩:∃lr,lr=L0.length:=⟨_,rfl⟩;rw [<-hlr] at h4 hc hpl
   have h5':W.ownsRow w.heap.size 3 1 (.slice xr lr yr) L0.length (ints L0):=by rw [hlr];exact h5
   have h5l:W.ownsRow w.heap.size 3 1 (.slice xr lr yr) lr (ints L0):=by rw [hlr];exact h5
   have q0:W.cell? ⟨gv,0,none⟩=some (.int .i64 x.vis.page):=(cell_at hgv 0).1;have q4:W.cell? ⟨w.heap.size+1+1+1+1,0,none⟩=some (.slice xr lr yr):=(cell_at h4 0).1;obtain ⟨pg,hpg⟩:∃pg,pg=x.vis.page:=⟨_,rfl⟩;have HAll:=hide (⟨hlr,hgv,hc,hn,h1,h2,h4,h5'⟩:_/\_/\_/\_/\_/\_/\_/\_);have HOl:=hide h5l
   have HSz:Hid (w.heap.size<=W.heap.size):=hide (by have:=(Array.getElem?_eq_some_iff.1 h1).1;omega)
   rw [<-hpg] at HEnd q0;have HPg:=hide hpg;obtain ⟨i0,hi,hz0,hz1,hz2⟩:=info_parts Tryz.infoIntR;rw [apFrame,hok];clear hno hgv hv hCg hgl hpre hc hn h1 h2 h4 h5 h5' h5l hLi ht hcnt e hL0 hok hp hl hps hls hT hd hlr hpg
   gi_wp2_with (refine wpListIn_append_own_at _ rfl _ _ 30 rfl w.heap.size 3 i0 (.int .i64 0) 1 8 Tryz.underlying30 hi hz0 hz1 hz2 rfl (by decide) _ lr (ints L0) rfl (HOl.out.alloc _) ⟨W.heap.size,0,none⟩ 1 1 [.int .i64 pg] rfl rfl (one_newW W _ rfl _ _) ?c1 ?c2 ?c3 ?c4 ?_)
   ·intro u hu;simp at hu;subst hu;rfl
   ·unfold maxLen;omega
   ·omega
   ·have:=HSz.out;simp;omega
   intro v6 wB hownB hgB hnil hatB;clear hnil;obtain ⟨x6,d6,rfl⟩:=own_slice hownB
   obtain ⟨b6,rfl⟩:∃b,x6=some ⟨b,0,none⟩:=by
    rcases hownB.2 with ⟨e,h0⟩ | ⟨g,cc,cur,e,_⟩
    ·omega
    ·injection e with e1;exact ⟨g,e1⟩
   have hb6:(Value.slice xr lr yr).ownBlock=some b6\/b6=W.heap.size+1:=by
    rcases hatB with h | h
    ·exact Or.inl h.symm
    ·exact Or.inr (by have:=Option.some.inj h;simpa using this)
   obtain ⟨⟨kB,gB,fB⟩,hNew⟩:=ap_push (C1:=C) HAll.out.1 (keptC_refl C W) HAll.out.2.1 (fun k h=>Or.inl h) HAll.out.2.2.1 HAll.out.2.2.2.1 HAll.out.2.2.2.2.1 HAll.out.2.2.2.2.2.1 HAll.out.2.2.2.2.2.2.1 HAll.out.2.2.2.2.2.2.2 hgB hownB hb6
   have HNew:=hide hNew;have cB:wB.cell? ⟨w.heap.size+1+1+1+1,0,none⟩=some (.slice xr lr yr):=(cell_at fB 0).1;have zB:wB.frozen? ⟨w.heap.size+1+1+1+1,0,none⟩=false:=(cell_at fB 0).2;clear hownB hgB hatB hb6 kB gB fB hNew
   gi_wp2_with fail
   obtain ⟨hk,-,C1,vr,hsub,hap,hbd,haps⟩:=HNew.out;refine ⟨C1,hk,hsub,HPre.out,vr,hap,hbd,?_⟩;rw [HEnd.out];exact haps
end Go.Proofs.YtjmgdmdleamenaaGreatDoor.pagesOf
