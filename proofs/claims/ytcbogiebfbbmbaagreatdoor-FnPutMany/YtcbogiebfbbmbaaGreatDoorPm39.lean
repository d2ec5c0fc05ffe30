/-
  Facts and contracts that the law's own text rests on, by their texts' names: PutAnew.
-/
import Derived.Stop.RegionWithIn
import Derived.Test.YtcbogiebfbbmbaaGreatDoorPm31
import Derived.Test.YtcbogiebfbbmbaaGreatDoorPm34
import Derived.Test.YtcbogiebfbbmbaaGreatDoorPm37
import Derived.Test.YtcbogiebfbbmbaaGreatDoorPm11
import Derived.Test.YtcbogiebfbbmbaaGreatDoorPm38
import Derived.Test.YtcbogiebfbbmbaaGreatDoorPm7
set_option maxHeartbeats 16000000
set_option maxRecDepth 100000
namespace Go.Proofs.YtcbogiebfbbmbaaGreatDoor
open Go.RowKit Go.Shelf
attribute [local go_sem] Oper.semAt_some
theorem zmr {lf:Bool} {ks vs:List ByteArray} {cs:List Int} (hv:lf=true->vs.length=ks.length/\cs= []) (hc:lf=false->cs.length=ks.length/\vs= []):halfParts lf ks (cutV lf vs 0 ks.length) (cutC lf cs 0 ks.length)=halfParts lf ks vs cs:=by
 unfold cutV cutC
 cases lf with
 | true=>
  obtain ⟨h1,h2⟩:=hv rfl;rw [h2,if_pos rfl,if_pos rfl,<-h1]
  simp
 | false=>
  obtain ⟨h1,h2⟩:=hc rfl
  rw [h2,if_neg (by decide),if_neg (by decide),<-h1]
  simp
theorem zaV {w:World} {v:Value} {k:Wk} (h:WorkAt w v k):∃a1 c1 a2 c2 a3 c3 a4 c4 a5 c5,v= .agg #[.slice a1 k.ps.length c1,.slice a2 k.ls.length c2,.int .i64 k.next,.slice a3 k.us.length c3,.slice a4 k.gs.length c4,.slice a5 k.fs.length c5]:=by
 obtain ⟨vp,vl,vu,vg,vf,rfl,h1,h2,h3,h4,-⟩:=h;obtain ⟨up,ul,e,h5,h6⟩:=h1
 injection e with e
 have e:=congrArg Array.toList e
 simp at e
 obtain ⟨rfl,rfl⟩:=e;obtain ⟨ap,cp,rfl⟩:=zbm h5;obtain ⟨al,cl,rfl⟩:=zbm h6;obtain ⟨au,cu,rfl⟩:=zbm h2;obtain ⟨ag,cg,rfl⟩:=zbm h3;obtain ⟨af,cf,rfl⟩:=zbm h4;exact ⟨_,_,_,_,_,_,_,_,_,_,rfl⟩
def anB (s k:Nat):Prop:=k=s+2\/k=s+3\/k=s+4\/k=s+5\/k=s+7
def AnI (w:World) (v0:Value) (k0:Wk) (lf:Bool) (R:Wk×List ByteArray×List Int×Bool) (PP:List Part) (pre:List HPt) (C:Nat->Prop) (W:World):Prop:=
 (∀k,anB w.heap.size k->C k)/\(∀k,C k->w.heap.size<=k/\k<W.heap.size)/\
 W.heap[w.heap.size+2]?=some (.cells #[.slice none 0 0,.slice none 0 0,.int .i64 0,.slice none 0 0,.slice none 0 0,.slice none 0 0] 34 (0,0))/\
 W.heap[w.heap.size+3]?=some (.cells #[.slice none 0 0] 83 (0,0))/\W.heap[w.heap.size+4]?=some (.cells #[.bool false] 4 (0,0))/\
 ∃(cs:Array Value) (k:Wk) (vh:Value) (l:List (ByteArray×Int)) (rest:List Part),W.heap[w.heap.size+5]?=some (.cells cs 34 (0,0))/\W.heap[w.heap.size+7]?=some (.cells #[vh] 83 (0,0))/\
  W.ownsRow w.heap.size 111 2 vh l.length (hvs l)/\(∀j,vh.ownBlock=some j->C j)/\
  ((Value.agg cs=v0/\k=k0)\/(WorkOwn W w.heap.size (.agg cs) k/\∀j,workBlocks (.agg cs) j->C j))/\
  HalfAt R lf k (l.map (·.1)) (l.map (·.2)) rest/\pre.map Prod.fst++rest=PP/\JOk k/\k.sm (60000+rest.length)/\l.length=pre.length
theorem zkr {w:World} {v0:Value} {k0:Wk} {lf:Bool} {R:Wk×List ByteArray×List Int×Bool} {PP:List Part}:∀(pre:List HPt) (C:Nat->Prop) (A B:World),AnI w v0 k0 lf R PP pre C A->KeptC (fun k=>¬C k) A B->AnI w v0 k0 lf R PP pre C B:=by
 rintro pre C A B ⟨h1,h2,h3,h4,h5,cs,k,vh,l,rest,h6,h7,h8,h9,h10,h11⟩ hk
 have hs:∀j (o:Obj),A.heap[j]?=some o->C j->B.heap[j]?=some o:=fun j o hj hc=>(hk.2.2.2.2 j (Array.getElem?_eq_some_iff.1 hj).1 (fun h=>h hc)).trans hj
 refine ⟨h1,fun k hc=>⟨(h2 k hc).1,Nat.lt_of_lt_of_le (h2 k hc).2 hk.2.2.2.1⟩,hs _ _ h3 (h1 _ (Or.inl rfl)),hs _ _ h4 (h1 _ (Or.inr (Or.inl rfl))),hs _ _ h5 (h1 _ (Or.inr (Or.inr (Or.inl rfl)))),cs,k,vh,l,rest,hs _ _ h6 (h1 _ (Or.inr (Or.inr (Or.inr (Or.inl rfl))))),hs _ _ h7 (h1 _ (Or.inr (Or.inr (Or.inr (Or.inr rfl))))),za7 h8 hk (fun j e hn=>hn (h9 j e)),h9,?_,h11⟩
 rcases h10 with h10 | ⟨h10,h12⟩
 ·exact Or.inl h10
 ·exact Or.inr ⟨zaz h10 hk (fun j e hn=>hn (h12 j e)),h12⟩
def anF (s:Nat) (v nv fv x:Value) (old:Int) (gv:Nat):Act:=
 ⟨#[v,.int .i64 old,nv,.pointer (some ⟨s,0,none⟩),undef,.pointer (some ⟨s+1,0,none⟩),.pointer (some ⟨s+1+1,0,none⟩),.pointer (some ⟨s+1+1+1,0,none⟩),.pointer (some ⟨s+1+1+1+1,0,none⟩),.pointer (some ⟨s+1+1+1+1+1,0,none⟩),.pointer (some ⟨s+1+1+1+1+1+1+1,0,none⟩),.pointer (some ⟨gv,0,none⟩),undef,undef,v,.slice (some ⟨s+1+1+1+1+1+1,0,none⟩) 0 0,nv,fv,x,undef,undef,undef,undef,undef,undef,undef,undef,undef,undef,undef,undef,undef,undef,undef,undef,undef,undef,undef,undef,undef,undef,undef],[]⟩
def AnAx (s:Nat) (v nv fv:Value) (old:Int) (x:HPt) (a:Act) (C:Nat->Prop) (W:World):Prop:=
 ∃gv cs,x.2= .agg cs/\C gv/\gv<W.heap.size/\W.heap[gv]?=some (.cells cs 71 (0,0))/\a=anF s v nv fv x.2 old gv
theorem zms {s:Nat} {v nv fv:Value} {old:Int} (x:HPt) (a:Act) (C:Nat->Prop) (A B:World) (h:AnAx s v nv fv old x a C A) (hk:KeptC (fun k=>¬C k) A B):AnAx s v nv fv old x a C B:=by
 obtain ⟨gv,cs,h1,h2,h3,h4,h5⟩:=h
 exact ⟨gv,cs,h1,h2,Nat.lt_of_lt_of_le h3 hk.2.2.2.1,(hk.2.2.2.2 gv h3 (fun hn=>hn h2)).trans h4,h5⟩
theorem znC {w:World} {v0:Value} {k0:Wk} {lf:Bool} {R:Wk×List ByteArray×List Int×Bool} {PP:List Part} {pre:List HPt} {C:Nat->Prop} {W:World} (h:AnI w v0 k0 lf R PP pre C W) (o:Obj):AnI w v0 k0 lf R PP pre (fun k=>C k\/k=W.heap.size) (W.alloc o):=by
 obtain ⟨h1,h2,h3,h4,h5,cs,k,vh,l,rest,h6,h7,h8,h9,h10,h11⟩:=zkr pre C W (W.alloc o) h (zcQ _ W o)
 have hs:w.heap.size<=W.heap.size:=by
  have:=(h.2.1 _ (h1 _ (Or.inl rfl)))
  omega
 refine ⟨fun k hk=>Or.inl (h1 k hk),fun k hk=> ?_,h3,h4,h5,cs,k,vh,l,rest,h6,h7,h8,fun j e=>Or.inl (h9 j e),h10.imp id (fun h=>⟨h.1,fun j e=>Or.inl (h.2 j e)⟩),h11⟩
 rcases hk with hk | rfl
 ·exact h2 k hk
 ·exact ⟨hs,by simp⟩
theorem zmt {w:World} {n c:Nat} {a:Option Addr} {xs:List Value} (h:RowAt w 1 (.slice a n c) n xs) (hn:0<n):∃b o,a=some ⟨b,o,none⟩/\∀wx,Below w.heap.size w wx->wx.cell? ⟨b,o,none⟩=xs[0]?:=by
 obtain ⟨b,o,rfl,-⟩:=zhL h hn (Nat.le_refl n)
 refine ⟨b,o,rfl,fun wx hb=> ?_⟩
 obtain ⟨hl,a',cap,ea,h3⟩:=za1 h hb
 injection ea with e1 e2 e3
 subst e1
 rcases h3 with h0 | ⟨b',o',e,hlt,hc⟩
 ·omega
 ·injection e with e
  injection e with e1 e2 e3
  subst e1 e2
  exact hc 0 (by omega)
theorem Tryz.infoHalf:(Tryz.prog.info? 111).map (fun i=>(i.zero,i.size,i.bytes))=some (some (.agg #[.string ⟨#[]⟩,.int .i64 0]),2,24):=by kernel_rfl
theorem znD {lf:Bool} {ks vs:List ByteArray} {cs:List Int} {p:Part} (h:p∈halfParts lf ks vs cs):p.1.length<=ks.length/\p.2.1.length<=vs.length/\p.2.2.length<=cs.length/\(∀s∈p.1,s∈ks)/\∀s∈p.2.1,s∈vs:=by
 unfold halfParts at h
 split at h
 ·split at h <;> rw [List.mem_cons,List.mem_singleton] at h <;> rcases h with e | e <;> subst e
  ·exact ⟨by simp;omega,by simp;omega,by simp,fun s hs=>List.mem_of_mem_take hs,fun s hs=>List.mem_of_mem_take hs⟩
  ·exact ⟨by simp,by simp,by simp,fun s hs=>List.mem_of_mem_drop hs,fun s hs=>List.mem_of_mem_drop hs⟩
  ·exact ⟨by simp;omega,by simp,by simp;omega,fun s hs=>List.mem_of_mem_take hs,fun s hs=>by cases hs⟩
  ·exact ⟨by simp,by simp,by simp,fun s hs=>List.mem_of_mem_drop hs,fun s hs=>by cases hs⟩
 ·rw [List.mem_singleton] at h
  subst h
  exact ⟨Nat.le_refl _,Nat.le_refl _,Nat.le_refl _,fun _ h=>h,fun _ h=>h⟩
def onlyN (Q:Exit->Act->World->Prop):Exit->Act->World->Prop
 | .normal,a,w=>Q .normal a w
 | _,_,_=>False
theorem ziR {F:Fence} {n:Nat} {P:Program} {c:Code} {Q:Exit->Act->World->Prop} {a:Act} {w:World} (h:c.wpIn F n P (onlyN Q) a w):c.wpIn F n P Q a w:=
 wpIn_mono h (fun e a w h=>by
  cases e with
  | normal=>exact h
  | _=>exact h.elim)
theorem zmu {W:World} {g:Nat} {r0 r1 r2 r3 r4 r5 x3 x4:Value} {T0 T1 T2:TypeId} (h2:W.heap[g]?=some (.cells #[r0,r1,r2,r3,r4,r5] T0 (0,0))) (h3:W.heap[g+1]?=some (.cells #[x3] T1 (0,0))) (h4:W.heap[g+1+1]?=some (.cells #[x4] T2 (0,0))) (u0 u1 u2 u3 u4 u5 v3 v4:Value):
  (((set6 W g u0 u1 u2 u3 u4 u5).setCell ⟨g+1,0,none⟩ v3).setCell ⟨g+1+1,0,none⟩ v4).heap[g]?=some (.cells #[u0,u1,u2,u3,u4,u5] T0 (0,0))/\(((set6 W g u0 u1 u2 u3 u4 u5).setCell ⟨g+1,0,none⟩ v3).setCell ⟨g+1+1,0,none⟩ v4).heap[g+1]?=some (.cells #[v3] T1 (0,0))/\
   (((set6 W g u0 u1 u2 u3 u4 u5).setCell ⟨g+1,0,none⟩ v3).setCell ⟨g+1+1,0,none⟩ v4).heap[g+1+1]?=some (.cells #[v4] T2 (0,0))/\Kept W (((set6 W g u0 u1 u2 u3 u4 u5).setCell ⟨g+1,0,none⟩ v3).setCell ⟨g+1+1,0,none⟩ v4) (fun k=>k=g\/k=g+1\/k=g+1+1):=by
 obtain ⟨X,hX⟩:∃X,X=set6 W g u0 u1 u2 u3 u4 u5:=⟨_,rfl⟩
 have k1:Kept W X (fun k=>k=g):=by rw [hX];exact zaw W g u0 u1 u2 u3 u4 u5
 have e2:X.heap[g]?=some (.cells #[u0,u1,u2,u3,u4,u5] T0 (0,0)):=by rw [hX];exact zb4 h2
 rw [<-hX]
 have e3:X.heap[g+1]?=_:=(k1.2.2.2.2 _ (Array.getElem?_eq_some_iff.1 h3).1 (by omega)).trans h3
 have e4:X.heap[g+1+1]?=_:=(k1.2.2.2.2 _ (Array.getElem?_eq_some_iff.1 h4).1 (by omega)).trans h4
 refine ⟨(heap_setCell_other _ ⟨g+1+1,0,none⟩ g _ (by show g≠g+1+1;omega)).trans ((heap_setCell_other _ ⟨g+1,0,none⟩ g _ (by show g≠g+1;omega)).trans e2),(heap_setCell_other _ ⟨g+1+1,0,none⟩ (g+1) _ (by show g+1≠g+1+1;omega)).trans (heap_setCell_same _ _ 0 _ _ _ e3),heap_setCell_same _ _ 0 _ _ _ ((heap_setCell_other _ ⟨g+1,0,none⟩ (g+1+1) _ (by show g+1+1≠g+1;omega)).trans e4),kept_trans (kept_trans (zfz k1 (fun j _ h=>Or.inl h)) (zfz (zab X (g+1) 0 v3) (fun j _ h=>Or.inr (Or.inl h))) (fun _ _ h=>h)) (zab _ (g+1+1) 0 v4) (fun j _ h=>Or.inr (Or.inr h))⟩
theorem ziS {wd wB:World} {B n:Nat} {o:Obj} {v:Value} {xs:List Value} (h:wd.ownsRow B 111 2 v n xs) (hg:(wd.alloc o).grownBy wB v.ownBlock) {g:Nat} {cc:Array Value} {T:Nat} (hc:wd.heap[g]?=some (.cells cc T (0,0))) (hne:(111:Nat)≠T):wB.heap[g]?=some (.cells cc T (0,0)):=
 (hg.block g (by have:=(Array.getElem?_eq_some_iff.1 hc).1;simp;omega) (fun e=>hne (zcg (zcR h e.symm) ⟨_,_,hc⟩))).trans (stays hc ((Below.refl wd.heap.size wd).alloc (Nat.le_refl _) o))
theorem ziT {w wd wB:World} {o:Obj} {v:Value} (hb:Below w.heap.size w wd) (hg:(wd.alloc o).grownBy wB v.ownBlock) (hv:∀j,v.ownBlock=some j->w.heap.size<=j):Below w.heap.size w wB:=by
 have h1:=hb.alloc hb.size o
 exact ⟨hg.os.trans h1.os,hg.tape.trans h1.tape,hg.output.trans h1.output,Nat.le_trans h1.size hg.size,fun k hk=>(hg.block k (Nat.lt_of_lt_of_le hk h1.size) (fun e=>by have:=hv k e.symm;omega)).trans (h1.block k hk)⟩
def noDeferA (ops:Array Oper):Bool:=ops.toList.all fun o=>match o.op with | .defer _=>false | _=>true
theorem zhP {ops:Array Oper} (h:noDeferA ops=true):∀(i:Nat) (o:Oper),ops[i]?=some o->∀c,o.op≠ .defer c:=fun i o ho c e=>by
 have hm:o∈ops.toList:=by
  rw [<-Array.getElem?_toList] at ho;exact List.mem_of_getElem? ho
 have:=List.all_eq_true.1 h o hm;rw [e] at this
 cases this
theorem zjA (w:World) (n:Nat) (hn:n=w.heap.size) (x:ByteArray) (y:Int) (T:TypeId):∀(j:Nat) (u:Value),[Value.string x,.int .i64 y][j]?=some u->(w.alloc (.cells #[.string x,.int .i64 y] T (0,0))).cell? ((⟨n,0,none⟩:Addr).add j)=some u:=by
 subst hn;intro j u hj;have hb:=heap_alloc_new w (Obj.cells #[.string x,.int .i64 y] T)
 match j,hj with
 | 0,hj=>simp at hj;subst hj;simp only [Addr.add_lit,Nat.add_zero];exact (za0 hb 0).1
 | 1,hj=>simp at hj;subst hj;simp only [Addr.add_lit];exact (za0 hb 1).1
theorem an_push {w W wd wB:World} {v0:Value} {k0 kn:Wk} {lf:Bool} {R:Wk×List ByteArray×List Int×Bool} {PP t:List Part} {pre:List HPt} {x:HPt} {C:Nat->Prop} {cs:Array Value} {vh:Value} {lr:List (ByteArray×Int)} {lh b d:Nat} {key:ByteArray} {pg:Int} {o:Obj}
  (hlh:lh=lr.length) (hk:KeptC C W wd) (hC1:∀k,anB w.heap.size k->C k) (hC2:∀k,C k->w.heap.size<=k/\k<W.heap.size)
  (g2:wd.heap[w.heap.size+2]?=some (.cells #[.slice none 0 0,.slice none 0 0,.int .i64 0,.slice none 0 0,.slice none 0 0,.slice none 0 0] 34 (0,0))) (g3:wd.heap[w.heap.size+3]?=some (.cells #[.slice none 0 0] 83 (0,0))) (g4:wd.heap[w.heap.size+4]?=some (.cells #[.bool false] 4 (0,0)))
  (g5:wd.heap[w.heap.size+5]?=some (.cells cs 34 (0,0))) (g7:wd.heap[w.heap.size+7]?=some (.cells #[vh] 83 (0,0))) (h8:wd.ownsRow w.heap.size 111 2 vh lr.length (hvs lr)) (h9:∀j,vh.ownBlock=some j->C j) (hwk:WorkOwn wd W.heap.size (.agg cs) kn)
  (hgB:(wd.alloc o).grownBy wB vh.ownBlock) (hownB:wB.ownsRow w.heap.size 111 2 (.slice (some ⟨b,0,none⟩) (lh+1) d) (lh+1) (hvs lr++ [.string key,.int .i64 pg])) (hbB:vh.ownBlock=some b\/b=wd.heap.size+1)
  (hy:HalfAt R lf kn (lr.map (·.1)++ [key]) (lr.map (·.2)++ [pg]) t) (ht:pre.map Prod.fst++([x].map Prod.fst++t)=PP) (hj:JOk kn) (hs:kn.sm (60000+t.length)) (h15:lr.length=pre.length):
  ∃C',KeptC C W (wB.setCell ⟨w.heap.size+7,0,none⟩ (.slice (some ⟨b,0,none⟩) (lh+1) d))/\(∀k,C' k->C k\/W.heap.size<=k)/\AnI w v0 k0 lf R PP (pre++ [x]) C' (wB.setCell ⟨w.heap.size+7,0,none⟩ (.slice (some ⟨b,0,none⟩) (lh+1) d)):=by
 have hb1:Below wd.heap.size wd (wd.alloc o):=(Below.refl _ _).alloc (Nat.le_refl _) _
 have K1:KeptC (fun k=>vh.ownBlock=some k) wd wB:=⟨hgB.os.trans hb1.os,hgB.tape.trans hb1.tape,hgB.output.trans hb1.output,Nat.le_trans hb1.size hgB.size,fun j hj hn=>(hgB.block j (Nat.lt_of_lt_of_le hj hb1.size) (fun e=>hn e.symm)).trans (hb1.block j hj)⟩
 have far:∀{g:Nat} {cc:Array Value} {T:Nat},wd.heap[g]?=some (.cells cc T (0,0))->(111:Nat)≠T->wB.heap[g]?=some (.cells cc T (0,0)):=fun {g cc T} h hne=>(K1.2.2.2.2 g (Array.getElem?_eq_some_iff.1 h).1 (fun e=>hne (zcg (zcR h8 e) ⟨_,_,h⟩))).trans h
 have e2:=far g2 (by decide)
 have e3:=far g3 (by decide)
 have e4:=far g4 (by decide)
 have e5:=far g5 (by decide)
 have e7:=far g7 (by decide)
 have hwB:WorkOwn wB W.heap.size (.agg cs) kn:=zaz hwk (K1:Kept wd wB _) (fun j hj e=>by have:=zam hwk j hj;have:=hC2 j (h9 j e);omega)
 have k1:KeptC C W wB:=zar hk K1 (fun j e=>Or.inl (h9 j e))
 obtain ⟨X,hX⟩:∃X,X=wB.setCell ⟨w.heap.size+7,0,none⟩ (.slice (some ⟨b,0,none⟩) (lh+1) d):=⟨_,rfl⟩;rw [<-hX]
 have k2:KeptC (fun k=>k=w.heap.size+7) wB X:=by rw [hX];exact zbw (C:=fun k=>k=w.heap.size+7) wB 0 _ rfl
 have f7:X.heap[w.heap.size+7]?=some (.cells #[.slice (some ⟨b,0,none⟩) (lh+1) d] 83 (0,0)):=by rw [hX];exact heap_setCell_same _ _ 0 _ _ _ e7
 have fx:∀{g:Nat} {ob:Obj},wB.heap[g]?=some ob->g≠w.heap.size+7->X.heap[g]?=some ob:=fun h hn=>(k2.2.2.2.2 _ (Array.getElem?_eq_some_iff.1 h).1 hn).trans h
 have c7:=(hC2 _ (hC1 _ (Or.inr (Or.inr (Or.inr (Or.inr rfl)))))).2;have hbl:=hownB.lt b rfl;have hW:=hk.2.2.2.1;have hB:=K1.2.2.2.1;have hX2:=k2.2.2.2.1
 refine ⟨fun k=>C k\/(W.heap.size<=k/\k<X.heap.size),zar k1 k2 (fun j e=>Or.inl (by rw [e];exact hC1 _ (Or.inr (Or.inr (Or.inr (Or.inr rfl)))))),fun k h=>h.imp id (fun h=>h.1),fun k h=>Or.inl (hC1 k h),fun k h=> ?_,fx e2 (by omega),fx e3 (by omega),fx e4 (by omega),cs,kn,_,lr++ [(key,pg)],t,fx e5 (by omega),f7,?_,fun j e=> ?_,Or.inr ⟨?_,fun j hj=> ?_⟩,by simpa using hy,by rw [List.map_append,List.append_assoc];exact ht,hj,hs,by simp [h15]⟩
 ·rcases h with h | h
  ·have:=hC2 k h;omega
  ·have:=(hC2 _ (hC1 _ (Or.inl rfl))).1;omega
 ·have hl:(lr++ [(key,pg)]).length=lh+1:=by rw [hlh];simp
  have hp:hvs (lr++ [(key,pg)])=hvs lr++ [.string key,.int .i64 pg]:=by simp [hvs]
  rw [hl,hp]
  refine za7 hownB k2 (fun j e h=> ?_)
  exact absurd (zcg (zcR hownB e) (by rw [h];exact ⟨_,_,e7⟩)) (by decide)
 ·injection e with e
  have e:b=j:=e;subst e
  rcases hbB with h | h
  ·exact Or.inl (h9 _ h)
  ·exact Or.inr (by omega)
 ·exact zb1 (zaz hwB (k2:Kept wB X _) (fun j hj e=>by have:=zam hwB j hj;omega)) (by omega)
 ·have:=zam hwB j hj
  exact Or.inr (by omega)
theorem zgk (v:Value) (k:Wk) (hj:JOk k) (hsm:k.sm 60010) (old:Int) (nv:Value) (Bn:Nat) (lf:Bool) (ks vs:List ByteArray) (cs:List Int) (hv:lf=true->vs.length=ks.length/\cs= []) (hc:lf=false->cs.length=ks.length/\vs= []) (h0:0<ks.length) (hk1:ks.length<=1000) (hks:∀s∈ks,s.size<=1048576) (hvs':∀s∈vs,s.size<=1048576) (w:World) (hT:SumTab w) (hd:WorkAt w v k) (hn:NdOwn w Bn nv lf ks vs cs) (ho:(halfS k lf ks vs cs).2.2.2=true):
  Calls Tryz.prog 58 #[v,.int .i64 old,nv] w fun e w'=>∃v' vh l,e= .returned (.tuple #[v',vh,.bool true])/\WorkNw w' w.heap.size v' (finK old (halfS k lf ks vs cs)).1/\w'.ownsRow w.heap.size 111 2 vh l.length (hvs l)/\l.map (·.1)=(finK old (halfS k lf ks vs cs)).2.1/\l.map (·.2)=(finK old (halfS k lf ks vs cs)).2.2.1/\Below w.heap.size w w':=by
 have hmf:∀(fn:Fn) (first cap:Array Value) (w:World),(Instr.makeFunc fn first cap).run Tryz.prog w= .ok (.func fn first cap) w:=fun _ _ _ _=>rfl
 have HD:=hide hd;have HT:=hide hT;obtain ⟨ap,cp,al,cl,au,cu,ag,cg,af,cf,rfl⟩:=zaV hd;clear hd;obtain ⟨vk,vv,vc,rfl,o1,o2,o3⟩:=hn;obtain ⟨ak,ck,rfl⟩:=za4 o1;obtain ⟨av,cv,rfl⟩:=za4 o2;obtain ⟨ac,cc,rfl⟩:=za4 o3;have hck:=(zfv o1).1;have hcv:=(zfv o2).1;have hcc:=(zfv o3).1;have HN:Hid (NodeAt w (.agg #[.bool lf,.slice ak ks.length ck,.slice av vs.length cv,.slice ac cs.length cc]) lf ks vs cs):=hide ⟨_,_,_,rfl,zac o1,zac o2,zac o3⟩;clear o1 o2 o3 hT;obtain ⟨PP,hPP⟩:∃PP,PP=halfParts lf ks vs cs:=⟨_,rfl⟩;obtain ⟨R,hR⟩:∃R,R=halfS k lf ks vs cs:=⟨_,rfl⟩;rw [<-hR] at ho⊢;have HP:=hide hPP;have HR:=hide hR;have HPc:=hide (zmr hv hc);have HO:=hide ho;have HJ:=hide hj;have HSm:=hide hsm;have HV:=hide hv;have HC:=hide hc;have HKs:=hide (⟨hks,hvs',hk1,h0,hck,hcv,hcc⟩:_/\_/\_/\_/\_/\_/\_);clear hPP hR ho hj hsm hv hc hks hvs' hk1 h0 hck hcv hcc;obtain ⟨nk,hnk⟩:∃n,n=ks.length:=⟨_,rfl⟩;obtain ⟨nvl,hnvl⟩:∃n,n=vs.length:=⟨_,rfl⟩;obtain ⟨nc,hnc⟩:∃n,n=cs.length:=⟨_,rfl⟩;obtain ⟨np,hnp⟩:∃n,n=k.ps.length:=⟨_,rfl⟩;obtain ⟨nl,hnl⟩:∃n,n=k.ls.length:=⟨_,rfl⟩;obtain ⟨nu,hnu⟩:∃n,n=k.us.length:=⟨_,rfl⟩;obtain ⟨ng,hng⟩:∃n,n=k.gs.length:=⟨_,rfl⟩;obtain ⟨nf,hnf⟩:∃n,n=k.fs.length:=⟨_,rfl⟩;obtain ⟨nx,hnx⟩:∃n,n=k.next:=⟨_,rfl⟩;rw [<-hnp,<-hnl,<-hnu,<-hng,<-hnf,<-hnx] at HD⊢;rw [<-hnk,<-hnvl,<-hnc] at HN⊢;have HL:=hide (⟨hnk,hnvl,hnc⟩:_/\_/\_);clear hnk hnvl hnc hnp hnl hnu hng hnf hnx;refine (callsIn_wide (n:=3)).1 ?_;refine callsIn_of_wp_marks Tryz.func58 rfl trivial ?_ rfl
 simp only [Tryz.ntmps58,List.size_toArray,List.length_cons,List.length_nil,Nat.reduceAdd,Nat.reduceSub,Array.replicate_succ,Array.replicate_zero,List.push_toArray,List.append_toArray,List.nil_append,List.cons_append]
 obtain ⟨Wb,hWb⟩:∃Wb,Wb=(((((((w.alloc (Obj.cells #[.slice ap np cp,.slice al nl cl,.int .i64 nx,.slice au nu cu,.slice ag ng cg,.slice af nf cf] 34)).alloc (Obj.cells #[.bool lf,.slice ak nk ck,.slice av nvl cv,.slice ac nc cc] 71)).alloc (Obj.cells #[.slice none 0 0,.slice none 0 0,.int .i64 0,.slice none 0 0,.slice none 0 0,.slice none 0 0] 34)).alloc (Obj.cells #[.slice none 0 0] 83)).alloc (Obj.cells #[.bool false] 4)).alloc (Obj.cells #[.slice ap np cp,.slice al nl cl,.int .i64 nx,.slice au nu cu,.slice ag ng cg,.slice af nf cf] 34)).alloc (Obj.cells #[] 111)).alloc (Obj.cells #[.slice (some ⟨w.heap.size+1+1+1+1+1+1,0,none⟩) 0 0] 83):=⟨_,rfl⟩
 have hszb:Wb.heap.size=w.heap.size+8:=by rw [hWb];simp
 have hbb:Below w.heap.size w Wb:=by
  rw [hWb]
  refine Below.alloc (Below.alloc (Below.alloc (Below.alloc (Below.alloc (Below.alloc (Below.alloc (Below.alloc (Below.refl _ _) ?_ _) ?_ _) ?_ _) ?_ _) ?_ _) ?_ _) ?_ _) ?_ _ <;> simp <;> omega
 have b2:Wb.heap[w.heap.size+2]?=some (.cells #[.slice none 0 0,.slice none 0 0,.int .i64 0,.slice none 0 0,.slice none 0 0,.slice none 0 0] 34 (0,0)):=by rw [hWb];simp only [zal,World.size_alloc];simp
 have b3:Wb.heap[w.heap.size+3]?=some (.cells #[.slice none 0 0] 83 (0,0)):=by rw [hWb];simp only [zal,World.size_alloc];simp
 have b4:Wb.heap[w.heap.size+4]?=some (.cells #[.bool false] 4 (0,0)):=by rw [hWb];simp only [zal,World.size_alloc];simp
 have b5:Wb.heap[w.heap.size+5]?=some (.cells #[.slice ap np cp,.slice al nl cl,.int .i64 nx,.slice au nu cu,.slice ag ng cg,.slice af nf cf] 34 (0,0)):=by rw [hWb];simp only [zal,World.size_alloc];simp
 have b6:Wb.heap[w.heap.size+6]?=some (.cells #[] 111 (0,0)):=by rw [hWb];simp only [zal,World.size_alloc];simp
 have b7:Wb.heap[w.heap.size+7]?=some (.cells #[.slice (some ⟨w.heap.size+6,0,none⟩) 0 0] 83 (0,0)):=by rw [hWb];simp only [zal,World.size_alloc];simp
 have HSzb:=hide hszb;have HBb:=hide hbb;have HB:=hide (⟨b2,b3,b4,b5,b6,b7⟩:_/\_/\_/\_/\_/\_);have HHo:=hide (ziN lf ak av ac nk nvl nc ck cv cc Wb);clear hszb hbb b2 b3 b4 b5 b6 b7
 gi_wp2_with (first | (refine ⟨trivial,?_⟩;gi_at_call 84;rw [<-hWb];clear hWb;refine (callsIn_wide.2 HHo.out).mono ?_;rintro e Wc ⟨rfl,hbc,hzc,hg8,hg9,hg10⟩;have HC1:=hide (⟨hbc,hzc,hg8,hg9,hg10⟩:_/\_/\_/\_/\_);clear hbc hzc hg8 hg9 hg10) | fail)
 have HLow:Hid (Below w.heap.size w Wc):=hide (HBb.out.trans (HC1.out.1.mono HBb.out.size))
 have hst:∀{g:Nat} {o:Obj},Wb.heap[g]?=some o->Wc.heap[g]?=some o:=fun h=>stays h HC1.out.1
 have hcut:halfParts lf ks (cutV lf vs 0 ks.length) (cutC lf cs 0 ks.length)=PP:=HPc.out.trans HP.out.symm
 have hI0:AnI w (.agg #[.slice ap np cp,.slice al nl cl,.int .i64 nx,.slice au nu cu,.slice ag ng cg,.slice af nf cf]) k lf R PP [] (fun k=>anB w.heap.size k\/k=w.heap.size+6) Wc:=by
  obtain ⟨b2,b3,b4,b5,b6,b7⟩:=HB.out;have hz:=HC1.out.2.1;have hz2:=HSzb.out
  refine ⟨fun k hk=>Or.inl hk,fun k hk=> ?_,hst b2,hst b3,hst b4,_,k,_,[],PP,hst b5,hst b7,⟨rfl,Or.inr ⟨w.heap.size+6,0,#[],rfl,by omega,hst b6,Nat.le_refl _,Nat.zero_le _,rfl,rfl⟩⟩,fun j e=> ?_,Or.inl ⟨rfl,rfl⟩,?_,rfl,HJ.out,zaD HSm.out ?_,rfl⟩
  ·rcases hk with (h | h | h | h | h) | h <;> omega
  ·injection e with e
   exact Or.inr (by have e:w.heap.size+6=j:=e;omega)
  ·rw [HR.out]
   unfold halfS;rw [HP.out];exact zih _ _ _
  ·rw [HP.out]
   have:=(zcy lf ks vs cs).2
   omega
 have hseq:=fun n=>zl7 (w:=w) (Wc:=Wc) n lf ks vs cs ak av ac ck cv cc HKs.out.2.2.2.2.1 HKs.out.2.2.2.2.2.1 HKs.out.2.2.2.2.2.2 (fun h=>(HV.out h).1) (fun h=>(HC.out h).1) HKs.out.2.2.2.1 HKs.out.2.2.1 Wb.heap.size (Wb.heap.size+1) (Wb.heap.size+2) (by have:=HN.out;rw [HL.out.1,HL.out.2.1,HL.out.2.2] at this;exact this) HLow.out (by have:=HC1.out.2.2.1;rw [HL.out.1,HL.out.2.1,HL.out.2.2] at this;exact this) (by have:=HC1.out.2.2.2.1;rw [HL.out.1] at this;exact this) HC1.out.2.2.2.2
 refine ze1 rfl rfl (gf:=113) (lb:= #[.pointer (some ⟨Wb.heap.size+1,0,none⟩),.pointer (some ⟨Wb.heap.size+2,0,none⟩)]) rfl trivial (enters_of Tryz.func113 (by kernel_rfl) rfl) (hseq _) HLow.out.size (fun k h=>by have:=HC1.out.2.1;rcases h with h | h | h <;> omega) (fun x C C' A B h1 h2 h3=>zl6 h1 h2 h3) (fun _=>rfl) (AnI w (.agg #[.slice ap np cp,.slice al nl cl,.int .i64 nx,.slice au nu cu,.slice ag ng cg,.slice af nf cf]) k lf R PP) (fun _ _ _ _=>False) zkr (fun _ _ _ _ _ h _=>h) (fun pre C A h=>h.2.1) (fun k=>anB w.heap.size k\/k=w.heap.size+6) hI0 (fun k h e=> ?apart) (AnAx w.heap.size (.agg #[.slice ap np cp,.slice al nl cl,.int .i64 nx,.slice au nu cu,.slice ag ng cg,.slice af nf cf]) (.agg #[.bool lf,.slice ak nk ck,.slice av nvl cv,.slice ac nc cc]) (.func (.func 113) #[] #[.pointer (some ⟨Wb.heap.size+1,0,none⟩),.pointer (some ⟨Wb.heap.size+2,0,none⟩)]) old) zms ?assign ?body ?done (fun D c pre C W h1 h2 h3 h4=>h4.elim)
 case apart=>
  have hz2:=HSzb.out
  rcases h with (h | h | h | h | h) | h <;> rcases e with e | e | e <;> omega
 case assign=>
  intro l m pre x C W K hI hLi hK
  have HI2:=hide (fun o=>znC hI o)
  have HK:=hide hK
  have HLt:Hid (∀o,KeptC C W (W.alloc o)):=hide (fun o=>zcQ C W o)
  obtain ⟨vk,vv,vc,hv,r1,r2,r3⟩:=hLi.2.2;obtain ⟨ak',ck',rfl⟩:=zbm r1;obtain ⟨av',cv',rfl⟩:=zbm r2;obtain ⟨ac',cc',rfl⟩:=zbm r3;have HV2:=hide hv;clear hseq hI0 hst hcut hLi r1 r2 r3 hK hI;rw [hv];clear hv
  gi_wp2_with fail
  refine HK.out _ (fun k=>C k\/k=W.heap.size) _ (HLt.out _) (fun k h=>by rcases h with h | h;exact Or.inl h;exact Or.inr (by omega)) (HI2.out _) ⟨W.heap.size,_,HV2.out,Or.inr rfl,by simp,heap_alloc_new W _,?_⟩
  rw [anF,HV2.out]
 case done=>
  rintro D xs C W hD hnD hS ⟨hC1,hC2,h3,h4,h5,cs6,kc,vh,l,rest,h6,h7,h8,h9,h10,h11,h12,h13,h14,h15⟩ hlowW hdef
  have hrest:rest= []:=by
   rw [hS.trans hcut] at h12
   simpa using h12
  subst hrest;have HRk:=hide (zjg h11);have HWl:=hide hlowW.size;have hbW:=HLow.out.trans hlowW
  have hdw:WorkAt W (.agg cs6) kc:=by
   rcases h10 with ⟨e1,e2⟩ | ⟨e1,-⟩
   ·rw [e1,e2];exact zaf HD.out hbW
   ·exact zaF e1
  obtain ⟨ap',cp',al',cl',au',cu',ag',cg',af',cf',e⟩:=zaV hdw
  injection e with e
  subst e;have hsms:=h14;obtain ⟨m1,m2,m3,m4,m5,m6,m7⟩:=hsms
  have HDr:=hide (zfa _ kc (zbW h14) (by simp at m5;omega) (by omega) (by omega) old h13.asc (fun e e2=>h13.uf _ e2 e) W.drew (zaf hdw (Below.refl _ _).drew))
  obtain ⟨np',hnp'⟩:∃n,n=kc.ps.length:=⟨_,rfl⟩;obtain ⟨nl',hnl'⟩:∃n,n=kc.ls.length:=⟨_,rfl⟩;obtain ⟨nu',hnu'⟩:∃n,n=kc.us.length:=⟨_,rfl⟩;obtain ⟨ng',hng'⟩:∃n,n=kc.gs.length:=⟨_,rfl⟩;obtain ⟨nf',hnf'⟩:∃n,n=kc.fs.length:=⟨_,rfl⟩;obtain ⟨nx',hnx'⟩:∃n,n=kc.next:=⟨_,rfl⟩;rw [<-hnp',<-hnl',<-hnu',<-hng',<-hnf',<-hnx'] at HDr h6;obtain ⟨lh,hlh⟩:∃n,n=l.length:=⟨_,rfl⟩;obtain ⟨xr,yr,rfl⟩:=za4 h8;rw [<-hlh] at h7 h8 h9;obtain ⟨c0,c1,c2,c3,c4,c5⟩:=blk6c h6;have H8:=hide h8;have HLh:=hide hlh;have HH:=hide (⟨h3,h4,h5,h7,hbW,hdef,hC2⟩:_/\_/\_/\_/\_/\_/\_);have HCs:=hide (⟨hC1,h9,hnD,hD⟩:_/\_/\_/\_);clear hseq hI0 hst hcut hC1 hC2 h3 h4 h5 h6 h7 h8 h9 h10 h11 h12 h13 h14 h15 hS hlowW hdef hnD hD hbW hdw m1 m2 m3 m4 m5 m6 m7 hnp' hnl' hnu' hng' hnf' hnx' hlh;have c7:=(za0 HH.out.2.2.2.1 0).1
  gi_wp2_with fail
  refine ziR ?_
  gi_region_with (first | (have _:=c0;refine ⟨trivial,?_⟩;gi_at_call 73;refine (callsIn_wide.2 HDr.out).mono ?_;rintro e w4 ⟨v4,rfl,hn4,hb4⟩;obtain ⟨a1,d1,a2,d2,a3,d3,a4,d4,a5,d5,rfl⟩:=zb7 hn4;have HN4:=hide hn4;replace hb4:=((Below.refl W.heap.size W).drew).trans hb4;have HB4:=hide hb4;replace c7:=(za0 (stays HH.out.2.2.2.1 hb4) 0).1;obtain ⟨r0,r1,r2,r3,r4,r5⟩:=blk6c (stays HH.out.1 hb4);have y0:=(za0 (stays HH.out.1 hb4) 0).2;have y1:=(za0 (stays HH.out.1 hb4) 1).2;have y2:=(za0 (stays HH.out.1 hb4) 2).2;have y3:=(za0 (stays HH.out.1 hb4) 3).2;have y4:=(za0 (stays HH.out.1 hb4) 4).2;have y5:=(za0 (stays HH.out.1 hb4) 5).2;have r6:=(za0 (stays HH.out.2.1 hb4) 0).1;have y6:=(za0 (stays HH.out.2.1 hb4) 0).2;have r7:=(za0 (stays HH.out.2.2.1 hb4) 0).1;have y7:=(za0 (stays HH.out.2.2.1 hb4) 0).2;clear hn4 hb4 c0 c1 c2 c3 c4 c5 HDr) | fail)
  all_goals (
   dsimp only [onlyN]
   gi_wp2_with fail
   obtain ⟨e1,e2,e3,ek⟩:=zmu (stays HH.out.1 HB4.out) (stays HH.out.2.1 HB4.out) (stays HH.out.2.2.1 HB4.out) (.slice a1 (dropS kc old).ps.length d1) (.slice a2 (dropS kc old).ls.length d2) (.int .i64 (dropS kc old).next) (.slice a3 (dropS kc old).us.length d3) (.slice a4 (dropS kc old).gs.length d4) (.slice a5 (dropS kc old).fs.length d5) (.slice xr lh yr) (.bool true);obtain ⟨W5,hW5⟩:∃W5,W5=(((set6 w4 (w.heap.size+1+1) (.slice a1 (dropS kc old).ps.length d1) (.slice a2 (dropS kc old).ls.length d2) (.int .i64 (dropS kc old).next) (.slice a3 (dropS kc old).us.length d3) (.slice a4 (dropS kc old).gs.length d4) (.slice a5 (dropS kc old).fs.length d5)).setCell ⟨w.heap.size+1+1+1,0,none⟩ (.slice xr lh yr)).setCell ⟨w.heap.size+1+1+1+1,0,none⟩ (.bool true)):=⟨_,rfl⟩;rw [<-hW5] at e1 e2 e3 ek;unfold set6 at hW5;rw [<-hW5];have hz:=HC1.out.2.1;have hz2:=HSzb.out;have hDl:=HCs.out.2.2.2;have hDd:=stays HH.out.2.2.2.2.2.1 HB4.out
   have hD5:W5.heap[D]?=some (.deferred (some [])):=(ek.2.2.2.2 D (Array.getElem?_eq_some_iff.1 hDd).1 (by omega)).trans hDd
   refine ⟨by simp,.inl ⟨_,_,rfl,run_takeDeferred hD5,?_⟩⟩
   obtain ⟨W6,hW6⟩:∃W6,W6=W5.putObj D (.deferred none):=⟨_,rfl⟩;rw [<-hW6]
   have k6:KeptC (fun k=>k=D) W5 W6:=by rw [hW6];exact zaT W5 _ rfl
   have f1:=(k6.2.2.2.2 _ (Array.getElem?_eq_some_iff.1 e1).1 (by omega)).trans e1
   have f2:=(k6.2.2.2.2 _ (Array.getElem?_eq_some_iff.1 e2).1 (by omega)).trans e2
   have f3:=(k6.2.2.2.2 _ (Array.getElem?_eq_some_iff.1 e3).1 (by omega)).trans e3
   obtain ⟨q0,q1,q2,q3,q4,q5⟩:=blk6c f1;have q6:=(za0 f2 0).1;have q7:=(za0 f3 0).1
   have hWz:w.heap.size+11<=W.heap.size:=by have:=HH.out.2.2.2.2.2.2;have:=HLow.out.size;have h1:=HWl.out;omega
   have hW4:=HB4.out.size;have hdz:W.drew.heap.size=W.heap.size:=rfl;have hDw:=(Array.getElem?_eq_some_iff.1 HH.out.2.2.2.2.2.1).1;refine ⟨.tuple #[.agg #[.slice a1 (dropS kc old).ps.length d1,.slice a2 (dropS kc old).ls.length d2,.int .i64 (dropS kc old).next,.slice a3 (dropS kc old).us.length d3,.slice a4 (dropS kc old).gs.length d4,.slice a5 (dropS kc old).fs.length d5],.slice xr lh yr,.bool true],?_,?_⟩
   ·simp [results,q0,q1,q2,q3,q4,q5,q6,q7,go_sem]
   ·have hR:=HRk.out
    refine ⟨_,_,l,rfl,?_,?_,?_,?_,?_⟩
    ·rw [hR,finK,if_pos rfl]
     exact zfF (zeD (zeD HN4.out ek (fun j hj hn=>by have:=zam (zbN HN4.out) j hj;omega)) (k6:Kept W5 W6 _) (fun j hj hn=>by have:=zam (zbN HN4.out) j hj;omega)) (by omega)
    ·rw [<-HLh.out]
     refine za7 (za7 (za6 H8.out HB4.out) ek (fun j e hx=> ?_)) (k6:Kept W5 W6 _) (fun j e hx=>HCs.out.2.2.1 (by rw [<-hx];exact HCs.out.2.1 j e))
     have ht:=zcR (za6 H8.out HB4.out) e
     rcases hx with hx | hx | hx <;> subst hx
     ·exact absurd (zcg ht ⟨_,_,stays HH.out.1 HB4.out⟩) (by decide)
     ·exact absurd (zcg ht ⟨_,_,stays HH.out.2.1 HB4.out⟩) (by decide)
     ·exact absurd (zcg ht ⟨_,_,stays HH.out.2.2.1 HB4.out⟩) (by decide)
    ·rw [hR];rfl
    ·rw [hR];rfl
    ·exact ((HH.out.2.2.2.2.1.trans (HB4.out.mono HH.out.2.2.2.2.1.size)).trans (zae ek (by omega) (fun k h=>by omega))).trans (zaG k6 (fun k h=>by omega) (by have:=ek.2.2.2.1;omega)))
 case body=>
  intro l m pre x a' C W hSp hI hAx hLi;obtain ⟨gv,cs4,hx2,hCg,hgl,hgv,rfl⟩:=hAx;obtain ⟨hC1,hC2,h3,h4,h5,cs6,kc,vh,lr,rest,h6,h7,h8,h9,h10,h11,h12,h13,h14,h15⟩:=hI;obtain ⟨t,ht⟩:=hSp;rw [hcut,List.map_append,List.append_assoc] at ht
  have hrest:rest=x.1 :: t:=by
   rw [<-ht] at h12
   simpa using h12
  subst hrest
  have hmem:x.1∈PP:=by rw [<-ht];simp
  obtain ⟨hBW,-,hnd⟩:=hLi;obtain ⟨vk,vv,vc,hv,r1,r2,r3⟩:=hnd;obtain ⟨ak',ck',rfl⟩:=zbm r1;obtain ⟨av',cv',rfl⟩:=zbm r2;obtain ⟨ac',cc',rfl⟩:=zbm r3
  have hdw:WorkAt W (.agg cs6) kc:=by
   rcases h10 with ⟨e1,e2⟩ | ⟨e1,-⟩
   ·rw [e1,e2];exact zaf HD.out hBW
   ·exact zaF e1
  have hnw:NodeAt W x.2 lf x.1.1 x.1.2.1 x.1.2.2:=zaK ⟨_,_,_,hv,r1,r2,r3⟩ hBW;obtain ⟨ap',cp',al',cl',au',cu',ag',cg',af',cf',e⟩:=zaV hdw
  injection e with e
  subst e;rw [hv] at hx2
  injection hx2 with hx2
  subst hx2;rw [HP.out] at hmem;obtain ⟨u1,u2,u3,u4,u5⟩:=znD hmem
  have hvl:vs.length<=1000/\cs.length<=1000:=by
   have h1:=HKs.out.2.2.1
   cases hlf:lf with
   | true=>obtain ⟨e1,e2⟩:=HV.out hlf;rw [e2];simp;omega
   | false=>obtain ⟨e1,e2⟩:=HC.out hlf;rw [e2];simp;omega
  have hput:putP kc lf x.1.1 x.1.2.1 x.1.2.2≠0:=fun e=>by
   have:=zlJ h11 e;have h2:=HO.out;rw [this] at h2
   cases h2
  have hyes:=zkS h11 hput
  have HPn:=hide (zch _ kc (zbW h14) x.2 lf x.1.1 x.1.2.1 x.1.2.2 (by have:=HKs.out.2.2.1;omega) (by have:=hvl.1;omega) (by have:=hvl.2;omega) (fun s hs=>HKs.out.1 s (u4 s hs)) (fun s hs=>HKs.out.2.1 s (u5 s hs)) W (zah HT.out hBW) hdw hnw)
  obtain ⟨np',hnp'⟩:∃n,n=kc.ps.length:=⟨_,rfl⟩;obtain ⟨nl',hnl'⟩:∃n,n=kc.ls.length:=⟨_,rfl⟩;obtain ⟨nu',hnu'⟩:∃n,n=kc.us.length:=⟨_,rfl⟩;obtain ⟨ng',hng'⟩:∃n,n=kc.gs.length:=⟨_,rfl⟩;obtain ⟨nf',hnf'⟩:∃n,n=kc.fs.length:=⟨_,rfl⟩;obtain ⟨nx',hnx'⟩:∃n,n=kc.next:=⟨_,rfl⟩;rw [<-hnp',<-hnl',<-hnu',<-hng',<-hnf',<-hnx'] at HPn h6;have hk0:0<x.1.1.length:=zel (n:=⟨lf,x.1.1,x.1.2.1,x.1.2.2⟩) (zlK hput);obtain ⟨gk,ok,rfl,hkey⟩:=zmt r1 hk0;obtain ⟨pg,hpg⟩:∃p,p=putP kc lf x.1.1 x.1.2.1 x.1.2.2:=⟨_,rfl⟩;obtain ⟨kn,hkn⟩:∃p,p=putK kc lf x.1.1 x.1.2.1 x.1.2.2:=⟨_,rfl⟩;rw [<-hpg] at hyes HPn hput;rw [<-hkn] at hyes HPn
  have hJn:JOk kn:=by rw [hkn];exact zhD h13 _ _ _ _
  have hSn:kn.sm (60000+t.length):=by rw [hkn];exact zii (zaD h14 (by simp;omega)) _ _ _ _
  obtain ⟨n1,hn1⟩:∃n,n=x.1.1.length:=⟨_,rfl⟩;obtain ⟨n2,hn2⟩:∃n,n=x.1.2.1.length:=⟨_,rfl⟩;obtain ⟨n3,hn3⟩:∃n,n=x.1.2.2.length:=⟨_,rfl⟩;obtain ⟨xr,yr,rfl⟩:=za4 h8;obtain ⟨lh,hlh⟩:∃n,n=lr.length:=⟨_,rfl⟩
  have hlb2:lh<=1000:=by
   have h1:=congrArg List.length ht;rw [HP.out] at h1;have h2:=(zcy lf ks vs cs).2
   simp at h1
   omega
  rw [<-hlh] at h7 h9
  replace h8:W.ownsRow w.heap.size 111 2 (.slice xr lh yr) lr.length (hvs lr):=by rw [hlh];exact h8
  rw [hv] at HPn⊢;rw [<-hn1,<-hn2,<-hn3] at HPn hgv⊢;obtain ⟨c0,c1,c2,c3,c4,c5⟩:=blk6c h6;obtain ⟨d0,d1,d2,d3⟩:=blk4c hgv;have HI2:=hide (⟨hC1,hC2,h3,h4,h5,h8,h9,hyes,h15⟩:_/\_/\_/\_/\_/\_/\_/\_/\_);have H6:=hide h6;have H7:=hide h7;have HGv:=hide hgv;have HCg:=hide (⟨hCg,hgl,hBW⟩:_/\_/\_);have HKy:=hide hkey;have HJn:=hide hJn;have HSn:=hide hSn;have HKn:=hide (⟨hk0,hkn,hpg,hlh,ht⟩:_/\_/\_/\_/\_);clear hseq hI0 hst hcut hC1 hC2 h3 h4 h5 h6 h7 h8 h9 h10 h11 h12 h13 h14 h15 hdw hnw hmem u1 u2 u3 u4 u5 r1 r2 r3 hvl hyes hgv hCg hgl hBW hkey hJn hSn hk0 hkn hpg hlh ht hnp' hnl' hnu' hng' hnf' hnx' hn2 hn3;have HN1:=hide hn1;have HLb:Hid (lh<=1000):=hide hlb2;clear hlb2;clear hn1;rw [anF]
  gi_wp2_with (first | (have _:=c0;refine ⟨trivial,(fun e=>by simp [Fence.wide] at e),?_⟩;refine (CallsIn.inRound l (callsIn_wide.2 HPn.out)).mono ?_;rintro e w1 ⟨v1,rfl,ho1,hb1⟩;obtain ⟨a1,d1',a2,d2',a3,d3',a4,d4',a5,d5',rfl⟩:=zaX ho1;have HO1:=hide ho1;have HB1:=hide hb1;have hs5:=fun o=>stays (stays H6.out hb1) ((Below.refl w1.heap.size w1).alloc (Nat.le_refl _) o);have e0:=fun o=>(za0 (hs5 o) 0).1;have e1:=fun o=>(za0 (hs5 o) 1).1;have e2:=fun o=>(za0 (hs5 o) 2).1;have e3:=fun o=>(za0 (hs5 o) 3).1;have e4:=fun o=>(za0 (hs5 o) 4).1;have e5:=fun o=>(za0 (hs5 o) 5).1;have y0:=fun o=>(za0 (hs5 o) 0).2;have y1:=fun o=>(za0 (hs5 o) 1).2;have y2:=fun o=>(za0 (hs5 o) 2).2;have y3:=fun o=>(za0 (hs5 o) 3).2;have y4:=fun o=>(za0 (hs5 o) 4).2;have y5:=fun o=>(za0 (hs5 o) 5).2;clear hs5 ho1 hb1 c0 c1 c2 c3 c4 c5 d0 d1 d2 d3 HPn) | fail)
  obtain ⟨wd,hwd⟩:∃wd,wd=(set6 (w1.alloc (Obj.cells #[.slice a1 kn.ps.length d1',.slice a2 kn.ls.length d2',.int .i64 kn.next,.slice a3 kn.us.length d3',.slice a4 kn.gs.length d4',.slice a5 kn.fs.length d5'] 34)) (w.heap.size+1+1+1+1+1) (.slice a1 kn.ps.length d1') (.slice a2 kn.ls.length d2') (.int .i64 kn.next) (.slice a3 kn.us.length d3') (.slice a4 kn.gs.length d4') (.slice a5 kn.fs.length d5')).drew:=⟨_,rfl⟩
  have hkx:KeptC (fun k=>k=w.heap.size+5) w1 wd:=by
   rw [hwd]
   exact zar (zar (zcQ (fun k=>k=w.heap.size+5) w1 _) (zaw _ _ _ _ _ _ _ _:KeptC (fun k=>k=w.heap.size+5) _ _) (fun j h=>Or.inl h)) (zaq (C:=fun _=>False) (Below.refl _ _).drew) (fun _ h=>h.elim)
  obtain ⟨hC1,hC2,h3,h4,h5,h8,h9,hyes,h15⟩:=HI2.out;have hb1:=HB1.out;have hl5:w.heap.size+7<W.heap.size:=(hC2 _ (hC1 _ (Or.inr (Or.inr (Or.inr (Or.inr rfl)))))).2
  have fw:∀{g:Nat} {ob:Obj},W.heap[g]?=some ob->g≠w.heap.size+5->wd.heap[g]?=some ob:=fun h hn=>(hkx.2.2.2.2 _ (Array.getElem?_eq_some_iff.1 (stays h hb1)).1 hn).trans (stays h hb1)
  have g2:=fw h3 (by omega)
  have g3:=fw h4 (by omega)
  have g4:=fw h5 (by omega)
  have g7:=fw H7.out (by omega)
  have hgn:gv≠w.heap.size+5:=fun e=>by
   have h1:=HGv.out;rw [e,H6.out] at h1
   injection h1 with h1
   injection h1 with _ ht _
   exact absurd ht (by decide)
  have gg:=fw HGv.out hgn
  have g5:wd.heap[w.heap.size+5]?=some (.cells #[.slice a1 kn.ps.length d1',.slice a2 kn.ls.length d2',.int .i64 kn.next,.slice a3 kn.us.length d3',.slice a4 kn.gs.length d4',.slice a5 kn.fs.length d5'] 34 (0,0)):=by
   rw [hwd,show w.heap.size+5=w.heap.size+1+1+1+1+1 from rfl,show ∀X:World,X.drew.heap=X.heap from fun _=>rfl]
   have q:(w1.alloc (Obj.cells #[.slice a1 kn.ps.length d1',.slice a2 kn.ls.length d2',.int .i64 kn.next,.slice a3 kn.us.length d3',.slice a4 kn.gs.length d4',.slice a5 kn.fs.length d5'] 34)).heap[w.heap.size+1+1+1+1+1]?=_:=stays (stays H6.out hb1) ((Below.refl w1.heap.size w1).alloc (Nat.le_refl _) _);exact zb4 q
  have hk2:KeptC C W wd:=zar (zaq (C:=C) hb1) hkx (fun j e=>Or.inl (by rw [e];exact hC1 _ (Or.inr (Or.inr (Or.inr (Or.inl rfl))))))
  have hb2:Below w.heap.size w wd:=HCg.out.2.2.trans (zaG hk2 (fun k h=>(hC2 k h).1) (by omega))
  have g8:=za7 (za6 h8 hb1) (hkx:Kept w1 wd _) (fun j e hn=>by
   subst hn
   exact absurd (zcg (zcR h8 e) ⟨_,_,H6.out⟩) (by decide))
  have hwk:=zaz HO1.out (hkx:Kept w1 wd _) (fun j hj hn=>by have:=zam HO1.out j hj;omega)
  have HPush:=hide (fun b d wB o hgB hownB hbB=>an_push (v0:= .agg #[.slice ap np cp,.slice al nl cl,.int .i64 nx,.slice au nu cu,.slice ag ng cg,.slice af nf cf]) (k0:=k) (lf:=lf) (R:=R) (PP:=PP) (wB:=wB) (b:=b) (d:=d) (o:=o) (key:=x.1.1.getD 0 ⟨#[]⟩) (pg:=pg) (x:=x) (pre:=pre) HKn.out.2.2.2.1 hk2 hC1 hC2 g2 g3 g4 g5 g7 g8 h9 hwk hgB hownB hbB hyes HKn.out.2.2.2.2 HJn.out HSn.out h15)
  obtain ⟨key,hkey⟩:∃s,s=x.1.1.getD 0 ⟨#[]⟩:=⟨_,rfl⟩
  have hstr:(strs x.1.1)[0]?=some (.string key):=by
   have h0:=HKn.out.1;rw [hkey]
   simp [strs,List.getD_eq_getElem?_getD,h0]
  have HSw:Hid (∀wx,Below w.heap.size w wx->wx.heap[gv]?=some (.cells #[.bool lf,.slice (some ⟨gk,ok,none⟩) n1 ck',.slice av' n2 cv',.slice ac' n3 cc'] 71 (0,0))->wx.cell? ⟨gv,1,none⟩=some (.slice (some ⟨gk,ok,none⟩) n1 ck')/\wx.cell? ⟨gk,ok,none⟩=some (.string key)):=hide (fun wx hb hg=>⟨(za0 hg 1).1,(HKy.out wx hb).trans hstr⟩)
  rw [<-hkey] at HPush;have hHeld:=HSw.out wd hb2 gg
  have hn1:0<n1:=by have:=HN1.out;have:=HKn.out.1;omega
  have HB2:=hide (⟨hb2,gg,g7,g8,hC2,h9⟩:_/\_/\_/\_/\_/\_);clear hC1 hC2 h3 h4 h5 h8 h9 hyes h15 hb1 hl5 fw g2 g3 g4 g5 hgn hk2 hwk hkx hkey hstr hb2 gg g8 e0 e1 e2 e3 e4 e5 y0 y1 y2 y3 y4 y5 hput;refine ziR ?_
  refine ziQ (S:=fun wx=>wx.cell? ⟨gv,1,none⟩=some (.slice (some ⟨gk,ok,none⟩) n1 ck')/\wx.cell? ⟨gk,ok,none⟩=some (.string key)) (by kernel_rfl) ?hlo (zhP (by kernel_rfl)) (by rw [set6] at hwd;rw [<-hwd];exact hHeld) (fun _=> ?_)
  case hlo=>simp [LetsOut,onlyN]
  rw [set6] at hwd;rw [<-hwd];clear hwd
  refine tK 1 30 ?_ rfl rfl (by kernel_rfl) (fun _ _ _ h=>h) ⟨by rfl,?_⟩ hHeld ?_
  rotate_left
  ·(intro wx hSw;(try dsimp only at hSw);go_simp;try with_reducible rfl)
  simp only [yA,yB,yC]
  refine tK 2 31 ?_ rfl rfl (by kernel_rfl) (fun _ _ _ h=>h) ⟨by rfl,?_⟩ hHeld ?_
  rotate_left
  ·(intro wx hSw;(try dsimp only at hSw);go_simp;try with_reducible rfl)
  simp only [yA,yB,yC]
  refine tK 3 32 ?_ rfl rfl (by kernel_rfl) (fun _ _ _ h=>h) ⟨by rfl,?_⟩ hHeld ?_
  rotate_left
  ·(intro wx hSw;(try dsimp only at hSw);go_simp;try with_reducible rfl)
  simp only [yA,yB,yC]
  refine tK 4 33 ?_ rfl rfl (by kernel_rfl) (fun _ _ _ h=>h) ⟨by rfl,?_⟩ hHeld ?_
  rotate_left
  ·(intro wx hSw;(try dsimp only at hSw);go_simp;try with_reducible rfl)
  simp only [yA,yB,yC]
  refine tK 5 34 ?_ rfl rfl (by kernel_rfl) (fun _ _ _ h=>h) ⟨by rfl,?_⟩ hHeld ?_
  rotate_left
  ·(intro wx hSw;(try dsimp only at hSw);go_simp;try with_reducible rfl)
  simp only [yA,yB,yC]
  refine tK 6 35 ?_ rfl rfl (by kernel_rfl) (fun _ _ _ h=>h) ⟨by rfl,?_⟩ hHeld ?_
  rotate_left
  ·(intro wx hSw;(try dsimp only at hSw);go_simp;try with_reducible rfl)
  simp only [yA,yB,yC]
  refine wpAnyH_ready (rs:= [0,7]) (by kernel_rfl) (by simp) ?_
  have HSa:Hid (∀o,(fun wx:World=>wx.cell? ⟨gv,1,none⟩=some (.slice (some ⟨gk,ok,none⟩) n1 ck')/\wx.cell? ⟨gk,ok,none⟩=some (.string key)) (wd.alloc o)):=hide (fun o=>HSw.out _ (HB2.out.1.alloc HB2.out.1.size o) (stays HB2.out.2.1 ((Below.refl _ _).alloc (Nat.le_refl _) o)))
  have m0:wd.cell? ⟨w.heap.size+1+1+1+1+1+1+1,0,none⟩=some (.slice xr lh yr):=(za0 HB2.out.2.2.1 0).1
  have m0a:∀o,(wd.alloc o).cell? ⟨w.heap.size+1+1+1+1+1+1+1,0,none⟩=some (.slice xr lh yr):=fun o=>(za0 (stays HB2.out.2.2.1 ((Below.refl _ _).alloc (Nat.le_refl _) o)) 0).1
  refine ready2 rfl rfl ?_
  apply branch2
  ·intro hG K hK
   go_simp
   refine hK.out _ _ hHeld (fun _=> ?_)
   clear hK K
   refine wpAnyH_ready (rs:= [7]) (by kernel_rfl) (by simp) ?_
   refine AllReadyH.cons rfl (fun K hK=> ?_) AllReadyH.nil
   go_simp
   refine hK.out _ _ (HSa.out _) (fun _=> ?_)
   clear hK K;exact hG
  ·intro hG K hK
   go_simp
   refine hK.out _ _ (HSa.out _) (fun _=> ?_)
   clear hK K
   refine wpAnyH_ready (rs:= [0]) (by kernel_rfl) (by simp) ?_
   refine AllReadyH.cons rfl (fun K hK=> ?_) AllReadyH.nil
   go_simp
   refine hK.out _ _ (HSa.out _) (fun _=> ?_)
   clear hK K;exact hG
  clear m0 m0a
  refine wpAnyH_ready (rs:= [8]) (by kernel_rfl) (by simp) ?_
  refine AllReadyH.cons rfl (fun K hK=> ?_) AllReadyH.nil
  have hlb:lh<=1000:=by have:=HLb.out;omega
  have hs7:w.heap.size+7<wd.heap.size:=(Array.getElem?_eq_some_iff.1 HB2.out.2.2.1).1;have hown:=HB2.out.2.2.2.1;have hlh:=HKn.out.2.2.2.1;rw [<-hlh] at hown;obtain ⟨ip,hj,hy0,hy1,hy2⟩:=info_parts Tryz.infoHalf;refine step_append_lies _ ?_ (.tmp 29) (.tmp 36) 83 ?_ w.heap.size 111 ip (.agg #[.string ⟨#[]⟩,.int .i64 0]) 2 24 Tryz.underlying83 hj hy0 hy1 hy2 ?_ ?_ (.slice xr lh yr) lh (hvs lr) ?_ (hown.alloc _) ⟨wd.heap.size,0,none⟩ 1 1 [.string key,.int .i64 pg] ?_ ?_ (zjA wd _ rfl _ _ _) ?_ ?_ ?_ ?_ ?_ _ rfl ?_
  ·exact rfl
  ·exact rfl
  ·exact rfl
  ·decide
  ·exact rfl
  ·exact rfl
  ·exact rfl
  ·intro u hu;simp at hu;rcases hu with rfl | rfl <;> rfl
  ·decide
  ·unfold maxLen;omega
  ·omega
  ·simp;omega
  intro b6 d6 wB hownB hgB hbB hlB
  have HFin:=hide (HPush.out b6 d6 wB _ hgB hownB (by simpa using hbB))
  have gB:=ziS HB2.out.2.2.2.1 hgB HB2.out.2.1 (by decide)
  have fB:=ziS HB2.out.2.2.2.1 hgB HB2.out.2.2.1 (by decide)
  have hbB:Below w.heap.size w wB:=ziT HB2.out.1 hgB (fun j e=>(HB2.out.2.2.2.2.1 _ (HB2.out.2.2.2.2.2 j e)).1)
  have hSB:=HSw.out wB hbB gB;have cB:wB.cell? ⟨w.heap.size+1+1+1+1+1+1+1,0,none⟩=some (.slice xr lh yr):=(za0 fB 0).1;have zB:wB.frozen? ⟨w.heap.size+1+1+1+1+1+1+1,0,none⟩=false:=(za0 fB 0).2
  have hg7:gv≠w.heap.size+7:=fun e=>by
   have h1:=HB2.out.2.1;rw [e,HB2.out.2.2.1] at h1
   injection h1 with h1
   injection h1 with _ ht _
   exact absurd ht (by decide)
  refine hK.out (Act.put _ (some 37) _) _ hSB (fun _=> ?_)
  clear hK K hownB hgB hown hlh hs7
  simp only [Act.put,yA,yB,yC]
  refine wpAnyH_ready (rs:= [9]) (by kernel_rfl) (by simp) ?_
  refine AllReadyH.cons rfl (fun K hK=> ?_) AllReadyH.nil
  go_simp
  refine hK.out _ _ (HSw.out _ (hbB.setCell (by show w.heap.size<=w.heap.size+7;omega) _) ((heap_setCell_other wB ⟨w.heap.size+7,0,none⟩ gv _ hg7).trans gB)) (fun _=> ?_)
  clear hK K cB zB hSB
  refine wpAnyH_done (by kernel_rfl) ?_ _
  dsimp only [onlyN]
  gi_wp2_with fail
  exact HFin.out
end Go.Proofs.YtcbogiebfbbmbaaGreatDoor
