/-
  Facts and contracts that the law's own text rests on, by their texts' names: WorkCp.
-/
import Derived.Test.YtcbogiebfbbmbaaGreatDoorDa1
set_option maxHeartbeats 16000000
set_option maxRecDepth 100000
namespace Go.Proofs.YtcbogiebfbbmbaaGreatDoor
open Go.RowKit
structure CS (w:World) (n0:Nat) (bx rs:Obj) (ps:List ByteArray) (ls:List (Int×ByteArray)) (W:World) (Em:Nat->Prop) (R:List (Value×List Int)) (D:List Value):Prop where
 n0e:n0=w.heap.size
 low:Below w.heap.size w W
 box:W.heap[n0]?=some bx
 res:W.heap[n0+1]?=some rs
 emp:∀g,Em g->n0+2<=g/\W.heap[g]?=some (.cells #[] 3 (0,0))
 own:∀r∈R,W.ownsRow (n0+2) 3 1 r.1 r.2.length (ints r.2)/\∀g,Em g->r.1.ownBlock≠some g
 apart:R.Pairwise (fun r s=>∀j,r.1.ownBlock=some j->s.1.ownBlock≠some j)
 disk:∀v∈D,DiskOwn W (n0+2) v ps ls
theorem CS.size {w:World} {n0:Nat} {bx rs:Obj} {ps:List ByteArray} {ls:List (Int×ByteArray)} {W:World} {Em:Nat->Prop} {R:List (Value×List Int)} {D:List Value} (h:CS w n0 bx rs ps ls W Em R D):n0+2<=W.heap.size:=(Array.getElem?_eq_some_iff.1 h.res).1
theorem zhx {w:World} {n0:Nat} {bx rs:Obj} {ps:List ByteArray} {ls:List (Int×ByteArray)} {W W':World} {Em:Nat->Prop} {R:List (Value×List Int)} {D:List Value} (h:CS w n0 bx rs ps ls W Em R D) (hb:Below W.heap.size W W'):CS w n0 bx rs ps ls W' Em R D where
 n0e:=h.n0e
 low:=h.low.trans (hb.mono h.low.size)
 box:=(hb.block _ (Array.getElem?_eq_some_iff.1 h.box).1).trans h.box
 res:=(hb.block _ (Array.getElem?_eq_some_iff.1 h.res).1).trans h.res
 emp:=fun g hg=>⟨(h.emp g hg).1,(hb.block _ (Array.getElem?_eq_some_iff.1 (h.emp g hg).2).1).trans (h.emp g hg).2⟩
 own:=fun r hr=>⟨zaf (h.own r hr).1 hb,(h.own r hr).2⟩
 apart:=h.apart
 disk:=fun v hv=>zej (h.disk v hv) hb
theorem zhy {w:World} {n0:Nat} {bx rs:Obj} {ps:List ByteArray} {ls:List (Int×ByteArray)} {W:World} {Em:Nat->Prop} {R:List (Value×List Int)} {D:List Value} (h:CS w n0 bx rs ps ls W Em R D):CS w n0 bx rs ps ls W.drew Em R D:=
 zhx h (Below.refl _ _).drew
theorem za5 {w:World} {n0:Nat} {bx rs:Obj} {ps:List ByteArray} {ls:List (Int×ByteArray)} {W:World} {Em:Nat->Prop} {R:List (Value×List Int)} {D:List Value} (h:CS w n0 bx rs ps ls W Em R D):CS w n0 bx rs ps ls (W.alloc (.cells #[] 3 (0,0))) (fun y=>y=W.heap.size\/Em y) R D:=by
 have h1:=zhx h ((Below.refl _ _).alloc (Nat.le_refl _) (.cells #[] 3 (0,0)))
 refine ⟨h1.n0e,h1.low,h1.box,h1.res,fun g hg=> ?_,fun r hr=>⟨(h1.own r hr).1,fun g hg=> ?_⟩,h1.apart,h1.disk⟩
 ·rcases hg with rfl | hg
  ·exact ⟨h.size,heap_alloc_new W _⟩
  ·exact h1.emp g hg
 ·rcases hg with rfl | hg
  ·intro e;have:=((h.own r hr).1.lt _ e).2;omega
  ·exact (h.own r hr).2 g hg
theorem cs_call {w:World} {n0:Nat} {bx rs:Obj} {ps:List ByteArray} {ls:List (Int×ByteArray)} {W W':World} {Em:Nat->Prop} {R:List (Value×List Int)} {D:List Value} {v:Value} (h:CS w n0 bx rs ps ls W Em R D) (hb:Below W.heap.size W W') (hd:DiskOwn W' W.heap.size v ps ls):CS w n0 bx rs ps ls W' Em R [v]:=by
 have h1:=zhx h hb
 refine ⟨h1.n0e,h1.low,h1.box,h1.res,h1.emp,h1.own,h1.apart,fun u hu=> ?_⟩
 obtain rfl:=List.mem_singleton.1 hu;obtain ⟨vp,vl,e,d1,d2⟩:=hd;exact ⟨vp,vl,e,zad d1 h.size,zad d2 h.size⟩
theorem cs_app {w:World} {n0:Nat} {bx rs:Obj} {ps:List ByteArray} {ls:List (Int×ByteArray)} {W W':World} {Em:Nat->Prop} {R:List (Value×List Int)} {D:List Value} {g b c:Nat} {l:List Int} (h:CS w n0 bx rs ps ls W Em R D) (hE:Em g) (hown:W'.ownsRow g 3 1 (.slice (some ⟨b,0,none⟩) l.length c) l.length (ints l)) (hg:W.grownBy W' (some g)) (hb:b=g\/b=W.heap.size):CS w n0 bx rs ps ls W' (fun y=>Em y/\y≠g) ((.slice (some ⟨b,0,none⟩) l.length c,l) :: R) D:=by
 obtain ⟨hg0,hge⟩:=h.emp g hE;have hn:=h.n0e
 have hlt:∀y,Em y->y<W.heap.size:=fun y hy=>(Array.getElem?_eq_some_iff.1 (h.emp y hy).2).1
 refine ⟨h.n0e,zce h.low h.low.size hg (by omega),k4 hg h.box (by omega),k4 hg h.res (by omega),fun y hy=>⟨(h.emp y hy.1).1,k4 hg (h.emp y hy.1).2 hy.2⟩,fun r hr=> ?_,?_,fun v hv=> ?_⟩
 ·rcases List.mem_cons.1 hr with rfl | hr
  ·refine ⟨zad hown hg0,fun y hy e=> ?_⟩
   injection e with e
   have e:b=y:=e
   rcases hb with hb | hb
   ·exact hy.2 (by omega)
   ·have:=hlt y hy.1;omega
  ·exact ⟨(h.own r hr).1.kept hg (Or.inr ((h.own r hr).2 g hE)),fun y hy=>(h.own r hr).2 y hy.1⟩
 ·refine List.pairwise_cons.2 ⟨fun s hs j e1 e2=> ?_,h.apart⟩
  injection e1 with e1
  have e1:b=j:=e1
  rcases hb with hb | hb
  ·exact (h.own s hs).2 g hE (by rw [e2,<-hb,e1])
  ·have:=((h.own s hs).1.lt j e2).2;omega
 ·obtain ⟨vp,vl,e,d1,d2⟩:=h.disk v hv
  exact ⟨vp,vl,e,zdb d1 hge Tryz.str_int hg,zdb d2 hge Tryz.put_int hg⟩
theorem zkD {w:World} {g e:Nat} (h:w.heap[g]?=some (.cells #[] e (0,0))):w.ownsRow g e 1 (.slice (some ⟨g,0,none⟩) 0 0) 0 []:=zbN h
theorem zjI {P:Program} (w:World) (t ty e:TypeId) (i:TypeInfo) (z:Value) (ht:P.underlying t=some (.slice e)) (hi:P.info? e=some i) (hz:i.zero=some z) (hsize:i.size=1) (hby:i.bytes=8) (hzs:z.cells.size=1)
  (g:Nat) (hge:w.heap[g]?=some (.cells #[] e (0,0))) (u:Value) (m:Nat) (ys:List Value) (hrow:RowAt w 1 u m ys) (h1:∀y∈ys,y.oneCell'=true) (hm:m<=2000000):
  ∃b c w',(Builtin.append_ #[t,t] ty #[.slice (some ⟨g,0,none⟩) 0 0,u]).run P w= .ok (.slice (some ⟨b,0,none⟩) m c) w'/\w'.ownsRow g e 1 (.slice (some ⟨b,0,none⟩) m c) m ys/\w.grownBy w' (some g)/\(b=g\/b=w.heap.size):=by
 have hlt:g<w.heap.size:=(Array.getElem?_eq_some_iff.1 hge).1;have hown:=zkD hge;obtain ⟨hl,a,cap,rfl,h2⟩:=hrow
 rcases a with _ | ad
 ·rcases h2 with h0 | ⟨b,off,e,_⟩
  ·subst h0
   have hy:ys= []:=List.length_eq_zero_iff.1 (by omega)
   subst hy
   refine ⟨g,0,w,?_,hown,⟨rfl,rfl,rfl,Nat.le_refl _,fun _ _ _=>rfl⟩,Or.inl rfl⟩
   simp [Builtin.append_,run_underlying ht,sizeOf,typeInfo,hi,Builtin.lenOf,Builtin.firstCells,storeCells]
  ·cases e
 ·have hnews:∀j y,ys[j]?=some y->w.cell? (ad.add j)=some y:=fun j y hj=>by
   have hjl:j<m * 1:=by rw [<-hl];exact (List.getElem?_eq_some_iff.1 hj).1
   rcases h2 with h0 | ⟨b,off,e,hlt,hc⟩
   ·subst h0;simp at hjl
   ·injection e with e
    subst e;rw [Addr.add_lit,hc j hjl,hj]
  obtain ⟨v',w',hr,q2,q3,q4,q5⟩:=run_append_own_at (P:=P) w g t ty e i z 1 8 ht hi hz hsize hby hzs (by decide) (.slice (some ⟨g,0,none⟩) 0 0) 0 [] hown ad m cap ys hl hnews h1 (by unfold maxLen;omega) (by omega) (by omega)
  rw [Nat.zero_add] at q2;rw [List.nil_append] at q2
  rcases q2.2 with ⟨rfl,hm0⟩ | ⟨b,c,cur,rfl,rest⟩
  ·exact absurd (q4.1 rfl).1 (by intro h;cases h)
  ·refine ⟨b,c,w',hr,q2,q3,?_⟩
   rcases q5 with q5 | q5
   ·injection q5 with q5
    exact Or.inl q5
   ·injection q5 with q5
    exact Or.inr q5
theorem Tryz.infoIntC:(Tryz.prog.info? 3).map (fun i=>(i.zero,i.size,i.bytes))=some (some (.int .i64 0),1,8):=by kernel_rfl
theorem zcf {ops:Array Oper} {o:Oper} {a:Act} {K:Act->World->Prop} {Q:Exit->Act->World->Prop} {E:Prop} {w:World} {n0:Nat} {bx rs:Obj} {ps:List ByteArray} {ls:List (Int×ByteArray)} {W:World} {Em:Nat->Prop} {R:List (Value×List Int)} {D:List Value}
  (hcs:CS w n0 bx rs ps ls W Em R D) (hgd:o.guard=none) (s x:Operand) (ho:o.op= .call {callee:= .builtin .append,args:= #[s,x],argTypes:= #[32,32]})
  {g:Nat} (hs:a.eval s= .slice (some ⟨g,0,none⟩) 0 0) {u:Value} (hx:a.eval x=u) (l:List Int) (hl:l.length<=2000000) (hrow:RowAt w 1 u l.length (ints l)) (hE:Em g)
  (h:∀b c W',W.heap.size<=W'.heap.size->CS w n0 bx rs ps ls W' (fun y=>Em y/\y≠g) ((.slice (some ⟨b,0,none⟩) l.length c,l) :: R) D->K (a.put o.dst (.slice (some ⟨b,0,none⟩) l.length c)) W'):
  if Region.wanted o (yielded ops a.tmps)=true then Oper.wp Tryz.prog o a W K Q else E:=by
 have hw:Region.wanted o (yielded ops a.tmps)=true:=by simp [Region.wanted,hgd]
 rw [if_pos hw];obtain ⟨i0,hi,hz0,hz1,hz2⟩:=info_parts Tryz.infoIntC;obtain ⟨b,c,W',hr,q2,q3,q4⟩:=zjI (P:=Tryz.prog) W 32 o.type 3 i0 (.int .i64 0) Tryz.underlying32 hi hz0 hz1 hz2 rfl g (hcs.emp g hE).2 u l.length (ints l) (za8 hrow hcs.low) (zei l) hl;unfold Oper.wp execOp
 simp only [ho,resolve,invoke,builtin,Sem.run_bind,Sem.run_pure,Result.andThen_ok,List.map_toArray,List.map_cons,List.map_nil,hs,hx,hr]
 exact h b c W' q3.size (cs_app hcs hE q2 q3 q4)
theorem zb4 {ops:Array Oper} {o:Oper} {a:Act} {K:Act→World→Prop} {Q:Exit→Act→World→Prop} {E:Prop} {w:World} {n0:Nat} {bx rs:Obj} {ps:List ByteArray} {ls:List (Int×ByteArray)} {W:World} {Em:Nat→Prop} {R:List (Value×List Int)} {D:List Value}
  (hcs : CS w n0 bx rs ps ls W Em R D) (hgd : o.guard = none) (f : FuncId) (fn : Func) (hfn : Tryz.prog.funcs[f]? = some fn) (hname : ¬ fn.name = "runtime.NumGoroutine") (hbody : ¬ fn.body = none) (s : Operand) (ts : Array TypeId)
  (ho:o.op= .call {callee:= .value (.func f),args:= #[s],argTypes:=ts}) (u:Value) (hs:a.eval s=u)
  (hc:∀wx,DiskAt wx u ps ls→Calls Tryz.prog f #[u] wx fun e w'=>∃v',e= .returned v'∧DiskOwn w' wx.heap.size v' ps ls∧Below wx.heap.size wx w') (hd:DiskAt w u ps ls)
  (h:∀x1 c1 y1 d1 W',W.heap.size≤W'.heap.size→CS w n0 bx rs ps ls W' Em R [.agg #[.slice x1 ps.length c1,.slice y1 ls.length d1]]→K (a.put o.dst (.agg #[.slice x1 ps.length c1,.slice y1 ls.length d1])) W'):
  if Region.wanted o (yielded ops a.tmps)=true then Oper.wp Tryz.prog o a W K Q else E:=
 zaG W hgd f fn hfn hname hbody s ts ho u hs _ (hc W (zak hd hcs.low)) (fun e w' hr=>by
  obtain ⟨v',rfl,hown,hb⟩:=hr;obtain ⟨x1,c1,y1,d1,rfl⟩:=zbb hown
  exact ⟨_,rfl,h x1 c1 y1 d1 w' hb.size (cs_call hcs hb hown)⟩)
abbrev set6 (wr:World) (a:Nat) (u0 u1 u2 u3 u4 u5:Value):World:=(((((wr.setCell ⟨a,0,none⟩ u0).setCell ⟨a,1,none⟩ u1).setCell ⟨a,2,none⟩ u2).setCell ⟨a,3,none⟩ u3).setCell ⟨a,4,none⟩ u4).setCell ⟨a,5,none⟩ u5
theorem zcq {wr:World} {a:Nat} {r0 r1 r2 r3 r4 r5 u0 u1 u2 u3 u4 u5:Value} {t:TypeId} (h:wr.heap[a]?=some (Obj.cells #[r0,r1,r2,r3,r4,r5] t)):(set6 wr a u0 u1 u2 u3 u4 u5).heap[a]?=some (Obj.cells #[u0,u1,u2,u3,u4,u5] t):=
 heap_setCell_same _ a 5 _ _ _ (heap_setCell_same _ a 4 _ _ _ (heap_setCell_same _ a 3 _ _ _ (heap_setCell_same _ a 2 _ _ _ (heap_setCell_same _ a 1 _ _ _ (heap_setCell_same wr a 0 _ _ _ h)))))
theorem zaQ (wr:World) (a:Nat) (u0 u1 u2 u3 u4 u5:Value):Kept wr (set6 wr a u0 u1 u2 u3 u4 u5) (fun k=>k=a):=
 kept_trans (kept_trans (kept_trans (kept_trans (kept_trans (za9 _ _ _ _) (za9 _ _ _ _) (fun _ _ h=>h)) (za9 _ _ _ _) (fun _ _ h=>h)) (za9 _ _ _ _) (fun _ _ h=>h)) (za9 _ _ _ _) (fun _ _ h=>h)) (za9 _ _ _ _) (fun _ _ h=>h)
def WorkNw (w:World) (B:Nat) (v:Value) (k:Wk):Prop:=
 ∃vp vl vu vg vf,v= .agg #[vp,vl,.int .i64 k.next,vu,vg,vf]/\DiskOwn w B (.agg #[vp,vl]) k.ps k.ls/\w.ownsRow B 3 1 vu k.us.length (ints k.us)/\w.ownsRow B 3 1 vg k.gs.length (ints k.gs)/\w.ownsRow B 3 1 vf k.fs.length (ints k.fs)/\
  (∀j,vu.ownBlock=some j->vg.ownBlock≠some j)/\(∀j,vu.ownBlock=some j->vf.ownBlock≠some j)/\(∀j,vg.ownBlock=some j->vf.ownBlock≠some j)
theorem zaJ {w:World} {B:Nat} {v:Value} {k:Wk} (h:WorkNw w B v k):WorkOwn w B v k:=by
 obtain ⟨vp,vl,vu,vg,vf,e,h1,h2,h3,h4,h5⟩:=h;exact ⟨vp,vl,vu,vg,vf,e,h1,zan h2,zan h3,zan h4,h5⟩
theorem ze4 {w w':World} {B:Nat} {v:Value} {k:Wk} {S:Nat->Prop} (h:WorkNw w B v k) (hk:Kept w w' S) (hS:∀j,workBlocks v j->¬S j):WorkNw w' B v k:=by
 obtain ⟨vp,vl,vu,vg,vf,rfl,h1,h2,h3,h4,h5⟩:=h
 exact ⟨vp,vl,vu,vg,vf,rfl,zbo h1 hk (fun j e=>hS j ⟨_,_,_,_,_,_,rfl,Or.inl e⟩),za6 h2 hk (fun j e=>hS j ⟨_,_,_,_,_,_,rfl,Or.inr (Or.inl e)⟩),za6 h3 hk (fun j e=>hS j ⟨_,_,_,_,_,_,rfl,Or.inr (Or.inr (Or.inl e))⟩),za6 h4 hk (fun j e=>hS j ⟨_,_,_,_,_,_,rfl,Or.inr (Or.inr (Or.inr e))⟩),h5⟩
theorem zcr {w w':World} {B:Nat} {v:Value} {k:Wk} (h:WorkNw w B v k) (hb:Below w.heap.size w w'):WorkNw w' B v k:=
 ze4 h (ze1 hb (fun _=>False)) (fun _ _ h=>h)
theorem zeZ {w:World} {B B':Nat} {v:Value} {k:Wk} (h:WorkNw w B v k) (hB:B'<=B):WorkNw w B' v k:=by
 obtain ⟨vp,vl,vu,vg,vf,e,⟨vp',vl',e1,d1,d2⟩,h2,h3,h4,h5⟩:=h;exact ⟨vp,vl,vu,vg,vf,e,⟨vp',vl',e1,zad d1 hB,zad d2 hB⟩,zad h2 hB,zad h3 hB,zad h4 hB,h5⟩
theorem zfo {w wr:World} {a1 B:Nat} {r0 r1 r2 r3 r4 r5 u0 u1 u2 u3 u4 u5:Value} {t:TypeId} {k:Wk} (hres:wr.heap[a1]?=some (Obj.cells #[r0,r1,r2,r3,r4,r5] t)) (hd:WorkNw wr B (.agg #[u0,u1,u2,u3,u4,u5]) k) (hB:a1<B) (hw:w.heap.size<=a1) (hb:Below w.heap.size w wr):
  (set6 wr a1 u0 u1 u2 u3 u4 u5).heap[a1]?=some (Obj.cells #[u0,u1,u2,u3,u4,u5] t)/\WorkNw (set6 wr a1 u0 u1 u2 u3 u4 u5) w.heap.size (.agg #[u0,u1,u2,u3,u4,u5]) k/\Below w.heap.size w (set6 wr a1 u0 u1 u2 u3 u4 u5):=by
 have hk:=zaQ wr a1 u0 u1 u2 u3 u4 u5
 exact ⟨zcq hres,zeZ (ze4 hd hk (fun j hj=>by have:=(zal (zaJ hd) j hj).1;omega)) (by omega),hb.trans (zac hk hb.size (fun k hk=>by omega))⟩
theorem zaM {w wr:World} {a1 B:Nat} {r0 r1 r2 r3 r4 r5 u0 u1 u2 u3 u4 u5:Value} {t:TypeId} {k:Wk} (hres:wr.heap[a1]?=some (Obj.cells #[r0,r1,r2,r3,r4,r5] t)) (hd:WorkOwn wr B (.agg #[u0,u1,u2,u3,u4,u5]) k) (hB:a1<B) (hw:w.heap.size<=a1) (hb:Below w.heap.size w wr):
  (set6 wr a1 u0 u1 u2 u3 u4 u5).heap[a1]?=some (Obj.cells #[u0,u1,u2,u3,u4,u5] t)/\WorkOwn (set6 wr a1 u0 u1 u2 u3 u4 u5) w.heap.size (.agg #[u0,u1,u2,u3,u4,u5]) k/\Below w.heap.size w (set6 wr a1 u0 u1 u2 u3 u4 u5):=by
 have hk:=zaQ wr a1 u0 u1 u2 u3 u4 u5
 exact ⟨zcq hres,zaU (zcp hd hk (fun j hj=>by have:=(zal hd j hj).1;omega)) (by omega),hb.trans (zac hk hb.size (fun k hk=>by omega))⟩
theorem zdD {w:World} {n0:Nat} {c0 c1 c2 c3 c4 c5:Value} {t:TypeId} {rs:Obj} {ps:List ByteArray} {ls:List (Int×ByteArray)} {W:World} {Em:Nat->Prop} {R:List (Value×List Int)} {D:List Value} (h:CS w n0 (Obj.cells #[c0,c1,c2,c3,c4,c5] t) rs ps ls W Em R D):
  W.cell? ⟨n0,0,none⟩=some c0/\W.cell? ⟨n0,1,none⟩=some c1/\W.cell? ⟨n0,2,none⟩=some c2/\W.cell? ⟨n0,3,none⟩=some c3/\W.cell? ⟨n0,4,none⟩=some c4/\W.cell? ⟨n0,5,none⟩=some c5:=
 ⟨(za0 h.box 0).1,(za0 h.box 1).1,(za0 h.box 2).1,(za0 h.box 3).1,(za0 h.box 4).1,(za0 h.box 5).1⟩
theorem zic {w:World} {n0:Nat} {c0 c1 c2 c3 c4 c5 u0 u1 u2 u3 u4 u5:Value} {t:TypeId} {rs:Obj} {ps:List ByteArray} {ls:List (Int×ByteArray)} {W:World} {Em:Nat->Prop} {R:List (Value×List Int)} {D:List Value} (h:CS w n0 (Obj.cells #[c0,c1,c2,c3,c4,c5] t) rs ps ls W Em R D):
  (set6 W (n0+1) u0 u1 u2 u3 u4 u5).cell? ⟨n0,0,none⟩=some c0/\(set6 W (n0+1) u0 u1 u2 u3 u4 u5).cell? ⟨n0,1,none⟩=some c1/\(set6 W (n0+1) u0 u1 u2 u3 u4 u5).cell? ⟨n0,2,none⟩=some c2/\(set6 W (n0+1) u0 u1 u2 u3 u4 u5).cell? ⟨n0,3,none⟩=some c3/\(set6 W (n0+1) u0 u1 u2 u3 u4 u5).cell? ⟨n0,4,none⟩=some c4/\(set6 W (n0+1) u0 u1 u2 u3 u4 u5).cell? ⟨n0,5,none⟩=some c5:=by
 have hb:=((zaQ W (n0+1) u0 u1 u2 u3 u4 u5).2.2.2.2 n0 (Array.getElem?_eq_some_iff.1 h.box).1 (by omega)).trans h.box
 exact ⟨(za0 hb 0).1,(za0 hb 1).1,(za0 hb 2).1,(za0 hb 3).1,(za0 hb 4).1,(za0 hb 5).1⟩
theorem cs_res {w:World} {n0:Nat} {c0 c1 c2 c3 c4 c5:Value} {t:TypeId} {bx:Obj} {ps:List ByteArray} {ls:List (Int×ByteArray)} {W:World} {Em:Nat->Prop} {R:List (Value×List Int)} {D:List Value} (h:CS w n0 bx (Obj.cells #[c0,c1,c2,c3,c4,c5] t) ps ls W Em R D):
  (W.cell? ⟨n0+1,0,none⟩=some c0/\W.cell? ⟨n0+1,1,none⟩=some c1/\W.cell? ⟨n0+1,2,none⟩=some c2/\W.cell? ⟨n0+1,3,none⟩=some c3/\W.cell? ⟨n0+1,4,none⟩=some c4/\W.cell? ⟨n0+1,5,none⟩=some c5)/\
  W.frozen? ⟨n0+1,0,none⟩=false/\W.frozen? ⟨n0+1,1,none⟩=false/\W.frozen? ⟨n0+1,2,none⟩=false/\W.frozen? ⟨n0+1,3,none⟩=false/\W.frozen? ⟨n0+1,4,none⟩=false/\W.frozen? ⟨n0+1,5,none⟩=false:=
 ⟨⟨(za0 h.res 0).1,(za0 h.res 1).1,(za0 h.res 2).1,(za0 h.res 3).1,(za0 h.res 4).1,(za0 h.res 5).1⟩,(za0 h.res 0).2,(za0 h.res 1).2,(za0 h.res 2).2,(za0 h.res 3).2,(za0 h.res 4).2,(za0 h.res 5).2⟩
theorem blk6c {W:World} {g:Nat} {c0 c1 c2 c3 c4 c5:Value} {t:TypeId} (h:W.heap[g]?=some (Obj.cells #[c0,c1,c2,c3,c4,c5] t)):
  W.cell? ⟨g,0,none⟩=some c0/\W.cell? ⟨g,1,none⟩=some c1/\W.cell? ⟨g,2,none⟩=some c2/\W.cell? ⟨g,3,none⟩=some c3/\W.cell? ⟨g,4,none⟩=some c4/\W.cell? ⟨g,5,none⟩=some c5:=
 ⟨(za0 h 0).1,(za0 h 1).1,(za0 h 2).1,(za0 h 3).1,(za0 h 4).1,(za0 h 5).1⟩
theorem zlb {w:World} {n0:Nat} {bx rs:Obj} {W:World} {Em:Nat->Prop} {k:Wk} {v1 v2 v3 vp vl:Value} (h:CS w n0 bx rs k.ps k.ls W Em [(v3,k.fs),(v2,k.gs),(v1,k.us)] [.agg #[vp,vl]]):WorkNw W (n0+2) (.agg #[vp,vl,.int .i64 k.next,v1,v2,v3]) k:=by
 have hp:=h.apart
 simp only [List.pairwise_cons,List.mem_cons,List.not_mem_nil,or_false,forall_eq_or_imp,forall_eq] at hp
 obtain ⟨⟨p1,p2⟩,p3,-⟩:=hp
 have o3:=(h.own (v3,k.fs) (by simp)).1
 have o2:=(h.own (v2,k.gs) (by simp)).1
 have o1:=(h.own (v1,k.us) (by simp)).1
 exact ⟨vp,vl,v1,v2,v3,rfl,h.disk _ (by simp),o1,o2,o3,fun j e1 e2=>p3 j e2 e1,fun j e1 e2=>p2 j e2 e1,fun j e1 e2=>p1 j e2 e1⟩
end Go.Proofs.YtcbogiebfbbmbaaGreatDoor
