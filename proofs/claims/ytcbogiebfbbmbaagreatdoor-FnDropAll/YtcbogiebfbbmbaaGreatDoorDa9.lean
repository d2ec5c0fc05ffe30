/-
  Facts and contracts that the law's own text rests on, by their texts' names: WCopySpec, DiskRetN, GiveVar.
-/
import Derived.Test.YtcbogiebfbbmbaaGreatDoorDa8
import Derived.Test.YtcbogiebfbbmbaaGreatDoorDa1
import Derived.Test.YtcbogiebfbbmbaaGreatDoorDa2
import Derived.Test.YtcbogiebfbbmbaaGreatDoorDa3
set_option maxHeartbeats 16000000
set_option maxRecDepth 100000
namespace Go.Proofs.YtcbogiebfbbmbaaGreatDoor
open Go.RowKit
theorem zcW (v:Value) (k:Wk) (hk:k.small) (w:World) (hd:WorkAt w v k):
  Calls Tryz.prog 31 #[v] w fun e w'=>∃v',e= .returned v'/\WorkNw w' w.heap.size v' k/\Below w.heap.size w w':=by
 obtain ⟨s1,s2,s3,s4,s5,s6,s7⟩:=hk
 have HC:=hide (fun vp vl wx h=>zdc (.agg #[vp,vl]) k.ps k.ls s1 s3 wx h)
 have HS:=hide (⟨s1,s3,s5,s6,s7⟩:k.ps.length<=1048576/\k.ls.length<=1048576/\k.us.length<=2000000/\k.gs.length<=2000000/\k.fs.length<=2000000);clear s1 s2 s3 s4 s5 s6 s7;obtain ⟨vp,vl,vu,vg,vf,rfl,h1,h2,h3,h4,-⟩:=hd;have HD:=hide h1;have HU:=hide h2;have HG:=hide h3;have HF:=hide h4;clear h1 h2 h3 h4;obtain ⟨nx,hnx⟩:∃n,n=k.next:=⟨_,rfl⟩;rw [<-hnx];have HNx:=hide hnx;clear hnx;obtain ⟨w0,hw0⟩:∃w0,w0=(w.alloc (Obj.cells #[vp,vl,.int .i64 nx,vu,vg,vf] 34)).alloc (Obj.cells #[.slice none 0 0,.slice none 0 0,.int .i64 0,.slice none 0 0,.slice none 0 0,.slice none 0 0] 34):=⟨_,rfl⟩
 have hb0:Below w.heap.size w w0:=by rw [hw0];exact ((Below.refl w.heap.size w).alloc (Nat.le_refl _) _).alloc (by simp) _
 obtain ⟨q0,q1,hs0⟩:=zaE w (Obj.cells #[vp,vl,.int .i64 nx,vu,vg,vf] 34) (Obj.cells #[.slice none 0 0,.slice none 0 0,.int .i64 0,.slice none 0 0,.slice none 0 0,.slice none 0 0] 34);rw [<-hw0] at q0 q1 hs0;obtain ⟨a0,ha0⟩:∃a,a=w.heap.size:=⟨_,rfl⟩;rw [<-ha0] at q0 q1 hs0
 have hcs0:CS w a0 (Obj.cells #[vp,vl,.int .i64 nx,vu,vg,vf] 34) (Obj.cells #[.slice none 0 0,.slice none 0 0,.int .i64 0,.slice none 0 0,.slice none 0 0,.slice none 0 0] 34) k.ps k.ls w0 (fun y=>y<0) [] []:=
  ⟨ha0,hb0,q0,q1,fun g hg=>absurd hg (by omega),fun r hr=>(by cases hr),List.Pairwise.nil,fun v hv=>(by cases hv)⟩
 go_enter Tryz.func31,Tryz.ntmps31;go_wp2_with fail;rw [<-hw0,<-ha0];clear ha0 hw0 hs0 hb0 q0 q1
 refine wp_region_held_drew (S:=fun wx=>wx.cell? ⟨a0,0,none⟩=some vp/\wx.cell? ⟨a0,1,none⟩=some vl/\wx.cell? ⟨a0,2,none⟩=some (.int .i64 nx)/\wx.cell? ⟨a0,3,none⟩=some vu/\wx.cell? ⟨a0,4,none⟩=some vg/\wx.cell? ⟨a0,5,none⟩=some vf) (by kernel_rfl) (zdD (zhy hcs0)) (fun hHeld=> ?_)
 refine tK 0 3 ?_ rfl rfl (by kernel_rfl) (fun _ _ _ h=>h) ⟨by rfl,?_⟩ hHeld ?_
 rotate_left
 ·(intro wx hSw;(try dsimp only at hSw);go_simp;try with_reducible rfl)
 simp only [yA,yB,yC]
 refine tK 1 4 ?_ rfl rfl (by kernel_rfl) (fun _ _ _ h=>h) ⟨by rfl,?_⟩ hHeld ?_
 rotate_left
 ·(intro wx hSw;(try dsimp only at hSw);go_simp;try with_reducible rfl)
 simp only [yA,yB,yC]
 refine tK 3 6 ?_ rfl rfl (by kernel_rfl) (fun _ _ _ h=>h) ⟨by rfl,?_⟩ hHeld ?_
 rotate_left
 ·(intro wx hSw;(try dsimp only at hSw);go_simp;try with_reducible rfl)
 simp only [yA,yB,yC]
 refine tK 4 7 ?_ rfl rfl (by kernel_rfl) (fun _ _ _ h=>h) ⟨by rfl,?_⟩ hHeld ?_
 rotate_left
 ·(intro wx hSw;(try dsimp only at hSw);go_simp;try with_reducible rfl)
 simp only [yA,yB,yC]
 refine tK 6 9 ?_ rfl rfl (by kernel_rfl) (fun _ _ _ h=>h) ⟨by rfl,?_⟩ hHeld ?_
 rotate_left
 ·(intro wx hSw;(try dsimp only at hSw);go_simp;try with_reducible rfl)
 simp only [yA,yB,yC]
 refine tK 7 10 ?_ rfl rfl (by kernel_rfl) (fun _ _ _ h=>h) ⟨by rfl,?_⟩ hHeld ?_
 rotate_left
 ·(intro wx hSw;(try dsimp only at hSw);go_simp;try with_reducible rfl)
 simp only [yA,yB,yC]
 refine tK 10 13 ?_ rfl rfl (by kernel_rfl) (fun _ _ _ h=>h) ⟨by rfl,?_⟩ hHeld ?_
 rotate_left
 ·(intro wx hSw;(try dsimp only at hSw);go_simp;try with_reducible rfl)
 simp only [yA,yB,yC]
 refine tK 11 14 ?_ rfl rfl (by kernel_rfl) (fun _ _ _ h=>h) ⟨by rfl,?_⟩ hHeld ?_
 rotate_left
 ·(intro wx hSw;(try dsimp only at hSw);go_simp;try with_reducible rfl)
 simp only [yA,yB,yC]
 refine tK 14 17 ?_ rfl rfl (by kernel_rfl) (fun _ _ _ h=>h) ⟨by rfl,?_⟩ hHeld ?_
 rotate_left
 ·(intro wx hSw;(try dsimp only at hSw);go_simp;try with_reducible rfl)
 simp only [yA,yB,yC]
 refine tK 15 18 ?_ rfl rfl (by kernel_rfl) (fun _ _ _ h=>h) ⟨by rfl,?_⟩ hHeld ?_
 rotate_left
 ·(intro wx hSw;(try dsimp only at hSw);go_simp;try with_reducible rfl)
 simp only [yA,yB,yC]
 refine zir (us:=k.us) (gs:=k.gs) (fs:=k.fs) ⟨_,_,_,_,_,_,_,_,_,_,_,_,_,_⟩ HS.out.2.2.1 HS.out.2.2.2.1 HS.out.2.2.2.2 (fun _ _ _ _ h=>zdD h) 21 Tryz.f21 Tryz.func21 (by decide) (Option.some_ne_none _) #[29] (HC.out vp vl) HD.out HU.out HG.out HF.out rfl rfl rfl rfl rfl rfl rfl rfl rfl rfl rfl rfl rfl rfl rfl rfl rfl rfl rfl rfl rfl rfl rfl rfl rfl rfl rfl rfl (by kernel_rfl) (by kernel_rfl) (by kernel_rfl) (by kernel_rfl) (by kernel_rfl) (by kernel_rfl) (by kernel_rfl) (by kernel_rfl) (by kernel_rfl) (by kernel_rfl) (by kernel_rfl) (by kernel_rfl) (by kernel_rfl) (by kernel_rfl) (by kernel_rfl) (by kernel_rfl) (by kernel_rfl) (by kernel_rfl) (by kernel_rfl) (by kernel_rfl) (by kernel_rfl) (by kernel_rfl) ?_ _ (zhy hcs0)
 intro W Em x1 p1 y1 p2 te1 b1 q1 te2 b2 q2 te3 b3 q3 hcs;have hHeld2:=zdD hcs
 refine tK 17 20 ?_ rfl rfl (by kernel_rfl) (fun _ _ _ h=>h) ⟨by rfl,?_⟩ hHeld2 ?_
 rotate_left
 ·(intro wx hSw;(try dsimp only at hSw);go_simp;try with_reducible rfl)
 simp only [yA,yB,yC]
 have hwk:=zlb (k:=k) hcs;rw [<-HNx.out] at hwk
 have hret:=zfo hcs.res hwk (by omega) (by have:=hcs.n0e;omega) hcs.low
 obtain ⟨⟨r0,r1,r2,r3,r4,r5⟩,z0,z1,z2,z3,z4,z5⟩:=cs_res hcs;obtain ⟨f0,f1,f2,f3,f4,f5⟩:=blk6c hret.1;have HR:=hide hret;have HCs:=hide hcs;clear hret hwk hcs hHeld hcs0
 refine wpAnyH_ready (rs:= [18]) (by kernel_rfl) (by simp) ?_
 refine AllReadyH.cons rfl (fun K hK=> ?_) AllReadyH.nil
 go_simp
 refine hK.out _ _ (zic HCs.out) (fun _=> ?_)
 refine wpAnyH_done (by kernel_rfl) ?_ _
 go_wp2_with fail
 refine bodyPost_ret (v:= .agg #[.slice x1 k.ps.length p1,.slice y1 k.ls.length p2,.int .i64 nx,.slice (some ⟨b1,0,none⟩) k.us.length q1,.slice (some ⟨b2,0,none⟩) k.gs.length q2,.slice (some ⟨b3,0,none⟩) k.fs.length q3]) (by simp [results,Tryz.results31,go_sem,f0,f1,f2,f3,f4,f5]) rfl ⟨_,rfl,HR.out.2.1,HR.out.2.2⟩
open Go.RowKit
theorem zdk {w:World} {B:Nat} {u0 u1:Value} {ps:List ByteArray} {ls:List (Int×ByteArray)} (h:DiskOwn w B (.agg #[u0,u1]) ps ls):w.ownsRow B 9 1 u0 ps.length (strs ps)/\w.ownsRow B 90 2 u1 ls.length (puts ls):=by
 obtain ⟨vp,vl,e,h1,h2⟩:=h
 injection e with e
 injection e with e
 injection e with e1 e
 injection e with e2
 subst e1 e2;exact ⟨h1,h2⟩
theorem zbw {w wr:World} {a1 B:Nat} {r0 r1 u0 u1:Value} {t:TypeId} {ps:List ByteArray} {ls:List (Int×ByteArray)} (hres:wr.heap[a1]?=some (Obj.cells #[r0,r1] t)) (hd:DiskOwn wr B (.agg #[u0,u1]) ps ls) (hB:a1<B) (hw:w.heap.size<=a1) (hb:Below w.heap.size w wr):
  ((wr.setCell ⟨a1,0,none⟩ u0).setCell ⟨a1,1,none⟩ u1).cell? ⟨a1,0,none⟩=some u0/\((wr.setCell ⟨a1,0,none⟩ u0).setCell ⟨a1,1,none⟩ u1).cell? ⟨a1,1,none⟩=some u1/\
  DiskOwn ((wr.setCell ⟨a1,0,none⟩ u0).setCell ⟨a1,1,none⟩ u1) w.heap.size (.agg #[u0,u1]) ps ls/\Below w.heap.size w ((wr.setCell ⟨a1,0,none⟩ u0).setCell ⟨a1,1,none⟩ u1):=by
 have y1:(wr.setCell ⟨a1,0,none⟩ u0).heap[a1]?=some (Obj.cells #[u0,r1] t):=heap_setCell_same _ a1 0 _ _ _ hres;have y2:((wr.setCell ⟨a1,0,none⟩ u0).setCell ⟨a1,1,none⟩ u1).heap[a1]?=some (Obj.cells #[u0,u1] t):=heap_setCell_same _ a1 1 _ _ _ y1
 have k2:Kept wr ((wr.setCell ⟨a1,0,none⟩ u0).setCell ⟨a1,1,none⟩ u1) (fun k=>k=a1):=kept_trans (za9 _ _ _ _) (za9 _ _ _ _) (fun j _ h=>h)
 obtain ⟨o1,o2⟩:=zdk hd;refine ⟨(za0 y2 0).1,(za0 y2 1).1,⟨_,_,rfl,?_,?_⟩,?_⟩
 ·exact zad (za6 o1 k2 (fun k hk=>by have:=(o1.lt k hk).1;omega)) (by omega)
 ·exact zad (za6 o2 k2 (fun k hk=>by have:=(o2.lt k hk).1;omega)) (by omega)
 ·exact (hb.setCell (by exact hw) _).setCell (by exact hw) _
theorem zaZ {w:World} {B e sz n g:Nat} {v:Value} {xs:List Value} {cs:Array Value} {t:TypeId} {fr:Nat×Nat} (h:w.ownsRow B e sz v n xs) (hg:w.heap[g]?=some (.cells cs t fr)) (hne:e≠t):v.ownBlock≠some g:=by
 intro h1
 rcases h.2 with ⟨rfl,-⟩ | ⟨k,cap,cur,rfl,-,hh,-⟩
 ·cases h1
 ·injection h1 with h1
  have h1:k=g:=h1;subst h1;rw [hh] at hg
  injection hg with hg
  injection hg with _ he _
  exact hne he
theorem zis {w w':World} {B B' e e' sz sz' n n':Nat} {v v':Value} {xs xs':List Value} (h:w.ownsRow B e sz v n xs) (h':w.ownsRow B' e' sz' v' n' xs') (hne:e≠e') (hg:w.grownBy w' v'.ownBlock):w'.ownsRow B e sz v n xs:=by
 cases hv:v.ownBlock with
 | none=>exact h.kept hg (Or.inl hv)
 | some k=>exact h.kept hg (Or.inr (by rw [hv];exact fun e1=>zbE h h' hne k hv e1.symm))
open Go.RowKit
structure GV (w W:World) (a0 g B:Nat) (bx rs:Obj) (u0 u1 u3 u4 u5:Value) (k:Wk):Prop where
 var:W.heap[g]?=some (Obj.cells #[u0,u1,.int .i64 k.next,u3,u4,u5] 34)
 res:W.heap[a0+1]?=some rs
 box:W.heap[a0]?=some bx
 low:Below w.heap.size w W
 ha:a0=w.heap.size
 hB:a0+2<=B
 hg:a0+2<=g
 hBW:B<=W.heap.size
 nw:WorkNw W B (.agg #[u0,u1,.int .i64 k.next,u3,u4,u5]) k
theorem zjc {w W:World} {a0 g B:Nat} {bx rs:Obj} {u0 u1 u3 u4 u5:Value} {k:Wk} (h:GV w W a0 g B bx rs u0 u1 u3 u4 u5 k):∀j,workBlocks (.agg #[u0,u1,.int .i64 k.next,u3,u4,u5]) j->j≠g/\j≠a0/\j≠a0+1/\B<=j/\j<W.heap.size:=fun j hj=>by
 have hl:=zal (zaJ h.nw) j hj;have hB:=h.hB
 refine ⟨fun e=> ?_,by omega,by omega,hl.1,hl.2⟩
 subst e;obtain ⟨vp,vl,n,vu,vg,vf,e,hj⟩:=hj;obtain ⟨rfl,rfl,rfl,rfl,rfl,rfl⟩:=agg6 e;obtain ⟨hd,-,h3,h4,h5,-⟩:=zbV h.nw;obtain ⟨vp',vl',e,d1,d2⟩:=hd
 injection e with e
 injection e with e
 injection e with e1 e
 injection e with e2
 subst e1 e2
 rcases hj with ⟨vp2,vl2,e,hj⟩ | hj | hj | hj
 ·injection e with e
  injection e with e
  injection e with e1 e
  injection e with e2
  subst e1 e2
  rcases hj with hj | hj
  ·exact zaZ d1 h.var (by decide) hj
  ·exact zaZ d2 h.var (by decide) hj
 ·exact zaZ h3 h.var (by decide) hj
 ·exact zaZ h4 h.var (by decide) hj
 ·exact zaZ h5 h.var (by decide) hj
theorem zey {w W W':World} {a0 g B:Nat} {bx rs:Obj} {u0 u1 u3 u4 u5:Value} {k:Wk} (h:GV w W a0 g B bx rs u0 u1 u3 u4 u5 k) (hb:Below W.heap.size W W'):GV w W' a0 g B bx rs u0 u1 u3 u4 u5 k:=
 ⟨zaD h.var hb,zaD h.res hb,zaD h.box hb,h.low.trans (hb.mono h.low.size),h.ha,h.hB,h.hg,Nat.le_trans h.hBW hb.size,zcr h.nw hb⟩
theorem gv_us {w W W':World} {a0 g B e b c:Nat} {bx rs:Obj} {u0 u1 u3 u4 u5:Value} {k:Wk} {l:List Int} (h:GV w W a0 g B bx rs u0 u1 u3 u4 u5 k) (he:W.heap.size<=e) (hgr:(W.alloc (Obj.cells #[] 3)).grownBy W' (some e)) (hown:W'.ownsRow e 3 1 (.slice (some ⟨b,0,none⟩) l.length c) l.length (ints l)):
  W'.heap[g]?=some (Obj.cells #[u0,u1,.int .i64 k.next,u3,u4,u5] 34)/\GV w (W'.setCell ⟨g,3,none⟩ (.slice (some ⟨b,0,none⟩) l.length c)) a0 g B bx rs u0 u1 (.slice (some ⟨b,0,none⟩) l.length c) u4 u5 {k with us:=l}:=by
 have hb1:Below W.heap.size W (W.alloc (Obj.cells #[] 3)):=(Below.refl _ _).alloc (Nat.le_refl _) _
 have hb2:Below W.heap.size W W':=⟨hgr.os.trans hb1.os,hgr.tape.trans hb1.tape,hgr.output.trans hb1.output,Nat.le_trans hb1.size hgr.size,fun j hj=>(hgr.block j (Nat.lt_of_lt_of_le hj hb1.size) (by intro e';injection e' with e';omega)).trans (hb1.block j hj)⟩
 have h2:=zey h hb2;have aw:=zjc h
 have hk:Kept W' (W'.setCell ⟨g,3,none⟩ (.slice (some ⟨b,0,none⟩) l.length c)) (fun j=>j=g):=za9 _ _ _ _
 have hgl:g<W.heap.size:=(Array.getElem?_eq_some_iff.1 h.var).1;have hal:a0+1<W.heap.size:=(Array.getElem?_eq_some_iff.1 h.res).1;have hbl:a0<W.heap.size:=(Array.getElem?_eq_some_iff.1 h.box).1;have hg2:=h.hg;obtain ⟨hd,-,h3,h4,h5,n1,n2,n3⟩:=zbV h2.nw
 have hbe:∀j,(Value.slice (some (⟨b,0,none⟩:Addr)) l.length c).ownBlock=some j->W.heap.size<=j:=fun j e'=>Nat.le_trans he (hown.lt j e').1
 refine ⟨h2.var,heap_setCell_same W' g 3 _ _ _ h2.var,(hk.2.2.2.2 _ (Nat.lt_of_lt_of_le hal hb2.size) (by omega)).trans h2.res,(hk.2.2.2.2 _ (Nat.lt_of_lt_of_le hbl hb2.size) (by omega)).trans h2.box,h2.low.trans (zac hk h2.low.size (fun j e'=>by have:=h.ha;omega)),h.ha,h.hB,h.hg,Nat.le_trans h2.hBW hk.2.2.2.1,⟨u0,u1,_,u4,u5,rfl,?_,?_,?_,?_,?_,?_,n3⟩⟩
 ·exact zbo hd hk (fun j e'=>(aw j ⟨_,_,_,_,_,_,rfl,Or.inl e'⟩).1)
 ·exact za6 (zad hown (Nat.le_trans h.hBW he)) hk (fun j e' h'=>by have:=hbe j e';omega)
 ·exact za6 h4 hk (fun j e'=>(aw j ⟨_,_,_,_,_,_,rfl,Or.inr (Or.inr (Or.inl e'))⟩).1)
 ·exact za6 h5 hk (fun j e'=>(aw j ⟨_,_,_,_,_,_,rfl,Or.inr (Or.inr (Or.inr e'))⟩).1)
 ·intro j e1 e2
  have:=hbe j e1;have:=(aw j ⟨_,_,_,_,_,_,rfl,Or.inr (Or.inr (Or.inl e2))⟩).2.2.2.2
  omega
 ·intro j e1 e2
  have:=hbe j e1;have:=(aw j ⟨_,_,_,_,_,_,rfl,Or.inr (Or.inr (Or.inr e2))⟩).2.2.2.2
  omega
theorem gv_fs {w W W':World} {a0 g B b d:Nat} {bx rs:Obj} {u0 u1 u3 u4 u5:Value} {k:Wk} {p:Int} (h:GV w W a0 g B bx rs u0 u1 u3 u4 u5 k) (hgr:(W.alloc (Obj.cells #[.int .i64 p] 3)).grownBy W' u5.ownBlock) (hown:W'.ownsRow B 3 1 (.slice (some ⟨b,0,none⟩) (k.fs.length+1) d) (k.fs.length+1) (ints k.fs++ [.int .i64 p])) (hb:u5.ownBlock=some b\/b=W.heap.size+1):
  W'.heap[g]?=some (Obj.cells #[u0,u1,.int .i64 k.next,u3,u4,u5] 34)/\GV w (W'.setCell ⟨g,5,none⟩ (.slice (some ⟨b,0,none⟩) (k.fs.length+1) d)) a0 g B bx rs u0 u1 u3 u4 (.slice (some ⟨b,0,none⟩) (k.fs.length+1) d) {k with fs:=k.fs++ [p]}:=by
 have hb1:Below W.heap.size W (W.alloc (Obj.cells #[.int .i64 p] 3)):=(Below.refl _ _).alloc (Nat.le_refl _) _;have aw:=zjc h;obtain ⟨hd,-,h3,h4,h5,n1,n2,n3⟩:=zbV h.nw
 have hk0:Kept W W' (fun j=>u5.ownBlock=some j):=⟨hgr.os.trans hb1.os,hgr.tape.trans hb1.tape,hgr.output.trans hb1.output,Nat.le_trans hb1.size hgr.size,fun j hj hn=>(hgr.block j (Nat.lt_of_lt_of_le hj hb1.size) (fun e=>hn e.symm)).trans (hb1.block j hj)⟩
 have hk1:Kept W' (W'.setCell ⟨g,5,none⟩ (.slice (some ⟨b,0,none⟩) (k.fs.length+1) d)) (fun j=>j=g):=za9 _ _ _ _
 have hk:Kept W (W'.setCell ⟨g,5,none⟩ (.slice (some ⟨b,0,none⟩) (k.fs.length+1) d)) (fun j=>j=g\/u5.ownBlock=some j):=kept_trans (zi8 hk0 (fun j _ e=>Or.inr e)) hk1 (fun j _ e=>Or.inl e)
 have hgl:g<W.heap.size:=(Array.getElem?_eq_some_iff.1 h.var).1;have hal:a0+1<W.heap.size:=(Array.getElem?_eq_some_iff.1 h.res).1;have hbl:a0<W.heap.size:=(Array.getElem?_eq_some_iff.1 h.box).1
 have w5:∀j,u5.ownBlock=some j->j≠g/\j≠a0/\j≠a0+1/\B<=j/\j<W.heap.size:=fun j e=>aw j ⟨_,_,_,_,_,_,rfl,Or.inr (Or.inr (Or.inr e))⟩
 have hv:W'.heap[g]?=some (Obj.cells #[u0,u1,.int .i64 k.next,u3,u4,u5] 34):=(hk0.2.2.2.2 g hgl (fun e=>(w5 g e).1 rfl)).trans h.var
 have hg2:=h.hg;have hB:=h.hB
 refine ⟨hv,heap_setCell_same W' g 5 _ _ _ hv,(hk.2.2.2.2 _ hal (fun e=>by rcases e with e | e;omega;exact (w5 _ e).2.2.1 rfl)).trans h.res,(hk.2.2.2.2 _ hbl (fun e=>by rcases e with e | e;omega;exact (w5 _ e).2.1 rfl)).trans h.box,h.low.trans (zac hk h.low.size (fun j e=>by have:=h.ha;rcases e with e | e;omega;have:=(w5 j e).2.2.2.1;omega)),h.ha,h.hB,h.hg,Nat.le_trans h.hBW hk.2.2.2.1,⟨u0,u1,u3,u4,_,rfl,?_,?_,?_,?_,n1,?_,?_⟩⟩
 ·exact zbo hd hk (fun j e h'=>by rcases h' with h' | h';exact (aw j ⟨_,_,_,_,_,_,rfl,Or.inl e⟩).1 h';exact zbc hd (zan h5) j e h')
 ·exact za6 h3 hk (fun j e h'=>by rcases h' with h' | h';exact (aw j ⟨_,_,_,_,_,_,rfl,Or.inr (Or.inl e)⟩).1 h';exact n2 j e h')
 ·exact za6 h4 hk (fun j e h'=>by rcases h' with h' | h';exact (aw j ⟨_,_,_,_,_,_,rfl,Or.inr (Or.inr (Or.inl e))⟩).1 h';exact n3 j e h')
 ·have e1:(k.fs++ [p]).length=k.fs.length+1:=by simp
  have e2:ints (k.fs++ [p])=ints k.fs++ [.int .i64 p]:=by simp [ints]
  show World.ownsRow _ B _ 1 _ (k.fs++ [p]).length (ints (k.fs++ [p]))
  rw [e1,e2]
  refine za6 hown hk1 (fun j e h'=> ?_)
  injection e with e
  have e:b=j:=e
  rcases hb with hb | hb
  ·exact (w5 b hb).1 (by omega)
  ·omega
 ·intro j e1 e2
  injection e2 with e2
  have e2:b=j:=e2
  rcases hb with hb | hb
  ·exact n2 j e1 (by rw [<-e2];exact hb)
  ·have:=(aw j ⟨_,_,_,_,_,_,rfl,Or.inr (Or.inl e1)⟩).2.2.2.2;omega
 ·intro j e1 e2
  injection e2 with e2
  have e2:b=j:=e2
  rcases hb with hb | hb
  ·exact n3 j e1 (by rw [<-e2];exact hb)
  ·have:=(aw j ⟨_,_,_,_,_,_,rfl,Or.inr (Or.inr (Or.inl e1))⟩).2.2.2.2;omega
theorem nfrow {W:World} {B nf c5:Nat} {a5:Option Addr} {l:List Int} (hn:nf=l.length) (h:W.ownsRow B 3 1 (.slice a5 nf c5) l.length (ints l)):W.ownsRow B 3 1 (.slice a5 nf c5) nf (ints l):=by
 subst hn;exact h
theorem zhg {w W W':World} {a0 g B:Nat} {bx rs:Obj} {u0 u1 u3 u4 u5:Value} {k:Wk} {o:Obj} (h:GV w W a0 g B bx rs u0 u1 u3 u4 u5 k) (hgr:(W.alloc o).grownBy W' u5.ownBlock):Kept W W' (fun j=>u5.ownBlock=some j)/\∀j,u5.ownBlock=some j->j≠a0/\B<=j:=by
 have hb1:Below W.heap.size W (W.alloc o):=(Below.refl _ _).alloc (Nat.le_refl _) _
 refine ⟨⟨hgr.os.trans hb1.os,hgr.tape.trans hb1.tape,hgr.output.trans hb1.output,Nat.le_trans hb1.size hgr.size,fun j hj hn=>(hgr.block j (Nat.lt_of_lt_of_le hj hb1.size) (fun e=>hn e.symm)).trans (hb1.block j hj)⟩,fun j e=> ?_⟩
 have:=zjc h j ⟨_,_,_,_,_,_,rfl,Or.inr (Or.inr (Or.inr e))⟩;exact ⟨this.2.1,this.2.2.2.1⟩
theorem zit {w W W':World} {a0 g B:Nat} {bx rs:Obj} {u0 u1 u3 u4 u5:Value} {k:Wk} {o:Obj} (h:GV w W a0 g B bx rs u0 u1 u3 u4 u5 k) (hgr:(W.alloc o).grownBy W' u5.ownBlock):W'.heap[a0]?=some bx:=by
 obtain ⟨hk,hn⟩:=zhg h hgr
 exact (hk.2.2.2.2 a0 (Array.getElem?_eq_some_iff.1 h.box).1 (fun e=>(hn a0 e).1 rfl)).trans h.box
theorem ziu {w W W':World} {a0 g B:Nat} {bx rs:Obj} {u0 u1 u3 u4 u5:Value} {k:Wk} {o:Obj} (h:GV w W a0 g B bx rs u0 u1 u3 u4 u5 k) (hgr:(W.alloc o).grownBy W' u5.ownBlock):Below w.heap.size w W':=by
 obtain ⟨hk,hn⟩:=zhg h hgr
 exact h.low.trans (zac hk h.low.size (fun j e=>by have:=(hn j e).2;have:=h.hB;have:=h.ha;omega))
theorem keep6 {W:World} {g a:Nat} {o:Obj} {u0 u1 u2 u3 u4 u5:Value} (h:W.heap[g]?=some o) (hne:g≠a):(set6 W a u0 u1 u2 u3 u4 u5).heap[g]?=some o:=
 ((zaQ W a u0 u1 u2 u3 u4 u5).2.2.2.2 g (Array.getElem?_eq_some_iff.1 h).1 hne).trans h
theorem s8 {W:World} {g a0:Nat} {c0 c1 c2 c3 c4 c5 d0 d1 d2 d3 d4 d5:Value} {t t':TypeId} (h:W.heap[g]?=some (Obj.cells #[c0,c1,c2,c3,c4,c5] t)) (hb:W.heap[a0]?=some (Obj.cells #[d0,d1,d2,d3,d4,d5] t')):
  W.cell? ⟨g,0,none⟩=some c0/\W.cell? ⟨g,1,none⟩=some c1/\W.cell? ⟨g,2,none⟩=some c2/\W.cell? ⟨g,3,none⟩=some c3/\W.cell? ⟨g,4,none⟩=some c4/\W.cell? ⟨g,5,none⟩=some c5/\W.cell? ⟨a0,2,none⟩=some d2/\W.cell? ⟨a0,3,none⟩=some d3:=
 ⟨(za0 h 0).1,(za0 h 1).1,(za0 h 2).1,(za0 h 3).1,(za0 h 4).1,(za0 h 5).1,(za0 hb 2).1,(za0 hb 3).1⟩
theorem s3 {W:World} {a0 b off:Nat} {d0 d1 d2 d3 d4 d5 x:Value} {t':TypeId} (hb:W.heap[a0]?=some (Obj.cells #[d0,d1,d2,d3,d4,d5] t')) (hr:W.cell? ⟨b,off,none⟩=some x):W.cell? ⟨a0,3,none⟩=some d3/\W.cell? ⟨b,off,none⟩=some x:=⟨(za0 hb 3).1,hr⟩
theorem zgo {P:Program} (w:World) {ops:Array Oper} {rest:List Oper} {o:Oper} {a:Act} {Q:Exit->Act->World->Prop} (hgd:o.guard=none) (s x:Operand) (t:TypeId) (ho:o.op= .call {callee:= .builtin .append,args:= #[s,x],argTypes:= #[t,t]})
  (e:TypeId) (i:TypeInfo) (z:Value) (ht:P.underlying t=some (.slice e)) (hi:P.info? e=some i) (hz:i.zero=some z) (hsize:i.size=1) (hby:i.bytes=8) (hzs:z.cells.size=1)
  (g:Nat) (hs:a.eval s= .slice (some ⟨g,0,none⟩) 0 0) (hge:w.heap[g]?=some (.cells #[] e (0,0))) (u:Value) (m:Nat) (ys:List Value) (hx:a.eval x=u) (hrow:RowAt w 1 u m ys) (h1:∀y∈ys,y.oneCell'=true) (hm:m<=2000000)
  (h:∀b c w',w'.ownsRow g e 1 (.slice (some ⟨b,0,none⟩) m c) m ys->w.grownBy w' (some g)->(b=g\/b=w.heap.size)->wpList P ops Q rest (a.put o.dst (.slice (some ⟨b,0,none⟩) m c)) w'):wpList P ops Q (o :: rest) a w:=
 wpList_plain hgd fun _ hK=>by
  obtain ⟨b,c,w',hr,q2,q3,q4⟩:=zjI (P:=P) w t o.type e i z ht hi hz hsize hby hzs g hge u m ys hrow h1 hm;unfold Oper.wp execOp
  simp only [ho,resolve,invoke,builtin,Sem.run_bind,Sem.run_pure,Result.andThen_ok,List.map_toArray,List.map_cons,List.map_nil,hs,hx,hr]
  exact hK _ _ (h b c w' q2 q3 q4)
theorem zmN {w:World} {b off n c c':Nat} {x:Int} {l:List Int} {y:Option Addr} (hn:n=l.length+1) (h:RowAt w 1 (.slice (some ⟨b,off,none⟩) n c) n (ints (x :: l))) (hy:y=some ⟨b,off+1,none⟩\/l.length=0):RowAt w 1 (.slice y (n - 1) c') (n - 1) (ints l):=by
 obtain ⟨-,a,cap,e,h2⟩:=h
 injection e with e1 e2 e3
 subst e1
 refine ⟨by rw [zcO];omega,_,_,rfl,?_⟩
 rcases hy with rfl | hy
 ·rcases h2 with h0 | ⟨b',off',e,hlt,hc⟩
  ·omega
  ·injection e with e
   injection e with e1 e2
   subst e1 e2
   refine Or.inr ⟨b,off+1,rfl,hlt,fun j hj=> ?_⟩
   have:=hc (j+1) (by omega)
   rw [Nat.add_assoc,Nat.add_comm 1 j,this]
   simp [ints]
 ·exact Or.inl (by omega)
end Go.Proofs.YtcbogiebfbbmbaaGreatDoor
