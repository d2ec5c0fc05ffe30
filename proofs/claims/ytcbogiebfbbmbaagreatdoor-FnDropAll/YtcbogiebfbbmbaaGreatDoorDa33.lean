/-
  Facts and contracts that the law's own text rests on, by their texts' names: HeapM, HeapS, HeapT, HeapUp, HeapDown, HeapOps, HeapPl, HeapInit, HeapAscPl, HeapAsc.
-/
import Derived.BigQuiet
import Derived.Handy
import Derived.Lib.SmallJoins
import Derived.WalkSmall
import Derived.Test.YtcbogiebfbbmbaaGreatDoorDa1
import Derived.Test.YtcbogiebfbbmbaaGreatDoorDa7
import Derived.Test.YtcbogiebfbbmbaaGreatDoorDa19
import Derived.Deep.Cut
set_option maxHeartbeats 16000000
set_option maxRecDepth 100000
namespace Go.Proofs.YtcbogiebfbbmbaaGreatDoor
open Go.RowKit
theorem zdu (a:Option Addr) (n c:Nat) (w:World):Calls Tryz.prog 132 #[.slice a n c] w fun e w'=>e= .returned (.int .i64 (n:Int))/\w=w':=by
 go_enter Tryz.func132,Tryz.ntmps132
 go_wp2
 go_ret;exact ⟨rfl,rfl⟩
theorem zed {w:World} {B g n c:Nat} {xs:List Int} (h:w.ownsRow B 3 1 (.slice (some ⟨g,0,none⟩) n c) n (ints xs)) {i:Nat} {x:Int} (hi:xs[i]?=some x):i<n/\w.cell? ⟨g,i,none⟩=some (.int .i64 x):=by
 have hl:xs.length=n:=by have:=h.1;rw [zcO,Nat.mul_one] at this;exact this
 have hlt:i<xs.length:=(List.getElem?_eq_some_iff.1 hi).1
 refine ⟨by omega,?_⟩
 rw [h.cellAt i (by omega),ints_at xs i hlt]
 rw [List.getElem?_eq_getElem hlt] at hi
 injection hi with hi
 rw [hi]
theorem zcL (B g n c:Nat) (xs:List Int) (i j:Nat) (x y:Int) (hi:xs[i]?=some x) (hj:xs[j]?=some y) (w:World) (h:w.ownsRow B 3 1 (.slice (some ⟨g,0,none⟩) n c) n (ints xs)):
  Calls Tryz.prog 162 #[.slice (some ⟨g,0,none⟩) n c,.int .i64 (i:Int),.int .i64 (j:Int)] w fun e w'=>e= .returned (.bool (decide (x<y)))/\Below w.heap.size w w':=by
 obtain ⟨h1,c1⟩:=zed h hi;obtain ⟨h2,c2⟩:=zed h hj
 have hi0:(0:Int)<=(i:Int):=by omega
 have hi1:(i:Int)<(n:Int):=by omega
 have hj0:(0:Int)<=(j:Int):=by omega
 have hj1:(j:Int)<(n:Int):=by omega
 clear h hi hj;go_enter Tryz.func162,Tryz.ntmps162;go_wp2_with fail
 go_quiet (fail)
 go_wp2_with fail;go_ret;exact ⟨rfl,below_drewN (Below.refl _ _) _⟩
theorem zkQ (B g n c:Nat) (xs:List Int) (i j:Nat) (x y:Int) (hi:xs[i]?=some x) (hj:xs[j]?=some y) (w:World) (h:w.ownsRow B 3 1 (.slice (some ⟨g,0,none⟩) n c) n (ints xs)):
  Calls Tryz.prog 163 #[.slice (some ⟨g,0,none⟩) n c,.int .i64 (i:Int),.int .i64 (j:Int)] w fun e w'=>e= .returned (.tuple #[])/\w'.ownsRow B 3 1 (.slice (some ⟨g,0,none⟩) n c) n (ints ((xs.set i y).set j x))/\KeptC (fun k=>k=g) w w':=by
 obtain ⟨h1,c1⟩:=zed h hi;obtain ⟨h2,c2⟩:=zed h hj;have f1:=h.frozenAt i;have f2:=h.frozenAt j
 have hi0:(0:Int)<=(i:Int):=by omega
 have hi1:(i:Int)<(n:Int):=by omega
 have hj0:(0:Int)<=(j:Int):=by omega
 have hj1:(j:Int)<(n:Int):=by omega
 have s1:=h.stored i (.int .i64 y)
 have e1:(ints xs).set i (.int .i64 y)=ints (xs.set i y):=by simp [ints,List.map_set]
 rw [e1] at s1
 have hj':(xs.set i y)[j]?=some y:=by
  by_cases e:i=j
  ·subst e
   rw [List.getElem?_set_self (List.getElem?_eq_some_iff.1 hi).1]
  ·rw [List.getElem?_set_ne e,hj]
 have c3:=(zed s1.1 hj').2;have f3:=s1.1.frozenAt j;have s2:=s1.1.stored j (.int .i64 x)
 have e2:(ints (xs.set i y)).set j (.int .i64 x)=ints ((xs.set i y).set j x):=by simp [ints,List.map_set]
 rw [e2] at s2;have HO:=hide (⟨s1.2,s2⟩:_/\_);clear h hi hj s1 s2 e1 e2 hj';go_enter Tryz.func163,Tryz.ntmps163;go_wp2_with fail
 go_region
 go_wp2_with fail
 go_returns
 refine ⟨rfl,?_,?_⟩
 ·exact HO.out.2.1.drew
 ·have g1:=HO.out.1
  have g2:=HO.out.2.2
  have k1:KeptC (fun k=>k=g) w (w.setCell ⟨g,i,none⟩ (.int .i64 y)):=⟨g1.os,g1.tape,g1.output,g1.size,fun k hk hn=>g1.block k hk (fun e=>hn (Option.some.inj e))⟩
  have k2:KeptC (fun k=>k=g) (w.setCell ⟨g,i,none⟩ (.int .i64 y)) ((w.setCell ⟨g,i,none⟩ (.int .i64 y)).setCell ⟨g,j,none⟩ (.int .i64 x)):=⟨g2.os,g2.tape,g2.output,g2.size,fun k hk hn=>g2.block k hk (fun e=>hn (Option.some.inj e))⟩
  exact zbk k1 k2 (fun _ h=>Or.inl h)
theorem zdN {w:World} {base size n:Nat} {e:TypeId} {v:Value} {xs:List Value} (h:w.ownsRow base e size v n xs) (hn:0<n):∃g cap,v= .slice (some ⟨g,0,none⟩) n cap:=by
 rcases h.2 with ⟨-,h0⟩ | ⟨g,cap,-,hv,-⟩
 ·omega
 ·exact ⟨g,cap,hv⟩
theorem own_cap {w:World} {base size n g c:Nat} {e:TypeId} {xs:List Value} (h:w.ownsRow base e size (.slice (some ⟨g,0,none⟩) n c) n xs):n<=c:=by
 rcases h.2 with ⟨h0,-⟩ | ⟨g',cap,-,hv,-,-,h2,-⟩
 ·cases h0
 ·injection hv with _ _ e
  omega
def HpV (B:Nat) (w:World) (g:Nat) (v:Value) (xs:List Int):Prop:=B<=g/\w.heap[g]?=some (.cells #[v] 147 (0,0))/\w.ownsRow B 3 1 v xs.length (ints xs)/\v.ownBlock≠some g
def hpF (g:Nat) (v:Value) (k:Nat):Prop:=k=g\/v.ownBlock=some k
theorem zm6 {B:Nat} {w:World} {g:Nat} {v u:Value} {ys:List Int} (hg:B<=g) (hb:w.heap[g]?=some (.cells #[v] 147 (0,0))) (hu:w.ownsRow B 3 1 u ys.length (ints ys)) (hne:u.ownBlock≠some g):HpV B (w.setCell ⟨g,0,none⟩ u) g u ys:=by
 refine ⟨hg,?_,hu.kept (row:=some g) ⟨rfl,rfl,rfl,by simp,fun k _ hk=>heap_setCell_other w ⟨g,0,none⟩ k u (fun e=>hk (by simp [e]))⟩ (Or.inr hne),hne⟩
 have:=heap_setCell_same w g 0 #[v] 147 u hb
 simpa using this
theorem zm7 (B g:Nat) (v:Value) (xs:List Int) (x:Int) (hl:xs.length<=1048576) (w:World) (h:HpV B w g v (xs++ [x])):
  Calls Tryz.prog 164 #[.pointer (some ⟨g,0,none⟩)] w fun e w'=>e= .returned (.iface 3 (.int .i64 x))/\∃v',HpV B w' g v' xs/\v'.ownBlock=v.ownBlock/\KeptC (hpF g v) w w':=by
 obtain ⟨hg,hb,ho,hne⟩:=h
 obtain ⟨r,c,rfl⟩:=zdN ho (by simp)
 have hx:=zed (i:=xs.length) (x:=x) ho (by simp)
 have hc0:w.cell? ⟨g,0,none⟩=some (.slice (some ⟨r,0,none⟩) (xs.length+1) c):=by
  have:=(za0 hb 0).1
  simpa using this
 have hf0:w.frozen? ⟨g,0,none⟩=false:=(za0 hb 0).2
 have hp:=ownsRow_pop (size:=1) (xs:=ints xs) (last:= [.int .i64 x]) (n:=xs.length) (by simp [ints]) (by have:=ho;rw [<-zf7,List.length_append] at this;exact this)
 obtain ⟨n,hn⟩:∃n,xs.length=n:=⟨_,rfl⟩
 have hrg:r≠g:=fun e=>hne (by rw [e];rfl)
 have hcx:=hx.2;rw [hn] at hc0 hcx hp hl
 have hlast:(xs++ [x]).length=n+1:=by rw [List.length_append,hn];rfl
 rw [hlast] at hb ho⊢;have hcap:n+1<=c:=own_cap ho
 have hcap1:n<=c:=by omega
 have hcap2:(n:Int)<=(c:Int):=by omega
 have HO:=hide (⟨hg,hb,hp,hn⟩:_/\_/\_/\_)
 have i0:((n+1:Nat):Int)=(n:Int)+1:=by omega
 clear hg hb ho hne hx hp hlast hn;go_enter Tryz.func164,Tryz.ntmps164;go_wp2_with fail;go_ret;obtain ⟨hg,hb,hp,hn⟩:=HO.out;subst hn
 exact ⟨rfl,_,zm6 hg hb hp (fun e=>hrg (Option.some.inj e)),rfl,zc3 w 0 _ (Or.inl rfl)⟩
open Go.RowKit
def HpS (B:Nat) (w:World) (g:Nat) (v:Value) (xs:List Int) (R:List Ast):Prop:=Sep B w (cellA g (Obj.cells #[v] 147) :: rowA B 3 1 v xs.length (ints xs) :: R)
theorem zd5 {B:Nat} {w:World} {g:Nat} {v:Value} {xs:List Int} {R:List Ast} (h:HpS B w g v xs R):HpV B w g v xs:=
 ⟨(zcv h 0 rfl g rfl).1,za2 h 0 rfl,za2 h 1 rfl,fun e=>zaw h 0 1 rfl rfl (by decide) g rfl e⟩
theorem zgE (B g:Nat) (v:Value) (xs:List Int) (R:List Ast) (i j:Nat) (x y:Int) (hi:xs[i]?=some x) (hj:xs[j]?=some y) (w:World) (hB:B<=w.heap.size) (h:HpS B w g v xs R):
  Calls Tryz.prog 163 #[v,.int .i64 (i:Int),.int .i64 (j:Int)] w fun e w'=>e= .returned (.tuple #[])/\HpS B w' g v ((xs.set i y).set j x) R/\Below B w w':=by
 have ho:=(zd5 h).2.2.1
 obtain ⟨r,c,rfl⟩:=zdN ho (by have:=(List.getElem?_eq_some_iff.1 hi).1;omega)
 refine (zkQ B r xs.length c xs i j x y hi hj w ho).mono ?_;rintro e w' ⟨rfl,h1,h2⟩
 have hlen:((xs.set i y).set j x).length=xs.length:=by simp
 refine ⟨rfl,?_,h2.2.2.2.1 |> fun _=>⟨h2.1,h2.2.1,h2.2.2.1,h2.2.2.2.1,fun k hk=>h2.2.2.2.2 k (by omega) (fun e=>by have:=(ho.lt r rfl).1;omega)⟩⟩
 rw [HpS,hlen]
 have h3:=ze5 h 1 rfl (⟨h2.1,h2.2.1,h2.2.2.1,h2.2.2.2.1,fun k hk hn=>h2.2.2.2.2 k hk (fun e=>hn (by rw [e];rfl))⟩:Kept w w' _) (rowA B 3 1 (.slice (some ⟨r,0,none⟩) xs.length c) xs.length (ints ((xs.set i y).set j x))) h1 (fun k hk=>⟨Or.inl hk,(h1.lt k hk).2⟩) hB
 exact h3
theorem hpPopS (B g:Nat) (v:Value) (xs:List Int) (R:List Ast) (x:Int) (hl:xs.length<=1048576) (w:World) (hB:B<=w.heap.size) (h:HpS B w g v (xs++ [x]) R):
  Calls Tryz.prog 164 #[.pointer (some ⟨g,0,none⟩)] w fun e w'=>e= .returned (.iface 3 (.int .i64 x))/\∃v',HpS B w' g v' xs R/\Below B w w':=by
 have hv:=zd5 h;have hsep:=h;refine (zm7 B g v xs x hl w hv).mono ?_;rintro e w' ⟨rfl,v',h1,h2,h3⟩
 have hlt:∀k,hpF g v k->B<=k:=fun k hk=>by
  rcases hk with rfl | hk
  ·exact hv.1
  ·exact (hv.2.2.1.lt k hk).1
 have hkept:Kept w w' (hpF g v):=h3
 refine ⟨rfl,v',?_,h3.1,h3.2.1,h3.2.2.1,h3.2.2.2.1,fun k hk=>h3.2.2.2.2 k (by omega) (fun e=>by have:=hlt k e;omega)⟩
 have hR:Sep B w' R:=zmI (zfS hsep R (by simp)) hkept (fun A hA k hk e=>by
  obtain ⟨i,hi⟩:=List.getElem?_of_mem hA
  rcases e with rfl | e
  ·exact zaw hsep 0 (i+2) rfl (by simpa using hi) (by omega) _ rfl hk
  ·exact zaw hsep 1 (i+2) rfl (by simpa using hi) (by omega) _ e hk)
 have hap:∀A∈R,∀k,(k=g\/v.ownBlock=some k)->¬A.F k:=fun A hA k e hk=>by
  obtain ⟨i,hi⟩:=List.getElem?_of_mem hA
  rcases e with rfl | e
  ·exact zaw hsep 0 (i+2) rfl (by simpa using hi) (by omega) _ rfl hk
  ·exact zaw hsep 1 (i+2) rfl (by simpa using hi) (by omega) _ e hk
 obtain ⟨q1,q2,q3,q4⟩:=h1;have hg':g<w'.heap.size:=(Array.getElem?_eq_some_iff.1 q2).1
 refine zaY.2 ⟨⟨q2,fun k hk=> ?_⟩,fun A hA k hk=> ?_,zaY.2 ⟨⟨q3,fun k hk=>q3.lt k hk⟩,fun A hA k hk=>hap A hA k (Or.inr (by rw [<-h2];exact hk)),hR⟩⟩
 ·obtain rfl:k=g:=hk
  exact ⟨q1,hg'⟩
 ·obtain rfl:k=g:=hk
  rcases List.mem_cons.1 hA with rfl | hA
  ·exact fun e=>q4 e
  ·exact hap A hA k (Or.inl rfl)
theorem Tryz.assertInt (x:Int) (t0:TypeId) (w:World):(Instr.typeAssert (.iface 3 (.int .i64 x)) t0 3 false).run Tryz.prog w= .ok (.int .i64 x) w:=by
 have hu:=Tryz.underlying3
 simp only [Instr.typeAssert]
 go_simp
theorem hpPushS (B g:Nat) (v:Value) (xs:List Int) (R:List Ast) (x:Int) (hl:xs.length<=1048576) (w:World) (hB:B<=w.heap.size) (h:HpS B w g v xs R):
  Calls Tryz.prog 165 #[.pointer (some ⟨g,0,none⟩),.iface 3 (.int .i64 x)] w fun e w'=>e= .returned (.tuple #[])/\∃v',HpS B w' g v' (xs++ [x]) R/\Below B w w':=by
 obtain ⟨i0,hinf,hz0,hz1,hz2⟩:=info_parts Tryz.infoIntC;obtain ⟨r,c,rfl⟩:=za4 (za2 h 1 rfl);obtain ⟨n,hn⟩:∃n,xs.length=n:=⟨_,rfl⟩;rw [HpS,hn] at h;rw [hn] at hl;have HN:=hide hn;have HS:=hide h;have HZ:=hide hB;clear h hn hB;go_enter Tryz.func165,Tryz.ntmps165
 go_upto_region 0 with fail
 obtain ⟨wd,hwd⟩:∃wd,wd=w.drew:=⟨_,rfl⟩;have HSd:=hide (zcw HS.out);have HBd:Hid (Below B w w.drew):=hide (Below.refl _ _).drew;have HZd:Hid (B<=w.drew.heap.size):=hide HZ.out;rw [<-hwd] at HSd HBd HZd
 refine wp_region_held_drew (S:=(fun _=>True)) (by kernel_rfl) (trivial) (fun _=> ?_)
 rw [<-hwd];clear hwd
 refine tK 0 4 ?_ rfl rfl (by kernel_rfl) (fun _ _ _ h=>h) ⟨by rfl,?_⟩ trivial ?_
 rotate_left
 ·(intro wx hSw;(try dsimp only at hSw);go_simp;try with_reducible rfl)
 (try simp only [yA,yB,yC])
 refine tK 1 5 ?_ rfl rfl (by kernel_rfl) (fun _ _ _ h=>h) ⟨by rfl,?_⟩ trivial ?_
 rotate_left
 ·(intro wx hSw;(try dsimp only at hSw);go_simp;try with_reducible rfl)
 (try simp only [yA,yB,yC])
 refine tK 2 6 ?_ rfl rfl (by kernel_rfl) (fun _ _ _ h=>h) ⟨by rfl,?_⟩ trivial ?_
 rotate_left
 ·(intro wx hSw;(try dsimp only at hSw);go_simp;try with_reducible rfl)
 (try simp only [yA,yB,yC])
 refine tK 4 8 ?_ rfl rfl (by kernel_rfl) (fun _ _ _ h=>h) ⟨by rfl,?_⟩ trivial ?_
 rotate_left
 ·(intro wx hSw;(try dsimp only at hSw);go_simp;try with_reducible rfl)
 (try simp only [yA,yB,yC])
 refine tK 5 9 ?_ rfl rfl (by kernel_rfl) (fun _ _ _ h=>h) ⟨by rfl,?_⟩ trivial ?_
 rotate_left
 ·(intro wx hSw;(try dsimp only at hSw);have hta:=fun t0=>Tryz.assertInt x t0 wx;go_simp;try with_reducible rfl)
 (try simp only [yA,yB,yC])
 have m0:wd.cell? ⟨g,0,none⟩=some (.slice r n c):=(za0 (za2 HSd.out 0 rfl:wd.heap[g]?=some (Obj.cells #[.slice r n c] 147)) 0).1
 have m0a:∀o,(wd.alloc o).cell? ⟨g,0,none⟩=some (.slice r n c):=fun o=>(za0 (za2 (zgk HSd.out o) 0 rfl:(wd.alloc o).heap[g]?=some (Obj.cells #[.slice r n c] 147)) 0).1
 refine wpAnyH_ready (rs:= [3,6]) (by kernel_rfl) (by simp) ?_
 refine ready2 rfl rfl ?_
 apply branch2
 ·intro hG K hK
  go_simp
  refine hK.out _ _ trivial (fun _=> ?_)
  clear hK K
  refine wpAnyH_ready (rs:= [6]) (by kernel_rfl) (by simp) ?_
  refine AllReadyH.cons rfl (fun K hK=> ?_) AllReadyH.nil
  go_simp
  refine hK.out _ _ trivial (fun _=> ?_)
  clear hK K;exact hG
 ·intro hG K hK
  go_simp
  refine hK.out _ _ trivial (fun _=> ?_)
  clear hK K
  refine wpAnyH_ready (rs:= [3]) (by kernel_rfl) (by simp) ?_
  refine AllReadyH.cons rfl (fun K hK=> ?_) AllReadyH.nil
  go_simp
  refine hK.out _ _ trivial (fun _=> ?_)
  clear hK K;exact hG
 clear m0 m0a
 refine wpAnyH_ready (rs:= [7]) (by kernel_rfl) (by simp) ?_
 refine AllReadyH.cons rfl (fun K hK=> ?_) AllReadyH.nil
 refine zio HSd.out 1 rfl (Nat.le_refl B) HZd.out HZd.out rfl (.tmp 7) (.tmp 10) 147 rfl i0 (.int .i64 0) 8 Tryz.underlying147 hinf hz0 hz1 hz2 rfl (by decide) rfl #[.int .i64 x] rfl rfl rfl (fun u hu=>by simp at hu;subst hu;rfl) (by unfold maxLen;omega) (by omega) ?_
 intro b c1 w5 hs5 hb5;have hl5:ints xs++(#[.int .i64 x]:Array Value).toList=ints (xs++ [x]):=zf7 xs x;rw [hl5] at hs5;have v5:=(za0 (za2 hs5 0 rfl:w5.heap[g]?=some (Obj.cells #[.slice r n c] 147)) 0).1;have z5:=(za0 (za2 hs5 0 rfl:w5.heap[g]?=some (Obj.cells #[.slice r n c] 147)) 0).2;have hs6:=zb6 hs5 0 rfl 0 (.slice (some ⟨b,0,none⟩) (n+1) c1);have hgB:=(zcv hs5 0 rfl g rfl).1;have hb6:Below B w (w5.setCell ⟨g,0,none⟩ (.slice (some ⟨b,0,none⟩) (n+1) c1)):=(HBd.out.trans hb5).setCell hgB _;have HS6:=hide hs6;have HB6:=hide hb6;clear hs5 hb5 hs6 hb6 hl5
 refine hK.out (Act.put _ (some 11) _) _ trivial (fun _=> ?_)
 clear hK K
 simp only [Act.put,yA,yB,yC]
 refine tK 8 12 ?_ rfl rfl (by kernel_rfl) (fun _ _ _ h=>h) ⟨by rfl,?_⟩ trivial ?_
 rotate_left
 ·(intro wx hSw;(try dsimp only at hSw);go_simp;try with_reducible rfl)
 (try simp only [yA,yB,yC])
 refine wpAnyH_ready (rs:= [9]) (by kernel_rfl) (by simp) ?_
 refine AllReadyH.cons rfl (fun K hK=> ?_) AllReadyH.nil
 go_simp
 refine hK.out _ _ trivial (fun _=> ?_)
 clear hK K
 refine wpAnyH_done (by kernel_rfl) ?_ _
 go_wp2_with fail
 go_returns
 have hln:(xs++ [x]).length=n+1:=by rw [List.length_append,HN.out];rfl
 refine ⟨rfl,.slice (some ⟨b,0,none⟩) (n+1) c1,?_,HB6.out⟩;rw [HpS,hln];exact HS6.out
open Go.RowKit
theorem zm8 (ts:Array TypeId) (t:TypeId) (a:Addr) (s m:String):Builtin.ssaWrapNilChk_ ts t #[.pointer (some a),strVal s,strVal m]=pure (.pointer (some a)):=rfl
theorem Tryz.recvP (g:Nat) (v:Value) (m:String) (w:World) (hc:w.cell? ⟨g,0,none⟩=some v):(receiverAt 149 (.val (.pointer (some ⟨g,0,none⟩))) false (some m)).run Tryz.prog w= .ok v w:=by
 have hu:=Tryz.underlying149;have ha:=Tryz.isAgg147
 simp only [receiverAt,Place.get]
 go_simp
 simp only [zm8]
 go_simp
theorem zhT {P:Program} {t:TypeId} {name:String} {f:FuncId} {pr:Bool} {v x:Value} (w:World) (n:Nat)
  (h:((P.info? t).bind fun i=>(i.methods.find? (·.name ==name)).map fun m=>(m.path.toList,m.path.isEmpty,m.func))=some ([],true,some (f,pr)))
  (hr : (receiverAt t (.val v) pr (some ((name.splitOn ".").getLastD name))).run P w = .ok x w) : (method (n + 1) t v name).run P w = .ok (f, x) w := by
 obtain ⟨i,hi,h⟩:=Option.bind_eq_some_iff.1 h;obtain ⟨m,hm,h⟩:=Option.map_eq_some_iff.1 h;have e1:m.path.toList= []:=(Prod.mk.inj h).1;have e2:m.path.isEmpty=true:=(Prod.mk.inj (Prod.mk.inj h).2).1;have e3:m.func=some (f,pr):=(Prod.mk.inj (Prod.mk.inj h).2).2;have ht:(typeInfo t).run P w= .ok i w:=run_typeInfo w hi
 have hf:∀(x:Place),(follow m.path.toList t x)=pure (t,x):=fun x=>by rw [e1];rfl
 have hp:Sem.run P (pure (t,Place.val v)) w= .ok (t,Place.val v) w:=rfl
 simp only [method,Sem.run_bind,ht,Result.andThen,hm,hf,e3,e2,if_true,go_sem]
 rw [hp]
 simp only [hr]
 rfl
theorem Tryz.mtKLen : ((Tryz.prog.info? 149).bind fun i => (i.methods.find? (·.name == "Len")).map fun m => (m.path.toList, m.path.isEmpty, m.func)) = some ([], true, some (132, false)) := by kernel_rfl
theorem Tryz.mtLen (n g : Nat) (v : Value) (w : World) (hc : w.cell? ⟨g, 0, none⟩ = some v) : (method (n + 1) 149 (.pointer (some ⟨g, 0, none⟩)) "Len").run Tryz.prog w = .ok (132, v) w := zhT w n Tryz.mtKLen (Tryz.recvP g v _ w hc)
theorem Tryz.mtKLess : ((Tryz.prog.info? 149).bind fun i => (i.methods.find? (·.name == "Less")).map fun m => (m.path.toList, m.path.isEmpty, m.func)) = some ([], true, some (162, false)) := by kernel_rfl
theorem Tryz.mtLess (n g : Nat) (v : Value) (w : World) (hc : w.cell? ⟨g, 0, none⟩ = some v) : (method (n + 1) 149 (.pointer (some ⟨g, 0, none⟩)) "Less").run Tryz.prog w = .ok (162, v) w := zhT w n Tryz.mtKLess (Tryz.recvP g v _ w hc)
theorem Tryz.mtKSwap : ((Tryz.prog.info? 149).bind fun i => (i.methods.find? (·.name == "Swap")).map fun m => (m.path.toList, m.path.isEmpty, m.func)) = some ([], true, some (163, false)) := by kernel_rfl
theorem Tryz.mtSwap (n g : Nat) (v : Value) (w : World) (hc : w.cell? ⟨g, 0, none⟩ = some v) : (method (n + 1) 149 (.pointer (some ⟨g, 0, none⟩)) "Swap").run Tryz.prog w = .ok (163, v) w := zhT w n Tryz.mtKSwap (Tryz.recvP g v _ w hc)
open Go.RowKit
def swp (xs:List Int) (i j:Nat):List Int:=(xs.set i (xs.getD j 0)).set j (xs.getD i 0)
def hupF:Nat->List Int->Nat->List Int
 | 0,xs,_=>xs
 | f+1,xs,j=>if j=0\/¬(xs.getD j 0<xs.getD ((j - 1) / 2) 0) then xs else hupF f (swp xs ((j - 1) / 2) j) ((j - 1) / 2)
theorem zar (xs:List Int) (i j:Nat):(swp xs i j).length=xs.length:=by simp [swp]
theorem zkf:∀(f f':Nat) (xs:List Int) (j:Nat),j+1<=f->j+1<=f'->hupF f xs j=hupF f' xs j
 | 0,_,_,_,h,_=>by omega
 | _+1,0,_,_,_,h=>by omega
 | f+1,f'+1,xs,j,h,h'=>by
  rw [hupF,hupF]
  split
  ·rfl
  ·rename_i hn
   have:j≠0:=fun e=>hn (Or.inl e)
   exact zkf f f' _ _ (by omega) (by omega)
def hpI (g:Nat):Value:= .iface 149 (.pointer (some ⟨g,0,none⟩))
theorem zkR (B g:Nat) (v:Value) (xs:List Int) (R:List Ast) (j:Nat) (hj:j<xs.length) (hl:xs.length<=1048576) (w:World) (hB:B<=w.heap.size) (h:HpS B w g v xs R):
  Calls Tryz.prog 131 #[hpI g,.int .i64 (j:Int)] w fun e w'=>e= .returned (.tuple #[])/\HpS B w' g v (hupF (j+1) xs j) R/\Below B w w':=by
 obtain ⟨n,hn⟩:∃n,xs.length=n:=⟨_,rfl⟩;have HN:=hide hn;have HS0:=hide h;have HB0:=hide hB
 obtain ⟨r,c,rfl⟩:=zdN (zd5 h).2.2.1 (by omega)
 rw [hn] at hj hl HS0⊢;clear h hB hn;rw [hpI];go_enter Tryz.func131,Tryz.ntmps131;go_wp2_with fail
 go_loopg [1] (j+1) (fun q jv wr=>∃(k:Nat) (ys:List Int),k<n/\q=k+1/\jv= .int .i64 (k:Int)/\Hid (hupF (k+1) ys k=hupF (j+1) xs j)/\Hid (ys.length=n)/\Hid (HpS B wr g (.slice (some ⟨r,0,none⟩) n c) ys R)/\Hid (Below B w wr))
 case atStart=>exact ⟨j,xs,hj,rfl,rfl,hide rfl,HN,HS0,hide (Below.refl _ _)⟩
 case round=>
  obtain ⟨k,ys,hk,hq,rfl,HU,HL,HS,HW⟩:=hrel;have HQ:=hide hq;clear hq;have c0:wr.cell? ⟨g,0,none⟩=some (.slice (some ⟨r,0,none⟩) n c):=(za0 (za2 HS.out 0 rfl:wr.heap[g]?=some _) 0).1
  cases k with
  | zero=>
   go_wp2_with fail
   go_returns
   have e:hupF 1 ys 0=ys:=by rw [hupF,if_pos (Or.inl rfl)]
   refine ⟨rfl,?_,HW.out⟩;rw [<-HU.out,e];exact HS.out
  | succ m=>
   have hd:((m+1:Nat):Int) - 1=(m:Int):=by omega
   have hne:((m:Int) / 2 ==(m:Int)+1)=false:=by simp;omega
   go_wp2_with fail;rw [Tryz.mtLess _ g _ wr c0];have hlen:=HL.out
   obtain ⟨x,hx⟩:∃x,ys[m+1]?=some x:=⟨_,List.getElem?_eq_getElem (by omega)⟩
   obtain ⟨y,hy⟩:∃y,ys[m / 2]?=some y:=⟨_,List.getElem?_eq_getElem (by omega)⟩
   have ho:wr.ownsRow B 3 1 (.slice (some ⟨r,0,none⟩) n c) n (ints ys):=by have:=(zd5 HS.out).2.2.1;rw [hlen] at this;exact this
   have gx:ys.getD (m+1) 0=x:=by rw [List.getD_eq_getElem?_getD,hx];rfl
   have gy:ys.getD (m / 2) 0=y:=by rw [List.getD_eq_getElem?_getD,hy];rfl
   have e1:((m+1:Nat):Int)=(m:Int)+1:=by omega
   have e2:((m / 2:Nat):Int)=(m:Int) / 2:=by omega
   have em:(m+1 - 1) / 2=m / 2:=by rw [Nat.add_sub_cancel]
   have HLs:=hide (zcL B r n c ys (m+1) (m / 2) x y hx hy wr ho);have HX:=hide (⟨hx,hy,gx,gy⟩:_/\_/\_/\_);rw [e1,e2] at HLs;clear hx hy ho gx gy hlen;go_wp2_with fail;refine HLs.out.mono ?_;rintro e w2 ⟨rfl,hb⟩;have HS2:Hid (HpS B w2 g (.slice (some ⟨r,0,none⟩) n c) ys R):=hide (zb5 HS.out hb)
   have HW2:Hid (Below B w w2):=hide (HW.out.trans (hb.mono (by have:=HW.out.size;have:=HB0.out;omega)))
   clear hb HLs c0;have c0:w2.cell? ⟨g,0,none⟩=some (.slice (some ⟨r,0,none⟩) n c):=(za0 (za2 HS2.out 0 rfl:w2.heap[g]?=some _) 0).1
   by_cases hxy:x<y
   ·rw [decide_eq_true hxy]
    have HU2:Hid (hupF (m / 2+1) (swp ys (m / 2) (m+1)) (m / 2)=hupF (j+1) xs j):=hide (by
     rw [<-HU.out]
     conv=>rhs;rw [hupF,if_neg (by rw [em,HX.out.2.2.1,HX.out.2.2.2];intro h;rcases h with h | h;omega;exact h hxy),em]
     exact zkf _ _ _ _ (Nat.le_refl _) (by omega))
    have HSw:=hide (zgE B g (.slice (some ⟨r,0,none⟩) n c) ys R (m / 2) (m+1) y x HX.out.2.1 HX.out.1 w2 (by have:=HW2.out.size;have:=HB0.out;omega) HS2.out)
    rw [e1,e2,show (ys.set (m / 2) x).set (m+1) y=swp ys (m / 2) (m+1) from by rw [swp,HX.out.2.2.1,HX.out.2.2.2]] at HSw
    clear hxy;go_wp2_with fail;rw [Tryz.mtSwap _ g _ w2 c0];go_wp2_with fail;refine HSw.out.mono ?_;rintro e w3 ⟨rfl,hs3,hb3⟩;have HS3:=hide hs3;have HW3:=hide (HW2.out.trans hb3);clear hs3 hb3 HSw c0;go_wp2_with fail
    go_roundg (m / 2+1)
    case measure=>have:=HQ.out;omega
    case rel=>exact ⟨m / 2,_,by omega,rfl,by go_num,HU2,hide (by rw [zar];exact HL.out),HS3,HW3⟩
   ·rw [decide_eq_false hxy]
    have HE:Hid (hupF (m+2) ys (m+1)=ys):=hide (by rw [hupF,if_pos (Or.inr (by rw [em,HX.out.2.2.1,HX.out.2.2.2];exact hxy))])
    clear hxy;go_wp2_with fail
    go_returns
    refine ⟨rfl,?_,HW2.out⟩;rw [<-HU.out,HE.out];exact HS2.out
open Go.RowKit
def pickJ (xs:List Int) (i n:Nat):Nat:=if 2 * i+2<n/\xs.getD (2 * i+2) 0<xs.getD (2 * i+1) 0 then 2 * i+2 else 2 * i+1
def downF:Nat->List Int->Nat->Nat->List Int
 | 0,xs,_,_=>xs
 | f+1,xs,i,n=>if n<=2 * i+1\/¬(xs.getD (pickJ xs i n) 0<xs.getD i 0) then xs else downF f (swp xs i (pickJ xs i n)) (pickJ xs i n) n
theorem zkg (xs:List Int) (i n:Nat):pickJ xs i n=2 * i+1\/(pickJ xs i n=2 * i+2/\2 * i+2<n):=by
 rw [pickJ]
 split
 ·rename_i h
  exact Or.inr ⟨rfl,h.1⟩
 ·exact Or.inl rfl
theorem zdO:∀(f f':Nat) (xs:List Int) (i n:Nat),n - i+1<=f->n - i+1<=f'->downF f xs i n=downF f' xs i n
 | 0,_,_,_,_,h,_=>by omega
 | _+1,0,_,_,_,_,h=>by omega
 | f+1,f'+1,xs,i,n,h,h'=>by
  rw [downF,downF]
  split
  ·rfl
  ·rename_i hn
   have h1:¬n<=2 * i+1:=fun e=>hn (Or.inl e)
   have h2:=zkg xs i n
   exact zdO f f' _ _ _ (by omega) (by omega)
theorem zfw (B g:Nat) (v:Value) (xs:List Int) (R:List Ast) (i0 N:Nat) (hi:i0<=xs.length) (hN:N<=xs.length) (h0:0<xs.length) (hl:xs.length<=1048576) (w:World) (hB:B<=w.heap.size) (h:HpS B w g v xs R):
  Calls Tryz.prog 130 #[hpI g,.int .i64 (i0:Int),.int .i64 (N:Int)] w fun e w'=>(∃b,e= .returned (.bool b))/\HpS B w' g v (downF (N - i0+1) xs i0 N) R/\Below B w w':=by
 obtain ⟨n,hn⟩:∃n,xs.length=n:=⟨_,rfl⟩;have HN:=hide hn;have HS0:=hide h;have HB0:=hide hB;obtain ⟨r,c,rfl⟩:=zdN (zd5 h).2.2.1 h0;rw [hn] at hi hN hl HS0⊢;clear h hB hn h0;rw [hpI];go_enter Tryz.func130,Tryz.ntmps130;go_wp2_with fail
 go_loopg [7] (N - i0) (fun q iv wr=>∃(k:Nat) (ys:List Int),k<=n/\q=N - k/\iv= .int .i64 (k:Int)/\Hid (downF (N - k+1) ys k N=downF (N - i0+1) xs i0 N)/\Hid (ys.length=n)/\Hid (HpS B wr g (.slice (some ⟨r,0,none⟩) n c) ys R)/\Hid (Below B w wr))
 case atStart=>exact ⟨i0,xs,hi,rfl,rfl,hide rfl,HN,HS0,hide (Below.refl _ _)⟩
 case round=>
  obtain ⟨k,ys,hk,hq,rfl,HU,HL,HS,HW⟩:=hrel;have HQ:=hide hq;clear hq;have c0:wr.cell? ⟨g,0,none⟩=some (.slice (some ⟨r,0,none⟩) n c):=(za0 (za2 HS.out 0 rfl:wr.heap[g]?=some _) 0).1
  have e1:((2 * k+1:Nat):Int)=2 * (k:Int)+1:=by omega
  have e2:((2 * k+2:Nat):Int)=2 * (k:Int)+1+1:=by omega
  by_cases hjn:N<=2 * k+1
  ·have HE:Hid (downF (N - k+1) ys k N=ys):=hide (by rw [downF,if_pos (Or.inl hjn)])
   have d1:(N:Int)<=2 * (k:Int)+1:=by omega
   go_wp2_with fail;go_ret;refine ⟨⟨_,rfl⟩,?_,HW.out⟩;rw [<-HU.out,HE.out];exact HS.out
  have d1:¬(N:Int)<=2 * (k:Int)+1:=by omega
  have d0:¬(2 * (k:Int)+1<0):=by omega
  have hlen:=HL.out
  obtain ⟨x,hx⟩:∃x,ys[k]?=some x:=⟨_,List.getElem?_eq_getElem (by omega)⟩
  obtain ⟨y1,hy1⟩:∃x,ys[2 * k+1]?=some x:=⟨_,List.getElem?_eq_getElem (by omega)⟩
  have gy1:ys.getD (2 * k+1) 0=y1:=by rw [List.getD_eq_getElem?_getD,hy1];rfl
  clear hlen
  by_cases hj2:N<=2 * k+2
  ·have d2:¬(2 * (k:Int)+1+1<(N:Int)):=by omega
   have HP:Hid (pickJ ys k N=2 * k+1):=hide (by rw [pickJ,if_neg (fun h=>by have:=h.1;omega)])
   clear gy1;obtain ⟨z,hz⟩:∃z,z=y1:=⟨_,rfl⟩;rw [<-hz] at hy1;clear hz
   have ho:wr.ownsRow B 3 1 (.slice (some ⟨r,0,none⟩) n c) n (ints ys):=by have:=(zd5 HS.out).2.2.1;rw [HL.out] at this;exact this
   have HLs:=hide (zcL B r n c ys (2 * k+1) k z x hy1 hx wr ho);rw [e1] at HLs
   have gz:ys.getD (2 * k+1) 0=z:=by rw [List.getD_eq_getElem?_getD,hy1];rfl
   have gx:ys.getD k 0=x:=by rw [List.getD_eq_getElem?_getD,hx];rfl
   have HX:=hide (⟨hy1,hx,gz,gx⟩:_/\_/\_/\_);clear ho gz gx hx hy1;go_wp2_with fail;rw [Tryz.mtLess _ g _ wr c0];go_wp2_with fail;refine HLs.out.mono ?_;rintro e w8 ⟨rfl,hb⟩;have HS8:Hid (HpS B w8 g (.slice (some ⟨r,0,none⟩) n c) ys R):=hide (zb5 HS.out hb)
   have HW8:Hid (Below B w w8):=hide (HW.out.trans (hb.mono (by have:=HW.out.size;have:=HB0.out;omega)))
   clear hb HLs;have c8:w8.cell? ⟨g,0,none⟩=some (.slice (some ⟨r,0,none⟩) n c):=(za0 (za2 HS8.out 0 rfl:w8.heap[g]?=some _) 0).1
   by_cases hzx:z<x
   ·rw [decide_eq_true hzx]
    have HU2:Hid (downF (N - (2 * k+1)+1) (swp ys k (2 * k+1)) (2 * k+1) N=downF (N - i0+1) xs i0 N):=hide (by
     rw [<-HU.out]
     conv=>rhs;rw [downF,if_neg (by rw [HP.out,HX.out.2.2.1,HX.out.2.2.2];intro h;rcases h with h | h;omega;exact h hzx),HP.out]
     exact zdO _ _ _ _ _ (by omega) (by omega))
    have HSw:=hide (zgE B g (.slice (some ⟨r,0,none⟩) n c) ys R k (2 * k+1) x z HX.out.2.1 HX.out.1 w8 (by have:=HW8.out.size;have:=HB0.out;omega) HS8.out)
    rw [e1,show (ys.set k z).set (2 * k+1) x=swp ys k (2 * k+1) from by rw [swp,HX.out.2.2.1,HX.out.2.2.2]] at HSw
    clear hzx;go_wp2_with fail;rw [Tryz.mtSwap _ g _ w8 c8];go_wp2_with fail;refine HSw.out.mono ?_;rintro e w9 ⟨rfl,hs9,hb9⟩;have HS9:=hide hs9;have HW9:=hide (HW8.out.trans hb9);clear hs9 hb9 HSw c8;go_wp2_with fail
    go_roundg (N - (2 * k+1))
    case measure=>have:=HQ.out;omega
    case rel=>exact ⟨2 * k+1,_,by omega,rfl,by go_num,HU2,hide (by rw [zar];exact HL.out),HS9,HW9⟩
   ·rw [decide_eq_false hzx]
    have HE:Hid (downF (N - k+1) ys k N=ys):=hide (by rw [downF,if_pos (Or.inr (by rw [HP.out,HX.out.2.2.1,HX.out.2.2.2];exact hzx))])
    clear hzx;go_wp2_with fail;go_ret;refine ⟨⟨_,rfl⟩,?_,HW8.out⟩;rw [<-HU.out,HE.out];exact HS8.out
  have d2:2 * (k:Int)+1+1<(N:Int):=by omega
  have hlen:=HL.out
  obtain ⟨y2,hy2⟩:∃x,ys[2 * k+2]?=some x:=⟨_,List.getElem?_eq_getElem (by omega)⟩
  have gy2:ys.getD (2 * k+2) 0=y2:=by rw [List.getD_eq_getElem?_getD,hy2];rfl
  clear hlen
  have ho:wr.ownsRow B 3 1 (.slice (some ⟨r,0,none⟩) n c) n (ints ys):=by have:=(zd5 HS.out).2.2.1;rw [HL.out] at this;exact this
  have HLs:=hide (zcL B r n c ys (2 * k+2) (2 * k+1) y2 y1 hy2 hy1 wr ho);rw [e2,e1] at HLs;clear ho;go_wp2_with fail;rw [Tryz.mtLess _ g _ wr c0];go_wp2_with fail;refine HLs.out.mono ?_;rintro e w2 ⟨rfl,hb⟩;have HS2:Hid (HpS B w2 g (.slice (some ⟨r,0,none⟩) n c) ys R):=hide (zb5 HS.out hb)
  have HW2:Hid (Below B w w2):=hide (HW.out.trans (hb.mono (by have:=HW.out.size;have:=HB0.out;omega)))
  clear hb HLs;have c_w2:w2.cell? ⟨g,0,none⟩=some (.slice (some ⟨r,0,none⟩) n c):=(za0 (za2 HS2.out 0 rfl:w2.heap[g]?=some _) 0).1;clear c0
  by_cases hyy:y2<y1
  ·have HP:Hid (pickJ ys k N=2 * k+2):=hide (by rw [pickJ,if_pos ⟨by omega,by rw [gy1,gy2];exact hyy⟩])
   rw [decide_eq_true hyy];clear gy1 gy2 hyy hy1;obtain ⟨z,hz⟩:∃z,z=y2:=⟨_,rfl⟩;rw [<-hz] at hy2;clear hz
   have ho:w2.ownsRow B 3 1 (.slice (some ⟨r,0,none⟩) n c) n (ints ys):=by have:=(zd5 HS2.out).2.2.1;rw [HL.out] at this;exact this
   have HLs:=hide (zcL B r n c ys (2 * k+2) k z x hy2 hx w2 ho);rw [e2] at HLs
   have gz:ys.getD (2 * k+2) 0=z:=by rw [List.getD_eq_getElem?_getD,hy2];rfl
   have gx:ys.getD k 0=x:=by rw [List.getD_eq_getElem?_getD,hx];rfl
   have HX:=hide (⟨hy2,hx,gz,gx⟩:_/\_/\_/\_);clear ho gz gx hx hy2;go_wp2_with fail;rw [Tryz.mtLess _ g _ w2 c_w2];go_wp2_with fail;refine HLs.out.mono ?_;rintro e w8 ⟨rfl,hb⟩;have HS8:Hid (HpS B w8 g (.slice (some ⟨r,0,none⟩) n c) ys R):=hide (zb5 HS2.out hb)
   have HW8:Hid (Below B w w8):=hide (HW2.out.trans (hb.mono (by have:=HW2.out.size;have:=HB0.out;omega)))
   clear hb HLs;have c8:w8.cell? ⟨g,0,none⟩=some (.slice (some ⟨r,0,none⟩) n c):=(za0 (za2 HS8.out 0 rfl:w8.heap[g]?=some _) 0).1
   by_cases hzx:z<x
   ·rw [decide_eq_true hzx]
    have HU2:Hid (downF (N - (2 * k+2)+1) (swp ys k (2 * k+2)) (2 * k+2) N=downF (N - i0+1) xs i0 N):=hide (by
     rw [<-HU.out]
     conv=>rhs;rw [downF,if_neg (by rw [HP.out,HX.out.2.2.1,HX.out.2.2.2];intro h;rcases h with h | h;omega;exact h hzx),HP.out]
     exact zdO _ _ _ _ _ (by omega) (by omega))
    have HSw:=hide (zgE B g (.slice (some ⟨r,0,none⟩) n c) ys R k (2 * k+2) x z HX.out.2.1 HX.out.1 w8 (by have:=HW8.out.size;have:=HB0.out;omega) HS8.out)
    rw [e2,show (ys.set k z).set (2 * k+2) x=swp ys k (2 * k+2) from by rw [swp,HX.out.2.2.1,HX.out.2.2.2]] at HSw
    clear hzx;go_wp2_with fail;rw [Tryz.mtSwap _ g _ w8 c8];go_wp2_with fail;refine HSw.out.mono ?_;rintro e w9 ⟨rfl,hs9,hb9⟩;have HS9:=hide hs9;have HW9:=hide (HW8.out.trans hb9);clear hs9 hb9 HSw c8;go_wp2_with fail
    go_roundg (N - (2 * k+2))
    case measure=>have:=HQ.out;omega
    case rel=>exact ⟨2 * k+2,_,by omega,rfl,by go_num,HU2,hide (by rw [zar];exact HL.out),HS9,HW9⟩
   ·rw [decide_eq_false hzx]
    have HE:Hid (downF (N - k+1) ys k N=ys):=hide (by rw [downF,if_pos (Or.inr (by rw [HP.out,HX.out.2.2.1,HX.out.2.2.2];exact hzx))])
    clear hzx;go_wp2_with fail;go_ret;refine ⟨⟨_,rfl⟩,?_,HW8.out⟩;rw [<-HU.out,HE.out];exact HS8.out
  ·have HP:Hid (pickJ ys k N=2 * k+1):=hide (by rw [pickJ,if_neg (fun h=>by rw [gy1,gy2] at h;exact hyy h.2)])
   rw [decide_eq_false hyy];clear gy1 gy2 hyy hy2;obtain ⟨z,hz⟩:∃z,z=y1:=⟨_,rfl⟩;rw [<-hz] at hy1;clear hz
   have ho:w2.ownsRow B 3 1 (.slice (some ⟨r,0,none⟩) n c) n (ints ys):=by have:=(zd5 HS2.out).2.2.1;rw [HL.out] at this;exact this
   have HLs:=hide (zcL B r n c ys (2 * k+1) k z x hy1 hx w2 ho);rw [e1] at HLs
   have gz:ys.getD (2 * k+1) 0=z:=by rw [List.getD_eq_getElem?_getD,hy1];rfl
   have gx:ys.getD k 0=x:=by rw [List.getD_eq_getElem?_getD,hx];rfl
   have HX:=hide (⟨hy1,hx,gz,gx⟩:_/\_/\_/\_);clear ho gz gx hx hy1;go_wp2_with fail;rw [Tryz.mtLess _ g _ w2 c_w2];go_wp2_with fail;refine HLs.out.mono ?_;rintro e w8 ⟨rfl,hb⟩;have HS8:Hid (HpS B w8 g (.slice (some ⟨r,0,none⟩) n c) ys R):=hide (zb5 HS2.out hb)
   have HW8:Hid (Below B w w8):=hide (HW2.out.trans (hb.mono (by have:=HW2.out.size;have:=HB0.out;omega)))
   clear hb HLs;have c8:w8.cell? ⟨g,0,none⟩=some (.slice (some ⟨r,0,none⟩) n c):=(za0 (za2 HS8.out 0 rfl:w8.heap[g]?=some _) 0).1
   by_cases hzx:z<x
   ·rw [decide_eq_true hzx]
    have HU2:Hid (downF (N - (2 * k+1)+1) (swp ys k (2 * k+1)) (2 * k+1) N=downF (N - i0+1) xs i0 N):=hide (by
     rw [<-HU.out]
     conv=>rhs;rw [downF,if_neg (by rw [HP.out,HX.out.2.2.1,HX.out.2.2.2];intro h;rcases h with h | h;omega;exact h hzx),HP.out]
     exact zdO _ _ _ _ _ (by omega) (by omega))
    have HSw:=hide (zgE B g (.slice (some ⟨r,0,none⟩) n c) ys R k (2 * k+1) x z HX.out.2.1 HX.out.1 w8 (by have:=HW8.out.size;have:=HB0.out;omega) HS8.out)
    rw [e1,show (ys.set k z).set (2 * k+1) x=swp ys k (2 * k+1) from by rw [swp,HX.out.2.2.1,HX.out.2.2.2]] at HSw
    clear hzx;go_wp2_with fail;rw [Tryz.mtSwap _ g _ w8 c8];go_wp2_with fail;refine HSw.out.mono ?_;rintro e w9 ⟨rfl,hs9,hb9⟩;have HS9:=hide hs9;have HW9:=hide (HW8.out.trans hb9);clear hs9 hb9 HSw c8;go_wp2_with fail
    go_roundg (N - (2 * k+1))
    case measure=>have:=HQ.out;omega
    case rel=>exact ⟨2 * k+1,_,by omega,rfl,by go_num,HU2,hide (by rw [zar];exact HL.out),HS9,HW9⟩
   ·rw [decide_eq_false hzx]
    have HE:Hid (downF (N - k+1) ys k N=ys):=hide (by rw [downF,if_pos (Or.inr (by rw [HP.out,HX.out.2.2.1,HX.out.2.2.2];exact hzx))])
    clear hzx;go_wp2_with fail;go_ret;refine ⟨⟨_,rfl⟩,?_,HW8.out⟩;rw [<-HU.out,HE.out];exact HS8.out
open Go.RowKit
theorem zfY {B:Nat} {w:World} {g:Nat} {v:Value} {xs:List Int} {R:List Ast} (h:HpS B w g v xs R):w.cell? ⟨g,0,none⟩=some v:=(za0 (za2 h 0 rfl:w.heap[g]?=some _) 0).1
theorem zeK {B:Nat} {w:World} {g:Nat} {v:Value} {xs:List Int} {R:List Ast} (h:HpS B w g v xs R):∃a c,v= .slice a xs.length c:=za4 (za2 h 1 rfl)
theorem ziJ (B g:Nat) (v:Value) (xs:List Int) (R:List Ast) (x:Int) (hl:xs.length<=1048000) (w:World) (hB:B<=w.heap.size) (h:HpS B w g v xs R):
  Calls Tryz.prog 101 #[hpI g,.iface 3 (.int .i64 x)] w fun e w'=>e= .returned (.tuple #[])/\∃v',HpS B w' g v' (hupF (xs.length+1) (xs++ [x]) xs.length) R/\Below B w w':=by
 have HP:=hide (hpPushS B g v xs R x (by omega) w hB h)
 obtain ⟨n,hn⟩:∃n,xs.length=n:=⟨_,rfl⟩;have HN:=hide hn;have HB0:=hide hB;rw [hn] at hl⊢;clear h hB hn;rw [hpI];go_enter Tryz.func101,Tryz.ntmps101;go_wp2_with fail;refine HP.out.mono ?_;rintro e w1 ⟨rfl,v1,hs1,hb1⟩
 have hlen:(xs++ [x]).length=n+1:=by rw [List.length_append,HN.out];rfl
 have hz1:B<=w1.heap.size:=by have:=hb1.size;have:=HB0.out;omega
 obtain ⟨a,c,rfl⟩:=zeK hs1;rw [hlen] at hs1;have c1:=zfY hs1
 have HU:=hide (zkR B g (.slice a (n+1) c) (xs++ [x]) R n (by omega) (by omega) w1 hz1 hs1)
 have HB1:=hide hb1
 have en:((n+1:Nat):Int) - 1=(n:Int):=by omega
 rw [hpI] at HU;clear hs1 hb1 hz1 hlen HP;go_wp2_with fail;rw [Tryz.mtLen _ g _ w1 c1];go_wp2_with fail;refine (zdu a _ c w1).mono ?_;rintro e w2 ⟨rfl,rfl⟩;go_wp2_with fail;refine HU.out.mono ?_;rintro e w3 ⟨rfl,hs3,hb3⟩;have HS3:=hide hs3;have HB3:=hide (HB1.out.trans hb3);clear hs3 hb3 HU;go_wp2_with fail
 go_returns
 exact ⟨rfl,_,HS3.out,HB3.out⟩
def popF (xs:List Int) (n:Nat):List Int:=downF (n+1) (swp xs 0 n) 0 n
theorem zdv:∀(f:Nat) (xs:List Int) (i n:Nat),(downF f xs i n).length=xs.length
 | 0,_,_,_=>rfl
 | f+1,xs,i,n=>by
  rw [downF]
  split
  ·rfl
  ·rw [zdv f,zar]
theorem zhk:∀(f:Nat) (xs:List Int) (j:Nat),(hupF f xs j).length=xs.length
 | 0,_,_=>rfl
 | f+1,xs,j=>by
  rw [hupF]
  split
  ·rfl
  ·rw [zhk f,zar]
theorem zjn (B g:Nat) (v:Value) (xs:List Int) (R:List Ast) (n:Nat) (hn:xs.length=n+1) (hl:n<=1048000) (w:World) (hB:B<=w.heap.size) (h:HpS B w g v xs R):
  Calls Tryz.prog 133 #[hpI g] w fun e w'=>e= .returned (.iface 3 (.int .i64 ((popF xs n).getD n 0)))/\∃v',HpS B w' g v' ((popF xs n).take n) R/\Below B w w':=by
 obtain ⟨a,c,rfl⟩:=zeK h;have c0:=zfY h
 obtain ⟨x,hx⟩:∃x,xs[0]?=some x:=⟨_,List.getElem?_eq_getElem (by omega)⟩
 obtain ⟨y,hy⟩:∃y,xs[n]?=some y:=⟨_,List.getElem?_eq_getElem (by omega)⟩
 have HSw:=hide (zgE B g _ xs R 0 n x y hx hy w hB h)
 have es:(xs.set 0 y).set n x=swp xs 0 n:=by
  rw [swp,List.getD_eq_getElem?_getD,List.getD_eq_getElem?_getD,hx,hy]
  rfl
 rw [es,hn] at HSw;rw [hn] at c0;have HN:=hide hn;have HB0:=hide hB
 have en:((n+1:Nat):Int) - 1=(n:Int):=by omega
 have e0:((0:Nat):Int)=0:=rfl;rw [e0] at HSw;clear h hB hn hx hy es;obtain ⟨p,hp⟩:∃p,(popF xs n).getD n 0=p:=⟨_,rfl⟩;obtain ⟨ts,hts⟩:∃ts,(popF xs n).take n=ts:=⟨_,rfl⟩;have HPt:=hide (⟨hp,hts⟩:_/\_);rw [hpI,hp,hts];clear hp hts;go_enter Tryz.func133,Tryz.ntmps133;go_wp2_with fail;rw [Tryz.mtLen _ g _ w c0];go_wp2_with fail;refine (zdu a _ c w).mono ?_;rintro e w1 ⟨rfl,rfl⟩;go_wp2_with fail;rw [Tryz.mtSwap _ g _ w c0];go_wp2_with fail;refine HSw.out.mono ?_;rintro e w2 ⟨rfl,hs2,hb2⟩
 have hlen:(swp xs 0 n).length=n+1:=by rw [zar];exact HN.out
 have hz2:B<=w2.heap.size:=by have:=hb2.size;have:=HB0.out;omega
 have HD:=hide (zfw B g _ (swp xs 0 n) R 0 n (by omega) (by omega) (by omega) (by omega) w2 hz2 hs2)
 rw [Nat.sub_zero,hpI,e0,show downF (n+1) (swp xs 0 n) 0 n=popF xs n from rfl] at HD
 have HB2:=hide hb2;clear hs2 hb2 hz2 hlen HSw c0;go_wp2_with fail;refine HD.out.mono ?_;rintro e w3 ⟨⟨b,rfl⟩,hs3,hb3⟩
 have hlp:(popF xs n).length=n+1:=by rw [popF,zdv,zar];exact HN.out
 have hsp:popF xs n=(popF xs n).take n++ [(popF xs n).getD n 0]:=by
  have h1:=List.take_append_drop n (popF xs n)
  have h2:(popF xs n).drop n= [(popF xs n).getD n 0]:=by
   rw [List.drop_eq_getElem_cons (by omega),List.drop_of_length_le (by omega),List.getD_eq_getElem?_getD,List.getElem?_eq_getElem (by omega)]
   rfl
  rw [h2] at h1;exact h1.symm
 rw [hsp] at hs3
 have hz3:B<=w3.heap.size:=by have:=hb3.size;have:=HB2.out.size;have:=HB0.out;omega
 have HPp:=hide (hpPopS B g _ _ R _ (by rw [List.length_take];omega) w3 hz3 hs3)
 have HB3:=hide (HB2.out.trans hb3);rw [HPt.out.1,HPt.out.2] at HPp;clear hs3 hb3 hz3 hsp hlp HD;go_wp2_with fail;refine HPp.out.mono ?_;rintro e w4 ⟨rfl,v4,hs4,hb4⟩;have HS4:=hide hs4;have HB4:=hide (HB3.out.trans hb4);clear hs4 hb4 HPp;go_wp2_with fail;go_ret;exact ⟨rfl,v4,HS4.out,HB4.out⟩
open Go.RowKit
def IsHp (xs:List Int):Prop:=∀i,0<i->i<xs.length->xs.getD ((i - 1) / 2) 0<=xs.getD i 0
theorem swp_get (xs:List Int) (i j k:Nat) (hi:i<xs.length) (hj:j<xs.length):(swp xs i j).getD k 0=if k=j then xs.getD i 0 else if k=i then xs.getD j 0 else xs.getD k 0:=by
 rw [swp,List.getD_eq_getElem?_getD,List.getElem?_set]
 by_cases h1:k=j
 ·subst h1
  rw [if_pos rfl,if_pos (by simpa using hj),if_pos rfl]
  rfl
 ·rw [if_neg (fun e=>h1 e.symm),if_neg h1,List.getElem?_set]
  by_cases h2:k=i
  ·subst h2
   rw [if_pos rfl,if_pos hi,if_pos rfl]
   rfl
  ·rw [if_neg (fun e=>h2 e.symm),if_neg h2,List.getD_eq_getElem?_getD]
theorem zdP {xs:List Int} {x:Int}:x∈xs↔∃k,k<xs.length/\xs.getD k 0=x:=by
 rw [List.mem_iff_getElem]
 constructor
 ·rintro ⟨k,hk,e⟩
  exact ⟨k,hk,by rw [List.getD_eq_getElem?_getD,List.getElem?_eq_getElem hk];exact e⟩
 ·rintro ⟨k,hk,e⟩
  exact ⟨k,hk,by rw [List.getD_eq_getElem?_getD,List.getElem?_eq_getElem hk] at e;exact e⟩
theorem zjo (xs:List Int) (i j:Nat) (hi:i<xs.length) (hj:j<xs.length) (x:Int):x∈swp xs i j↔x∈xs:=by
 rw [zdP,zdP,zar]
 constructor
 ·rintro ⟨k,hk,e⟩
  rw [swp_get xs i j k hi hj] at e
  split at e
  ·exact ⟨i,hi,e⟩
  ·split at e
   ·exact ⟨j,hj,e⟩
   ·exact ⟨k,hk,e⟩
 ·rintro ⟨k,hk,e⟩
  by_cases h1:k=i
  ·subst h1
   exact ⟨j,hj,by rw [swp_get xs k j j hi hj,if_pos rfl];exact e⟩
  ·by_cases h2:k=j
   ·subst h2
    by_cases h3:i=k
    ·exact absurd h3.symm h1
    ·exact ⟨i,hi,by rw [swp_get xs i k i hi hj,if_neg h3,if_pos rfl];exact e⟩
   ·exact ⟨k,hk,by rw [swp_get xs i j k hi hj,if_neg h2,if_neg h1];exact e⟩
theorem zn5 {xs:List Int} (h:IsHp xs):∀i,i<xs.length->xs.getD 0 0<=xs.getD i 0:=by
 intro i
 induction i using Nat.strongRecOn with
 | ind i ih=>
  intro hi
  by_cases h0:i=0
  ·rw [h0];exact Int.le_refl _
  ·have h1:=h i (by omega) hi
   have h2:=ih ((i - 1) / 2) (by omega) (by omega)
   omega
theorem hp_asc {xs:List Int} (h:xs.Pairwise (·<·)):IsHp xs:=by
 intro i h0 hi
 have hp:(i - 1) / 2<xs.length:=by omega
 have:=List.pairwise_iff_getElem.1 h ((i - 1) / 2) i hp hi (by omega)
 rw [List.getD_eq_getElem?_getD,List.getD_eq_getElem?_getD,List.getElem?_eq_getElem hp,List.getElem?_eq_getElem hi]
 show xs[(i - 1) / 2]<=xs[i]
 omega
theorem zm9 {xs:List Int} (h:IsHp xs) (f i n:Nat) (hn:n<=xs.length):downF f xs i n=xs:=by
 cases f with
 | zero=>rfl
 | succ f=>
  rw [downF,if_pos]
  by_cases h1:n<=2 * i+1
  ·exact Or.inl h1
  ·right
   rcases zkg xs i n with e | ⟨e,h2⟩
   ·rw [e]
    have:=h (2 * i+1) (by omega) (by omega)
    rw [show (2 * i+1 - 1) / 2=i from by omega] at this
    omega
   ·rw [e]
    have:=h (2 * i+2) (by omega) (by omega)
    rw [show (2 * i+2 - 1) / 2=i from by omega] at this
    omega
theorem up_hp:∀(f:Nat) (xs:List Int) (j:Nat),j<xs.length->j<f->(∀i,0<i->i<xs.length->i≠j->xs.getD ((i - 1) / 2) 0<=xs.getD i 0)->(∀i,0<i->i<xs.length->(i - 1) / 2=j->0<j->xs.getD ((j - 1) / 2) 0<=xs.getD i 0)->
  IsHp (hupF f xs j)/\∀x,x∈hupF f xs j↔x∈xs
 | 0,_,_,_,h,_,_=>by omega
 | f+1,xs,j,hj,hf,h1,h2=>by
  rw [hupF]
  split
  ·rename_i hc
   refine ⟨fun i h0 hi=> ?_,fun _=>Iff.rfl⟩
   by_cases e:i=j
   ·subst e
    rcases hc with hc | hc
    ·omega
    ·omega
   ·exact h1 i h0 hi e
  ·rename_i hc
   have hj0:0<j:=by
    rcases Nat.eq_zero_or_pos j with e | e
    ·exact absurd (Or.inl e) hc
    ·exact e
   have hlt:xs.getD j 0<xs.getD ((j - 1) / 2) 0:=by
    rcases Int.lt_or_le (xs.getD j 0) (xs.getD ((j - 1) / 2) 0) with h | h
    ·exact h
    ·exact absurd (Or.inr (by omega)) hc
   obtain ⟨p,hp⟩:∃p,(j - 1) / 2=p:=⟨_,rfl⟩;rw [hp] at hlt⊢
   have hpj:p<j:=by omega
   have hpl:p<xs.length:=by omega
   have hg:=fun k=>swp_get xs p j k hpl hj
   have ih:=up_hp f (swp xs p j) p (by rw [zar];exact hpl) (by omega) (fun i h0 hi hne=>by
    rw [zar] at hi;rw [hg,hg]
    by_cases e1:i=j
    ·subst e1
     rw [hp,if_neg (by omega),if_pos rfl,if_pos rfl]
     omega
    ·rw [if_neg e1,if_neg hne]
     by_cases e2:(i - 1) / 2=j
     ·rw [if_pos e2]
      have:=h2 i h0 hi e2 hj0;rw [hp] at this;exact this
     ·rw [if_neg e2]
      have h3:=h1 i h0 hi e1
      by_cases e3:(i - 1) / 2=p
      ·rw [if_pos e3]
       rw [e3] at h3
       omega
      ·rw [if_neg e3]
       exact h3) (fun i h0 hi hpi hp0=>by
    rw [zar] at hi
    rw [hg,hg,if_neg (by omega),if_neg (by omega)]
    have h3:=h1 p hp0 hpl (by omega)
    by_cases e1:i=j
    ·rw [if_pos e1]
     exact h3
    ·rw [if_neg e1,if_neg (by omega)]
     have h4:=h1 i h0 hi e1;rw [hpi] at h4
     omega)
   exact ⟨ih.1,fun x=>(ih.2 x).trans (zjo xs p j hpl hj x)⟩
theorem zhl (xs:List Int) (j n:Nat) (h:2 * j+1<n):pickJ xs j n<n/\(pickJ xs j n - 1) / 2=j/\j<pickJ xs j n/\∀i,0<i->i<n->(i - 1) / 2=j->xs.getD (pickJ xs j n) 0<=xs.getD i 0:=by
 have hc:∀i,0<i->(i - 1) / 2=j->i=2 * j+1\/i=2 * j+2:=fun i h0 hi=>by omega
 rw [pickJ]
 split
 ·rename_i h2
  refine ⟨h2.1,by omega,by omega,fun i h0 hi hp=> ?_⟩
  rcases hc i h0 hp with rfl | rfl
  ·have:=h2.2;omega
  ·exact Int.le_refl _
 ·rename_i h2
  refine ⟨h,by omega,by omega,fun i h0 hi hp=> ?_⟩
  rcases hc i h0 hp with rfl | rfl
  ·exact Int.le_refl _
  ·rcases Int.lt_or_le (xs.getD (2 * j+2) 0) (xs.getD (2 * j+1) 0) with h3 | h3
   ·exact absurd ⟨hi,h3⟩ h2
   ·exact h3
theorem zma:∀(f:Nat) (xs:List Int) (j n:Nat),n<=xs.length->j<xs.length->n<f+j->(∀i,0<i->i<n->(i - 1) / 2≠j->xs.getD ((i - 1) / 2) 0<=xs.getD i 0)->(∀i,0<i->i<n->(i - 1) / 2=j->0<j->xs.getD ((j - 1) / 2) 0<=xs.getD i 0)->
  (∀i,0<i->i<n->(downF f xs j n).getD ((i - 1) / 2) 0<=(downF f xs j n).getD i 0)/\(∀x,x∈downF f xs j n↔x∈xs)/\∀k,n<=k->(downF f xs j n).getD k 0=xs.getD k 0
 | 0,xs,j,n,_,_,hf,h1,_=>⟨fun i h0 hi=>h1 i h0 hi (by omega),fun _=>Iff.rfl,fun _ _=>rfl⟩
 | f+1,xs,j,n,hn,hj,hf,h1,h2=>by
  rw [downF]
  split
  ·rename_i hc
   refine ⟨fun i h0 hi=> ?_,fun _=>Iff.rfl,fun _ _=>rfl⟩
   by_cases e:(i - 1) / 2=j
   ·rcases hc with hc | hc
    ·omega
    ·have h3:=(zhl xs j n (by omega)).2.2.2 i h0 hi e
     rw [e]
     omega
   ·exact h1 i h0 hi e
  ·rename_i hc
   have hj1:2 * j+1<n:=by
    rcases Nat.lt_or_ge (2 * j+1) n with h | h
    ·exact h
    ·exact absurd (Or.inl h) hc
   have hlt:xs.getD (pickJ xs j n) 0<xs.getD j 0:=by
    rcases Int.lt_or_le (xs.getD (pickJ xs j n) 0) (xs.getD j 0) with h | h
    ·exact h
    ·exact absurd (Or.inr (by omega)) hc
   obtain ⟨k1,k2,k3,k4⟩:=zhl xs j n hj1;obtain ⟨q,hq⟩:∃q,pickJ xs j n=q:=⟨_,rfl⟩;rw [hq] at hlt k1 k2 k3 k4⊢
   have hql:q<xs.length:=by omega
   have hg:=fun k=>swp_get xs j q k hj hql
   have ih:=zma f (swp xs j q) q n (by rw [zar];exact hn) (by rw [zar];exact hql) (by omega) (fun i h0 hi hne=>by
    rw [hg,hg,if_neg hne]
    by_cases e1:(i - 1) / 2=j
    ·rw [if_pos e1]
     by_cases e2:i=q
     ·rw [if_pos e2]
      omega
     ·rw [if_neg e2,if_neg (by omega)]
      exact k4 i h0 hi e1
    ·rw [if_neg e1]
     have e2:i≠q:=fun e=>e1 (by rw [e];exact k2)
     rw [if_neg e2]
     by_cases e3:i=j
     ·subst e3
      rw [if_pos rfl]
      exact h2 q (by omega) k1 k2 h0
     ·rw [if_neg e3]
      exact h1 i h0 hi e1) (fun i h0 hi hpi hq0=>by
    rw [k2,hg,hg,if_neg (by omega),if_pos rfl,if_neg (by omega),if_neg (by omega)]
    have h3:=h1 i h0 hi (by omega)
    rw [hpi] at h3
    exact h3)
   refine ⟨ih.1,fun x=>(ih.2.1 x).trans (zjo xs j q hj hql x),fun k hk=> ?_⟩
   rw [ih.2.2 k hk,hg,if_neg (by omega),if_neg (by omega)]
theorem push_hp {xs:List Int} (h:IsHp xs) (x:Int):IsHp (hupF (xs.length+1) (xs++ [x]) xs.length)/\∀y,y∈hupF (xs.length+1) (xs++ [x]) xs.length↔y∈xs\/y=x:=by
 have hl:(xs++ [x]).length=xs.length+1:=by simp
 have hg:∀k,k<xs.length->(xs++ [x]).getD k 0=xs.getD k 0:=fun k hk=>by
  rw [List.getD_eq_getElem?_getD,List.getD_eq_getElem?_getD,List.getElem?_append_left hk]
 have:=up_hp (xs.length+1) (xs++ [x]) xs.length (by omega) (by omega) (fun i h0 hi hne=>by
  rw [hg _ (by omega),hg _ (by omega)]
  exact h i h0 (by omega)) (fun i h0 hi hp=>by omega)
 exact ⟨this.1,fun y=>by rw [this.2 y];simp⟩
theorem zmb {xs:List Int} {n:Nat} (h:IsHp xs) (hn:xs.length=n+1):(popF xs n).getD n 0=xs.getD 0 0/\((popF xs n).take n).length=n/\IsHp ((popF xs n).take n)/\(∀y,y∈xs↔y=xs.getD 0 0\/y∈(popF xs n).take n)/\∀y∈(popF xs n).take n,xs.getD 0 0<=y:=by
 have hg:=fun k=>swp_get xs 0 n k (by omega) (by omega)
 have hlen:(popF xs n).length=n+1:=by rw [popF,zdv,zar,hn]
 have hd:=zma (n+1) (swp xs 0 n) 0 n (by rw [zar];omega) (by rw [zar];omega) (by omega) (fun i h0 hi hne=>by
  rw [hg,hg,if_neg (by omega),if_neg hne,if_neg (by omega),if_neg (by omega)]
  exact h i h0 (by omega)) (fun i h0 hi hp h0'=>by omega)
 have hlast:(popF xs n).getD n 0=xs.getD 0 0:=by
  rw [popF,hd.2.2 n (Nat.le_refl _),hg,if_pos rfl]
 have hlt:((popF xs n).take n).length=n:=by rw [List.length_take];omega
 have htk:∀k,k<n->((popF xs n).take n).getD k 0=(popF xs n).getD k 0:=fun k hk=>by
  rw [List.getD_eq_getElem?_getD,List.getD_eq_getElem?_getD,List.getElem?_take_of_lt hk]
 have hmem:∀y,y∈xs↔y=xs.getD 0 0\/y∈(popF xs n).take n:=fun y=>by
  have h1:y∈popF xs n↔y∈xs:=(hd.2.1 y).trans (zjo xs 0 n (by omega) (by omega) y)
  rw [<-h1,zdP,zdP,hlen,hlt]
  constructor
  ·rintro ⟨k,hk,e⟩
   by_cases h2:k=n
   ·subst h2
    exact Or.inl (by rw [<-e,hlast])
   ·exact Or.inr ⟨k,by omega,by rw [htk k (by omega)];exact e⟩
  ·rintro (e | ⟨k,hk,e⟩)
   ·exact ⟨n,by omega,by rw [hlast,e]⟩
   ·exact ⟨k,by omega,by rw [<-htk k hk];exact e⟩
 refine ⟨hlast,hlt,fun i h0 hi=> ?_,hmem,fun y hy=> ?_⟩
 ·rw [hlt] at hi
  rw [htk _ (by omega),htk _ hi]
  exact hd.1 i h0 hi
 ·obtain ⟨k,hk,e⟩:=zdP.1 ((hmem y).2 (Or.inr hy))
  rw [<-e];exact zn5 h k hk
open Go.RowKit
theorem ziK (B g:Nat) (v:Value) (xs:List Int) (R:List Ast) (hp:IsHp xs) (hl:xs.length<=1048000) (w:World) (hB:B<=w.heap.size) (h:HpS B w g v xs R):
  Calls Tryz.prog 100 #[hpI g] w fun e w'=>e= .returned (.tuple #[])/\HpS B w' g v xs R/\Below B w w':=by
 obtain ⟨a,c,rfl⟩:=zeK h;have c0:=zfY h
 have HD:Hid (∀(i:Nat) (wx:World),i<xs.length->B<=wx.heap.size->HpS B wx g (.slice a xs.length c) xs R->Calls Tryz.prog 130 #[hpI g,.int .i64 (i:Int),.int .i64 (xs.length:Int)] wx fun e w'=>(∃b,e= .returned (.bool b))/\HpS B w' g (.slice a xs.length c) xs R/\Below B wx w'):=hide (fun i wx hi hb hs=>by
  have:=zfw B g _ xs R i xs.length (by omega) (Nat.le_refl _) (by omega) (by omega) wx hb hs
  rw [zm9 hp _ _ _ (Nat.le_refl _)] at this
  exact this)
 obtain ⟨n,hn⟩:∃n,xs.length=n:=⟨_,rfl⟩;have HS0:=hide h;have HB0:=hide hB;rw [hn] at hl HD c0 HS0⊢;clear h hB hn hp;rw [hpI] at HD⊢
 have h2:((n / 2:Nat):Int)=(n:Int) / 2:=by omega
 go_enter Tryz.func100,Tryz.ntmps100;go_wp2_with fail;rw [Tryz.mtLen _ g _ w c0];go_wp2_with fail;refine (zdu a _ c w).mono ?_;rintro e w1 ⟨rfl,rfl⟩;go_wp2_with fail
 go_loopg [3] (n / 2) (fun q iv wr=>∃(k:Nat),k<=n / 2/\q=k/\iv= .int .i64 ((k:Int) - 1)/\Hid (HpS B wr g (.slice a n c) xs R)/\Hid (Below B w wr))
 case atStart=>exact ⟨n / 2,Nat.le_refl _,rfl,by rw [h2],HS0,hide (Below.refl _ _)⟩
 case round=>
  obtain ⟨k,hk,hq,rfl,HS,HW⟩:=hrel;have HQ:=hide hq;clear hq
  cases k with
  | zero=>
   have d:¬((0:Int)<=((0:Nat):Int) - 1):=by omega
   go_wp2_with fail
   go_returns
   exact ⟨rfl,HS.out,HW.out⟩
  | succ m=>
   have em:((m+1:Nat):Int) - 1=(m:Int):=by omega
   rw [em]
   have hm0:(0:Int)<=(m:Int):=by omega
   have HDm:=hide (HD.out m wr (by omega) (by have:=HW.out.size;have:=HB0.out;omega) HS.out)
   go_wp2_with fail;refine HDm.out.mono ?_;rintro e w2 ⟨⟨b,rfl⟩,hs2,hb2⟩;have HS2:=hide hs2;have HW2:=hide (HW.out.trans hb2);clear hs2 hb2 HDm;go_wp2_with fail
   go_roundg m
   case measure=>have:=HQ.out;omega
   case rel=>exact ⟨m,by omega,rfl,rfl,HS2,HW2⟩
open Go.RowKit
def AscI (xs out ys:List Int):Prop:=out.Pairwise (·<·)/\IsHp ys/\(∀o∈out,∀y∈ys,o<=y)/\(∀x,x∈xs↔x∈out\/x∈ys)/\out.length+ys.length<=xs.length
theorem zkS {xs:List Int} (h:IsHp xs):AscI xs [] xs:=⟨List.Pairwise.nil,h,fun _ ho=>by simp at ho,fun x=>by simp,by simp⟩
theorem zkh {xs out ys:List Int} {n:Nat} {p:Int} {ts:List Int} (h:AscI xs out ys) (hn:ys.length=n+1) (hp:ys.getD 0 0=p) (ht:(popF ys n).take n=ts) (hne:∀o∈out,o≠p):AscI xs (out++ [p]) ts:=by
 obtain ⟨a1,a2,a3,a4,a5⟩:=h;obtain ⟨-,b2,b3,b4,b5⟩:=zmb a2 hn;rw [ht,hp] at b4 b5;rw [ht] at b2 b3;have hpy:p∈ys:=(b4 p).2 (Or.inl rfl)
 refine ⟨List.pairwise_append.2 ⟨a1,List.pairwise_singleton _ _,fun o ho q hq=> ?_⟩,b3,fun o ho y hy=> ?_,fun x=> ?_,by rw [List.length_append,List.length_singleton];omega⟩
 ·rw [List.mem_singleton] at hq
  subst hq;have h1:=a3 o ho q hpy;have h2:=hne o ho
  omega
 ·rcases List.mem_append.1 ho with ho | ho
  ·exact a3 o ho y ((b4 y).2 (Or.inr hy))
  ·rw [List.mem_singleton] at ho
   subst ho;exact b5 y hy
 ·rw [a4,b4,List.mem_append,List.mem_singleton,or_assoc]
theorem zmc {xs out ys:List Int} {n:Nat} {p:Int} {ts:List Int} (h:AscI xs out ys) (hn:ys.length=n+1) (hp:ys.getD 0 0=p) (ht:(popF ys n).take n=ts) (hin:p∈out):AscI xs out ts:=by
 obtain ⟨a1,a2,a3,a4,a5⟩:=h;obtain ⟨-,b2,b3,b4,b5⟩:=zmb a2 hn;rw [ht,hp] at b4 b5;rw [ht] at b2 b3
 refine ⟨a1,b3,fun o ho y hy=>a3 o ho y ((b4 y).2 (Or.inr hy)),fun x=> ?_,by omega⟩
 rw [a4,b4]
 constructor
 ·rintro (h | h | h)
  ·exact Or.inl h
  ·exact Or.inl (by rw [h];exact hin)
  ·exact Or.inr h
 ·rintro (h | h)
  ·exact Or.inl h
  ·exact Or.inr (Or.inr h)
theorem zmd {xs out ys:List Int} {z p:Int} {n:Nat} (h:AscI xs (out++ [z]) ys) (hn:ys.length=n+1) (hp:ys.getD 0 0=p) (hz:z≠p):∀o∈out++ [z],o≠p:=by
 obtain ⟨a1,a2,a3,-,-⟩:=h
 have hpy:p∈ys:=zdP.2 ⟨0,by omega,hp⟩
 have hzp:=a3 z (by simp) p hpy
 intro o ho
 rcases List.mem_append.1 ho with ho | ho
 ·have:=(List.pairwise_append.1 a1).2.2 o ho z (by simp)
  omega
 ·rw [List.mem_singleton] at ho
  subst ho;exact hz
open Go.RowKit
theorem zgF (B g:Nat) (v:Value) (xs:List Int) (R:List Ast) (hp:IsHp xs) (hl:xs.length<=1048000) (w:World) (hB:B<=w.heap.size) (h:HpS B w g v xs R):
  Calls Tryz.prog 102 #[.pointer (some ⟨g,0,none⟩)] w fun e w'=>(∃(v' v2:Value) (out:List Int),e= .returned v'/\out.Pairwise (·<·)/\(∀x,x∈out↔x∈xs)/\out.length<=xs.length/\HpS B w' g v2 [] (rowA B 3 1 v' out.length (ints out) :: R))/\Below B w w':=by
 have HS0:=hide (zb3 (pre:= [rowA B 3 1 (.slice (some ⟨w.heap.size,0,none⟩) 0 0) 0 [],cellA g (Obj.cells #[v] 147),rowA B 3 1 v xs.length (ints xs)]) (rest:=R) (zex (zaB h (Obj.cells #[] 3) hB)) [1,2,0] (by decide) [cellA g (Obj.cells #[v] 147),rowA B 3 1 v xs.length (ints xs),rowA B 3 1 (.slice (some ⟨w.heap.size,0,none⟩) 0 0) 0 []] rfl)
 have HW0:Hid (Below B w (w.alloc (Obj.cells #[] 3))):=hide ((Below.refl _ _).alloc hB _);have HB0:=hide hB;obtain ⟨n,hn⟩:∃n,xs.length=n:=⟨_,rfl⟩;have HN:=hide hn;have HI0:=hide (zkS hp);rw [hn] at hl;clear h hB hn hp;go_enter Tryz.func102,Tryz.ntmps102;go_wp2_with fail
 go_loopg [3] n (fun q lv wr=>∃(ys out:List Int) (hv lw:Value),q=ys.length/\lw=lv/\Hid (AscI xs out ys)/\Hid (HpS B wr g hv ys (rowA B 3 1 lw out.length (ints out) :: R))/\Hid (Below B w wr))
 case atStart=>exact ⟨xs,[],v,_,HN.out.symm,rfl,HI0,HS0,HW0⟩
 case round=>
  obtain ⟨ys,out,hv,lw,hq,rfl,HI,HS,HW⟩:=hrel;have HQ:=hide hq;clear hq;obtain ⟨a,c,rfl⟩:=zeK HS.out;have c0:=zfY HS.out;obtain ⟨m,hm⟩:∃m,ys.length=m:=⟨_,rfl⟩;have HM:=hide hm;rw [hm] at c0
  have hmn:m<=n/\out.length<=n:=by have:=HI.out.2.2.2.2;have:=HN.out;omega
  clear hm
  cases m with
  | zero=>
   go_wp2_with fail;refine (zdu a _ c wr).mono ?_;rintro e w1 ⟨rfl,rfl⟩;go_wp2_with fail;go_ret;have ey:ys= []:=List.eq_nil_of_length_eq_zero HM.out;have hh:=HI.out;have hs:=HS.out;rw [ey] at hh hs
   exact ⟨⟨_,_,out,rfl,hh.1,fun x=>by rw [hh.2.2.2.1];simp,by have:=hh.2.2.2.2;simpa using this,hs⟩,HW.out⟩
  | succ m=>
   have d0:(0:Int)<((m+1:Nat):Int):=by omega
   have HPp:=hide (zjn B g _ ys (rowA B 3 1 lw out.length (ints out) :: R) m HM.out (by omega) wr (by have:=HW.out.size;have:=HB0.out;omega) HS.out)
   obtain ⟨p,hp⟩:∃p,ys.getD 0 0=p:=⟨_,rfl⟩;obtain ⟨ts,ht⟩:∃ts,(popF ys m).take m=ts:=⟨_,rfl⟩;have hph:=zmb HI.out.2.1 HM.out;rw [hph.1,hp,ht,hpI] at HPp
   have HT:Hid (ts.length=m):=hide (by rw [<-ht];exact hph.2.1)
   have HF:=hide (⟨hp,ht⟩:_/\_);clear hp ht hph;go_wp2_with fail;refine (zdu a _ c wr).mono ?_;rintro e w1 ⟨rfl,rfl⟩;go_wp2_with fail;refine HPp.out.mono ?_;rintro e w2 ⟨rfl,v4,hs2,hb2⟩;have HS2:=hide hs2;have HW2:=hide (HW.out.trans hb2)
   have HZ2:Hid (B<=w2.heap.size):=hide (by have:=HW2.out.size;have:=HB0.out;omega)
   have hta:=fun t0=>Tryz.assertInt p t0 w2
   clear hs2 hb2 HPp c0
   rcases List.eq_nil_or_concat out with rfl | ⟨L,z,rfl⟩
   ·obtain ⟨lx,lc,rfl⟩:∃x c,lw= .slice x 0 c:=za4 (za2 HS2.out 2 rfl)
    rw [List.length_nil] at HS2
    go_wp2_with (at_builtin;refine zcl HS2.out 2 rfl (Nat.le_refl B) HZ2.out HZ2.out rfl (.tmp 28) (.tmp 30) rfl rfl p rfl rfl (by omega) ?_)
    rintro b cc w3 hs3 hb3;have HS3:=hide hs3;have HW3:=hide (HW2.out.trans hb3);clear hs3 hb3;go_wp2_with fail
    go_roundg (gk - 1)
    case measure=>have:=HQ.out;have:=HM.out;omega
    case rel=>exact ⟨ts,[]++ [p],v4,_,by have:=HQ.out;have:=HM.out;have:=HT.out;omega,rfl,hide (zkh HI.out HM.out HF.out.1 HF.out.2 (fun o ho=>by simp at ho)),hide (by rw [HpS,List.length_append];exact HS3.out),HW3⟩
   ·rw [List.concat_eq_append] at HI HS2 hmn
    have hlen:(L++ [z]).length=L.length+1:=by simp
    obtain ⟨rr,lc,rfl⟩:∃x c,lw= .slice (some ⟨x,0,none⟩) (L++ [z]).length c:=zdN (za2 HS2.out 2 rfl) (by simp)
    have cz:=(zed (i:=L.length) (x:=z) (za2 HS2.out 2 rfl) (by simp)).2
    rw [hlen] at HS2 hmn⊢;obtain ⟨k,hk⟩:∃k,L.length=k:=⟨_,rfl⟩;rw [hk] at HS2 hmn cz hlen⊢;have HK:=hide hk;have HLn:=hide hlen;clear hk hlen
    have d1:((k:Int)+1 ==0)=false:=by simp;omega
    have d2:(0:Int)<=(k:Int):=by omega
    by_cases hzp:z=p
    ·have dz:(z !=p)=false:=by simp [hzp]
     have HI2:Hid (AscI xs (L++ [z]) ts):=hide (zmc HI.out HM.out HF.out.1 HF.out.2 (by rw [<-hzp];simp))
     clear hzp;go_wp2_with fail
     go_roundg (gk - 1)
     case measure=>have:=HQ.out;have:=HM.out;omega
     case rel=>exact ⟨ts,L++ [z],v4,_,by have:=HQ.out;have:=HM.out;have:=HT.out;omega,rfl,HI2,hide (by rw [HpS,HLn.out];exact HS2.out),HW2⟩
    ·have dz:(z !=p)=true:=by simp [hzp]
     have HI2:Hid (AscI xs (L++ [z]++ [p]) ts):=hide (zkh HI.out HM.out HF.out.1 HF.out.2 (zmd HI.out HM.out HF.out.1 hzp));clear hzp
     go_wp2_with (at_builtin;refine zcl HS2.out 2 rfl (Nat.le_refl B) HZ2.out HZ2.out rfl (.tmp 28) (.tmp 30) rfl rfl p rfl rfl (by omega) ?_)
     rintro b cc w3 hs3 hb3;have HS3:=hide hs3;have HW3:=hide (HW2.out.trans hb3);clear hs3 hb3;go_wp2_with fail
     go_roundg (gk - 1)
     case measure=>have:=HQ.out;have:=HM.out;omega
     case rel=>exact ⟨ts,L++ [z]++ [p],v4,_,by have:=HQ.out;have:=HM.out;have:=HT.out;omega,rfl,hide (HI2.out),hide (by rw [HpS,List.length_append,HLn.out,List.append_assoc];exact HS3.out),HW3⟩
end Go.Proofs.YtcbogiebfbbmbaaGreatDoor
