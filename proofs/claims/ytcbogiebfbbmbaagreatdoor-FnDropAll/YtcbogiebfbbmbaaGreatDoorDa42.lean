/-
  Facts and contracts that the law's own text rests on, by their texts' names: WithKid.
-/
import Derived.Test.YtcbogiebfbbmbaaGreatDoorDa29
set_option maxHeartbeats 16000000
set_option maxRecDepth 100000
namespace Go.Proofs.YtcbogiebfbbmbaaGreatDoor
open Go.RowKit
theorem zeN (w:World):RowAt w 1 (.slice none 0 0) 0 []:=⟨rfl,none,0,rfl,Or.inl rfl⟩
theorem zi1 (l:List ByteArray) (a:Nat):strs (l.take a++l.drop (a+1))=(strs l).take a++ []++(strs l).drop (a+1):=by simp [strs]
theorem znf (l:List Int) (a:Nat):ints (l.take a++l.drop (a+1))=(ints l).take a++ []++(ints l).drop (a+1):=by simp [ints]
theorem zng (l:List Int) (a:Nat) (x:Int):ints (l.take a++ [x]++l.drop (a+1))=(ints l).take a++ [.int .i64 x]++(ints l).drop (a+1):=by simp [ints]
theorem zjx (p:Int) (n:Nd) (hlf:n.lf=false) (hev:n.cs.length=n.ks.length) (hsm:n.ks.length<=1000) (a:Nat) (h1:a<n.ks.length) (kid:Int) (hk0:kid≠0) (vk vv vc:Value) (B:Nat) (w:World) (hB:B<=w.heap.size) (h:LvN w B ((p,n,(a:Int)),vk,vv,vc)):
  Calls Tryz.prog 72 #[.agg #[.int .i64 p,.bool n.lf,vk,vv,vc,.int .i64 (a:Int)],.int .i64 kid] w fun e w'=>∃v,e= .returned v/\NdOwn w' B v false n.ks [] (n.cs.take a++ [kid]++n.cs.drop (a+1))/\Below w.heap.size w w':=by
 obtain ⟨o1,o2,o3⟩:=h;dsimp only at o1 o2 o3;obtain ⟨ak,ck,rfl⟩:=za4 o1;obtain ⟨av,cv,rfl⟩:=za4 o2;obtain ⟨ac,cc,rfl⟩:=za4 o3;obtain ⟨lk,hlk⟩:∃m,m=n.ks.length:=⟨_,rfl⟩;obtain ⟨lv,hlv⟩:∃m,m=n.vs.length:=⟨_,rfl⟩;rw [hev,<-hlk] at o3;rw [<-hlv] at o2;rw [<-hlk] at o1 h1 hsm;rw [hev,<-hlk,<-hlv,hlf];have hck:=zc7 o1;have hcv:=zc7 o2;have hcc:=zc7 o3;have HO1:=hide o1;have HO2:=hide o2;have HO3:=hide o3;have HE:=hide (⟨hlk,hev,hck,hcv,hcc⟩:_/\_/\_/\_/\_);obtain ⟨w00,hw00⟩:∃x,x=((w.alloc (.cells #[.int .i64 p,.bool false,.slice ak lk ck,.slice av lv cv,.slice ac lk cc,.int .i64 (a:Int)] 97)).alloc (.cells #[.bool false,.slice none 0 0,.slice none 0 0,.slice none 0 0] 71)).alloc (.cells #[.bool false,.slice ak lk ck,.slice av lv cv,.slice ac lk cc] 71):=⟨_,rfl⟩
 have HB00:Hid (Below w.heap.size w w00):=hide (by rw [hw00];exact (((Below.refl _ _).alloc (Nat.le_refl _) _).alloc (by simp) _).alloc (by simp;omega) _)
 have HR00:Hid (w00.heap[w.heap.size+1]?=some (.cells #[.bool false,.slice none 0 0,.slice none 0 0,.slice none 0 0] 71 (0,0))):=hide (by
  rw [hw00,heap_alloc_old _ _ (by simp)]
  have h:=heap_alloc_new (w.alloc (.cells #[.int .i64 p,.bool false,.slice ak lk ck,.slice av lv cv,.slice ac lk cc,.int .i64 (a:Int)] 97)) (.cells #[.bool false,.slice none 0 0,.slice none 0 0,.slice none 0 0] 71)
  rw [show (w.alloc (Obj.cells #[.int .i64 p,.bool false,.slice ak lk ck,.slice av lv cv,.slice ac lk cc,.int .i64 (a:Int)] 97)).heap.size=w.heap.size+1 from by simp] at h
  exact h)
 have HN00:Hid (w00.heap[w.heap.size+1+1]?=some (.cells #[.bool false,.slice ak lk ck,.slice av lv cv,.slice ac lk cc] 71 (0,0))):=hide (by
  rw [hw00];have h:=heap_alloc_new ((w.alloc (.cells #[.int .i64 p,.bool false,.slice ak lk ck,.slice av lv cv,.slice ac lk cc,.int .i64 (a:Int)] 97)).alloc (.cells #[.bool false,.slice none 0 0,.slice none 0 0,.slice none 0 0] 71)) (.cells #[.bool false,.slice ak lk ck,.slice av lv cv,.slice ac lk cc] 71)
  rw [show ((w.alloc (Obj.cells #[.int .i64 p,.bool false,.slice ak lk ck,.slice av lv cv,.slice ac lk cc,.int .i64 (a:Int)] 97)).alloc (Obj.cells #[.bool false,.slice none 0 0,.slice none 0 0,.slice none 0 0] 71)).heap.size=w.heap.size+1+1 from by simp] at h
  exact h)
 obtain ⟨w0,hw0⟩:∃x,x=w00.drew:=⟨_,rfl⟩
 have HB0:Hid (Below w.heap.size w w0):=hide (by rw [hw0];exact HB00.out.drew)
 have HR0:Hid (w0.heap[w.heap.size+1]?=some (.cells #[.bool false,.slice none 0 0,.slice none 0 0,.slice none 0 0] 71 (0,0))):=hide (by rw [hw0];exact HR00.out)
 have HN0:Hid (w0.heap[w.heap.size+1+1]?=some (.cells #[.bool false,.slice ak lk ck,.slice av lv cv,.slice ac lk cc] 71 (0,0))):=hide (by rw [hw0];exact HN00.out)
 clear o1 o2 o3 hlk hlv hev hck hcv hcc hlf HB00 HR00 HN00
 have hwr:IntKind.i64.wrap ((a:Int)+1)=(a:Int)+1:=by rw [IntKind.wrap_i64];omega
 go_enter Tryz.func72,Tryz.ntmps72
 go_upto_region 1 with fail
 go_region
 rw [<-hw00,<-hw0];clear hw00 hw0
 have hkb:(kid ==0)=false:=by rw [beq_eq_false_iff_ne];exact hk0
 go_upto_region 3 with fail
 obtain ⟨wd,hwd⟩:∃z,z=w0.drew:=⟨_,rfl⟩
 have hS_wd:(fun wx=>wx.heap[w.heap.size+1+1]?=some (Obj.cells #[.bool false,.slice ak lk ck,.slice av lv cv,.slice ac lk cc] 71 (0,0))) wd:=by rw [hwd];exact HN0.out
 have HR_wd:Hid (wd.heap[w.heap.size+1]?=some (.cells #[.bool false,.slice none 0 0,.slice none 0 0,.slice none 0 0] 71 (0,0))):=hide (by rw [hwd];exact HR0.out)
 have HB_wd:Hid (Below w.heap.size w wd):=hide (by rw [hwd];exact HB0.out.drew)
 refine wp_region_held_drew (S:=(fun wx=>wx.heap[w.heap.size+1+1]?=some (Obj.cells #[.bool false,.slice ak lk ck,.slice av lv cv,.slice ac lk cc] 71 (0,0)))) (by kernel_rfl) (by rw [<-hwd];exact hS_wd) (fun _=> ?_)
 rw [<-hwd];clear hwd HB0 HR0 HN0
 have HWc:Hid (∀wx,Below w.heap.size w wx->RowAt wx 1 (.slice (some ⟨wd.heap.size,0,none⟩) 1 1) 1 [.int .i64 kid]->Calls Tryz.prog 86 #[.slice ac lk cc,.int .i64 (a:Int),.int .i64 ((a:Int)+1),.slice (some ⟨wd.heap.size,0,none⟩) 1 1] wx fun e w'=>∃v,e= .returned v/\w'.ownsRow wx.heap.size 3 1 v (a+1+(lk - (a+1))) ((ints n.cs).take a++ [.int .i64 kid]++(ints n.cs).drop (a+1))/\Below wx.heap.size wx w'):=hide (by
  intro wx hb hr
  exact zeI (ints n.cs) [.int .i64 kid] (ziE _) (fun u hu=>by simp at hu;subst hu;rfl) _ _ lk _ 1 _ a (a+1) (by omega) (by omega) HE.out.2.2.2.2 (by omega) wx (za8 (zaa HO3.out) hb) hr)
 refine tK 0 18 ?_ rfl rfl (by kernel_rfl) (fun _ _ _ h=>h) ⟨by rfl,?_⟩ hS_wd ?_
 rotate_left
 ·(intro wx hSw;(try dsimp only at hSw);have m0:=(za0 hSw 0).1;have m1:=(za0 hSw 1).1;have m2:=(za0 hSw 2).1;have m3:=(za0 hSw 3).1;go_simp;try with_reducible rfl)
 (try simp only [yA,yB,yC])
 refine tK 1 19 ?_ rfl rfl (by kernel_rfl) (fun _ _ _ h=>h) ⟨by rfl,?_⟩ hS_wd ?_
 rotate_left
 ·(intro wx hSw;(try dsimp only at hSw);have m0:=(za0 hSw 0).1;have m1:=(za0 hSw 1).1;have m2:=(za0 hSw 2).1;have m3:=(za0 hSw 3).1;go_simp;try with_reducible rfl)
 (try simp only [yA,yB,yC])
 refine tK 2 20 ?_ rfl rfl (by kernel_rfl) (fun _ _ _ h=>h) ⟨by rfl,?_⟩ hS_wd ?_
 rotate_left
 ·(intro wx hSw;(try dsimp only at hSw);have m0:=(za0 hSw 0).1;have m1:=(za0 hSw 1).1;have m2:=(za0 hSw 2).1;have m3:=(za0 hSw 3).1;go_simp;try with_reducible rfl)
 (try simp only [yA,yB,yC])
 refine tK 3 21 ?_ rfl rfl (by kernel_rfl) (fun _ _ _ h=>h) ⟨by rfl,?_⟩ hS_wd ?_
 rotate_left
 ·(intro wx hSw;(try dsimp only at hSw);have m0:=(za0 hSw 0).1;have m1:=(za0 hSw 1).1;have m2:=(za0 hSw 2).1;have m3:=(za0 hSw 3).1;go_simp;try with_reducible rfl)
 (try simp only [yA,yB,yC])
 refine tK 4 22 ?_ rfl rfl (by kernel_rfl) (fun _ _ _ h=>h) ⟨by rfl,?_⟩ hS_wd ?_
 rotate_left
 ·(intro wx hSw;(try dsimp only at hSw);have m0:=(za0 hSw 0).1;have m1:=(za0 hSw 1).1;have m2:=(za0 hSw 2).1;have m3:=(za0 hSw 3).1;go_simp;try with_reducible rfl)
 (try simp only [yA,yB,yC])
 refine tK 5 23 ?_ rfl rfl (by kernel_rfl) (fun _ _ _ h=>h) ⟨by rfl,?_⟩ hS_wd ?_
 rotate_left
 ·(intro wx hSw;(try dsimp only at hSw);have m0:=(za0 hSw 0).1;have m1:=(za0 hSw 1).1;have m2:=(za0 hSw 2).1;have m3:=(za0 hSw 3).1;go_simp;try with_reducible rfl)
 (try simp only [yA,yB,yC])
 refine tK 6 24 ?_ rfl rfl (by kernel_rfl) (fun _ _ _ h=>h) ⟨by rfl,?_⟩ hS_wd ?_
 rotate_left
 ·(intro wx hSw;(try dsimp only at hSw);have m0:=(za0 hSw 0).1;have m1:=(za0 hSw 1).1;have m2:=(za0 hSw 2).1;have m3:=(za0 hSw 3).1;go_simp;try with_reducible rfl)
 (try simp only [yA,yB,yC])
 have hz0:w.heap.size+1+1<wd.heap.size:=(Array.getElem?_eq_some_iff.1 hS_wd).1
 have hS1:(fun wx=>wx.heap[w.heap.size+1+1]?=some (Obj.cells #[.bool false,.slice ak lk ck,.slice av lv cv,.slice ac lk cc] 71 (0,0))) (wd.alloc (Obj.cells #[.int .i64 kid] 3)):=(heap_alloc_old _ _ hz0).trans hS_wd
 have HB1:Hid (Below w.heap.size w (wd.alloc (Obj.cells #[.int .i64 kid] 3))):=hide (HB_wd.out.alloc HB_wd.out.size _)
 have HR1:Hid ((wd.alloc (Obj.cells #[.int .i64 kid] 3)).heap[w.heap.size+1]?=some (.cells #[.bool false,.slice none 0 0,.slice none 0 0,.slice none 0 0] 71 (0,0))):=hide ((heap_alloc_old _ _ (by omega)).trans HR_wd.out)
 have hr1:RowAt (wd.alloc (Obj.cells #[.int .i64 kid] 3)) 1 (.slice (some ⟨wd.heap.size,0,none⟩) 1 1) 1 [.int .i64 kid]:=row_one wd (.int .i64 kid) 3
 refine wpAnyH_ready (rs:= [7]) (by kernel_rfl) (by simp) ?_
 refine AllReadyH.cons rfl (fun K hK=> ?_) AllReadyH.nil
 go_simp
 refine hK.out _ _ hS1 (fun _=> ?_)
 clear hK K;obtain ⟨w1,hw1⟩:∃x,x=wd.alloc (Obj.cells #[.int .i64 kid] 3):=⟨_,rfl⟩;obtain ⟨g1,hg1⟩:∃x,x=wd.heap.size:=⟨_,rfl⟩;rw [<-hw1] at HB1 HR1 hr1 hS1⊢;rw [<-hg1] at hr1 HWc
 try rw [<-hg1]
 clear hw1 hg1
 refine wpAnyH_ready (rs:= [8]) (by kernel_rfl) (by simp) ?_
 refine AllReadyH.cons rfl (fun K hK=> ?_) AllReadyH.nil
 refine zcJ w1 ?_ 86 Tryz.f86 Tryz.func86 ?_ ?_ (.tmp 21) (.tmp 22) (.tmp 23) (.tmp 25) #[32,3,3,32] ?_ (.slice ac lk cc) (.int .i64 (a:Int)) (.int .i64 ((a:Int)+1)) (.slice (some ⟨g1,0,none⟩) 1 1) ?_ ?_ ?_ ?_ _ (HWc.out w1 HB1.out hr1) ?_
 ·exact rfl
 ·decide
 ·exact Option.some_ne_none _
 ·exact rfl
 ·exact rfl
 ·exact rfl
 ·exact rfl
 ·exact rfl
 rintro e w2 ⟨u,rfl,hu,hb2⟩;obtain ⟨au,cu,rfl⟩:=za4 hu;have HO_u:=hide hu
 have hS2:(fun wx=>wx.heap[w.heap.size+1+1]?=some (Obj.cells #[.bool false,.slice ak lk ck,.slice av lv cv,.slice ac lk cc] 71 (0,0))) w2:=(hb2.block _ (Array.getElem?_eq_some_iff.1 hS1).1).trans hS1
 have HR2:Hid (w2.heap[w.heap.size+1]?=some (.cells #[.bool false,.slice none 0 0,.slice none 0 0,.slice none 0 0] 71 (0,0))):=hide ((hb2.block _ (Array.getElem?_eq_some_iff.1 HR1.out).1).trans HR1.out);have HB2:Hid (Below w.heap.size w w2):=hide (HB1.out.trans (hb2.mono HB1.out.size));have HZ2:Hid (w.heap.size+1+1<w1.heap.size):=hide (Array.getElem?_eq_some_iff.1 hS1).1;have HY2:Hid (w1.heap.size<=w2.heap.size):=hide hb2.size;clear hu hb2;have HBP_u:=hide HB1.out.size;refine ⟨_,rfl,?_⟩
 refine hK.out (Act.put _ (some 26) _) w2 hS2 (fun _=> ?_)
 clear hK K
 simp only [Act.put,yA,yB,yC]
 refine tK 9 27 ?_ rfl rfl (by kernel_rfl) (fun _ _ _ h=>h) ⟨by rfl,?_⟩ hS2 ?_
 rotate_left
 ·(intro wx hSw;(try dsimp only at hSw);go_simp;try with_reducible rfl)
 (try simp only [yA,yB,yC])
 have hth:Hid (w2.there (w.heap.size+1) 0 (#[.bool false,.slice ak lk ck,.slice none 0 0,.slice au (a+1+(lk - (a+1))) cu]:Array Value).size):=hide (zav HR2.out 0 4 (show 0+4<=4 by decide))
 have HSt:=hide (zbs HR2.out #[.bool false,.slice ak lk ck,.slice none 0 0,.slice au (a+1+(lk - (a+1))) cu] rfl)
 have HBs:=hide (zai (show w.heap.size<=w.heap.size+1 by omega) (#[.bool false,.slice ak lk ck,.slice none 0 0,.slice au (a+1+(lk - (a+1))) cu]:Array Value).toList 0 w2 HB2.out)
 have hSa:∀j,j≠w.heap.size+1->j<w2.heap.size->(w2.setCells (w.heap.size+1) 0 (#[.bool false,.slice ak lk ck,.slice none 0 0,.slice au (a+1+(lk - (a+1))) cu]:Array Value).toList).heap[j]?=w2.heap[j]?:=fun j h1 h2=>World.heap_setCells_other w2 (w.heap.size+1) 0 _ h2 h1
 have HKp:Hid (Kept w2 (w2.setCells (w.heap.size+1) 0 (#[.bool false,.slice ak lk ck,.slice none 0 0,.slice au (a+1+(lk - (a+1))) cu]:Array Value).toList) (fun j=>j=w.heap.size+1)):=hide ⟨World.os_setCells _ _ _ _,(zai (B:=w.heap.size+1) (W0:=w2) (Nat.le_refl _) (#[.bool false,.slice ak lk ck,.slice none 0 0,.slice au (a+1+(lk - (a+1))) cu]:Array Value).toList 0 w2 (Below.refl _ _)).tape,World.output_setCells _ _ _ _,by rw [zcG];exact Nat.le_refl _,fun j h1 h2=>hSa j h2 h1⟩
 have HF_u:=hide (zad (za6 HO_u.out HKp.out (fun j hj e=>by have:=(HO_u.out.lt j hj).1;have:=HZ2.out;omega)) (Nat.le_trans hB HBP_u.out))
 obtain ⟨wz,hwz⟩:∃y,y=w2.setCells (w.heap.size+1) 0 (#[.bool false,.slice ak lk ck,.slice none 0 0,.slice au (a+1+(lk - (a+1))) cu]:Array Value).toList:=⟨_,rfl⟩;rw [<-hwz] at HSt HBs hSa HF_u
 have hSz:(fun wx=>wx.heap[w.heap.size+1+1]?=some (Obj.cells #[.bool false,.slice ak lk ck,.slice av lv cv,.slice ac lk cc] 71 (0,0))) wz:=(hSa _ (by omega) (Array.getElem?_eq_some_iff.1 hS2).1).trans hS2
 have HWz:=hide hwz.symm;clear hwz hSa HKp
 refine wpAnyH_ready (rs:= [10]) (by kernel_rfl) (by simp) ?_
 refine AllReadyH.cons rfl (fun K hK=> ?_) AllReadyH.nil
 refine zb0 ?_ 71 (.tmp 4) (.tmp 27) ?_ (w.heap.size+1) 0 #[.bool false,.slice ak lk ck,.slice none 0 0,.slice au (a+1+(lk - (a+1))) cu] ?_ ?_ hth.out ?_ ?_ HWz.out ?_
 ·exact rfl
 ·exact rfl
 ·exact rfl
 ·exact rfl
 ·exact Tryz.sizeNodeP
 ·exact rfl
 refine hK.out (Act.put _ none _) wz hSz (fun _=> ?_)
 clear hK K
 simp only [Act.put]
 refine wpAnyH_done (by kernel_rfl) ?_ _
 go_wp2_with fail;refine bodyPost_ret (v:= .agg #[.bool false,.slice ak lk ck,.slice none 0 0,.slice au (a+1+(lk - (a+1))) cu]) (zgu Tryz.results72 rfl (zcX (zaj HSt.out) Tryz.underlying71 rfl Tryz.sizeNodeP)) rfl ?_
 have e1:(n.cs.take a++ [kid]++n.cs.drop (a+1)).length=a+1+(lk - (a+1)):=by
  have:=HE.out.1;have:=HE.out.2.1
  simp
  omega
 refine ⟨_,rfl,⟨_,_,_,rfl,?_,World.ownsRow_nil _ _ _ _,?_⟩,HBs.out⟩
 ·rw [<-HE.out.1];exact zaf HO1.out HBs.out
 ·rw [show n.cs.take a++kid :: n.cs.drop (a+1)=n.cs.take a++ [kid]++n.cs.drop (a+1) from by simp,e1,zng];exact HF_u.out
theorem ziW (p:Int) (n:Nd) (hlf:n.lf=true) (hev:n.vs.length=n.ks.length) (hsm:n.ks.length<=1000) (a:Nat) (h1:a<n.ks.length) (vk vv vc:Value) (B:Nat) (w:World) (hB:B<=w.heap.size) (h:LvN w B ((p,n,(a:Int)),vk,vv,vc)):
  Calls Tryz.prog 72 #[.agg #[.int .i64 p,.bool n.lf,vk,vv,vc,.int .i64 (a:Int)],.int .i64 0] w fun e w'=>∃v,e= .returned v/\NdOwn w' B v true (n.ks.take a++n.ks.drop (a+1)) (n.vs.take a++n.vs.drop (a+1)) []/\Below w.heap.size w w':=by
 obtain ⟨o1,o2,o3⟩:=h;dsimp only at o1 o2 o3;obtain ⟨ak,ck,rfl⟩:=za4 o1;obtain ⟨av,cv,rfl⟩:=za4 o2;obtain ⟨ac,cc,rfl⟩:=za4 o3;obtain ⟨lk,hlk⟩:∃m,m=n.ks.length:=⟨_,rfl⟩;obtain ⟨lv,hlv⟩:∃m,m=n.cs.length:=⟨_,rfl⟩;rw [hev,<-hlk] at o2;rw [<-hlv] at o3;rw [<-hlk] at o1 h1 hsm;rw [hev,<-hlk,<-hlv,hlf];have hck:=zc7 o1;have hcv:=zc7 o2;have hcc:=zc7 o3;have HO1:=hide o1;have HO2:=hide o2;have HO3:=hide o3;have HE:=hide (⟨hlk,hev,hck,hcv,hcc⟩:_/\_/\_/\_/\_);obtain ⟨w00,hw00⟩:∃x,x=((w.alloc (.cells #[.int .i64 p,.bool true,.slice ak lk ck,.slice av lk cv,.slice ac lv cc,.int .i64 (a:Int)] 97)).alloc (.cells #[.bool false,.slice none 0 0,.slice none 0 0,.slice none 0 0] 71)).alloc (.cells #[.bool true,.slice ak lk ck,.slice av lk cv,.slice ac lv cc] 71):=⟨_,rfl⟩
 have HB00:Hid (Below w.heap.size w w00):=hide (by rw [hw00];exact (((Below.refl _ _).alloc (Nat.le_refl _) _).alloc (by simp) _).alloc (by simp;omega) _)
 have HR00:Hid (w00.heap[w.heap.size+1]?=some (.cells #[.bool false,.slice none 0 0,.slice none 0 0,.slice none 0 0] 71 (0,0))):=hide (by
  rw [hw00,heap_alloc_old _ _ (by simp)]
  have h:=heap_alloc_new (w.alloc (.cells #[.int .i64 p,.bool true,.slice ak lk ck,.slice av lk cv,.slice ac lv cc,.int .i64 (a:Int)] 97)) (.cells #[.bool false,.slice none 0 0,.slice none 0 0,.slice none 0 0] 71)
  rw [show (w.alloc (Obj.cells #[.int .i64 p,.bool true,.slice ak lk ck,.slice av lk cv,.slice ac lv cc,.int .i64 (a:Int)] 97)).heap.size=w.heap.size+1 from by simp] at h
  exact h)
 have HN00:Hid (w00.heap[w.heap.size+1+1]?=some (.cells #[.bool true,.slice ak lk ck,.slice av lk cv,.slice ac lv cc] 71 (0,0))):=hide (by
  rw [hw00];have h:=heap_alloc_new ((w.alloc (.cells #[.int .i64 p,.bool true,.slice ak lk ck,.slice av lk cv,.slice ac lv cc,.int .i64 (a:Int)] 97)).alloc (.cells #[.bool false,.slice none 0 0,.slice none 0 0,.slice none 0 0] 71)) (.cells #[.bool true,.slice ak lk ck,.slice av lk cv,.slice ac lv cc] 71)
  rw [show ((w.alloc (Obj.cells #[.int .i64 p,.bool true,.slice ak lk ck,.slice av lk cv,.slice ac lv cc,.int .i64 (a:Int)] 97)).alloc (Obj.cells #[.bool false,.slice none 0 0,.slice none 0 0,.slice none 0 0] 71)).heap.size=w.heap.size+1+1 from by simp] at h
  exact h)
 obtain ⟨w0,hw0⟩:∃x,x=w00.drew:=⟨_,rfl⟩
 have HB0:Hid (Below w.heap.size w w0):=hide (by rw [hw0];exact HB00.out.drew)
 have HR0:Hid (w0.heap[w.heap.size+1]?=some (.cells #[.bool false,.slice none 0 0,.slice none 0 0,.slice none 0 0] 71 (0,0))):=hide (by rw [hw0];exact HR00.out)
 have HN0:Hid (w0.heap[w.heap.size+1+1]?=some (.cells #[.bool true,.slice ak lk ck,.slice av lk cv,.slice ac lv cc] 71 (0,0))):=hide (by rw [hw0];exact HN00.out)
 clear o1 o2 o3 hlk hlv hev hck hcv hcc hlf HB00 HR00 HN00
 have hwr:IntKind.i64.wrap ((a:Int)+1)=(a:Int)+1:=by rw [IntKind.wrap_i64];omega
 go_enter Tryz.func72,Tryz.ntmps72
 go_upto_region 1 with fail
 go_region
 rw [<-hw00,<-hw0];clear hw00 hw0;have m0:=(za0 HN0.out 0).1
 go_upto_region 5 with fail
 clear m0;obtain ⟨wd,hwd⟩:∃z,z=w0.drew:=⟨_,rfl⟩
 have hS_wd:(fun wx=>wx.heap[w.heap.size+1+1]?=some (Obj.cells #[.bool true,.slice ak lk ck,.slice av lk cv,.slice ac lv cc] 71 (0,0))) wd:=by rw [hwd];exact HN0.out
 have HR_wd:Hid (wd.heap[w.heap.size+1]?=some (.cells #[.bool false,.slice none 0 0,.slice none 0 0,.slice none 0 0] 71 (0,0))):=hide (by rw [hwd];exact HR0.out)
 have HB_wd:Hid (Below w.heap.size w wd):=hide (by rw [hwd];exact HB0.out.drew)
 refine wp_region_held_drew (S:=(fun wx=>wx.heap[w.heap.size+1+1]?=some (Obj.cells #[.bool true,.slice ak lk ck,.slice av lk cv,.slice ac lv cc] 71 (0,0)))) (by kernel_rfl) (by rw [<-hwd];exact hS_wd) (fun _=> ?_)
 rw [<-hwd];clear hwd HB0 HR0 HN0
 have HWk:Hid (∀wx,Below w.heap.size w wx->RowAt wx 1 (.slice none 0 0) 0 []->Calls Tryz.prog 85 #[.slice ak lk ck,.int .i64 (a:Int),.int .i64 ((a:Int)+1),.slice none 0 0] wx fun e w'=>∃v,e= .returned v/\w'.ownsRow wx.heap.size 9 1 v (a+0+(lk - (a+1))) ((strs n.ks).take a++ []++(strs n.ks).drop (a+1))/\Below wx.heap.size wx w'):=hide (by
  intro wx hb hr
  exact zd3 (strs n.ks) [] (zgD _) (fun u hu=>by cases hu) _ _ lk _ 0 _ a (a+1) (by omega) (by omega) HE.out.2.2.1 (by omega) wx (za8 (zaa HO1.out) hb) hr)
 have HWv:Hid (∀wx,Below w.heap.size w wx->RowAt wx 1 (.slice none 0 0) 0 []->Calls Tryz.prog 85 #[.slice av lk cv,.int .i64 (a:Int),.int .i64 ((a:Int)+1),.slice none 0 0] wx fun e w'=>∃v,e= .returned v/\w'.ownsRow wx.heap.size 9 1 v (a+0+(lk - (a+1))) ((strs n.vs).take a++ []++(strs n.vs).drop (a+1))/\Below wx.heap.size wx w'):=hide (by
  intro wx hb hr
  exact zd3 (strs n.vs) [] (zgD _) (fun u hu=>by cases hu) _ _ lk _ 0 _ a (a+1) (by omega) (by omega) HE.out.2.2.2.1 (by omega) wx (za8 (zaa HO2.out) hb) hr)
 refine tK 0 31 ?_ rfl rfl (by kernel_rfl) (fun _ _ _ h=>h) ⟨by rfl,?_⟩ hS_wd ?_
 rotate_left
 ·(intro wx hSw;(try dsimp only at hSw);have m0:=(za0 hSw 0).1;have m1:=(za0 hSw 1).1;have m2:=(za0 hSw 2).1;have m3:=(za0 hSw 3).1;go_simp;try with_reducible rfl)
 (try simp only [yA,yB,yC])
 refine tK 1 32 ?_ rfl rfl (by kernel_rfl) (fun _ _ _ h=>h) ⟨by rfl,?_⟩ hS_wd ?_
 rotate_left
 ·(intro wx hSw;(try dsimp only at hSw);have m0:=(za0 hSw 0).1;have m1:=(za0 hSw 1).1;have m2:=(za0 hSw 2).1;have m3:=(za0 hSw 3).1;go_simp;try with_reducible rfl)
 (try simp only [yA,yB,yC])
 refine tK 2 33 ?_ rfl rfl (by kernel_rfl) (fun _ _ _ h=>h) ⟨by rfl,?_⟩ hS_wd ?_
 rotate_left
 ·(intro wx hSw;(try dsimp only at hSw);have m0:=(za0 hSw 0).1;have m1:=(za0 hSw 1).1;have m2:=(za0 hSw 2).1;have m3:=(za0 hSw 3).1;go_simp;try with_reducible rfl)
 (try simp only [yA,yB,yC])
 refine tK 3 34 ?_ rfl rfl (by kernel_rfl) (fun _ _ _ h=>h) ⟨by rfl,?_⟩ hS_wd ?_
 rotate_left
 ·(intro wx hSw;(try dsimp only at hSw);have m0:=(za0 hSw 0).1;have m1:=(za0 hSw 1).1;have m2:=(za0 hSw 2).1;have m3:=(za0 hSw 3).1;go_simp;try with_reducible rfl)
 (try simp only [yA,yB,yC])
 refine tK 5 36 ?_ rfl rfl (by kernel_rfl) (fun _ _ _ h=>h) ⟨by rfl,?_⟩ hS_wd ?_
 rotate_left
 ·(intro wx hSw;(try dsimp only at hSw);have m0:=(za0 hSw 0).1;have m1:=(za0 hSw 1).1;have m2:=(za0 hSw 2).1;have m3:=(za0 hSw 3).1;go_simp;try with_reducible rfl)
 (try simp only [yA,yB,yC])
 refine tK 6 37 ?_ rfl rfl (by kernel_rfl) (fun _ _ _ h=>h) ⟨by rfl,?_⟩ hS_wd ?_
 rotate_left
 ·(intro wx hSw;(try dsimp only at hSw);have m0:=(za0 hSw 0).1;have m1:=(za0 hSw 1).1;have m2:=(za0 hSw 2).1;have m3:=(za0 hSw 3).1;go_simp;try with_reducible rfl)
 (try simp only [yA,yB,yC])
 refine tK 7 38 ?_ rfl rfl (by kernel_rfl) (fun _ _ _ h=>h) ⟨by rfl,?_⟩ hS_wd ?_
 rotate_left
 ·(intro wx hSw;(try dsimp only at hSw);have m0:=(za0 hSw 0).1;have m1:=(za0 hSw 1).1;have m2:=(za0 hSw 2).1;have m3:=(za0 hSw 3).1;go_simp;try with_reducible rfl)
 (try simp only [yA,yB,yC])
 refine tK 8 39 ?_ rfl rfl (by kernel_rfl) (fun _ _ _ h=>h) ⟨by rfl,?_⟩ hS_wd ?_
 rotate_left
 ·(intro wx hSw;(try dsimp only at hSw);have m0:=(za0 hSw 0).1;have m1:=(za0 hSw 1).1;have m2:=(za0 hSw 2).1;have m3:=(za0 hSw 3).1;go_simp;try with_reducible rfl)
 (try simp only [yA,yB,yC])
 refine wpAnyH_ready (rs:= [4]) (by kernel_rfl) (by simp) ?_
 refine AllReadyH.cons rfl (fun K hK=> ?_) AllReadyH.nil
 refine zcJ wd ?_ 85 Tryz.f85 Tryz.func85 ?_ ?_ (.tmp 32) (.tmp 33) (.tmp 34) (.const (.slice none 0 0)) #[26,3,3,26] ?_ (.slice ak lk ck) (.int .i64 (a:Int)) (.int .i64 ((a:Int)+1)) (.slice none 0 0) ?_ ?_ ?_ ?_ _ (HWk.out wd HB_wd.out (zeN wd)) ?_
 ·exact rfl
 ·decide
 ·exact Option.some_ne_none _
 ·exact rfl
 ·exact rfl
 ·exact rfl
 ·exact rfl
 ·exact rfl
 rintro e w1 ⟨u,rfl,hu,hb1⟩;obtain ⟨au,cu,rfl⟩:=za4 hu;have HO_u:=hide hu
 have hS1:(fun wx=>wx.heap[w.heap.size+1+1]?=some (Obj.cells #[.bool true,.slice ak lk ck,.slice av lk cv,.slice ac lv cc] 71 (0,0))) w1:=(hb1.block _ (Array.getElem?_eq_some_iff.1 hS_wd).1).trans hS_wd
 have HR1:Hid (w1.heap[w.heap.size+1]?=some (.cells #[.bool false,.slice none 0 0,.slice none 0 0,.slice none 0 0] 71 (0,0))):=hide ((hb1.block _ (Array.getElem?_eq_some_iff.1 HR_wd.out).1).trans HR_wd.out);have HB1:Hid (Below w.heap.size w w1):=hide (HB_wd.out.trans (hb1.mono HB_wd.out.size));have HZ1:Hid (w.heap.size+1+1<wd.heap.size):=hide (Array.getElem?_eq_some_iff.1 hS_wd).1;have HY1:Hid (wd.heap.size<=w1.heap.size):=hide hb1.size;clear hu hb1;have HBP_u:=hide HB_wd.out.size;refine ⟨_,rfl,?_⟩
 refine hK.out (Act.put _ (some 35) _) w1 hS1 (fun _=> ?_)
 clear hK K
 simp only [Act.put,yA,yB,yC]
 refine wpAnyH_ready (rs:= [9]) (by kernel_rfl) (by simp) ?_
 refine AllReadyH.cons rfl (fun K hK=> ?_) AllReadyH.nil
 refine zcJ w1 ?_ 85 Tryz.f85 Tryz.func85 ?_ ?_ (.tmp 37) (.tmp 38) (.tmp 39) (.const (.slice none 0 0)) #[26,3,3,26] ?_ (.slice av lk cv) (.int .i64 (a:Int)) (.int .i64 ((a:Int)+1)) (.slice none 0 0) ?_ ?_ ?_ ?_ _ (HWv.out w1 HB1.out (zeN w1)) ?_
 ·exact rfl
 ·decide
 ·exact Option.some_ne_none _
 ·exact rfl
 ·exact rfl
 ·exact rfl
 ·exact rfl
 ·exact rfl
 rintro e w2 ⟨x,rfl,hx,hb2⟩;obtain ⟨ax,cx,rfl⟩:=za4 hx;have HO_x:=hide hx
 have hS2:(fun wx=>wx.heap[w.heap.size+1+1]?=some (Obj.cells #[.bool true,.slice ak lk ck,.slice av lk cv,.slice ac lv cc] 71 (0,0))) w2:=(hb2.block _ (Array.getElem?_eq_some_iff.1 hS1).1).trans hS1
 have HR2:Hid (w2.heap[w.heap.size+1]?=some (.cells #[.bool false,.slice none 0 0,.slice none 0 0,.slice none 0 0] 71 (0,0))):=hide ((hb2.block _ (Array.getElem?_eq_some_iff.1 HR1.out).1).trans HR1.out);have HB2:Hid (Below w.heap.size w w2):=hide (HB1.out.trans (hb2.mono HB1.out.size));have HZ2:Hid (w.heap.size+1+1<w1.heap.size):=hide (Array.getElem?_eq_some_iff.1 hS1).1;have HY2:Hid (w1.heap.size<=w2.heap.size):=hide hb2.size;have HO_u:=hide (zaf HO_u.out hb2);clear hx hb2;have HBP_x:=hide HB1.out.size;refine ⟨_,rfl,?_⟩
 refine hK.out (Act.put _ (some 40) _) w2 hS2 (fun _=> ?_)
 clear hK K
 simp only [Act.put,yA,yB,yC]
 refine tK 10 41 ?_ rfl rfl (by kernel_rfl) (fun _ _ _ h=>h) ⟨by rfl,?_⟩ hS2 ?_
 rotate_left
 ·(intro wx hSw;(try dsimp only at hSw);go_simp;try with_reducible rfl)
 (try simp only [yA,yB,yC])
 have hth:Hid (w2.there (w.heap.size+1) 0 (#[.bool true,.slice au (a+0+(lk - (a+1))) cu,.slice ax (a+0+(lk - (a+1))) cx,.slice none 0 0]:Array Value).size):=hide (zav HR2.out 0 4 (show 0+4<=4 by decide))
 have HSt:=hide (zbs HR2.out #[.bool true,.slice au (a+0+(lk - (a+1))) cu,.slice ax (a+0+(lk - (a+1))) cx,.slice none 0 0] rfl)
 have HBs:=hide (zai (show w.heap.size<=w.heap.size+1 by omega) (#[.bool true,.slice au (a+0+(lk - (a+1))) cu,.slice ax (a+0+(lk - (a+1))) cx,.slice none 0 0]:Array Value).toList 0 w2 HB2.out)
 have hSa:∀j,j≠w.heap.size+1->j<w2.heap.size->(w2.setCells (w.heap.size+1) 0 (#[.bool true,.slice au (a+0+(lk - (a+1))) cu,.slice ax (a+0+(lk - (a+1))) cx,.slice none 0 0]:Array Value).toList).heap[j]?=w2.heap[j]?:=fun j h1 h2=>World.heap_setCells_other w2 (w.heap.size+1) 0 _ h2 h1
 have HKp:Hid (Kept w2 (w2.setCells (w.heap.size+1) 0 (#[.bool true,.slice au (a+0+(lk - (a+1))) cu,.slice ax (a+0+(lk - (a+1))) cx,.slice none 0 0]:Array Value).toList) (fun j=>j=w.heap.size+1)):=hide ⟨World.os_setCells _ _ _ _,(zai (B:=w.heap.size+1) (W0:=w2) (Nat.le_refl _) (#[.bool true,.slice au (a+0+(lk - (a+1))) cu,.slice ax (a+0+(lk - (a+1))) cx,.slice none 0 0]:Array Value).toList 0 w2 (Below.refl _ _)).tape,World.output_setCells _ _ _ _,by rw [zcG];exact Nat.le_refl _,fun j h1 h2=>hSa j h2 h1⟩
 have HF_u:=hide (zad (za6 HO_u.out HKp.out (fun j hj e=>by have:=(HO_u.out.lt j hj).1;have:=HZ1.out;omega)) (Nat.le_trans hB HBP_u.out))
 have HF_x:=hide (zad (za6 HO_x.out HKp.out (fun j hj e=>by have:=(HO_x.out.lt j hj).1;have:=HZ2.out;omega)) (Nat.le_trans hB HBP_x.out))
 obtain ⟨wz,hwz⟩:∃y,y=w2.setCells (w.heap.size+1) 0 (#[.bool true,.slice au (a+0+(lk - (a+1))) cu,.slice ax (a+0+(lk - (a+1))) cx,.slice none 0 0]:Array Value).toList:=⟨_,rfl⟩;rw [<-hwz] at HSt HBs hSa HF_u HF_x
 have hSz:(fun wx=>wx.heap[w.heap.size+1+1]?=some (Obj.cells #[.bool true,.slice ak lk ck,.slice av lk cv,.slice ac lv cc] 71 (0,0))) wz:=(hSa _ (by omega) (Array.getElem?_eq_some_iff.1 hS2).1).trans hS2
 have HWz:=hide hwz.symm;clear hwz hSa HKp
 refine wpAnyH_ready (rs:= [11]) (by kernel_rfl) (by simp) ?_
 refine AllReadyH.cons rfl (fun K hK=> ?_) AllReadyH.nil
 refine zb0 ?_ 71 (.tmp 4) (.tmp 41) ?_ (w.heap.size+1) 0 #[.bool true,.slice au (a+0+(lk - (a+1))) cu,.slice ax (a+0+(lk - (a+1))) cx,.slice none 0 0] ?_ ?_ hth.out ?_ ?_ HWz.out ?_
 ·exact rfl
 ·exact rfl
 ·exact rfl
 ·exact rfl
 ·exact Tryz.sizeNodeP
 ·exact rfl
 refine hK.out (Act.put _ none _) wz hSz (fun _=> ?_)
 clear hK K
 simp only [Act.put]
 refine wpAnyH_done (by kernel_rfl) ?_ _
 go_wp2_with fail;refine bodyPost_ret (v:= .agg #[.bool true,.slice au (a+0+(lk - (a+1))) cu,.slice ax (a+0+(lk - (a+1))) cx,.slice none 0 0]) (zgu Tryz.results72 rfl (zcX (zaj HSt.out) Tryz.underlying71 rfl Tryz.sizeNodeP)) rfl ?_
 have e1:(n.ks.take a++n.ks.drop (a+1)).length=a+0+(lk - (a+1)):=by
  have:=HE.out.1
  simp
  omega
 have e2:(n.vs.take a++n.vs.drop (a+1)).length=a+0+(lk - (a+1)):=by
  have:=HE.out.1;have:=HE.out.2.1
  simp
  omega
 refine ⟨_,rfl,⟨_,_,_,rfl,?_,?_,World.ownsRow_nil _ _ _ _⟩,HBs.out⟩
 ·rw [e1,zi1];exact HF_u.out
 ·rw [e2,zi1];exact HF_x.out
theorem zjy (p:Int) (n:Nd) (hlf:n.lf=false) (hev:n.cs.length=n.ks.length) (hsm:n.ks.length<=1000) (a:Nat) (h1:a<n.ks.length) (vk vv vc:Value) (B:Nat) (w:World) (hB:B<=w.heap.size) (h:LvN w B ((p,n,(a:Int)),vk,vv,vc)):
  Calls Tryz.prog 72 #[.agg #[.int .i64 p,.bool n.lf,vk,vv,vc,.int .i64 (a:Int)],.int .i64 0] w fun e w'=>∃v,e= .returned v/\NdOwn w' B v false (n.ks.take a++n.ks.drop (a+1)) [] (n.cs.take a++n.cs.drop (a+1))/\Below w.heap.size w w':=by
 obtain ⟨o1,o2,o3⟩:=h;dsimp only at o1 o2 o3;obtain ⟨ak,ck,rfl⟩:=za4 o1;obtain ⟨av,cv,rfl⟩:=za4 o2;obtain ⟨ac,cc,rfl⟩:=za4 o3;obtain ⟨lk,hlk⟩:∃m,m=n.ks.length:=⟨_,rfl⟩;obtain ⟨lv,hlv⟩:∃m,m=n.vs.length:=⟨_,rfl⟩;rw [hev,<-hlk] at o3;rw [<-hlv] at o2;rw [<-hlk] at o1 h1 hsm;rw [hev,<-hlk,<-hlv,hlf];have hck:=zc7 o1;have hcv:=zc7 o2;have hcc:=zc7 o3;have HO1:=hide o1;have HO2:=hide o2;have HO3:=hide o3;have HE:=hide (⟨hlk,hev,hck,hcv,hcc⟩:_/\_/\_/\_/\_);obtain ⟨w00,hw00⟩:∃x,x=((w.alloc (.cells #[.int .i64 p,.bool false,.slice ak lk ck,.slice av lv cv,.slice ac lk cc,.int .i64 (a:Int)] 97)).alloc (.cells #[.bool false,.slice none 0 0,.slice none 0 0,.slice none 0 0] 71)).alloc (.cells #[.bool false,.slice ak lk ck,.slice av lv cv,.slice ac lk cc] 71):=⟨_,rfl⟩
 have HB00:Hid (Below w.heap.size w w00):=hide (by rw [hw00];exact (((Below.refl _ _).alloc (Nat.le_refl _) _).alloc (by simp) _).alloc (by simp;omega) _)
 have HR00:Hid (w00.heap[w.heap.size+1]?=some (.cells #[.bool false,.slice none 0 0,.slice none 0 0,.slice none 0 0] 71 (0,0))):=hide (by
  rw [hw00,heap_alloc_old _ _ (by simp)]
  have h:=heap_alloc_new (w.alloc (.cells #[.int .i64 p,.bool false,.slice ak lk ck,.slice av lv cv,.slice ac lk cc,.int .i64 (a:Int)] 97)) (.cells #[.bool false,.slice none 0 0,.slice none 0 0,.slice none 0 0] 71)
  rw [show (w.alloc (Obj.cells #[.int .i64 p,.bool false,.slice ak lk ck,.slice av lv cv,.slice ac lk cc,.int .i64 (a:Int)] 97)).heap.size=w.heap.size+1 from by simp] at h
  exact h)
 have HN00:Hid (w00.heap[w.heap.size+1+1]?=some (.cells #[.bool false,.slice ak lk ck,.slice av lv cv,.slice ac lk cc] 71 (0,0))):=hide (by
  rw [hw00];have h:=heap_alloc_new ((w.alloc (.cells #[.int .i64 p,.bool false,.slice ak lk ck,.slice av lv cv,.slice ac lk cc,.int .i64 (a:Int)] 97)).alloc (.cells #[.bool false,.slice none 0 0,.slice none 0 0,.slice none 0 0] 71)) (.cells #[.bool false,.slice ak lk ck,.slice av lv cv,.slice ac lk cc] 71)
  rw [show ((w.alloc (Obj.cells #[.int .i64 p,.bool false,.slice ak lk ck,.slice av lv cv,.slice ac lk cc,.int .i64 (a:Int)] 97)).alloc (Obj.cells #[.bool false,.slice none 0 0,.slice none 0 0,.slice none 0 0] 71)).heap.size=w.heap.size+1+1 from by simp] at h
  exact h)
 obtain ⟨w0,hw0⟩:∃x,x=w00.drew:=⟨_,rfl⟩
 have HB0:Hid (Below w.heap.size w w0):=hide (by rw [hw0];exact HB00.out.drew)
 have HR0:Hid (w0.heap[w.heap.size+1]?=some (.cells #[.bool false,.slice none 0 0,.slice none 0 0,.slice none 0 0] 71 (0,0))):=hide (by rw [hw0];exact HR00.out)
 have HN0:Hid (w0.heap[w.heap.size+1+1]?=some (.cells #[.bool false,.slice ak lk ck,.slice av lv cv,.slice ac lk cc] 71 (0,0))):=hide (by rw [hw0];exact HN00.out)
 clear o1 o2 o3 hlk hlv hev hck hcv hcc hlf HB00 HR00 HN00
 have hwr:IntKind.i64.wrap ((a:Int)+1)=(a:Int)+1:=by rw [IntKind.wrap_i64];omega
 go_enter Tryz.func72,Tryz.ntmps72
 go_upto_region 1 with fail
 go_region
 rw [<-hw00,<-hw0];clear hw00 hw0;have m0:=(za0 HN0.out 0).1
 go_upto_region 6 with fail
 clear m0;obtain ⟨wd,hwd⟩:∃z,z=w0.drew:=⟨_,rfl⟩
 have hS_wd:(fun wx=>wx.heap[w.heap.size+1+1]?=some (Obj.cells #[.bool false,.slice ak lk ck,.slice av lv cv,.slice ac lk cc] 71 (0,0))) wd:=by rw [hwd];exact HN0.out
 have HR_wd:Hid (wd.heap[w.heap.size+1]?=some (.cells #[.bool false,.slice none 0 0,.slice none 0 0,.slice none 0 0] 71 (0,0))):=hide (by rw [hwd];exact HR0.out)
 have HB_wd:Hid (Below w.heap.size w wd):=hide (by rw [hwd];exact HB0.out.drew)
 refine wp_region_held_drew (S:=(fun wx=>wx.heap[w.heap.size+1+1]?=some (Obj.cells #[.bool false,.slice ak lk ck,.slice av lv cv,.slice ac lk cc] 71 (0,0)))) (by kernel_rfl) (by rw [<-hwd];exact hS_wd) (fun _=> ?_)
 rw [<-hwd];clear hwd HB0 HR0 HN0
 have HWk:Hid (∀wx,Below w.heap.size w wx->RowAt wx 1 (.slice none 0 0) 0 []->Calls Tryz.prog 85 #[.slice ak lk ck,.int .i64 (a:Int),.int .i64 ((a:Int)+1),.slice none 0 0] wx fun e w'=>∃v,e= .returned v/\w'.ownsRow wx.heap.size 9 1 v (a+0+(lk - (a+1))) ((strs n.ks).take a++ []++(strs n.ks).drop (a+1))/\Below wx.heap.size wx w'):=hide (by
  intro wx hb hr
  exact zd3 (strs n.ks) [] (zgD _) (fun u hu=>by cases hu) _ _ lk _ 0 _ a (a+1) (by omega) (by omega) HE.out.2.2.1 (by omega) wx (za8 (zaa HO1.out) hb) hr)
 have HWv:Hid (∀wx,Below w.heap.size w wx->RowAt wx 1 (.slice none 0 0) 0 []->Calls Tryz.prog 86 #[.slice ac lk cc,.int .i64 (a:Int),.int .i64 ((a:Int)+1),.slice none 0 0] wx fun e w'=>∃v,e= .returned v/\w'.ownsRow wx.heap.size 3 1 v (a+0+(lk - (a+1))) ((ints n.cs).take a++ []++(ints n.cs).drop (a+1))/\Below wx.heap.size wx w'):=hide (by
  intro wx hb hr
  exact zeI (ints n.cs) [] (ziE _) (fun u hu=>by cases hu) _ _ lk _ 0 _ a (a+1) (by omega) (by omega) HE.out.2.2.2.2 (by omega) wx (za8 (zaa HO3.out) hb) hr)
 refine tK 0 42 ?_ rfl rfl (by kernel_rfl) (fun _ _ _ h=>h) ⟨by rfl,?_⟩ hS_wd ?_
 rotate_left
 ·(intro wx hSw;(try dsimp only at hSw);have m0:=(za0 hSw 0).1;have m1:=(za0 hSw 1).1;have m2:=(za0 hSw 2).1;have m3:=(za0 hSw 3).1;go_simp;try with_reducible rfl)
 (try simp only [yA,yB,yC])
 refine tK 1 43 ?_ rfl rfl (by kernel_rfl) (fun _ _ _ h=>h) ⟨by rfl,?_⟩ hS_wd ?_
 rotate_left
 ·(intro wx hSw;(try dsimp only at hSw);have m0:=(za0 hSw 0).1;have m1:=(za0 hSw 1).1;have m2:=(za0 hSw 2).1;have m3:=(za0 hSw 3).1;go_simp;try with_reducible rfl)
 (try simp only [yA,yB,yC])
 refine tK 2 44 ?_ rfl rfl (by kernel_rfl) (fun _ _ _ h=>h) ⟨by rfl,?_⟩ hS_wd ?_
 rotate_left
 ·(intro wx hSw;(try dsimp only at hSw);have m0:=(za0 hSw 0).1;have m1:=(za0 hSw 1).1;have m2:=(za0 hSw 2).1;have m3:=(za0 hSw 3).1;go_simp;try with_reducible rfl)
 (try simp only [yA,yB,yC])
 refine tK 3 45 ?_ rfl rfl (by kernel_rfl) (fun _ _ _ h=>h) ⟨by rfl,?_⟩ hS_wd ?_
 rotate_left
 ·(intro wx hSw;(try dsimp only at hSw);have m0:=(za0 hSw 0).1;have m1:=(za0 hSw 1).1;have m2:=(za0 hSw 2).1;have m3:=(za0 hSw 3).1;go_simp;try with_reducible rfl)
 (try simp only [yA,yB,yC])
 refine tK 5 47 ?_ rfl rfl (by kernel_rfl) (fun _ _ _ h=>h) ⟨by rfl,?_⟩ hS_wd ?_
 rotate_left
 ·(intro wx hSw;(try dsimp only at hSw);have m0:=(za0 hSw 0).1;have m1:=(za0 hSw 1).1;have m2:=(za0 hSw 2).1;have m3:=(za0 hSw 3).1;go_simp;try with_reducible rfl)
 (try simp only [yA,yB,yC])
 refine tK 6 48 ?_ rfl rfl (by kernel_rfl) (fun _ _ _ h=>h) ⟨by rfl,?_⟩ hS_wd ?_
 rotate_left
 ·(intro wx hSw;(try dsimp only at hSw);have m0:=(za0 hSw 0).1;have m1:=(za0 hSw 1).1;have m2:=(za0 hSw 2).1;have m3:=(za0 hSw 3).1;go_simp;try with_reducible rfl)
 (try simp only [yA,yB,yC])
 refine tK 7 49 ?_ rfl rfl (by kernel_rfl) (fun _ _ _ h=>h) ⟨by rfl,?_⟩ hS_wd ?_
 rotate_left
 ·(intro wx hSw;(try dsimp only at hSw);have m0:=(za0 hSw 0).1;have m1:=(za0 hSw 1).1;have m2:=(za0 hSw 2).1;have m3:=(za0 hSw 3).1;go_simp;try with_reducible rfl)
 (try simp only [yA,yB,yC])
 refine tK 8 50 ?_ rfl rfl (by kernel_rfl) (fun _ _ _ h=>h) ⟨by rfl,?_⟩ hS_wd ?_
 rotate_left
 ·(intro wx hSw;(try dsimp only at hSw);have m0:=(za0 hSw 0).1;have m1:=(za0 hSw 1).1;have m2:=(za0 hSw 2).1;have m3:=(za0 hSw 3).1;go_simp;try with_reducible rfl)
 (try simp only [yA,yB,yC])
 refine wpAnyH_ready (rs:= [4]) (by kernel_rfl) (by simp) ?_
 refine AllReadyH.cons rfl (fun K hK=> ?_) AllReadyH.nil
 refine zcJ wd ?_ 85 Tryz.f85 Tryz.func85 ?_ ?_ (.tmp 43) (.tmp 44) (.tmp 45) (.const (.slice none 0 0)) #[26,3,3,26] ?_ (.slice ak lk ck) (.int .i64 (a:Int)) (.int .i64 ((a:Int)+1)) (.slice none 0 0) ?_ ?_ ?_ ?_ _ (HWk.out wd HB_wd.out (zeN wd)) ?_
 ·exact rfl
 ·decide
 ·exact Option.some_ne_none _
 ·exact rfl
 ·exact rfl
 ·exact rfl
 ·exact rfl
 ·exact rfl
 rintro e w1 ⟨u,rfl,hu,hb1⟩;obtain ⟨au,cu,rfl⟩:=za4 hu;have HO_u:=hide hu
 have hS1:(fun wx=>wx.heap[w.heap.size+1+1]?=some (Obj.cells #[.bool false,.slice ak lk ck,.slice av lv cv,.slice ac lk cc] 71 (0,0))) w1:=(hb1.block _ (Array.getElem?_eq_some_iff.1 hS_wd).1).trans hS_wd
 have HR1:Hid (w1.heap[w.heap.size+1]?=some (.cells #[.bool false,.slice none 0 0,.slice none 0 0,.slice none 0 0] 71 (0,0))):=hide ((hb1.block _ (Array.getElem?_eq_some_iff.1 HR_wd.out).1).trans HR_wd.out);have HB1:Hid (Below w.heap.size w w1):=hide (HB_wd.out.trans (hb1.mono HB_wd.out.size));have HZ1:Hid (w.heap.size+1+1<wd.heap.size):=hide (Array.getElem?_eq_some_iff.1 hS_wd).1;have HY1:Hid (wd.heap.size<=w1.heap.size):=hide hb1.size;clear hu hb1;have HBP_u:=hide HB_wd.out.size;refine ⟨_,rfl,?_⟩
 refine hK.out (Act.put _ (some 46) _) w1 hS1 (fun _=> ?_)
 clear hK K
 simp only [Act.put,yA,yB,yC]
 refine wpAnyH_ready (rs:= [9]) (by kernel_rfl) (by simp) ?_
 refine AllReadyH.cons rfl (fun K hK=> ?_) AllReadyH.nil
 refine zcJ w1 ?_ 86 Tryz.f86 Tryz.func86 ?_ ?_ (.tmp 48) (.tmp 49) (.tmp 50) (.const (.slice none 0 0)) #[32,3,3,32] ?_ (.slice ac lk cc) (.int .i64 (a:Int)) (.int .i64 ((a:Int)+1)) (.slice none 0 0) ?_ ?_ ?_ ?_ _ (HWv.out w1 HB1.out (zeN w1)) ?_
 ·exact rfl
 ·decide
 ·exact Option.some_ne_none _
 ·exact rfl
 ·exact rfl
 ·exact rfl
 ·exact rfl
 ·exact rfl
 rintro e w2 ⟨x,rfl,hx,hb2⟩;obtain ⟨ax,cx,rfl⟩:=za4 hx;have HO_x:=hide hx
 have hS2:(fun wx=>wx.heap[w.heap.size+1+1]?=some (Obj.cells #[.bool false,.slice ak lk ck,.slice av lv cv,.slice ac lk cc] 71 (0,0))) w2:=(hb2.block _ (Array.getElem?_eq_some_iff.1 hS1).1).trans hS1
 have HR2:Hid (w2.heap[w.heap.size+1]?=some (.cells #[.bool false,.slice none 0 0,.slice none 0 0,.slice none 0 0] 71 (0,0))):=hide ((hb2.block _ (Array.getElem?_eq_some_iff.1 HR1.out).1).trans HR1.out);have HB2:Hid (Below w.heap.size w w2):=hide (HB1.out.trans (hb2.mono HB1.out.size));have HZ2:Hid (w.heap.size+1+1<w1.heap.size):=hide (Array.getElem?_eq_some_iff.1 hS1).1;have HY2:Hid (w1.heap.size<=w2.heap.size):=hide hb2.size;have HO_u:=hide (zaf HO_u.out hb2);clear hx hb2;have HBP_x:=hide HB1.out.size;refine ⟨_,rfl,?_⟩
 refine hK.out (Act.put _ (some 51) _) w2 hS2 (fun _=> ?_)
 clear hK K
 simp only [Act.put,yA,yB,yC]
 refine tK 10 52 ?_ rfl rfl (by kernel_rfl) (fun _ _ _ h=>h) ⟨by rfl,?_⟩ hS2 ?_
 rotate_left
 ·(intro wx hSw;(try dsimp only at hSw);go_simp;try with_reducible rfl)
 (try simp only [yA,yB,yC])
 have hth:Hid (w2.there (w.heap.size+1) 0 (#[.bool false,.slice au (a+0+(lk - (a+1))) cu,.slice none 0 0,.slice ax (a+0+(lk - (a+1))) cx]:Array Value).size):=hide (zav HR2.out 0 4 (show 0+4<=4 by decide))
 have HSt:=hide (zbs HR2.out #[.bool false,.slice au (a+0+(lk - (a+1))) cu,.slice none 0 0,.slice ax (a+0+(lk - (a+1))) cx] rfl)
 have HBs:=hide (zai (show w.heap.size<=w.heap.size+1 by omega) (#[.bool false,.slice au (a+0+(lk - (a+1))) cu,.slice none 0 0,.slice ax (a+0+(lk - (a+1))) cx]:Array Value).toList 0 w2 HB2.out)
 have hSa:∀j,j≠w.heap.size+1->j<w2.heap.size->(w2.setCells (w.heap.size+1) 0 (#[.bool false,.slice au (a+0+(lk - (a+1))) cu,.slice none 0 0,.slice ax (a+0+(lk - (a+1))) cx]:Array Value).toList).heap[j]?=w2.heap[j]?:=fun j h1 h2=>World.heap_setCells_other w2 (w.heap.size+1) 0 _ h2 h1
 have HKp:Hid (Kept w2 (w2.setCells (w.heap.size+1) 0 (#[.bool false,.slice au (a+0+(lk - (a+1))) cu,.slice none 0 0,.slice ax (a+0+(lk - (a+1))) cx]:Array Value).toList) (fun j=>j=w.heap.size+1)):=hide ⟨World.os_setCells _ _ _ _,(zai (B:=w.heap.size+1) (W0:=w2) (Nat.le_refl _) (#[.bool false,.slice au (a+0+(lk - (a+1))) cu,.slice none 0 0,.slice ax (a+0+(lk - (a+1))) cx]:Array Value).toList 0 w2 (Below.refl _ _)).tape,World.output_setCells _ _ _ _,by rw [zcG];exact Nat.le_refl _,fun j h1 h2=>hSa j h2 h1⟩
 have HF_u:=hide (zad (za6 HO_u.out HKp.out (fun j hj e=>by have:=(HO_u.out.lt j hj).1;have:=HZ1.out;omega)) (Nat.le_trans hB HBP_u.out))
 have HF_x:=hide (zad (za6 HO_x.out HKp.out (fun j hj e=>by have:=(HO_x.out.lt j hj).1;have:=HZ2.out;omega)) (Nat.le_trans hB HBP_x.out))
 obtain ⟨wz,hwz⟩:∃y,y=w2.setCells (w.heap.size+1) 0 (#[.bool false,.slice au (a+0+(lk - (a+1))) cu,.slice none 0 0,.slice ax (a+0+(lk - (a+1))) cx]:Array Value).toList:=⟨_,rfl⟩;rw [<-hwz] at HSt HBs hSa HF_u HF_x
 have hSz:(fun wx=>wx.heap[w.heap.size+1+1]?=some (Obj.cells #[.bool false,.slice ak lk ck,.slice av lv cv,.slice ac lk cc] 71 (0,0))) wz:=(hSa _ (by omega) (Array.getElem?_eq_some_iff.1 hS2).1).trans hS2
 have HWz:=hide hwz.symm;clear hwz hSa HKp
 refine wpAnyH_ready (rs:= [11]) (by kernel_rfl) (by simp) ?_
 refine AllReadyH.cons rfl (fun K hK=> ?_) AllReadyH.nil
 refine zb0 ?_ 71 (.tmp 4) (.tmp 52) ?_ (w.heap.size+1) 0 #[.bool false,.slice au (a+0+(lk - (a+1))) cu,.slice none 0 0,.slice ax (a+0+(lk - (a+1))) cx] ?_ ?_ hth.out ?_ ?_ HWz.out ?_
 ·exact rfl
 ·exact rfl
 ·exact rfl
 ·exact rfl
 ·exact Tryz.sizeNodeP
 ·exact rfl
 refine hK.out (Act.put _ none _) wz hSz (fun _=> ?_)
 clear hK K
 simp only [Act.put]
 refine wpAnyH_done (by kernel_rfl) ?_ _
 go_wp2_with fail;refine bodyPost_ret (v:= .agg #[.bool false,.slice au (a+0+(lk - (a+1))) cu,.slice none 0 0,.slice ax (a+0+(lk - (a+1))) cx]) (zgu Tryz.results72 rfl (zcX (zaj HSt.out) Tryz.underlying71 rfl Tryz.sizeNodeP)) rfl ?_
 have e1:(n.ks.take a++n.ks.drop (a+1)).length=a+0+(lk - (a+1)):=by
  have:=HE.out.1
  simp
  omega
 have e2:(n.cs.take a++n.cs.drop (a+1)).length=a+0+(lk - (a+1)):=by
  have:=HE.out.1;have:=HE.out.2.1
  simp
  omega
 refine ⟨_,rfl,⟨_,_,_,rfl,?_,World.ownsRow_nil _ _ _ _,?_⟩,HBs.out⟩
 ·rw [e1,zi1];exact HF_u.out
 ·rw [e2,znf];exact HF_x.out
end Go.Proofs.YtcbogiebfbbmbaaGreatDoor
