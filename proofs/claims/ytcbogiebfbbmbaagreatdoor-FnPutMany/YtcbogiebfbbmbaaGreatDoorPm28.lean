/-
  Facts and contracts that the law's own text rests on, by their texts' names: WithHalves.
-/
import Derived.Lib.MinMaxS
import Derived.Test.YtcbogiebfbbmbaaGreatDoorPm27
import Derived.Test.YtcbogiebfbbmbaaGreatDoorPm26
set_option maxHeartbeats 16000000
set_option maxRecDepth 100000
namespace Go.Proofs.YtcbogiebfbbmbaaGreatDoor
open Go.RowKit
theorem ziH (l:List Int):∀u∈ints l,u.oneCell'=true:=fun u hu=>by
 simp only [ints,List.mem_map] at hu
 obtain ⟨x,-,rfl⟩:=hu
 rfl
theorem zm8 (ks:List ByteArray) (a:Nat) (K:List ByteArray):Lib.minS (K.getD 0 ⟨#[]⟩) (ks.getD a ⟨#[]⟩)=firstK ks a K:=by
 unfold firstK Lib.minS lessB
 generalize K.getD 0 ⟨#[]⟩=x
 generalize ks.getD a ⟨#[]⟩=y
 rw [Proofs.bytesLess_eq,Lib.toList_data,Lib.toList_data]
 simp only [decide_eq_true_eq]
 by_cases h:x.data.toList<y.data.toList
 ·rw [if_pos (Or.inl h),if_pos h]
 ·rw [if_neg h]
  by_cases h2:x.data.toList=y.data.toList
  ·rw [if_pos (Or.inr h2)]
   cases x
   cases y
   have:=Array.toList_inj.1 h2;dsimp only at this;rw [this]
  ·rw [if_neg (fun e=>e.elim h h2)]
theorem zm9 (K:List ByteArray) (x:ByteArray) (h:0<K.length):(strs K).set 0 (.string x)=strs (x :: K.drop 1):=by
 cases K with
 | nil=>simp at h
 | cons k K=>rfl
theorem zgG (p:Int) (n:Nd) (hlf:n.lf=false) (hev:n.cs.length=n.ks.length) (hsm:n.ks.length<=1000) (a:Nat) (h1:a<n.ks.length) (vk vv vc:Value) (B:Nat) (l:List (ByteArray×Int)) (hl0:0<l.length) (hl:l.length<=1000) (vh:Value) (w:World) (hB:B<=w.heap.size) (h:LvN w B ((p,n,(a:Int)),vk,vv,vc)) (hh:RowAt w 2 vh l.length (hvs l)):
  Calls Tryz.prog 60 #[.agg #[.int .i64 p,.bool n.lf,vk,vv,vc,.int .i64 (a:Int)],vh] w fun e w'=>∃v,e= .returned v/\NdOwn w' B v false (whK n a (l.map (·.1))) [] (whC n a (l.map (·.2)))/\Below w.heap.size w w':=by
 obtain ⟨o1,o2,o3⟩:=h;dsimp only at o1 o2 o3;obtain ⟨ak,ck,rfl⟩:=za4 o1;obtain ⟨av,cv,rfl⟩:=za4 o2;obtain ⟨ac,cc,rfl⟩:=za4 o3;have hck:=zfu o1;have hcc:=zfu o3;obtain ⟨lk,hlk⟩:∃m,m=n.ks.length:=⟨_,rfl⟩;rw [hev] at o3 hcc⊢;rw [<-hlk] at o1 o3 hck hcc h1 hsm⊢;rw [hlf];obtain ⟨nv,hnv⟩:∃m,m=n.vs.length:=⟨_,rfl⟩;rw [<-hnv];have HO1:=hide o1;have HO3:=hide o3;have HLk:=hide hlk;have HEv:=hide hev;have HH:=hide hh;obtain ⟨w0,hw0⟩:∃x,x=((w.alloc (.cells #[.int .i64 p,.bool false,.slice ak lk ck,.slice av nv cv,.slice ac lk cc,.int .i64 (a:Int)] 97)).alloc (.cells #[.bool false,.slice none 0 0,.slice none 0 0,.slice none 0 0] 71)).alloc (.cells #[.bool false,.slice ak lk ck,.slice av nv cv,.slice ac lk cc] 71):=⟨_,rfl⟩
 have HB0:Hid (Below w.heap.size w w0):=hide (by rw [hw0];exact (((Below.refl _ _).alloc (Nat.le_refl _) _).alloc (by simp) _).alloc (by simp;omega) _)
 have HL0:Hid (w0.heap[w.heap.size]?=some (.cells #[.int .i64 p,.bool false,.slice ak lk ck,.slice av nv cv,.slice ac lk cc,.int .i64 (a:Int)] 97 (0,0))):=hide (by rw [hw0,heap_alloc_old _ _ (by simp;omega),heap_alloc_old _ _ (by simp)];exact heap_alloc_new w _)
 have HR0:Hid (w0.heap[w.heap.size+1]?=some (.cells #[.bool false,.slice none 0 0,.slice none 0 0,.slice none 0 0] 71 (0,0))):=hide (by
  rw [hw0,heap_alloc_old _ _ (by simp)]
  have h:=heap_alloc_new (w.alloc (.cells #[.int .i64 p,.bool false,.slice ak lk ck,.slice av nv cv,.slice ac lk cc,.int .i64 (a:Int)] 97)) (.cells #[.bool false,.slice none 0 0,.slice none 0 0,.slice none 0 0] 71)
  rw [show (w.alloc (Obj.cells #[.int .i64 p,.bool false,.slice ak lk ck,.slice av nv cv,.slice ac lk cc,.int .i64 (a:Int)] 97)).heap.size=w.heap.size+1 from by simp] at h
  exact h)
 have HN0:Hid (w0.heap[w.heap.size+1+1]?=some (.cells #[.bool false,.slice ak lk ck,.slice av nv cv,.slice ac lk cc] 71 (0,0))):=hide (by
  rw [hw0];have h:=heap_alloc_new ((w.alloc (.cells #[.int .i64 p,.bool false,.slice ak lk ck,.slice av nv cv,.slice ac lk cc,.int .i64 (a:Int)] 97)).alloc (.cells #[.bool false,.slice none 0 0,.slice none 0 0,.slice none 0 0] 71)) (.cells #[.bool false,.slice ak lk ck,.slice av nv cv,.slice ac lk cc] 71)
  rw [show ((w.alloc (Obj.cells #[.int .i64 p,.bool false,.slice ak lk ck,.slice av nv cv,.slice ac lk cc,.int .i64 (a:Int)] 97)).alloc (Obj.cells #[.bool false,.slice none 0 0,.slice none 0 0,.slice none 0 0] 71)).heap.size=w.heap.size+1+1 from by simp] at h
  exact h)
 have HEn:=hide (fun wx hb=>zeq l (by omega) vh wx (za1 HH.out (hb:Below w.heap.size w wx)))
 clear o1 o2 o3 hlk hev hnv hh;go_enter Tryz.func60,Tryz.ntmps60
 go_upto_region 2 with fail
 rw [<-hw0];clear hw0;go_wp2_with fail;refine (HEn.out w0 HB0.out).mono ?_;rintro e w1 ⟨v1,v2,rfl,ho1,ho2,hb1⟩;obtain ⟨a2,c2,rfl⟩:=za4 ho2
 obtain ⟨g1,c1,rfl⟩:∃g c,v1= .slice (some ⟨g,0,none⟩) l.length c:=by
  rcases ho1.2 with ⟨-,h0⟩ | ⟨g,c,cur,e,-⟩
  ·omega
  ·exact ⟨g,c,e⟩
 obtain ⟨ll,hll⟩:∃m,m=l.length:=⟨_,rfl⟩;have HLl:=hide hll;rw [<-hll] at ho1 ho2 hl0 hl⊢
 have HS1:Hid ((fun wx=>wx.heap[w.heap.size]?=some (Obj.cells #[.int .i64 p,.bool false,.slice ak lk ck,.slice av nv cv,.slice ac lk cc,.int .i64 (a:Int)] 97 (0,0))/\wx.heap[w.heap.size+1+1]?=some (Obj.cells #[.bool false,.slice ak lk ck,.slice av nv cv,.slice ac lk cc] 71 (0,0))) w1):=hide ⟨(hb1.block _ (Array.getElem?_eq_some_iff.1 HL0.out).1).trans HL0.out,(hb1.block _ (Array.getElem?_eq_some_iff.1 HN0.out).1).trans HN0.out⟩
 have HR1:Hid (w1.heap[w.heap.size+1]?=some (.cells #[.bool false,.slice none 0 0,.slice none 0 0,.slice none 0 0] 71 (0,0))):=hide ((hb1.block _ (Array.getElem?_eq_some_iff.1 HR0.out).1).trans HR0.out);have HB1:Hid (Below w.heap.size w w1):=hide (HB0.out.trans (hb1.mono HB0.out.size));have HK1:=hide ho1;have HC1:=hide ho2;have HZ0:Hid (w.heap.size+1+1<w0.heap.size):=hide (Array.getElem?_eq_some_iff.1 HN0.out).1
 have hK0:w1.cell? ⟨g1,0,none⟩=some (.string ((l.map (·.1)).getD 0 ⟨#[]⟩)):=by
  have h:=ho1.cells (g:=g1) rfl 0 (.string ((l.map (·.1)).getD 0 ⟨#[]⟩)) (by cases l with | nil=>simp at hll;omega | cons q l=>rfl)
  rw [zaO] at h;exact h
 have hF0:w1.frozen? ⟨g1,0,none⟩=false:=by
  rcases ho1.2 with ⟨-,h0⟩ | ⟨g,c,cur,e,-,hg,-⟩
  ·omega
  ·injection e with e1 _ _
   injection e1 with e1
   injection e1 with e1 _ _
   subst e1;exact Lib.frozen_of_heap hg 0
 obtain ⟨gk,rfl,hcx⟩:=zco (i:=a) HO1.out (by rw [<-HLk.out];exact h1) HLk.out
 have hcx1:w1.cell? ⟨gk,a,none⟩=some (.string (n.ks.getD a ⟨#[]⟩)):=by rw [HB1.out.cell (by exact (HO1.out.lt gk rfl).2)];exact hcx
 have l5:=(za0 HS1.out.1 5).1;have m1:=(za0 HS1.out.2 1).1;obtain ⟨k0,hk0⟩:∃z,z=(l.map (·.1)).getD 0 ⟨#[]⟩:=⟨_,rfl⟩;obtain ⟨ka,hka⟩:∃z,z=n.ks.getD a ⟨#[]⟩:=⟨_,rfl⟩;rw [<-hk0] at hK0;rw [<-hka] at hcx1
 have HF:Hid (Lib.minS k0 ka=firstK n.ks a (l.map (·.1))):=hide (by rw [hk0,hka];exact zm8 n.ks a _)
 obtain ⟨mm,hmm⟩:∃z,z=Lib.minS k0 ka:=⟨_,rfl⟩
 have hmin:∀(ts:Array TypeId) (t:TypeId) (wx:World),(Builtin.min_ ts t #[.string k0,.string ka]).run Tryz.prog wx= .ok (.string mm) wx:=fun ts t wx=>by rw [hmm];exact Lib.run_min_strs wx ts t k0 ka
 have HM:Hid (mm=firstK n.ks a (l.map (·.1))):=hide (by rw [hmm];exact HF.out)
 have ha0:(0:Int)<=(a:Int):=by omega
 have ha1:(a:Int)<(lk:Int):=by omega
 have hl1:(0:Int)<(ll:Int):=by omega
 clear hk0 hka hmm HF hcx hb1 ho1 ho2 hll
 go_upto_region 3 with fail
 go_region
 have HK2:Hid ((w1.setCell ⟨g1,0,none⟩ (.string mm)).drew.ownsRow w0.heap.size 9 1 (.slice (some ⟨g1,0,none⟩) ll c1) ll (strs (firstK n.ks a (l.map (·.1)) :: (l.map (·.1)).drop 1))):=hide (by
  rw [<-zm9 _ _ (by rw [List.length_map,<-HLl.out];exact hl0),<-HM.out]
  exact (HK1.out.stored 0 (.string mm)).1)
 have hgl:=HK1.out.lt g1 rfl
 have HC2:Hid ((w1.setCell ⟨g1,0,none⟩ (.string mm)).drew.ownsRow w0.heap.size 3 1 (.slice a2 ll c2) ll (ints (l.map (·.2)))):=hide (by
  show (w1.setCell ⟨g1,0,none⟩ (.string mm)).ownsRow w0.heap.size 3 1 (.slice a2 ll c2) ll (ints (l.map (·.2)))
  refine HC1.out.kept (row:=some g1) (HK1.out.stored 0 (.string mm)).2 ?_
  cases hub:(Value.slice a2 ll c2).ownBlock with
  | none=>exact Or.inl rfl
  | some k=>exact Or.inr (fun e=>zbf HC1.out HK1.out (by decide) k hub e.symm))
 have HB2:Hid (Below w.heap.size w (w1.setCell ⟨g1,0,none⟩ (.string mm)).drew):=hide ((HB1.out.setCell (by have:=HZ0.out;have:=hgl.1;show w.heap.size<=g1;omega) _).drew)
 have HS2:(fun wx=>wx.heap[w.heap.size]?=some (Obj.cells #[.int .i64 p,.bool false,.slice (some ⟨gk,0,none⟩) lk ck,.slice av nv cv,.slice ac lk cc,.int .i64 (a:Int)] 97 (0,0))/\wx.heap[w.heap.size+1+1]?=some (Obj.cells #[.bool false,.slice (some ⟨gk,0,none⟩) lk ck,.slice av nv cv,.slice ac lk cc] 71 (0,0))) ((w1.setCell ⟨g1,0,none⟩ (.string mm)).drew):=⟨(heap_setCell_other w1 ⟨g1,0,none⟩ (w.heap.size) (.string mm) (by have:=HZ0.out;have:=hgl.1;show w.heap.size≠g1;omega)).trans HS1.out.1,(heap_setCell_other w1 ⟨g1,0,none⟩ (w.heap.size+1+1) (.string mm) (by have:=HZ0.out;have:=hgl.1;show w.heap.size+1+1≠g1;omega)).trans HS1.out.2⟩
 have HR2:Hid ((w1.setCell ⟨g1,0,none⟩ (.string mm)).drew.heap[w.heap.size+1]?=some (.cells #[.bool false,.slice none 0 0,.slice none 0 0,.slice none 0 0] 71 (0,0))):=hide ((heap_setCell_other w1 ⟨g1,0,none⟩ (w.heap.size+1) (.string mm) (by have:=HZ0.out;have:=hgl.1;show w.heap.size+1≠g1;omega)).trans HR1.out)
 obtain ⟨w2,hw2⟩:∃z,z=(w1.setCell ⟨g1,0,none⟩ (.string mm)).drew:=⟨_,rfl⟩;rw [<-hw2] at HK2 HC2 HB2 HS2 HR2⊢;clear hw2 l5 m1 hcx1 hmin hK0 hF0 HK1 HC1 HB1 HS1 HR1
 go_upto_region 4 with fail
 obtain ⟨wd,hwd⟩:∃z,z=w2.drew:=⟨_,rfl⟩
 have hS_wd:(fun wx=>wx.heap[w.heap.size]?=some (Obj.cells #[.int .i64 p,.bool false,.slice (some ⟨gk,0,none⟩) lk ck,.slice av nv cv,.slice ac lk cc,.int .i64 (a:Int)] 97 (0,0))/\wx.heap[w.heap.size+1+1]?=some (Obj.cells #[.bool false,.slice (some ⟨gk,0,none⟩) lk ck,.slice av nv cv,.slice ac lk cc] 71 (0,0))) wd:=by rw [hwd];exact HS2
 have HR_wd:Hid (wd.heap[w.heap.size+1]?=some (.cells #[.bool false,.slice none 0 0,.slice none 0 0,.slice none 0 0] 71 (0,0))):=hide (by rw [hwd];exact HR2.out)
 have HB_wd:Hid (Below w.heap.size w wd):=hide (by rw [hwd];exact HB2.out.drew)
 have HK3:Hid (wd.ownsRow w0.heap.size 9 1 (.slice (some ⟨g1,0,none⟩) ll c1) ll (strs (firstK n.ks a (l.map (·.1)) :: (l.map (·.1)).drop 1))):=hide (by rw [hwd];exact HK2.out)
 have HC3:Hid (wd.ownsRow w0.heap.size 3 1 (.slice a2 ll c2) ll (ints (l.map (·.2)))):=hide (by rw [hwd];exact HC2.out)
 refine wp_region_held_drew (S:=(fun wx=>wx.heap[w.heap.size]?=some (Obj.cells #[.int .i64 p,.bool false,.slice (some ⟨gk,0,none⟩) lk ck,.slice av nv cv,.slice ac lk cc,.int .i64 (a:Int)] 97 (0,0))/\wx.heap[w.heap.size+1+1]?=some (Obj.cells #[.bool false,.slice (some ⟨gk,0,none⟩) lk ck,.slice av nv cv,.slice ac lk cc] 71 (0,0)))) (by kernel_rfl) (by rw [<-hwd];exact hS_wd) (fun _=> ?_)
 rw [<-hwd];clear hwd HK2 HC2 HB2 HS2 HR2;have HRk:=hide (zac HO1.out);have HRc:=hide (zac HO3.out)
 have hwr:IntKind.i64.wrap ((a:Int)+1)=(a:Int)+1:=by rw [IntKind.wrap_i64];omega
 have HWk:Hid (∀wx,Below w.heap.size w wx->RowAt wx 1 (.slice (some ⟨g1,0,none⟩) ll c1) ll (strs (firstK n.ks a (l.map (·.1)) :: (l.map (·.1)).drop 1))->Calls Tryz.prog 85 #[.slice (some ⟨gk,0,none⟩) lk ck,.int .i64 (a:Int),.int .i64 ((a:Int)+1),.slice (some ⟨g1,0,none⟩) ll c1] wx fun e w'=>∃v,e= .returned v/\w'.ownsRow wx.heap.size 9 1 v (a+ll+(lk - (a+1))) ((strs n.ks).take a++strs (firstK n.ks a (l.map (·.1)) :: (l.map (·.1)).drop 1)++(strs n.ks).drop (a+1))/\Below wx.heap.size wx w'):=hide (by
  intro wx hb hr
  exact zbX (strs n.ks) _ (zdj _) (zdj _) (some ⟨gk,0,none⟩) (some ⟨g1,0,none⟩) lk ck ll c1 a (a+1) (by omega) (by omega) hck (by omega) wx (za1 HRk.out hb) hr)
 have HWc:Hid (∀wx,Below w.heap.size w wx->RowAt wx 1 (.slice a2 ll c2) ll (ints (l.map (·.2)))->Calls Tryz.prog 86 #[.slice ac lk cc,.int .i64 (a:Int),.int .i64 ((a:Int)+1),.slice a2 ll c2] wx fun e w'=>∃v,e= .returned v/\w'.ownsRow wx.heap.size 3 1 v (a+ll+(lk - (a+1))) ((ints n.cs).take a++ints (l.map (·.2))++(ints n.cs).drop (a+1))/\Below wx.heap.size wx w'):=hide (by
  intro wx hb hr
  exact zhJ (ints n.cs) _ (ziH _) (ziH _) ac a2 lk cc ll c2 a (a+1) (by omega) (by omega) hcc (by omega) wx (za1 HRc.out hb) hr)
 refine tK 0 27 ?_ rfl rfl (by kernel_rfl) (fun _ _ _ h=>h) ⟨by rfl,?_⟩ hS_wd ?_
 rotate_left
 ·(intro wx hSw;(try dsimp only at hSw);have l5:=(za0 hSw.1 5).1;have m1:=(za0 hSw.2 1).1;have m3:=(za0 hSw.2 3).1;go_simp;try with_reducible rfl)
 (try simp only [yA,yB,yC])
 refine tK 1 28 ?_ rfl rfl (by kernel_rfl) (fun _ _ _ h=>h) ⟨by rfl,?_⟩ hS_wd ?_
 rotate_left
 ·(intro wx hSw;(try dsimp only at hSw);have l5:=(za0 hSw.1 5).1;have m1:=(za0 hSw.2 1).1;have m3:=(za0 hSw.2 3).1;go_simp;try with_reducible rfl)
 (try simp only [yA,yB,yC])
 refine tK 2 29 ?_ rfl rfl (by kernel_rfl) (fun _ _ _ h=>h) ⟨by rfl,?_⟩ hS_wd ?_
 rotate_left
 ·(intro wx hSw;(try dsimp only at hSw);have l5:=(za0 hSw.1 5).1;have m1:=(za0 hSw.2 1).1;have m3:=(za0 hSw.2 3).1;go_simp;try with_reducible rfl)
 (try simp only [yA,yB,yC])
 refine tK 3 30 ?_ rfl rfl (by kernel_rfl) (fun _ _ _ h=>h) ⟨by rfl,?_⟩ hS_wd ?_
 rotate_left
 ·(intro wx hSw;(try dsimp only at hSw);have l5:=(za0 hSw.1 5).1;have m1:=(za0 hSw.2 1).1;have m3:=(za0 hSw.2 3).1;go_simp;try with_reducible rfl)
 (try simp only [yA,yB,yC])
 refine tK 4 31 ?_ rfl rfl (by kernel_rfl) (fun _ _ _ h=>h) ⟨by rfl,?_⟩ hS_wd ?_
 rotate_left
 ·(intro wx hSw;(try dsimp only at hSw);have l5:=(za0 hSw.1 5).1;have m1:=(za0 hSw.2 1).1;have m3:=(za0 hSw.2 3).1;go_simp;try with_reducible rfl)
 (try simp only [yA,yB,yC])
 refine tK 5 32 ?_ rfl rfl (by kernel_rfl) (fun _ _ _ h=>h) ⟨by rfl,?_⟩ hS_wd ?_
 rotate_left
 ·(intro wx hSw;(try dsimp only at hSw);have l5:=(za0 hSw.1 5).1;have m1:=(za0 hSw.2 1).1;have m3:=(za0 hSw.2 3).1;go_simp;try with_reducible rfl)
 (try simp only [yA,yB,yC])
 refine tK 6 33 ?_ rfl rfl (by kernel_rfl) (fun _ _ _ h=>h) ⟨by rfl,?_⟩ hS_wd ?_
 rotate_left
 ·(intro wx hSw;(try dsimp only at hSw);have l5:=(za0 hSw.1 5).1;have m1:=(za0 hSw.2 1).1;have m3:=(za0 hSw.2 3).1;go_simp;try with_reducible rfl)
 (try simp only [yA,yB,yC])
 refine tK 7 34 ?_ rfl rfl (by kernel_rfl) (fun _ _ _ h=>h) ⟨by rfl,?_⟩ hS_wd ?_
 rotate_left
 ·(intro wx hSw;(try dsimp only at hSw);have l5:=(za0 hSw.1 5).1;have m1:=(za0 hSw.2 1).1;have m3:=(za0 hSw.2 3).1;go_simp;try with_reducible rfl)
 (try simp only [yA,yB,yC])
 refine tK 9 36 ?_ rfl rfl (by kernel_rfl) (fun _ _ _ h=>h) ⟨by rfl,?_⟩ hS_wd ?_
 rotate_left
 ·(intro wx hSw;(try dsimp only at hSw);have l5:=(za0 hSw.1 5).1;have m1:=(za0 hSw.2 1).1;have m3:=(za0 hSw.2 3).1;go_simp;try with_reducible rfl)
 (try simp only [yA,yB,yC])
 refine tK 10 37 ?_ rfl rfl (by kernel_rfl) (fun _ _ _ h=>h) ⟨by rfl,?_⟩ hS_wd ?_
 rotate_left
 ·(intro wx hSw;(try dsimp only at hSw);have l5:=(za0 hSw.1 5).1;have m1:=(za0 hSw.2 1).1;have m3:=(za0 hSw.2 3).1;go_simp;try with_reducible rfl)
 (try simp only [yA,yB,yC])
 refine tK 11 38 ?_ rfl rfl (by kernel_rfl) (fun _ _ _ h=>h) ⟨by rfl,?_⟩ hS_wd ?_
 rotate_left
 ·(intro wx hSw;(try dsimp only at hSw);have l5:=(za0 hSw.1 5).1;have m1:=(za0 hSw.2 1).1;have m3:=(za0 hSw.2 3).1;go_simp;try with_reducible rfl)
 (try simp only [yA,yB,yC])
 refine tK 12 39 ?_ rfl rfl (by kernel_rfl) (fun _ _ _ h=>h) ⟨by rfl,?_⟩ hS_wd ?_
 rotate_left
 ·(intro wx hSw;(try dsimp only at hSw);have l5:=(za0 hSw.1 5).1;have m1:=(za0 hSw.2 1).1;have m3:=(za0 hSw.2 3).1;go_simp;try with_reducible rfl)
 (try simp only [yA,yB,yC])
 refine tK 13 40 ?_ rfl rfl (by kernel_rfl) (fun _ _ _ h=>h) ⟨by rfl,?_⟩ hS_wd ?_
 rotate_left
 ·(intro wx hSw;(try dsimp only at hSw);have l5:=(za0 hSw.1 5).1;have m1:=(za0 hSw.2 1).1;have m3:=(za0 hSw.2 3).1;go_simp;try with_reducible rfl)
 (try simp only [yA,yB,yC])
 refine tK 14 41 ?_ rfl rfl (by kernel_rfl) (fun _ _ _ h=>h) ⟨by rfl,?_⟩ hS_wd ?_
 rotate_left
 ·(intro wx hSw;(try dsimp only at hSw);have l5:=(za0 hSw.1 5).1;have m1:=(za0 hSw.2 1).1;have m3:=(za0 hSw.2 3).1;go_simp;try with_reducible rfl)
 (try simp only [yA,yB,yC])
 refine tK 15 42 ?_ rfl rfl (by kernel_rfl) (fun _ _ _ h=>h) ⟨by rfl,?_⟩ hS_wd ?_
 rotate_left
 ·(intro wx hSw;(try dsimp only at hSw);have l5:=(za0 hSw.1 5).1;have m1:=(za0 hSw.2 1).1;have m3:=(za0 hSw.2 3).1;go_simp;try with_reducible rfl)
 (try simp only [yA,yB,yC])
 refine tK 16 43 ?_ rfl rfl (by kernel_rfl) (fun _ _ _ h=>h) ⟨by rfl,?_⟩ hS_wd ?_
 rotate_left
 ·(intro wx hSw;(try dsimp only at hSw);have l5:=(za0 hSw.1 5).1;have m1:=(za0 hSw.2 1).1;have m3:=(za0 hSw.2 3).1;go_simp;try with_reducible rfl)
 (try simp only [yA,yB,yC])
 refine wpAnyH_ready (rs:= [8]) (by kernel_rfl) (by simp) ?_
 refine AllReadyH.cons rfl (fun K hK=> ?_) AllReadyH.nil
 refine zaB wd ?_ 85 Tryz.f85 Tryz.func85 ?_ ?_ (.tmp 28) (.tmp 30) (.tmp 33) (.tmp 34) #[26,3,3,26] ?_ (.slice (some ⟨gk,0,none⟩) lk ck) (.int .i64 (a:Int)) (.int .i64 ((a:Int)+1)) (.slice (some ⟨g1,0,none⟩) ll c1) ?_ ?_ ?_ ?_ _ (HWk.out wd HB_wd.out (zac HK3.out)) ?_
 ·exact rfl
 ·decide
 ·exact Option.some_ne_none _
 ·exact rfl
 ·exact rfl
 ·exact rfl
 ·exact rfl
 ·exact rfl
 rintro e w3 ⟨u,rfl,hu,hb3⟩;obtain ⟨au,cu,rfl⟩:=za4 hu;have HU:=hide hu
 have hS3:(fun wx=>wx.heap[w.heap.size]?=some (Obj.cells #[.int .i64 p,.bool false,.slice (some ⟨gk,0,none⟩) lk ck,.slice av nv cv,.slice ac lk cc,.int .i64 (a:Int)] 97 (0,0))/\wx.heap[w.heap.size+1+1]?=some (Obj.cells #[.bool false,.slice (some ⟨gk,0,none⟩) lk ck,.slice av nv cv,.slice ac lk cc] 71 (0,0))) w3:=⟨(hb3.block _ (Array.getElem?_eq_some_iff.1 hS_wd.1).1).trans hS_wd.1,(hb3.block _ (Array.getElem?_eq_some_iff.1 hS_wd.2).1).trans hS_wd.2⟩
 have HR3:Hid (w3.heap[w.heap.size+1]?=some (.cells #[.bool false,.slice none 0 0,.slice none 0 0,.slice none 0 0] 71 (0,0))):=hide ((hb3.block _ (Array.getElem?_eq_some_iff.1 HR_wd.out).1).trans HR_wd.out);have HB3:Hid (Below w.heap.size w w3):=hide (HB_wd.out.trans (hb3.mono HB_wd.out.size));have HC4:=hide (za6 HC3.out hb3);have HZ3:Hid (w.heap.size+1+1<wd.heap.size):=hide (Array.getElem?_eq_some_iff.1 hS_wd.2).1;clear hu hb3;refine ⟨_,rfl,?_⟩
 refine hK.out (Act.put _ (some 35) _) w3 hS3 (fun _=> ?_)
 clear hK K
 simp only [Act.put,yA,yB,yC]
 refine wpAnyH_ready (rs:= [17]) (by kernel_rfl) (by simp) ?_
 refine AllReadyH.cons rfl (fun K hK=> ?_) AllReadyH.nil
 refine zaB w3 ?_ 86 Tryz.f86 Tryz.func86 ?_ ?_ (.tmp 37) (.tmp 39) (.tmp 42) (.tmp 43) #[32,3,3,32] ?_ (.slice ac lk cc) (.int .i64 (a:Int)) (.int .i64 ((a:Int)+1)) (.slice a2 ll c2) ?_ ?_ ?_ ?_ _ (HWc.out w3 HB3.out (zac HC4.out)) ?_
 ·exact rfl
 ·decide
 ·exact Option.some_ne_none _
 ·exact rfl
 ·exact rfl
 ·exact rfl
 ·exact rfl
 ·exact rfl
 rintro e w4 ⟨x,rfl,hx,hb4⟩;obtain ⟨ax,cx,rfl⟩:=za4 hx;have HX:=hide hx;have HU4:=hide (za6 HU.out hb4)
 have hS4:(fun wx=>wx.heap[w.heap.size]?=some (Obj.cells #[.int .i64 p,.bool false,.slice (some ⟨gk,0,none⟩) lk ck,.slice av nv cv,.slice ac lk cc,.int .i64 (a:Int)] 97 (0,0))/\wx.heap[w.heap.size+1+1]?=some (Obj.cells #[.bool false,.slice (some ⟨gk,0,none⟩) lk ck,.slice av nv cv,.slice ac lk cc] 71 (0,0))) w4:=⟨(hb4.block _ (Array.getElem?_eq_some_iff.1 hS3.1).1).trans hS3.1,(hb4.block _ (Array.getElem?_eq_some_iff.1 hS3.2).1).trans hS3.2⟩
 have HR4:Hid (w4.heap[w.heap.size+1]?=some (.cells #[.bool false,.slice none 0 0,.slice none 0 0,.slice none 0 0] 71 (0,0))):=hide ((hb4.block _ (Array.getElem?_eq_some_iff.1 HR3.out).1).trans HR3.out);have HB4:Hid (Below w.heap.size w w4):=hide (HB3.out.trans (hb4.mono HB3.out.size));have HZ4:Hid (w.heap.size+1+1<w3.heap.size):=hide (Array.getElem?_eq_some_iff.1 hS3.2).1;have hb4s:w3.heap.size<=w4.heap.size:=hb4.size;have HZ5:=hide hb4s;clear hx hb4 hb4s;refine ⟨_,rfl,?_⟩
 refine hK.out (Act.put _ (some 44) _) w4 hS4 (fun _=> ?_)
 clear hK K
 simp only [Act.put,yA,yB,yC]
 refine tK 18 45 ?_ rfl rfl (by kernel_rfl) (fun _ _ _ h=>h) ⟨by rfl,?_⟩ hS4 ?_
 rotate_left
 ·(intro wx hSw;(try dsimp only at hSw);go_simp;try with_reducible rfl)
 (try simp only [yA,yB,yC])
 have hth:Hid (w4.there (w.heap.size+1) 0 (#[.bool false,.slice au (a+ll+(lk - (a+1))) cu,.slice none 0 0,.slice ax (a+ll+(lk - (a+1))) cx]:Array Value).size):=hide (zcp HR4.out 0 4 (show 0+4<=4 by decide))
 have HSt:=hide (zbp HR4.out #[.bool false,.slice au (a+ll+(lk - (a+1))) cu,.slice none 0 0,.slice ax (a+ll+(lk - (a+1))) cx] rfl)
 have HBs:=hide (zag (show w.heap.size<=w.heap.size+1 by omega) (#[.bool false,.slice au (a+ll+(lk - (a+1))) cu,.slice none 0 0,.slice ax (a+ll+(lk - (a+1))) cx]:Array Value).toList 0 w4 HB4.out)
 have hS5a:∀k,k≠w.heap.size+1->k<w4.heap.size->(w4.setCells (w.heap.size+1) 0 (#[.bool false,.slice au (a+ll+(lk - (a+1))) cu,.slice none 0 0,.slice ax (a+ll+(lk - (a+1))) cx]:Array Value).toList).heap[k]?=w4.heap[k]?:=fun k h1 h2=>World.heap_setCells_other w4 (w.heap.size+1) 0 _ h2 h1
 have HKp:Hid (Kept w4 (w4.setCells (w.heap.size+1) 0 (#[.bool false,.slice au (a+ll+(lk - (a+1))) cu,.slice none 0 0,.slice ax (a+ll+(lk - (a+1))) cx]:Array Value).toList) (fun k=>k=w.heap.size+1)):=hide ⟨World.os_setCells _ _ _ _,(zag (B:=w.heap.size+1) (W0:=w4) (Nat.le_refl _) (#[.bool false,.slice au (a+ll+(lk - (a+1))) cu,.slice none 0 0,.slice ax (a+ll+(lk - (a+1))) cx]:Array Value).toList 0 w4 (Below.refl _ _)).tape,World.output_setCells _ _ _ _,by rw [zaA];exact Nat.le_refl _,fun k h1 h2=>hS5a k h2 h1⟩
 have HU5:=hide (zaa (za7 HU4.out HKp.out (fun k hk e=>by have:=(HU4.out.lt k hk).1;have:=HZ3.out;omega)) (Nat.le_trans hB HB_wd.out.size))
 have HX5:=hide (zaa (za7 HX.out HKp.out (fun k hk e=>by have:=(HX.out.lt k hk).1;have:=HZ4.out;omega)) (Nat.le_trans hB HB3.out.size))
 obtain ⟨w5,hw5⟩:∃y,y=w4.setCells (w.heap.size+1) 0 (#[.bool false,.slice au (a+ll+(lk - (a+1))) cu,.slice none 0 0,.slice ax (a+ll+(lk - (a+1))) cx]:Array Value).toList:=⟨_,rfl⟩;rw [<-hw5] at HSt HBs HU5 HX5 hS5a
 have hS5:(fun wx=>wx.heap[w.heap.size]?=some (Obj.cells #[.int .i64 p,.bool false,.slice (some ⟨gk,0,none⟩) lk ck,.slice av nv cv,.slice ac lk cc,.int .i64 (a:Int)] 97 (0,0))/\wx.heap[w.heap.size+1+1]?=some (Obj.cells #[.bool false,.slice (some ⟨gk,0,none⟩) lk ck,.slice av nv cv,.slice ac lk cc] 71 (0,0))) w5:=⟨(hS5a _ (by omega) (Array.getElem?_eq_some_iff.1 hS4.1).1).trans hS4.1,(hS5a _ (by omega) (Array.getElem?_eq_some_iff.1 hS4.2).1).trans hS4.2⟩
 have HW5:=hide hw5.symm;clear hw5 hS5a HKp
 refine wpAnyH_ready (rs:= [19]) (by kernel_rfl) (by simp) ?_
 refine AllReadyH.cons rfl (fun K hK=> ?_) AllReadyH.nil
 refine zb8 ?_ 71 (.tmp 4) (.tmp 45) ?_ (w.heap.size+1) 0 #[.bool false,.slice au (a+ll+(lk - (a+1))) cu,.slice none 0 0,.slice ax (a+ll+(lk - (a+1))) cx] ?_ ?_ hth.out ?_ ?_ HW5.out ?_
 ·exact rfl
 ·exact rfl
 ·exact rfl
 ·exact rfl
 ·exact Tryz.sizeNodeP
 ·exact rfl
 refine hK.out (Act.put _ none _) w5 hS5 (fun _=> ?_)
 clear hK K
 simp only [Act.put]
 refine wpAnyH_done (by kernel_rfl) ?_ _
 go_wp2_with fail;refine bodyPost_ret (v:= .agg #[.bool false,.slice au (a+ll+(lk - (a+1))) cu,.slice none 0 0,.slice ax (a+ll+(lk - (a+1))) cx]) (zbe Tryz.results60 rfl (zcr (zb0 HSt.out) Tryz.underlying71 rfl Tryz.sizeNodeP)) rfl ?_
 have e1:(whK n a (l.map (·.1))).length=a+ll+(lk - (a+1)):=by
  have:=HLk.out;have:=HLl.out
  simp [whK]
  omega
 have e2:(whC n a (l.map (·.2))).length=a+ll+(lk - (a+1)):=by
  have:=HLk.out;have:=HLl.out;have:=HEv.out
  simp [whC]
  omega
 refine ⟨_,rfl,⟨_,_,_,rfl,?_,World.ownsRow_nil _ _ _ _,?_⟩,HBs.out⟩
 ·rw [e1,show strs (whK n a (l.map (·.1)))=(strs n.ks).take a++strs (firstK n.ks a (l.map (·.1)) :: (l.map (·.1)).drop 1)++(strs n.ks).drop (a+1) from by simp [whK,strs]]
  exact HU5.out
 ·rw [e2,show ints (whC n a (l.map (·.2)))=(ints n.cs).take a++ints (l.map (·.2))++(ints n.cs).drop (a+1) from by simp [whC,ints]]
  exact HX5.out
end Go.Proofs.YtcbogiebfbbmbaaGreatDoor
