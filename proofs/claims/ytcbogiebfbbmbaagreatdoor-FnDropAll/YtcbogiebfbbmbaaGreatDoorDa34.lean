/-
  Facts and contracts that the law's own text rests on, by their texts' names: ImplDrop.
-/
import Derived.Test.YtcbogiebfbbmbaaGreatDoorDa32
import Derived.Test.YtcbogiebfbbmbaaGreatDoorDa29
import Derived.Test.YtcbogiebfbbmbaaGreatDoorDa12
import Derived.Test.YtcbogiebfbbmbaaGreatDoorDa33
import Derived.Test.YtcbogiebfbbmbaaGreatDoorDa21
set_option maxHeartbeats 16000000
set_option maxRecDepth 100000
namespace Go.Proofs.YtcbogiebfbbmbaaGreatDoor
open Go.RowKit
theorem zn6 {us out hp:List Int} {page:Int} (ha:us.Pairwise (·<·)) (hn:page∉us) (ho:out.Pairwise (·<·)) (hm:∀x,x∈out↔x∈hp) (hh:∀y,y∈hp↔y∈us\/y=page):out=srtL (us++ [page]):=by
 refine zjg ((List.perm_ext_iff_of_nodup (ho.imp (fun h=>Int.ne_of_lt h)) ?_).2 (fun x=>by rw [hm,hh];simp)) (ho.imp (fun h=>Int.le_of_lt h))
 refine List.nodup_append.2 ⟨ha.imp (fun h=>Int.ne_of_lt h),by simp,fun x hx y hy=> ?_⟩
 simp at hy
 subst hy
 exact fun e=>hn (e▸hx)
theorem zn7 (vp vl vn vu vg vf:Value) (fs:List Int) (hfs:fs.length<=1048576) (page:Int) (w:World) (hr:RowAt w 1 vf fs.length (ints fs)):
  Calls Tryz.prog 97 #[.agg #[vp,vl,vn,vu,vg,vf],.int .i64 page] w fun e w'=>e= .returned (.bool (decide (page∈fs)))/\Below w.heap.size w w':=by
 obtain ⟨w0,hw0⟩:∃x,x=w.alloc (.cells #[vp,vl,vn,vu,vg,vf] 34):=⟨_,rfl⟩
 have hb0:Below w.heap.size w w0:=by rw [hw0];exact (Below.refl _ _).alloc (Nat.le_refl _) _
 have h0:w0.heap[w.heap.size]?=some (.cells #[vp,vl,vn,vu,vg,vf] 34 (0,0)):=by rw [hw0];exact heap_alloc_new w _
 have c5:=(za0 h0 5).1;obtain ⟨xf,cf,rfl⟩:=zdo hr;have HC:=hide (ziH fs hfs page (.slice xf fs.length cf) w0 (za8 hr hb0));have HB:=hide hb0;clear hb0 h0 hr;go_enter Tryz.func97,Tryz.ntmps97;go_wp2_with fail;rw [<-hw0];clear hw0;go_wp2_with fail;refine HC.out.mono ?_;rintro e w2 ⟨rfl,rfl⟩;go_wp2_with fail;go_ret;exact ⟨rfl,HB.out⟩
theorem zc1 (v:Value) (k:Wk) (hk:k.small) (hu:k.us.length<=1000000) (hgs:k.gs.length<2000000) (hfs:k.fs.length<=1048576) (page:Int) (hasc:k.us.Pairwise (·<·)) (hpn:page∈k.fs->page∉k.us) (w:World) (hd:WorkAt w v k):
  Calls Tryz.prog 73 #[v,.int .i64 page] w fun e w'=>∃v',e= .returned v'/\WorkNw w' w.heap.size v' (dropS k page)/\Below w.heap.size w w':=by
 have HC:=hide (fun u wx h=>zc5 u k hk wx h)
 have HD:=hide hd;obtain ⟨vp,vl,vu,vg,vf,rfl,h1,h2,h3,h4,-⟩:=hd;obtain ⟨nx,hnx⟩:∃n,n=k.next:=⟨_,rfl⟩;rw [<-hnx] at HD⊢;have HAsc:=hide hasc;have HPn:=hide hpn;have HNx:=hide hnx;clear hk h1 h2 h3 h4 hasc hpn hnx;obtain ⟨w0,hw0⟩:∃w0,w0=((w.alloc (Obj.cells #[vp,vl,.int .i64 nx,vu,vg,vf] 34)).alloc (Obj.cells #[.int .i64 page] 3)).alloc (Obj.cells #[.slice none 0 0,.slice none 0 0,.int .i64 0,.slice none 0 0,.slice none 0 0,.slice none 0 0] 34):=⟨_,rfl⟩
 have hb0:Below w.heap.size w w0:=by rw [hw0];exact (((Below.refl w.heap.size w).alloc (Nat.le_refl _) _).alloc (by simp) _).alloc (by simp;omega) _
 obtain ⟨a0,ha0⟩:∃a,a=w.heap.size:=⟨_,rfl⟩
 have hz0:w0.heap.size=a0+3:=by rw [hw0,ha0];simp
 have q0:w0.heap[a0]?=some (Obj.cells #[vp,vl,.int .i64 nx,vu,vg,vf] 34):=by
  rw [hw0,heap_alloc_old _ _ (by simp;omega),heap_alloc_old _ _ (by simp;omega),ha0]
  exact heap_alloc_new w _
 have q1:w0.heap[a0+1]?=some (Obj.cells #[.int .i64 page] 3):=by
  rw [hw0,heap_alloc_old _ _ (by simp;omega)]
  have h:=heap_alloc_new (w.alloc (Obj.cells #[vp,vl,.int .i64 nx,vu,vg,vf] 34)) (Obj.cells #[.int .i64 page] 3);rw [World.size_alloc,<-ha0] at h;exact h
 have q2:w0.heap[a0+1+1]?=some (Obj.cells #[.slice none 0 0,.slice none 0 0,.int .i64 0,.slice none 0 0,.slice none 0 0,.slice none 0 0] 34):=by
  rw [hw0];have h:=heap_alloc_new ((w.alloc (Obj.cells #[vp,vl,.int .i64 nx,vu,vg,vf] 34)).alloc (Obj.cells #[.int .i64 page] 3)) (Obj.cells #[.slice none 0 0,.slice none 0 0,.int .i64 0,.slice none 0 0,.slice none 0 0,.slice none 0 0] 34);rw [World.size_alloc,World.size_alloc,<-ha0] at h;exact h
 have HB0:=hide hb0;have HQ:=hide (⟨q0,q1,q2⟩:_/\_/\_);have HZ0:=hide hz0;have HA0:=hide ha0;obtain ⟨b0,b1,b2,b3,b4,b5⟩:=blk6c q0;clear hb0 q0 q1 q2 hz0 ha0;go_enter Tryz.func73,Tryz.ntmps73
 go_upto_region 1 with fail
 rw [<-hw0,<-HA0.out];clear hw0;go_wp2_with fail;refine (HC.out _ _ (zae HD.out HB0.out)).mono ?_;rintro e w1 ⟨u,rfl,hnw,hb1⟩;obtain ⟨a1,c1,a2,c2,a3,c3,a4,c4,a5,c5,rfl⟩:=zaR hnw;obtain ⟨-,hS1⟩:=nw_sep hnw;have hnx:=HNx.out;obtain ⟨np,hnp⟩:∃n,n=k.ps.length:=⟨_,rfl⟩;obtain ⟨nl,hnl⟩:∃n,n=k.ls.length:=⟨_,rfl⟩;obtain ⟨nf,hnf⟩:∃n,n=k.fs.length:=⟨_,rfl⟩;obtain ⟨nu,hnu⟩:∃n,n=k.us.length:=⟨_,rfl⟩;obtain ⟨ng,hng⟩:∃n,n=k.gs.length:=⟨_,rfl⟩
 simp only [workL] at hS1
 rw [<-hnp,<-hnl,<-hnf,<-hnu,<-hng] at hS1;rw [<-hnp,<-hnl,<-hnx,<-hnf,<-hnu,<-hng];rw [<-hnu] at hu;rw [<-hng] at hgs;obtain ⟨B,hB⟩:∃B,B=w0.heap.size:=⟨_,rfl⟩;rw [<-hB] at hS1
 have HBz:Hid (B=a0+3/\a0=w.heap.size/\B<=w1.heap.size):=hide ⟨hB.trans HZ0.out,HA0.out,by rw [hB];exact hb1.size⟩
 obtain ⟨g,hg⟩:∃g,g=w1.heap.size:=⟨_,rfl⟩;obtain ⟨w2,hw2⟩:∃wx,wx=w1.alloc (Obj.cells #[.slice a1 np c1,.slice a2 nl c2,.int .i64 nx,.slice a3 nu c3,.slice a4 ng c4,.slice a5 nf c5] 34):=⟨_,rfl⟩;have hS2:=zaB hS1 (Obj.cells #[.slice a1 np c1,.slice a2 nl c2,.int .i64 nx,.slice a3 nu c3,.slice a4 ng c4,.slice a5 nf c5] 34) (HBz.out.2.2)
 have hb2:Below B w0 w2:=by rw [hw2,hB];exact hb1.alloc hb1.size _
 have HB2:Hid (Below a0 w w2):=hide (by rw [HA0.out];exact HB0.out.trans ((by rw [<-hB];exact hb2:Below w0.heap.size w0 w2).mono HB0.out.size))
 rw [<-hw2,<-hg] at hS2
 have hP2:w2.heap[a0+1]?=some (Obj.cells #[.int .i64 page] 3):=zaD HQ.out.2.1 (by rw [<-hB];exact hb2)
 have hR2:w2.heap[a0+1+1]?=some (Obj.cells #[.slice none 0 0,.slice none 0 0,.int .i64 0,.slice none 0 0,.slice none 0 0,.slice none 0 0] 34):=zaD HQ.out.2.2 (by rw [<-hB];exact hb2)
 have hrf:RowAt w2 1 (.slice a5 nf c5) nf (ints k.fs):=zaa (za2 hS2 4 rfl:w2.ownsRow B 3 1 (.slice a5 nf c5) nf (ints k.fs))
 have HGv:=hide (zn7 (.slice a1 np c1) (.slice a2 nl c2) (.int .i64 nx) (.slice a3 nu c3) (.slice a4 ng c4) (.slice a5 nf c5) k.fs hfs page w2 (by rw [<-hnf];exact hrf))
 have HL:=hide (⟨hnp,hnl,hnx,hnf,hnu,hng⟩:_/\_/\_/\_/\_/\_);have HG:=hide hg
 have hgz:g<w2.heap.size:=by rw [hw2,hg];simp
 have HGz:Hid (B<=g/\g<w2.heap.size):=hide ⟨by rw [hg];exact HBz.out.2.2,hgz⟩
 obtain ⟨v0,v1,v2,v3,v4,v5⟩:=blk6c (za2 hS2 0 rfl:w2.heap[g]?=some (Obj.cells #[.slice a1 np c1,.slice a2 nl c2,.int .i64 nx,.slice a3 nu c3,.slice a4 ng c4,.slice a5 nf c5] 34));have pg:=(za0 hP2 0).1;have HS2:=hide hS2;have HP2:=hide hP2;have HR2:=hide hR2;clear hnp hnl hnx hnf hnu hng hS1 hS2 hP2 hR2 hrf hnw hb1 hb2 hB hg hgz b0 b1 b2 b3 b4 b5 HC HD
 go_upto_region 2 with fail
 rw [<-hw2,<-HG.out];clear hw2;go_wp2_with fail;refine HGv.out.mono ?_;rintro e w3 ⟨rfl,hb3⟩;have HS3:=hide (zb5 HS2.out hb3);have HP3:=hide (zaD HP2.out hb3);have HR3:=hide (zaD HR2.out hb3)
 have HB3:Hid (Below a0 w w3):=hide (HB2.out.trans (hb3.mono (by have:=HBz.out;have:=HGz.out;omega)))
 have HZ3:Hid (B<=w3.heap.size/\a0+1+1<B/\B<=g):=hide ⟨by have:=HGz.out;have:=hb3.size;omega,by have:=HBz.out.1;omega,HGz.out.1⟩
 clear hb3 HS2 HP2 HR2 HB2 HGv v0 v1 v2 v3 v4 v5 pg;obtain ⟨v0,v1,v2,v3,v4,v5⟩:=blk6c (za2 HS3.out 0 rfl:w3.heap[g]?=some (Obj.cells #[.slice a1 np c1,.slice a2 nl c2,.int .i64 nx,.slice a3 nu c3,.slice a4 ng c4,.slice a5 nf c5] 34));have pg:=(za0 HP3.out 0).1;have hz3:=HZ3.out.1
 by_cases hin:page∈k.fs
 ·rw [decide_eq_true hin]
  obtain ⟨b5,d5,e5⟩:=zdN (za2 HS3.out 4 rfl:w3.ownsRow B 3 1 (.slice a5 nf c5) nf (ints k.fs)) (by rw [HL.out.2.2.2.1];exact List.length_pos_of_mem hin)
  injection e5 with e5a e5b e5c
  subst e5a e5c;have hb5:B<=b5/\b5<w3.heap.size:=zcv HS3.out 4 rfl b5 rfl
  have hne5:a0+1≠b5:=by have:=HZ3.out;omega
  have HDel:=hide (zn4 k.fs hfs page hin (a0+1) b5 c5 B hne5 w3 (by have h:=(za2 HS3.out 4 rfl:w3.ownsRow B 3 1 (.slice (some ⟨b5,0,none⟩) nf c5) nf (ints k.fs));rw [HL.out.2.2.2.1] at h;exact h) HP3.out)
  have HIn:=hide hin;have hun:=HPn.out hin
  obtain ⟨ff,hff⟩:∃l,l=k.fs.filter (fun x=>x !=page):=⟨_,rfl⟩
  obtain ⟨nq,hnq⟩:∃n,n=ff.length:=⟨_,rfl⟩;rw [<-HL.out.2.2.2.1,<-hff,<-hnq] at HDel;have HFF:=hide (⟨hff,hnq,hun,hb5.1⟩:_/\_/\_/\_);clear hin hun hff hnq hne5;go_wp2_with fail;refine HDel.out.mono ?_;rintro e w4 ⟨rfl,ho4,hk4,hz4⟩
  have hS4:=ze5 HS3.out 4 rfl (zi8 hk4 (fun j _ h=>by subst h;rfl)) (rowA B 3 1 (.slice (some ⟨b5,0,none⟩) nq c5) nq (ints ff)) ho4 (fun k hk=>⟨Or.inl hk,(ho4.lt k hk).2⟩) hz3
  have hP4:w4.heap[a0+1]?=some (Obj.cells #[.int .i64 page] 3 (0,0)):=(hk4.2.2.2.2 _ (Array.getElem?_eq_some_iff.1 HP3.out).1 (fun e=>by have:=HZ3.out;omega)).trans HP3.out
  have hR4:w4.heap[a0+1+1]?=some (Obj.cells #[.slice none 0 0,.slice none 0 0,.int .i64 0,.slice none 0 0,.slice none 0 0,.slice none 0 0] 34 (0,0)):=(hk4.2.2.2.2 _ (Array.getElem?_eq_some_iff.1 HR3.out).1 (fun e=>by have:=HZ3.out;omega)).trans HR3.out
  have hb4:Below a0 w w4:=HB3.out.trans (zac hk4 (by have:=HZ3.out;omega) (fun k e=>by have:=HZ3.out;omega))
  have hz4:B<=w4.heap.size:=by rw [hz4];exact hz3
  clear v0 v1 v2 v3 v4 v5 pg ho4 hk4 HDel HS3 HP3 HR3 HB3 hb5;obtain ⟨v0,v1,v2,v3,v4,v5⟩:=blk6c (za2 hS4 0 rfl:w4.heap[g]?=some (Obj.cells #[.slice a1 np c1,.slice a2 nl c2,.int .i64 nx,.slice a3 nu c3,.slice a4 ng c4,.slice (some ⟨b5,0,none⟩) nf c5] 34));have z5:=(za0 (za2 hS4 0 rfl:w4.heap[g]?=some (Obj.cells #[.slice a1 np c1,.slice a2 nl c2,.int .i64 nx,.slice a3 nu c3,.slice a4 ng c4,.slice (some ⟨b5,0,none⟩) nf c5] 34)) 5).2;have HS5:=hide (zb6 hS4 0 rfl 5 (.slice (some ⟨b5,0,none⟩) nq c5));clear hS4
  go_upto_region 6 with fail
  obtain ⟨w5,hw5⟩:∃x,x=w4.setCell ⟨g,5,none⟩ (.slice (some ⟨b5,0,none⟩) nq c5):=⟨_,rfl⟩
  have hb5:Below a0 w w5:=by rw [hw5];exact hb4.setCell (by have:=HZ3.out;show a0<=g;omega) _
  have hz5:B<=w5.heap.size:=by rw [hw5];simpa using hz4
  have hP5:w5.heap[a0+1]?=some (Obj.cells #[.int .i64 page] 3 (0,0)):=by rw [hw5];exact (heap_setCell_other w4 ⟨g,5,none⟩ (a0+1) _ (by have:=HZ3.out;show a0+1≠g;omega)).trans hP4
  have hR5:w5.heap[a0+1+1]?=some (Obj.cells #[.slice none 0 0,.slice none 0 0,.int .i64 0,.slice none 0 0,.slice none 0 0,.slice none 0 0] 34 (0,0)):=by rw [hw5];exact (heap_setCell_other w4 ⟨g,5,none⟩ (a0+1+1) _ (by have:=HZ3.out;show a0+1+1≠g;omega)).trans hR4
  rw [<-hw5] at HS5⊢;have hg5:w5.heap[g]?=some (Obj.cells #[.slice a1 np c1,.slice a2 nl c2,.int .i64 nx,.slice a3 nu c3,.slice a4 ng c4,.slice (some ⟨b5,0,none⟩) nq c5] 34 (0,0)):=za2 HS5.out 0 rfl
  have hS6:=zb3 (pre:= [cellA w5.heap.size (Obj.cells #[.slice a3 nu c3] 147),cellA g (Obj.cells #[.slice a1 np c1,.slice a2 nl c2,.int .i64 nx,.slice a3 nu c3,.slice a4 ng c4,.slice (some ⟨b5,0,none⟩) nq c5] 34),diskA B (.agg #[.slice a1 np c1,.slice a2 nl c2]) k.ps k.ls,rowA B 3 1 (.slice a3 nu c3) nu (ints k.us),rowA B 3 1 (.slice a4 ng c4) ng (ints k.gs),rowA B 3 1 (.slice (some ⟨b5,0,none⟩) nq c5) nq (ints ff)]) (rest:= []) (zaB HS5.out (Obj.cells #[.slice a3 nu c3] 147) hz5) [0,3,1,2,4,5] (by decide) [cellA w5.heap.size (Obj.cells #[.slice a3 nu c3] 147),rowA B 3 1 (.slice a3 nu c3) nu (ints k.us),cellA g (Obj.cells #[.slice a1 np c1,.slice a2 nl c2,.int .i64 nx,.slice a3 nu c3,.slice a4 ng c4,.slice (some ⟨b5,0,none⟩) nq c5] 34),diskA B (.agg #[.slice a1 np c1,.slice a2 nl c2]) k.ps k.ls,rowA B 3 1 (.slice a4 ng c4) ng (ints k.gs),rowA B 3 1 (.slice (some ⟨b5,0,none⟩) nq c5) nq (ints ff)] rfl
  obtain ⟨h,hh⟩:∃h,h=w5.heap.size:=⟨_,rfl⟩;obtain ⟨w6,hw6⟩:∃x,x=w5.alloc (Obj.cells #[.slice a3 nu c3] 147):=⟨_,rfl⟩;obtain ⟨R,hR⟩:∃R,R= [cellA g (Obj.cells #[.slice a1 np c1,.slice a2 nl c2,.int .i64 nx,.slice a3 nu c3,.slice a4 ng c4,.slice (some ⟨b5,0,none⟩) nq c5] 34),diskA B (.agg #[.slice a1 np c1,.slice a2 nl c2]) k.ps k.ls,rowA B 3 1 (.slice a4 ng c4) ng (ints k.gs),rowA B 3 1 (.slice (some ⟨b5,0,none⟩) nq c5) nq (ints ff)]:=⟨_,rfl⟩
  have hb6:Below w5.heap.size w5 w6:=by rw [hw6];exact (Below.refl _ _).alloc (Nat.le_refl _) _
  have hz6:B<=w6.heap.size:=Nat.le_trans hz5 hb6.size
  have HS6:Hid (HpS B w6 h (.slice a3 nu c3) k.us R):=hide (by rw [HpS,<-HL.out.2.2.2.2.1,hR,hh,hw6];exact hS6)
  have HB6:Hid (Below a0 w w6):=hide (hb5.trans (hb6.mono (by have:=HZ3.out;omega)))
  have HP6:=hide (zaD hP5 hb6);have HR6:=hide (zaD hR5 hb6);have HZ6:=hide hz6;have HHp:=hide (hp_asc HAsc.out)
  have HUl:Hid (k.us.length<=1000000):=hide (by rw [<-HL.out.2.2.2.2.1];exact hu)
  have HIni:=hide (ziK B h (.slice a3 nu c3) k.us R HHp.out (by have:=HUl.out;omega) w6 HZ6.out HS6.out)
  have HR:=hide hR;have HHh:=hide hh;obtain ⟨-,-,-,y3,-,-⟩:=blk6c hg5;clear hS6 hb6 hz6 hw5 hb5 hz5 hP4 hR4 hP5 hR5 hg5 hb4 hz4 hR hh v0 v1 v2 v3 v4 v5 z5 HS5 HS6;rw [hpI] at HIni
  go_upto_region 7 with fail
  rw [<-hw6,<-HHh.out];clear hw6 y3;go_wp2_with fail;refine HIni.out.mono ?_;rintro e w7 ⟨rfl,hs7,hb7⟩;have HS7:=hide hs7
  have HB7:Hid (Below a0 w w7):=hide (HB6.out.trans (hb7.mono (by have:=HZ3.out;omega)))
  have HZ7:Hid (B<=w7.heap.size):=hide (Nat.le_trans HZ6.out hb7.size);have HR7:=hide ((hb7.block _ HZ3.out.2.1).trans HR6.out)
  have pg:=(za0 ((hb7.block _ (by have:=HZ3.out;omega)).trans HP6.out) 0).1
  have HPu:=hide (ziJ B h (.slice a3 nu c3) k.us R page (by have:=HUl.out;omega) w7 HZ7.out HS7.out)
  rw [hpI] at HPu;clear hs7 hb7 HIni HP6 HR6 HB6;go_wp2_with fail;refine HPu.out.mono ?_;rintro e w8 ⟨rfl,v8,hs8,hb8⟩
  have HB8:Hid (Below a0 w w8):=hide (HB7.out.trans (hb8.mono (by have:=HZ3.out;omega)))
  have HZ8:Hid (B<=w8.heap.size):=hide (Nat.le_trans HZ7.out hb8.size);have HR8:=hide ((hb8.block _ HZ3.out.2.1).trans HR7.out);have hpu:=push_hp HHp.out page
  have HAs:=hide (zgF B h v8 _ R hpu.1 (by rw [zhk];simp;have:=HUl.out;omega) w8 HZ8.out hs8)
  have HMem:=hide hpu.2;clear hs8 hb8 hpu HPu HR7 HB7 HS7 pg;go_wp2_with fail;refine HAs.out.mono ?_;rintro e w9 ⟨⟨v9,vh,out,rfl,ho1,ho2,ho3,hs9⟩,hb9⟩
  have HB9:Hid (Below a0 w w9):=hide (HB8.out.trans (hb9.mono (by have:=HZ3.out;omega)))
  have HR9:=hide ((hb9.block _ HZ3.out.2.1).trans HR8.out);have HOut:Hid (out=srtL (k.us++ [page])):=hide (zn6 HAsc.out HFF.out.2.2.1 ho1 ho2 HMem.out);rw [HpS,HR.out] at hs9;obtain ⟨a9,c9,rfl⟩:=za4 (za2 hs9 2 rfl:w9.ownsRow B 3 1 v9 out.length (ints out));obtain ⟨no,hno⟩:∃n,n=out.length:=⟨_,rfl⟩;rw [<-hno] at hs9⊢;have hs10:=zb6 hs9 3 rfl 3 (.slice a9 no c9);have HS10:=hide hs10;have HNo:=hide hno;obtain ⟨v0,v1,v2,v3,v4,v5⟩:=blk6c (za2 hs9 3 rfl:w9.heap[g]?=some (Obj.cells #[.slice a1 np c1,.slice a2 nl c2,.int .i64 nx,.slice a3 nu c3,.slice a4 ng c4,.slice (some ⟨b5,0,none⟩) nq c5] 34));have z3:=(za0 (za2 hs9 3 rfl:w9.heap[g]?=some (Obj.cells #[.slice a1 np c1,.slice a2 nl c2,.int .i64 nx,.slice a3 nu c3,.slice a4 ng c4,.slice (some ⟨b5,0,none⟩) nq c5] 34)) 3).2;obtain ⟨r0,r1,r2,r3,r4,r5⟩:=blk6c HR9.out;have y0:=(za0 HR9.out 0).2;have y1:=(za0 HR9.out 1).2;have y2:=(za0 HR9.out 2).2;have y3:=(za0 HR9.out 3).2;have y4:=(za0 HR9.out 4).2;have y5:=(za0 HR9.out 5).2
  have hne:a0+1+1≠g:=by have:=HZ3.out;omega
  have HR10:Hid ((w9.setCell ⟨g,3,none⟩ (.slice a9 no c9)).heap[a0+1+1]?=some (Obj.cells #[.slice none 0 0,.slice none 0 0,.int .i64 0,.slice none 0 0,.slice none 0 0,.slice none 0 0] 34)):=hide ((heap_setCell_other w9 ⟨g,3,none⟩ (a0+1+1) _ hne).trans HR9.out);clear hs9 hs10 hb9 ho1 ho2 ho3 hno HAs HR8 HB8;go_wp2_with fail;obtain ⟨hnp,hnl,hnx,hnf,hnu,hng⟩:=HL.out
  have hnw:WorkNw (w9.setCell ⟨g,3,none⟩ (.slice a9 no c9)) B (.agg #[.slice a1 np c1,.slice a2 nl c2,.int .i64 nx,.slice a9 no c9,.slice a4 ng c4,.slice (some ⟨b5,0,none⟩) nq c5]) {k with us:=out,fs:=ff}:=by
   have h:=zhJ (k:={k with us:=out,fs:=ff}) (zb3 (pre:= [cellA h (Obj.cells #[vh] 147),rowA B 3 1 vh 0 (ints []),rowA B 3 1 (.slice a9 no c9) no (ints out),cellA g (Obj.cells #[.slice a1 np c1,.slice a2 nl c2,.int .i64 nx,.slice a9 no c9,.slice a4 ng c4,.slice (some ⟨b5,0,none⟩) nq c5] 34),diskA B (.agg #[.slice a1 np c1,.slice a2 nl c2]) k.ps k.ls,rowA B 3 1 (.slice a4 ng c4) ng (ints k.gs),rowA B 3 1 (.slice (some ⟨b5,0,none⟩) nq c5) nq (ints ff)]) (rest:= []) HS10.out [4,2,5,6] (by decide) (workN B (.slice a1 np c1) (.slice a2 nl c2) (.slice a9 no c9) (.slice a4 ng c4) (.slice (some ⟨b5,0,none⟩) nq c5) {k with us:=out,fs:=ff} no ng nq) rfl)
   rw [hnx];exact h
  have hfin:=zfo (w:=w) HR10.out hnw HZ3.out.2.1 (by have:=HBz.out;omega) (by rw [<-HA0.out];exact HB9.out.setCell (by have:=HZ3.out;show a0<=g;omega) _)
  obtain ⟨f1,f2,f3⟩:=hfin;obtain ⟨q0,q1,q2,q3,q4,q5⟩:=blk6c f1
  refine bodyPost_ret (v:= .agg #[.slice a1 np c1,.slice a2 nl c2,.int .i64 nx,.slice a9 no c9,.slice a4 ng c4,.slice (some ⟨b5,0,none⟩) nq c5]) (by simp [results,Tryz.results73,go_sem,q0,q1,q2,q3,q4,q5]) rfl ⟨_,rfl,by rw [dropS,if_pos HIn.out,<-HOut.out,<-HFF.out.1];exact f2,f3⟩
 ·rw [decide_eq_false hin]
  have HNi:=hide hin;clear hin
  have hgs2:ng<=3000000:=by omega
  go_wp2_with (at_builtin;refine zcl HS3.out 3 rfl (Nat.le_refl _) hz3 hz3 rfl (.tmp 14) (.tmp 16) rfl rfl page rfl rfl hgs2 ?_)
  intro b c w4 hS4 hb4
  have HB4:Hid (Below a0 w w4):=hide (HB3.out.trans (hb4.mono (by have:=HZ3.out;omega)))
  clear v0 v1 v2 v3 v4 v5 pg;obtain ⟨v0,v1,v2,v3,v4,v5⟩:=blk6c (za2 hS4 0 rfl:w4.heap[g]?=some (Obj.cells #[.slice a1 np c1,.slice a2 nl c2,.int .i64 nx,.slice a3 nu c3,.slice a4 ng c4,.slice a5 nf c5] 34));have z4:=(za0 (za2 hS4 0 rfl:w4.heap[g]?=some (Obj.cells #[.slice a1 np c1,.slice a2 nl c2,.int .i64 nx,.slice a3 nu c3,.slice a4 ng c4,.slice a5 nf c5] 34)) 4).2;have HS5:=hide (zb6 hS4 0 rfl 4 (.slice (some ⟨b,0,none⟩) (ng+1) c));have hR4:w4.heap[a0+1+1]?=some (Obj.cells #[.slice none 0 0,.slice none 0 0,.int .i64 0,.slice none 0 0,.slice none 0 0,.slice none 0 0] 34):=(hb4.block _ HZ3.out.2.1).trans HR3.out;obtain ⟨r0,r1,r2,r3,r4,r5⟩:=blk6c hR4;have y0:=(za0 hR4 0).2;have y1:=(za0 hR4 1).2;have y2:=(za0 hR4 2).2;have y3:=(za0 hR4 3).2;have y4:=(za0 hR4 4).2;have y5:=(za0 hR4 5).2
  have hne:a0+1+1≠g:=by have:=HZ3.out;omega
  have HR5:Hid ((w4.setCell ⟨g,4,none⟩ (.slice (some ⟨b,0,none⟩) (ng+1) c)).heap[a0+1+1]?=some (Obj.cells #[.slice none 0 0,.slice none 0 0,.int .i64 0,.slice none 0 0,.slice none 0 0,.slice none 0 0] 34)):=hide ((heap_setCell_other w4 ⟨g,4,none⟩ (a0+1+1) _ hne).trans hR4);clear hS4 hb4 hR4;go_wp2_with fail;obtain ⟨hnp,hnl,hnx,hnf,hnu,hng⟩:=HL.out
  have hnw:WorkNw (w4.setCell ⟨g,4,none⟩ (.slice (some ⟨b,0,none⟩) (ng+1) c)) B (.agg #[.slice a1 np c1,.slice a2 nl c2,.int .i64 nx,.slice a3 nu c3,.slice (some ⟨b,0,none⟩) (ng+1) c,.slice a5 nf c5]) {k with gs:=k.gs++ [page]}:=by
   have h:=zhJ (k:={k with gs:=k.gs++ [page]}) (zfS HS5.out (workN B (.slice a1 np c1) (.slice a2 nl c2) (.slice a3 nu c3) (.slice (some ⟨b,0,none⟩) (ng+1) c) (.slice a5 nf c5) {k with gs:=k.gs++ [page]} nu (ng+1) nf) (List.Sublist.cons _ (List.Sublist.refl _)))
   rw [hnx];exact h
  have hfin:=zfo (w:=w) HR5.out hnw HZ3.out.2.1 (by have:=HBz.out;omega) (by rw [<-HA0.out];exact HB4.out.setCell (by have:=HZ3.out;show a0<=g;omega) _)
  obtain ⟨f1,f2,f3⟩:=hfin;obtain ⟨q0,q1,q2,q3,q4,q5⟩:=blk6c f1
  refine bodyPost_ret (v:= .agg #[.slice a1 np c1,.slice a2 nl c2,.int .i64 nx,.slice a3 nu c3,.slice (some ⟨b,0,none⟩) (ng+1) c,.slice a5 nf c5]) (by simp [results,Tryz.results73,go_sem,q0,q1,q2,q3,q4,q5]) rfl ⟨_,rfl,by rw [dropS,if_neg HNi.out];exact f2,f3⟩
end Go.Proofs.YtcbogiebfbbmbaaGreatDoor
