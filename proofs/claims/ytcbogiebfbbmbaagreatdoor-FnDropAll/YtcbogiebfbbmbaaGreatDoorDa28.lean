/-
  Facts and contracts that the law's own text rests on, by their texts' names: WithPart.
-/
import Derived.BigQuiet
import Derived.Deep.Cut
import Derived.Laws.CopyOwn
import Derived.Laws.MakeOwn
import Derived.Test.YtcbogiebfbbmbaaGreatDoorDa1
set_option maxHeartbeats 16000000
set_option maxRecDepth 100000
namespace Go.Proofs.YtcbogiebfbbmbaaGreatDoor
open Go.RowKit
theorem Tryz.infoStrP:(Tryz.prog.info? 9).map (fun i=>(i.zero,i.size,i.bytes))=some (some (.string ⟨#[]⟩),1,16):=by kernel_rfl
theorem Tryz.infoIntP:(Tryz.prog.info? 3).map (fun i=>(i.zero,i.size,i.bytes))=some (some (.int .i64 0),1,8):=by kernel_rfl
theorem Tryz.onePart9:(Tryz.prog.info? 9).map (·.size)=some 1:=by kernel_rfl
theorem Tryz.onePart3:(Tryz.prog.info? 3).map (·.size)=some 1:=by kernel_rfl
theorem zaT (b o j:Nat):(⟨b,o,none⟩:Addr).add j=⟨b,o+j,none⟩:=by unfold Addr.add;split <;> simp_all
theorem zd2 {P:Program} (wx:World) (t:TypeId) {e:TypeId} (ht:P.underlying t=some (.slice e)) (hs:(P.info? e).map (·.size)=some 1) (g N i:Nat) (hi:i<=N):(Instr.slice t (.slice (some ⟨g,0,none⟩) N N) (some (.int .i64 (i:Int))) none none).run P wx= .ok (.slice (some ⟨g,if N=i then 0 else i,none⟩) (N - i) (N - i)) wx:=by
 have ht2:P.underlying t=some (.slice (P.elem t)):=by rw [Program.elem,ht]
 have he:P.elem t=e:=by rw [Program.elem,ht]
 obtain ⟨j,hj,hjs⟩:=Option.map_eq_some_iff.1 hs
 have hz:(sizeOf (P.elem t)).run P wx= .ok 1 wx:=by rw [he];simp [sizeOf,typeInfo,hj,hjs]
 rw [run_slice_l wx t (some ⟨g,0,none⟩) N N ht2 .i64 (i:Int) (by omega) (by omega),hz]
 simp only [Result.andThen,Int.toNat_natCast,sliced]
 by_cases h:N=i
 ·subst h
  simp
 ·rw [if_neg h]
  simp [zaT]
  omega
theorem zdM {w:World} {n c:Nat} {a:Option Addr} {vs:List Value} (h:RowAt w 1 (.slice a n c) n vs) (hn:0<n):∃b off,a=some ⟨b,off,none⟩/\∀wx,Below w.heap.size w wx->∀i,i<n->wx.cell? ⟨b,off+i,none⟩=vs[i]?:=by
 obtain ⟨hl,a',cap,ea,h2⟩:=h
 injection ea with e1 e2 e3
 subst e1
 rcases h2 with h0 | ⟨b,off,rfl,hlt,hc⟩
 ·omega
 ·exact ⟨b,off,rfl,fun wx hb i hi=>by rw [hb.cell (by exact hlt),hc i (by omega)]⟩
theorem zd3 (xs ys:List Value) (hx1:∀u∈xs,u.oneCell'=true) (hy1:∀u∈ys,u.oneCell'=true) (ad ay:Option Addr) (n c m cy a b:Nat) (hab:a<=b) (hbn:b<=n) (hnc:n<=c) (hsz:n+m<=1048576) (w:World) (hx:RowAt w 1 (.slice ad n c) n xs) (hy:RowAt w 1 (.slice ay m cy) m ys):
  Calls Tryz.prog 85 #[.slice ad n c,.int .i64 (a:Int),.int .i64 (b:Int),.slice ay m cy] w fun e w'=>∃v,e= .returned v/\w'.ownsRow w.heap.size 9 1 v (a+m+(n - b)) (xs.take a++ys++xs.drop b)/\Below w.heap.size w w':=by
 obtain ⟨i0,hi,hz0,hz1,hz2⟩:=info_parts Tryz.infoStrP
 have hxl:xs.length=n:=by rw [hx.1];omega
 have hyl:ys.length=m:=by rw [hy.1];omega
 obtain ⟨X1,hX1⟩:∃X,X=xs.take a:=⟨_,rfl⟩;obtain ⟨X2,hX2⟩:∃X,X=xs.drop b:=⟨_,rfl⟩
 have l1:X1.length=a:=by rw [hX1,List.length_take];omega
 have l2:X2.length=n - b:=by rw [hX2,List.length_drop];omega
 have HX1:Hid (∀u∈X1,u.oneCell'=true):=hide (fun u hu=>hx1 u (by rw [hX1] at hu;exact List.mem_of_mem_take hu))
 have HX2:Hid (∀u∈X2,u.oneCell'=true):=hide (fun u hu=>hx1 u (by rw [hX2] at hu;exact List.mem_of_mem_drop hu))
 have HY1:=hide hy1
 have HSx:Hid (∀wx,Below w.heap.size w wx->0<n->∃bk off,ad=some ⟨bk,off,none⟩/\(∀j v,X1[j]?=some v->wx.cell? ⟨bk,off+j,none⟩=some v)/\∀j v,X2[j]?=some v->wx.cell? ⟨bk,off+(b+j),none⟩=some v):=hide (fun wx hb h0=>by
  obtain ⟨bk,off,e,hc⟩:=zdM hx h0
  refine ⟨bk,off,e,fun j v hj=> ?_,fun j v hj=> ?_⟩
  ·have hlt:=(List.getElem?_eq_some_iff.1 hj).1
   rw [hc wx hb j (by omega),<-hj,hX1,List.getElem?_take_of_lt (by omega)]
  ·have hlt:=(List.getElem?_eq_some_iff.1 hj).1
   rw [hc wx hb (b+j) (by omega),<-hj,hX2,List.getElem?_drop])
 have HSy:Hid (∀wx,Below w.heap.size w wx->0<m->∃bk off,ay=some ⟨bk,off,none⟩/\∀j v,ys[j]?=some v->wx.cell? ⟨bk,off+j,none⟩=some v):=hide (fun wx hb h0=>by
  obtain ⟨bk,off,e,hc⟩:=zdM hy h0
  refine ⟨bk,off,e,fun j v hj=> ?_⟩
  have hlt:=(List.getElem?_eq_some_iff.1 hj).1
  rw [hc wx hb j (by omega),<-hj])
 have hR:xs.take a++ys++xs.drop b=X1++(ys++X2):=by rw [hX1,hX2,List.append_assoc]
 rw [hR];clear hX1 hX2 hx hy hx1 hy1 hR hxl
 have hal:(a:Int)<=(c:Int):=by omega
 have hbl:(b:Int)<=(n:Int):=by omega
 have hcl:(n:Int)<=(c:Int):=by omega
 obtain ⟨N,hN⟩:∃N,N=a+m+(n - b):=⟨_,rfl⟩;obtain ⟨Z,hZ⟩:∃Z:List Value,Z=(madeCells #[.string ⟨#[]⟩] N).toList:=⟨_,rfl⟩
 have hZl:Z.length=N:=by rw [hZ];simp [madeCells]
 have hmk:∀wx:World,(Instr.makeSlice 26 (.int .i64 ((a:Int)+(m:Int)+((n - b:Nat):Int))) (.int .i64 ((a:Int)+(m:Int)+((n - b:Nat):Int)))).run Tryz.prog wx= .ok (.slice (some ⟨wx.heap.size,0,none⟩) N N) (wx.alloc (.cells Z.toArray 9)):=fun wx=>by
  have h:=run_make (P:=Tryz.prog) wx 26 9 i0 (.string ⟨#[]⟩) Tryz.underlying26 hi hz0 .i64 .i64 ((a:Int)+(m:Int)+((n - b:Nat):Int)) ((a:Int)+(m:Int)+((n - b:Nat):Int)) (by omega) (Int.le_refl _) (by rw [hz2];omega) (by omega)
  have e:((a:Int)+(m:Int)+((n - b:Nat):Int)).toNat=N:=by omega
  rw [e,hz1,Nat.mul_one] at h;rw [h,hZ]
  simp
  rfl
 have HN:=hide hN;rw [<-hN];clear hN hZ;go_enter Tryz.func85,Tryz.ntmps85;go_wp2_with fail
 go_quiet (fail)
 have HG1:Hid (((w.drewN nq).alloc (.cells Z.toArray 9)).heap[w.heap.size]?=some (.cells Z.toArray 9 (0,0))):=hide (heap_alloc_new (w.drewN nq) _);have HB1:Hid (Below w.heap.size w ((w.drewN nq).alloc (.cells Z.toArray 9))):=hide ((below_drewN (Below.refl _ _) nq).alloc (Nat.le_refl _) _)
 obtain ⟨ad2,had2⟩:∃z,z=(if c=b then ad else Option.map (fun x=>x.add b) ad):=⟨_,rfl⟩
 rw [<-had2];have HA2:=hide had2;clear had2
 have Hn1:Hid (X1.length=Nat.min a (N)):=hide (by rw [l1];exact (Nat.min_eq_left (by have:=HN.out;omega)).symm)
 have Hf1:Hid (0+X1.length<=Z.length):=hide (by have:=HN.out;omega)
 have Hp1:Hid (0<X1.length->(some ⟨w.heap.size,0,none⟩:Option Addr)=some ⟨w.heap.size,0,none⟩/\∃ad':Addr,ad=some ad'/\∀j v,X1[j]?=some v->((w.drewN nq).alloc (.cells Z.toArray 9)).cell? (ad'.add j)=some v):=hide (fun h0=>by
  obtain ⟨bk,off,e,h1,-⟩:=HSx.out _ HB1.out (by omega)
  exact ⟨rfl,⟨bk,off,none⟩,e,fun j v hj=>by rw [zaT];exact h1 j v hj⟩)
 go_wp2_with ((with_reducible refine wpList_copy_splice ?_ (.tmp 28) (.tmp 29) 26 26 ?_ 9 Tryz.underlying26 Tryz.onePart9 (some ⟨w.heap.size,0,none⟩) (ad) (N) (N) a a ?_ ?_ w.heap.size (0) Z 9 HG1.out X1 Hn1.out Hp1.out Hf1.out HX1.out w.heap.size w HB1.out (Nat.le_refl _) ?_);exact rfl;exact rfl;exact rfl;exact rfl)
 intro w2 HG2 hb2;have HB2:=hide hb2
 have hz2':(splice Z 0 X1).length=N:=by rw [length_splice _ _ _ (by have:=HN.out;omega),hZl]
 obtain ⟨Z2,hZ2⟩:∃Y,Y=splice Z 0 X1:=⟨_,rfl⟩;rw [<-hZ2] at HG2 hz2';have HZ2:=hide hZ2;clear hb2 hZ2 HG1 HB1 hmk
 have hsl2:∀wx:World,(Instr.slice 26 (.slice (some ⟨w.heap.size,0,none⟩) N N) (some (.int .i64 (a:Int))) none none).run Tryz.prog wx= .ok (.slice (some ⟨w.heap.size,if N=a then 0 else a,none⟩) (N - a) (N - a)) wx:=fun wx=>zd2 wx 26 Tryz.underlying26 Tryz.onePart9 w.heap.size N a (by have:=HN.out;omega)
 have hsl3:∀wx:World,(Instr.slice 26 (.slice (some ⟨w.heap.size,0,none⟩) N N) (some (.int .i64 ((a:Int)+(m:Int)))) none none).run Tryz.prog wx= .ok (.slice (some ⟨w.heap.size,if N=a+m then 0 else a+m,none⟩) (N - (a+m)) (N - (a+m))) wx:=fun wx=>by
  have h:=zd2 wx 26 Tryz.underlying26 Tryz.onePart9 w.heap.size N (a+m) (by have:=HN.out;omega)
  rw [Int.natCast_add] at h;exact h
 obtain ⟨o2,ho2⟩:∃o,o=(if N=a then 0 else a):=⟨_,rfl⟩
 obtain ⟨o3,ho3⟩:∃o,o=(if N=a+m then 0 else a+m):=⟨_,rfl⟩
 rw [<-ho2] at hsl2;rw [<-ho3] at hsl3;have HO2:=hide ho2;have HO3:=hide ho3;clear ho2 ho3
 have Hn2:Hid (ys.length=Nat.min m (N - a)):=hide (by rw [hyl];exact (Nat.min_eq_left (by have:=HN.out;omega)).symm)
 have Hf2:Hid (a+ys.length<=Z2.length):=hide (by have:=HN.out;omega)
 have Hp2:Hid (0<ys.length->(some ⟨w.heap.size,o2,none⟩:Option Addr)=some ⟨w.heap.size,a,none⟩/\∃ad':Addr,ay=some ad'/\∀j v,ys[j]?=some v->(w2).cell? (ad'.add j)=some v):=hide (fun h0=>by
  obtain ⟨bk,off,e,h1⟩:=HSy.out _ HB2.out (by omega)
  exact ⟨by rw [HO2.out,if_neg (by have:=HN.out;omega)],⟨bk,off,none⟩,e,fun j v hj=>by rw [zaT];exact h1 j v hj⟩)
 go_wp2_with ((with_reducible refine wpList_copy_splice ?_ (.tmp 33) (.tmp 34) 26 26 ?_ 9 Tryz.underlying26 Tryz.onePart9 (some ⟨w.heap.size,o2,none⟩) (ay) (N - a) (N - a) m cy ?_ ?_ w.heap.size (a) Z2 9 HG2.out ys Hn2.out Hp2.out Hf2.out HY1.out w.heap.size w HB2.out (Nat.le_refl _) ?_);exact rfl;exact rfl;exact rfl;exact rfl)
 intro w3 HG3 hb3;have HB3:=hide hb3
 have hz3':(splice Z2 a ys).length=N:=by rw [length_splice _ _ _ (by have:=HN.out;omega),hz2']
 obtain ⟨Z3,hZ3⟩:∃Y,Y=splice Z2 a ys:=⟨_,rfl⟩;rw [<-hZ3] at HG3 hz3';have HZ3:=hide hZ3;clear hb3 hZ3 HG2 HB2
 have Hn3:Hid (X2.length=Nat.min (n - b) (N - (a+m))):=hide (by rw [l2];exact (Nat.min_eq_left (by have:=HN.out;omega)).symm)
 have Hf3:Hid (a+m+X2.length<=Z3.length):=hide (by have:=HN.out;omega)
 have Hp3:Hid (0<X2.length->(some ⟨w.heap.size,o3,none⟩:Option Addr)=some ⟨w.heap.size,a+m,none⟩/\∃ad':Addr,ad2=some ad'/\∀j v,X2[j]?=some v->(w3).cell? (ad'.add j)=some v):=hide (fun h0=>by
  obtain ⟨bk,off,e,-,h2⟩:=HSx.out _ HB3.out (by omega)
  refine ⟨by rw [HO3.out,if_neg (by have:=HN.out;omega)],⟨bk,off+b,none⟩,by rw [HA2.out,if_neg (by omega),e,Option.map_some,zaT],fun j v hj=>by rw [zaT,Nat.add_assoc];exact h2 j v hj⟩)
 go_wp2_with ((with_reducible refine wpList_copy_splice ?_ (.tmp 41) (.tmp 42) 26 26 ?_ 9 Tryz.underlying26 Tryz.onePart9 (some ⟨w.heap.size,o3,none⟩) (ad2) (N - (a+m)) (N - (a+m)) (n - b) (c - b) ?_ ?_ w.heap.size (a+m) Z3 9 HG3.out X2 Hn3.out Hp3.out Hf3.out HX2.out w.heap.size w HB3.out (Nat.le_refl _) ?_);exact rfl;exact rfl;exact rfl;exact rfl)
 intro w4 HG4 hb4;have HB4:=hide hb4
 have HZ4:Hid (splice Z3 (a+m) X2=X1++(ys++X2)):=hide (by rw [HZ3.out,HZ2.out];exact splice_splice_splice Z X1 ys X2 a m l1 hyl (by have:=HN.out;omega))
 rw [HZ4.out] at HG4;clear hb4;go_wp2_with fail;go_ret
 refine ⟨_,rfl,⟨by simp [l1,l2,hyl];have:=HN.out;omega,Or.inr ⟨w.heap.size,N,_,rfl,Nat.le_refl _,HG4.out,Nat.le_refl _,by unfold maxLen;have:=HN.out;omega,by simp [l1,l2,hyl];have:=HN.out;omega,?_⟩⟩,HB4.out⟩
 exact List.take_of_length_le (by simp [l1,l2,hyl];have:=HN.out;omega)
theorem zeI (xs ys:List Value) (hx1:∀u∈xs,u.oneCell'=true) (hy1:∀u∈ys,u.oneCell'=true) (ad ay:Option Addr) (n c m cy a b:Nat) (hab:a<=b) (hbn:b<=n) (hnc:n<=c) (hsz:n+m<=1048576) (w:World) (hx:RowAt w 1 (.slice ad n c) n xs) (hy:RowAt w 1 (.slice ay m cy) m ys):
  Calls Tryz.prog 86 #[.slice ad n c,.int .i64 (a:Int),.int .i64 (b:Int),.slice ay m cy] w fun e w'=>∃v,e= .returned v/\w'.ownsRow w.heap.size 3 1 v (a+m+(n - b)) (xs.take a++ys++xs.drop b)/\Below w.heap.size w w':=by
 obtain ⟨i0,hi,hz0,hz1,hz2⟩:=info_parts Tryz.infoIntP
 have hxl:xs.length=n:=by rw [hx.1];omega
 have hyl:ys.length=m:=by rw [hy.1];omega
 obtain ⟨X1,hX1⟩:∃X,X=xs.take a:=⟨_,rfl⟩;obtain ⟨X2,hX2⟩:∃X,X=xs.drop b:=⟨_,rfl⟩
 have l1:X1.length=a:=by rw [hX1,List.length_take];omega
 have l2:X2.length=n - b:=by rw [hX2,List.length_drop];omega
 have HX1:Hid (∀u∈X1,u.oneCell'=true):=hide (fun u hu=>hx1 u (by rw [hX1] at hu;exact List.mem_of_mem_take hu))
 have HX2:Hid (∀u∈X2,u.oneCell'=true):=hide (fun u hu=>hx1 u (by rw [hX2] at hu;exact List.mem_of_mem_drop hu))
 have HY1:=hide hy1
 have HSx:Hid (∀wx,Below w.heap.size w wx->0<n->∃bk off,ad=some ⟨bk,off,none⟩/\(∀j v,X1[j]?=some v->wx.cell? ⟨bk,off+j,none⟩=some v)/\∀j v,X2[j]?=some v->wx.cell? ⟨bk,off+(b+j),none⟩=some v):=hide (fun wx hb h0=>by
  obtain ⟨bk,off,e,hc⟩:=zdM hx h0
  refine ⟨bk,off,e,fun j v hj=> ?_,fun j v hj=> ?_⟩
  ·have hlt:=(List.getElem?_eq_some_iff.1 hj).1
   rw [hc wx hb j (by omega),<-hj,hX1,List.getElem?_take_of_lt (by omega)]
  ·have hlt:=(List.getElem?_eq_some_iff.1 hj).1
   rw [hc wx hb (b+j) (by omega),<-hj,hX2,List.getElem?_drop])
 have HSy:Hid (∀wx,Below w.heap.size w wx->0<m->∃bk off,ay=some ⟨bk,off,none⟩/\∀j v,ys[j]?=some v->wx.cell? ⟨bk,off+j,none⟩=some v):=hide (fun wx hb h0=>by
  obtain ⟨bk,off,e,hc⟩:=zdM hy h0
  refine ⟨bk,off,e,fun j v hj=> ?_⟩
  have hlt:=(List.getElem?_eq_some_iff.1 hj).1
  rw [hc wx hb j (by omega),<-hj])
 have hR:xs.take a++ys++xs.drop b=X1++(ys++X2):=by rw [hX1,hX2,List.append_assoc]
 rw [hR];clear hX1 hX2 hx hy hx1 hy1 hR hxl
 have hal:(a:Int)<=(c:Int):=by omega
 have hbl:(b:Int)<=(n:Int):=by omega
 have hcl:(n:Int)<=(c:Int):=by omega
 obtain ⟨N,hN⟩:∃N,N=a+m+(n - b):=⟨_,rfl⟩;obtain ⟨Z,hZ⟩:∃Z:List Value,Z=(madeCells #[.int .i64 0] N).toList:=⟨_,rfl⟩
 have hZl:Z.length=N:=by rw [hZ];simp [madeCells]
 have hmk:∀wx:World,(Instr.makeSlice 32 (.int .i64 ((a:Int)+(m:Int)+((n - b:Nat):Int))) (.int .i64 ((a:Int)+(m:Int)+((n - b:Nat):Int)))).run Tryz.prog wx= .ok (.slice (some ⟨wx.heap.size,0,none⟩) N N) (wx.alloc (.cells Z.toArray 3)):=fun wx=>by
  have h:=run_make (P:=Tryz.prog) wx 32 3 i0 (.int .i64 0) Tryz.underlying32 hi hz0 .i64 .i64 ((a:Int)+(m:Int)+((n - b:Nat):Int)) ((a:Int)+(m:Int)+((n - b:Nat):Int)) (by omega) (Int.le_refl _) (by rw [hz2];omega) (by omega)
  have e:((a:Int)+(m:Int)+((n - b:Nat):Int)).toNat=N:=by omega
  rw [e,hz1,Nat.mul_one] at h;rw [h,hZ]
  simp
  rfl
 have HN:=hide hN;rw [<-hN];clear hN hZ;go_enter Tryz.func86,Tryz.ntmps86;go_wp2_with fail
 go_quiet (fail)
 have HG1:Hid (((w.drewN nq).alloc (.cells Z.toArray 3)).heap[w.heap.size]?=some (.cells Z.toArray 3 (0,0))):=hide (heap_alloc_new (w.drewN nq) _);have HB1:Hid (Below w.heap.size w ((w.drewN nq).alloc (.cells Z.toArray 3))):=hide ((below_drewN (Below.refl _ _) nq).alloc (Nat.le_refl _) _)
 obtain ⟨ad2,had2⟩:∃z,z=(if c=b then ad else Option.map (fun x=>x.add b) ad):=⟨_,rfl⟩
 rw [<-had2];have HA2:=hide had2;clear had2
 have Hn1:Hid (X1.length=Nat.min a (N)):=hide (by rw [l1];exact (Nat.min_eq_left (by have:=HN.out;omega)).symm)
 have Hf1:Hid (0+X1.length<=Z.length):=hide (by have:=HN.out;omega)
 have Hp1:Hid (0<X1.length->(some ⟨w.heap.size,0,none⟩:Option Addr)=some ⟨w.heap.size,0,none⟩/\∃ad':Addr,ad=some ad'/\∀j v,X1[j]?=some v->((w.drewN nq).alloc (.cells Z.toArray 3)).cell? (ad'.add j)=some v):=hide (fun h0=>by
  obtain ⟨bk,off,e,h1,-⟩:=HSx.out _ HB1.out (by omega)
  exact ⟨rfl,⟨bk,off,none⟩,e,fun j v hj=>by rw [zaT];exact h1 j v hj⟩)
 go_wp2_with ((with_reducible refine wpList_copy_splice ?_ (.tmp 28) (.tmp 29) 32 32 ?_ 3 Tryz.underlying32 Tryz.onePart3 (some ⟨w.heap.size,0,none⟩) (ad) (N) (N) a a ?_ ?_ w.heap.size (0) Z 3 HG1.out X1 Hn1.out Hp1.out Hf1.out HX1.out w.heap.size w HB1.out (Nat.le_refl _) ?_);exact rfl;exact rfl;exact rfl;exact rfl)
 intro w2 HG2 hb2;have HB2:=hide hb2
 have hz2':(splice Z 0 X1).length=N:=by rw [length_splice _ _ _ (by have:=HN.out;omega),hZl]
 obtain ⟨Z2,hZ2⟩:∃Y,Y=splice Z 0 X1:=⟨_,rfl⟩;rw [<-hZ2] at HG2 hz2';have HZ2:=hide hZ2;clear hb2 hZ2 HG1 HB1 hmk
 have hsl2:∀wx:World,(Instr.slice 32 (.slice (some ⟨w.heap.size,0,none⟩) N N) (some (.int .i64 (a:Int))) none none).run Tryz.prog wx= .ok (.slice (some ⟨w.heap.size,if N=a then 0 else a,none⟩) (N - a) (N - a)) wx:=fun wx=>zd2 wx 32 Tryz.underlying32 Tryz.onePart3 w.heap.size N a (by have:=HN.out;omega)
 have hsl3:∀wx:World,(Instr.slice 32 (.slice (some ⟨w.heap.size,0,none⟩) N N) (some (.int .i64 ((a:Int)+(m:Int)))) none none).run Tryz.prog wx= .ok (.slice (some ⟨w.heap.size,if N=a+m then 0 else a+m,none⟩) (N - (a+m)) (N - (a+m))) wx:=fun wx=>by
  have h:=zd2 wx 32 Tryz.underlying32 Tryz.onePart3 w.heap.size N (a+m) (by have:=HN.out;omega)
  rw [Int.natCast_add] at h;exact h
 obtain ⟨o2,ho2⟩:∃o,o=(if N=a then 0 else a):=⟨_,rfl⟩
 obtain ⟨o3,ho3⟩:∃o,o=(if N=a+m then 0 else a+m):=⟨_,rfl⟩
 rw [<-ho2] at hsl2;rw [<-ho3] at hsl3;have HO2:=hide ho2;have HO3:=hide ho3;clear ho2 ho3
 have Hn2:Hid (ys.length=Nat.min m (N - a)):=hide (by rw [hyl];exact (Nat.min_eq_left (by have:=HN.out;omega)).symm)
 have Hf2:Hid (a+ys.length<=Z2.length):=hide (by have:=HN.out;omega)
 have Hp2:Hid (0<ys.length->(some ⟨w.heap.size,o2,none⟩:Option Addr)=some ⟨w.heap.size,a,none⟩/\∃ad':Addr,ay=some ad'/\∀j v,ys[j]?=some v->(w2).cell? (ad'.add j)=some v):=hide (fun h0=>by
  obtain ⟨bk,off,e,h1⟩:=HSy.out _ HB2.out (by omega)
  exact ⟨by rw [HO2.out,if_neg (by have:=HN.out;omega)],⟨bk,off,none⟩,e,fun j v hj=>by rw [zaT];exact h1 j v hj⟩)
 go_wp2_with ((with_reducible refine wpList_copy_splice ?_ (.tmp 33) (.tmp 34) 32 32 ?_ 3 Tryz.underlying32 Tryz.onePart3 (some ⟨w.heap.size,o2,none⟩) (ay) (N - a) (N - a) m cy ?_ ?_ w.heap.size (a) Z2 3 HG2.out ys Hn2.out Hp2.out Hf2.out HY1.out w.heap.size w HB2.out (Nat.le_refl _) ?_);exact rfl;exact rfl;exact rfl;exact rfl)
 intro w3 HG3 hb3;have HB3:=hide hb3
 have hz3':(splice Z2 a ys).length=N:=by rw [length_splice _ _ _ (by have:=HN.out;omega),hz2']
 obtain ⟨Z3,hZ3⟩:∃Y,Y=splice Z2 a ys:=⟨_,rfl⟩;rw [<-hZ3] at HG3 hz3';have HZ3:=hide hZ3;clear hb3 hZ3 HG2 HB2
 have Hn3:Hid (X2.length=Nat.min (n - b) (N - (a+m))):=hide (by rw [l2];exact (Nat.min_eq_left (by have:=HN.out;omega)).symm)
 have Hf3:Hid (a+m+X2.length<=Z3.length):=hide (by have:=HN.out;omega)
 have Hp3:Hid (0<X2.length->(some ⟨w.heap.size,o3,none⟩:Option Addr)=some ⟨w.heap.size,a+m,none⟩/\∃ad':Addr,ad2=some ad'/\∀j v,X2[j]?=some v->(w3).cell? (ad'.add j)=some v):=hide (fun h0=>by
  obtain ⟨bk,off,e,-,h2⟩:=HSx.out _ HB3.out (by omega)
  refine ⟨by rw [HO3.out,if_neg (by have:=HN.out;omega)],⟨bk,off+b,none⟩,by rw [HA2.out,if_neg (by omega),e,Option.map_some,zaT],fun j v hj=>by rw [zaT,Nat.add_assoc];exact h2 j v hj⟩)
 go_wp2_with ((with_reducible refine wpList_copy_splice ?_ (.tmp 41) (.tmp 42) 32 32 ?_ 3 Tryz.underlying32 Tryz.onePart3 (some ⟨w.heap.size,o3,none⟩) (ad2) (N - (a+m)) (N - (a+m)) (n - b) (c - b) ?_ ?_ w.heap.size (a+m) Z3 3 HG3.out X2 Hn3.out Hp3.out Hf3.out HX2.out w.heap.size w HB3.out (Nat.le_refl _) ?_);exact rfl;exact rfl;exact rfl;exact rfl)
 intro w4 HG4 hb4;have HB4:=hide hb4
 have HZ4:Hid (splice Z3 (a+m) X2=X1++(ys++X2)):=hide (by rw [HZ3.out,HZ2.out];exact splice_splice_splice Z X1 ys X2 a m l1 hyl (by have:=HN.out;omega))
 rw [HZ4.out] at HG4;clear hb4;go_wp2_with fail;go_ret
 refine ⟨_,rfl,⟨by simp [l1,l2,hyl];have:=HN.out;omega,Or.inr ⟨w.heap.size,N,_,rfl,Nat.le_refl _,HG4.out,Nat.le_refl _,by unfold maxLen;have:=HN.out;omega,by simp [l1,l2,hyl];have:=HN.out;omega,?_⟩⟩,HB4.out⟩
 exact List.take_of_length_le (by simp [l1,l2,hyl];have:=HN.out;omega)
end Go.Proofs.YtcbogiebfbbmbaaGreatDoor
