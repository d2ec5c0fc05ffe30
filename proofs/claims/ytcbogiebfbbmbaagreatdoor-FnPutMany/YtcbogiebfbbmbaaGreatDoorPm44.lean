/-
  Facts and contracts that the law's own text rests on, by their texts' names: ShelfComp, ShelfSort, SortOwn, CompOwn, TooDeepI, PutTopI.
-/
import Derived.Shelf.Lays2
import Derived.Shelf.Slices.CompactI
import Derived.Test.YtcbogiebfbbmbaaGreatDoorProg
import Derived.Shelf.Lays
import Derived.Shelf.Slices.In.SortNone
import Derived.Shelf.Sort.Plain
import Derived.Sort.OwnSortedInts
import Derived.Test.YtcbogiebfbbmbaaGreatDoorPm1
import Derived.Test.YtcbogiebfbbmbaaGreatDoorPm27
import Derived.Test.YtcbogiebfbbmbaaGreatDoorPm9
import Derived.Test.YtcbogiebfbbmbaaGreatDoorPm32
import Derived.Test.YtcbogiebfbbmbaaGreatDoorPm29
import Derived.Test.YtcbogiebfbbmbaaGreatDoorPm21
import Derived.Test.YtcbogiebfbbmbaaGreatDoorPm22
import Derived.Test.YtcbogiebfbbmbaaGreatDoorPm14
import Derived.Test.YtcbogiebfbbmbaaGreatDoorPm40
import Derived.Test.YtcbogiebfbbmbaaGreatDoorPm43
set_option maxHeartbeats 16000000
set_option maxRecDepth 100000
namespace Go.Proofs
open Go.Shelf
def Tryz.laysNm220_ren:Go.Shelf.Ren:=⟨fun | 20=>63 | n=>n,fun | 22=>32 | 3=>3 | 4=>4 | 0=>0 | n=>n,fun | n=>n⟩
theorem Tryz.laysNm220:Go.Proofs.Lays2.n20 Tryz.prog Tryz.laysNm220_ren:={
 mixed:=by kernel_rfl
 f20:=Tryz.func63.trans (congrArg some (by kernel_rfl))
 t0:=Tryz.underlying0
 a0:=Tryz.isAgg0
 z0:=Tryz.sizeOf0
 v0:=Tryz.zeroValue0
 t3:=Tryz.underlying3
 a3:=Tryz.isAgg3
 z3:=Tryz.sizeOf3
 v3:=Tryz.zeroValue3
 t4:=Tryz.underlying4
 a4:=Tryz.isAgg4
 z4:=Tryz.sizeOf4
 v4:=Tryz.zeroValue4
 t22:=Tryz.underlying32
 a22:=Tryz.isAgg32
 z22:=Tryz.sizeOf32
 v22:=Tryz.zeroValue32
 i3:=by kernel_rfl}
open Go.RowKit Go.Lib Go.Sort in
theorem Tryz.slices_Compact_int (blk off cap:Nat) (zs:List Int) (w:World) (hH:Holds (Value.int .i64) w blk off zs.toArray) (hsz:zs.length<=9223372036854775807) (hcap:zs.length<=cap):
  Calls Tryz.prog 63 #[.slice (some ⟨blk,off,none⟩) zs.length cap] w fun e w'=>e= .returned (.slice (some ⟨blk,off,none⟩) (Lib.compact zs).length cap)/\∃q,w'=putRow (Value.int .i64) (Sort.ahead w q) blk off (Lib.compact zs++List.replicate (zs.length - (Lib.compact zs).length) 0).toArray:=Any.slices_Compact_int Tryz.laysNm220 blk off cap zs w hH hsz hcap
open Go.RowKit Go.Lib Go.Sort in
theorem Tryz.slices_Compact_int_empty (a:Option Addr) (cap:Nat) (w:World):
  Calls Tryz.prog 63 #[.slice a 0 cap] w fun e w'=>e= .returned (.slice a 0 cap)/\w'=w:=Any.slices_Compact_int_empty Tryz.laysNm220 a cap w
end Go.Proofs
namespace Go.Proofs
open Go.Shelf
def Tryz.lays189_ren:Go.Shelf.Ren:=⟨fun | 189=>62 | 125=>88 | 257=>87 | 128=>123 | 129=>124 | 294=>114 | 295=>115 | 296=>116 | 297=>117 | 298=>118 | 299=>119 | 216=>120 | 300=>121 | 301=>122 | 328=>138 | 329=>139 | 330=>140 | 331=>141 | 332=>142 | 215=>143 | 343=>145 | n=>n,fun | 28=>32 | 3=>3 | 46=>79 | 0=>0 | 51=>142 | 53=>173 | 4=>4 | 183=>164 | 182=>163 | 131=>169 | 5=>5 | 9=>9 | 218=>188 | 222=>192 | 228=>197 | 229=>198 | n=>n,fun | n=>n⟩
theorem Tryz.lays189:Go.Proofs.Lays.n189 Tryz.prog Tryz.lays189_ren:={
 mixed:=by kernel_rfl
 f125:=Tryz.func88.trans (congrArg some (by kernel_rfl))
 f128:=Tryz.func123.trans (congrArg some (by kernel_rfl))
 f129:=Tryz.func124.trans (congrArg some (by kernel_rfl))
 f189:=Tryz.func62.trans (congrArg some (by kernel_rfl))
 f215:=Tryz.func143.trans (congrArg some (by kernel_rfl))
 f216:=Tryz.func120.trans (congrArg some (by kernel_rfl))
 f257:=Tryz.func87.trans (congrArg some (by kernel_rfl))
 f294:=Tryz.func114.trans (congrArg some (by kernel_rfl))
 f295:=Tryz.func115.trans (congrArg some (by kernel_rfl))
 f296:=Tryz.func116.trans (congrArg some (by kernel_rfl))
 f297:=Tryz.func117.trans (congrArg some (by kernel_rfl))
 f298:=Tryz.func118.trans (congrArg some (by kernel_rfl))
 f299:=Tryz.func119.trans (congrArg some (by kernel_rfl))
 f300:=Tryz.func121.trans (congrArg some (by kernel_rfl))
 f301:=Tryz.func122.trans (congrArg some (by kernel_rfl))
 f328:=Tryz.func138.trans (congrArg some (by kernel_rfl))
 f329:=Tryz.func139.trans (congrArg some (by kernel_rfl))
 f330:=Tryz.func140.trans (congrArg some (by kernel_rfl))
 f331:=Tryz.func141.trans (congrArg some (by kernel_rfl))
 f332:=Tryz.func142.trans (congrArg some (by kernel_rfl))
 f343:=Tryz.func145.trans (congrArg some (by kernel_rfl))
 t0:=Tryz.underlying0
 a0:=Tryz.isAgg0
 z0:=Tryz.sizeOf0
 v0:=Tryz.zeroValue0
 t3:=Tryz.underlying3
 a3:=Tryz.isAgg3
 z3:=Tryz.sizeOf3
 v3:=Tryz.zeroValue3
 t4:=Tryz.underlying4
 a4:=Tryz.isAgg4
 z4:=Tryz.sizeOf4
 v4:=Tryz.zeroValue4
 t5:=Tryz.underlying5
 a5:=Tryz.isAgg5
 z5:=Tryz.sizeOf5
 v5:=Tryz.zeroValue5
 t9:=Tryz.underlying9
 a9:=Tryz.isAgg9
 z9:=Tryz.sizeOf9
 v9:=Tryz.zeroValue9
 t28:=Tryz.underlying32
 a28:=Tryz.isAgg32
 z28:=Tryz.sizeOf32
 v28:=Tryz.zeroValue32
 t46:=Tryz.underlying79
 a46:=Tryz.isAgg79
 z46:=Tryz.sizeOf79
 v46:=Tryz.zeroValue79
 t51:=Tryz.underlying142
 a51:=Tryz.isAgg142
 z51:=Tryz.sizeOf142
 v51:=Tryz.zeroValue142
 t53:=Tryz.underlying173
 a53:=Tryz.isAgg173
 z53:=Tryz.sizeOf173
 v53:=Tryz.zeroValue173
 t131:=Tryz.underlying169
 a131:=Tryz.isAgg169
 z131:=Tryz.sizeOf169
 v131:=Tryz.zeroValue169
 t182:=Tryz.underlying163
 a182:=Tryz.isAgg163
 z182:=Tryz.sizeOf163
 v182:=Tryz.zeroValue163
 t183:=Tryz.underlying164
 a183:=Tryz.isAgg164
 z183:=Tryz.sizeOf164
 v183:=Tryz.zeroValue164
 t218:=Tryz.underlying188
 a218:=Tryz.isAgg188
 z218:=Tryz.sizeOf188
 v218:=Tryz.zeroValue188
 t222:=Tryz.underlying192
 a222:=Tryz.isAgg192
 z222:=Tryz.sizeOf192
 v222:=Tryz.zeroValue192
 t228:=Tryz.underlying197
 a228:=Tryz.isAgg197
 z228:=Tryz.sizeOf197
 v228:=Tryz.zeroValue197
 t229:=Tryz.underlying198
 a229:=Tryz.isAgg198
 z229:=Tryz.sizeOf198
 v229:=Tryz.zeroValue198}
open Go.Sort Go.RowKit in
theorem Tryz.slices_Sort_int (blk off cap:Nat) (zs:List Int) (w:World) (hH:Holds (Value.int .i64) w blk off zs.toArray) (hblk:blk<w.heap.size) (hsz:zs.length<4611686018427387904):
  Calls Tryz.prog 62 #[.slice (some ⟨blk,off,none⟩) zs.length cap] w fun e w'=>
   e= .returned (.tuple #[])/\∃n os,w'=grow (putRow (Value.int .i64) (Sort.ahead w n) blk off (zs.mergeSort fun x y=>decide (x<=y)).toArray) os:=Any.slices_Sort_int Tryz.lays189 blk off cap zs w hH hblk hsz
open Go.RowKit Go.Sort in
theorem Tryz.slices_Sort_int_none (p:Option Addr) (cap:Nat) (w:World):
  Calls Tryz.prog 62 #[.slice p 0 cap] w fun e w'=>e= .returned (.tuple #[])/\w'=w:=Any.slices_Sort_int_none Tryz.lays189 p cap w
end Go.Proofs
namespace Go.Proofs.YtcbogiebfbbmbaaGreatDoor
open Go.RowKit
theorem zmH (l:List Int):Srt (l.mergeSort fun x y=>decide (x<=y)):=by
 have h:=List.pairwise_mergeSort (le:=fun x y:Int=>decide (x<=y)) (fun a b c h1 h2=>by simp at h1 h2⊢;omega) (fun a b=>by simp;omega) l
 exact h.imp (fun h=>by simpa using h)
theorem znI (l:List Int) (hl:l.length<=1048576) (B:Nat) (v:Value) (w:World) (h:w.ownsRow B 3 1 v l.length (ints l)):
  Calls Tryz.prog 62 #[v] w fun e w'=>e= .returned (.tuple #[])/\∃m,m.Perm l/\Srt m/\w'.ownsRow B 3 1 v m.length (ints m)/\KeptC (fun k=>v.ownBlock=some k) w w':=by
 rcases h.2 with ⟨rfl,h0⟩ | ⟨g,c,cur,rfl,hg,hb,h1,h2,h3,h4⟩
 ·obtain rfl:l= []:=List.eq_nil_of_length_eq_zero h0
  refine (Tryz.slices_Sort_int_none none 0 w).mono ?_;rintro e w' ⟨he,rfl⟩;exact ⟨he,[],List.Perm.refl _,List.Pairwise.nil,h,zeR _ _⟩
 ·have hH:=holds_of_blockI hb (ss:=l) (by have:=h4;rw [Nat.mul_one] at this;exact this)
  refine (Tryz.slices_Sort_int g 0 c l w hH (Array.getElem?_eq_some_iff.1 hb).1 (by omega)).mono ?_
  rintro e w' ⟨he,n,os,rfl⟩
  refine ⟨he,l.mergeSort fun x y=>decide (x<=y),List.mergeSort_perm _ _,zmH l,?_,?_⟩
  ·rw [List.length_mergeSort]
   exact ownsRow_sortedI (by simp) hg hb h1 h2 h3
  ·have gb:=grownBy_sortedI (w:=w) (g:=g) (n:=n) (os:=os) (l.mergeSort fun x y=>decide (x<=y)).toArray
   exact ⟨gb.os,gb.tape,gb.output,gb.size,fun k hk hn=>gb.block k hk (fun e=>hn e.symm)⟩
open Go.RowKit
theorem comp_le (zs:List Int):(Lib.compact zs).length<=zs.length:=by
 rw [Lib.compact,Lib.compactUpTo,List.length_map];refine Nat.le_trans (List.length_filter_le _ _) ?_;rw [List.length_range];exact Nat.le_refl _
theorem comp_in (zs:List Int):∀x∈Lib.compact zs,x∈zs:=fun x hx=>by
 rw [Lib.compact,Lib.compactUpTo] at hx;obtain ⟨j,hj,rfl⟩:=List.mem_map.1 hx;have h:=List.mem_range.1 (List.mem_filter.1 hj).1
 simp at h⊢
 simp [h]
theorem znJ (l:List Int) (hl:l.length<=1048576) (B:Nat) (v:Value) (w:World) (h:w.ownsRow B 3 1 v l.length (ints l)):
  Calls Tryz.prog 63 #[v] w fun e w'=>∃v' m,e= .returned v'/\(∀x∈m,x∈l)/\m.length<=l.length/\w'.ownsRow B 3 1 v' m.length (ints m)/\KeptC (fun k=>v.ownBlock=some k) w w':=by
 rcases h.2 with ⟨rfl,h0⟩ | ⟨g,c,cur,rfl,hg,hb,h1,h2,h3,h4⟩
 ·obtain rfl:l= []:=List.eq_nil_of_length_eq_zero h0
  refine (Tryz.slices_Compact_int_empty none 0 w).mono ?_;rintro e w' ⟨he,rfl⟩
  exact ⟨_,[],he,fun x hx=>hx,Nat.le_refl _,h,zeR _ _⟩
 ·have hH:=holds_of_blockI hb (ss:=l) (by have:=h4;rw [Nat.mul_one] at this;exact this)
  refine (Tryz.slices_Compact_int g 0 c l w hH (by omega) h1).mono ?_
  rintro e w' ⟨he,q,rfl⟩;obtain ⟨zs,hzs⟩:∃zs,zs=Lib.compact l++List.replicate (l.length - (Lib.compact l).length) 0:=⟨_,rfl⟩;have hc:=comp_le l
  have hzl:zs.length=l.length:=by rw [hzs,List.length_append,List.length_replicate];omega
  rw [<-hzs];have h5:=ownsRow_sortedI (os:= #[]) (n:=q) (e:=3) (ss:=l) (ts:=zs) hzl hg hb h1 h2 h3;have gb:=grownBy_sortedI (w:=w) (g:=g) (n:=q) (os:= #[]) zs.toArray;rw [Sort.grow_empty] at h5 gb
  refine ⟨_,Lib.compact l,he,comp_in l,hc,?_,⟨gb.os,gb.tape,gb.output,gb.size,fun k hk hn=>gb.block k hk (fun e=>hn e.symm)⟩⟩
  have h6:=zkm h5 hc
  have h7:(List.map (Value.int .i64) zs).take (Lib.compact l).length=ints (Lib.compact l):=by
   rw [hzs,<-List.map_take,List.take_left']
   ·rfl
   ·rfl
  rw [h7] at h6;exact h6
open Go.RowKit
def Sh (R:Int->Nd×Bool):Nat->Int->Prop
 | 0,_=>False
 | f+1,p=>∀c∈(R p).1.cs,Sh R f c
theorem zmI {R:Int->Nd×Bool}:∀(h f:Nat) {p:Int} {F:ByteArray} {L:Prs} {P:List Int},IsTree R h p F L P->h<=f->Sh R f p
 | 0,_,_,_,_,_,ht,_=>ht.elim
 | h+1,0,_,_,_,_,_,hf=>by omega
 | h+1,f+1,p,F,L,P,⟨n,h1,h2,h3,h4⟩,hf=>by
  intro c hc;rw [h1] at hc
  rcases h4 with ⟨a,b,d,e⟩ | ⟨a,P',d,e⟩
  ·have:=((zaY h2).1 a).2
   rw [this] at hc
   cases hc
  ·obtain ⟨g,L1,P1,k1,-⟩:=zcA d c hc
   exact zmI h f k1 (by omega)
theorem zjG (v:Value) (ps:List ByteArray) (ls:List (Int×ByteArray)) (hp:ps.length<=1048576) (hl:ls.length<=1048576) (hps:∀s∈ps,s.size<=1048576) (hls:∀p∈ls,p.2.size<=1048576) (root:Int) (hs:Sh (fun q=>rdN (readD ps ls q)) 8 root) (w:World) (hT:SumTab w) (hd:DiskAt w v ps ls):
  Calls Tryz.prog 41 #[v,.int .i64 root] w fun e w'=>e= .returned (.bool false)/\Below w.heap.size w w':=by
 have HRP:=hide (fun p wx h=>zd1 v ps ls hp hl hps hls p wx h)
 have HRN:=hide (fun p wx h=>zd0 (readD ps ls p) (zbP hps hls p) wx h)
 have HD:=hide hd;have HT:=hide hT;have HS0:=hide hs;obtain ⟨D,hD⟩:∃D,D=readD ps ls:=⟨_,rfl⟩;rw [<-hD] at HRP HRN HS0;obtain ⟨vp,vl,rfl,-,-⟩:=hd;obtain ⟨i0,hinf,hz0,hz1,hz2⟩:=info_parts Tryz.infoIntC;obtain ⟨w0,hw0⟩:∃x,x=(w.alloc (Obj.cells #[vp,vl] 29)).alloc (Obj.cells #[.int .i64 root] 3):=⟨_,rfl⟩
 have hb0:Below w.heap.size w w0:=by rw [hw0];exact ((Below.refl w.heap.size w).alloc (Nat.le_refl _) _).alloc (by simp) _
 have hv0:w0.heap[w.heap.size]?=some (.cells #[vp,vl] 29 (0,0)):=by rw [hw0,heap_alloc_old _ _ (by simp)];exact heap_alloc_new w _
 have hr0:w0.heap[w.heap.size+1]?=some (.cells #[.int .i64 root] 3 (0,0)):=by
  rw [hw0];have h:=heap_alloc_new (w.alloc (Obj.cells #[vp,vl] 29)) (Obj.cells #[.int .i64 root] 3);rw [World.size_alloc] at h;exact h
 have HO0:Hid (w0.ownsRow w.heap.size 3 1 (.slice (some ⟨w.heap.size+1,0,none⟩) 1 1) 1 (ints [root])):=hide ⟨rfl,Or.inr ⟨w.heap.size+1,1,#[.int .i64 root],rfl,by omega,hr0,Nat.le_refl _,by unfold maxLen;omega,rfl,rfl⟩⟩
 have HB0:=hide hb0;have HV0:=hide hv0;clear hp hl hps hls hD hT hs hb0 hv0 hr0;go_enter Tryz.func41,Tryz.ntmps41;go_wp2_with fail;rw [<-hw0];clear hw0
 go_loopg [5,13] 8 (fun q pv iv wr=>∃(l:List Int) (i:Nat),q+i=8/\iv= .int .i64 (i:Int)/\Hid (∀x∈l,Sh (fun q=>rdN (D q)) q x)/\l.length * 4 ^ q<=65536/\Hid (wr.ownsRow w.heap.size 3 1 pv l.length (ints l))/\Hid (Below w.heap.size w wr)/\Hid (wr.heap[w.heap.size]?=some (.cells #[vp,vl] 29 (0,0))))
 case atStart=>exact ⟨[root],0,rfl,rfl,hide (fun x hx=>by rw [List.mem_singleton] at hx;rw [hx];exact HS0.out),(by show 1 * 4 ^ 8<=65536;decide),HO0,HB0,HV0⟩
 case round=>
  obtain ⟨l,i,hq,rfl,HSh,hl4,HO,HB,HV⟩:=hrel;obtain ⟨pa,pc,rfl⟩:=za4 HO.out;obtain ⟨n,hn⟩:∃n,n=l.length:=⟨_,rfl⟩;have HN:=hide hn;have HL4:=hide hl4;have HQ:=hide hq;rw [<-hn] at HO⊢;clear hn hl4
  cases gk with
  | zero=>
   have hno:¬(i:Int)<8:=by omega
   have hl0:n=0:=by
    rw [HN.out]
    cases l with
    | nil=>rfl
    | cons x l=>exact (HSh.out x (List.mem_cons_self ..)).elim
   subst hl0;clear hq;go_wp2_with fail;go_ret;exact ⟨rfl,HB.out⟩
  | succ gq=>
   have hyes:(i:Int)<8:=by omega
   obtain ⟨B1,hB1⟩:∃B1,B1=wr.heap.size:=⟨_,rfl⟩
   have HB1s:Hid (w.heap.size<=B1/\∀b,(Value.slice pa n pc).ownBlock=some b->b<B1):=hide (by rw [hB1];exact ⟨HB.out.size,fun b e=>(HO.out.lt b e).2⟩)
   have HE0:Hid ((wr.alloc (.cells #[] 3)).ownsRow B1 3 1 (.slice (some ⟨wr.heap.size,0,none⟩) 0 0) 0 []):=hide ⟨rfl,Or.inr ⟨wr.heap.size,0,#[],rfl,(by rw [hB1];exact Nat.le_refl _),heap_alloc_new wr _,Nat.le_refl _,Nat.zero_le _,rfl,rfl⟩⟩
   have hx0:Below wr.heap.size wr (wr.alloc (.cells #[] 3)):=(Below.refl _ _).alloc (Nat.le_refl _) _;have HO1:=hide (za6 HO.out hx0);have HB1:Hid (Below w.heap.size w (wr.alloc (.cells #[] 3))):=hide (HB.out.trans (hx0.mono HB.out.size));have HV1:=hide (stays HV.out hx0)
   have HBz:Hid (B1<=(wr.alloc (.cells #[] 3)).heap.size):=hide (by rw [hB1];exact hx0.size)
   clear hq hx0 hB1;go_wp2_with fail
   go_loopg [6,18] n (fun q bv jv wi=>∃(bl:List Int) (j:Nat),q+j=n/\jv= .int .i64 (j:Int)/\Hid (∀x∈bl,Sh (fun q=>rdN (D q)) gq x)/\bl.length<=4 * j/\Hid (wi.ownsRow B1 3 1 bv bl.length (ints bl))/\Hid (wi.ownsRow w.heap.size 3 1 (.slice pa n pc) n (ints l))/\Hid (B1<=wi.heap.size)/\Hid (Below w.heap.size w wi)/\Hid (wi.heap[w.heap.size]?=some (.cells #[vp,vl] 29 (0,0))))
   case atStart=>exact ⟨[],0,rfl,rfl,hide (fun x hx=>by cases hx),Nat.zero_le _,HE0,HO1,HBz,HB1,HV1⟩
   case round=>
    obtain ⟨bl,j,hjn,rfl,HSb,hbl,HOb,HOp,HBs,HBi,HVi⟩:=hrel;have HJ:=hide hjn;have HBl:=hide hbl;obtain ⟨ba,bc,rfl⟩:=za4 HOb.out;obtain ⟨nb,hnb⟩:∃n,n=bl.length:=⟨_,rfl⟩;have HNb:=hide hnb;rw [<-hnb] at HOb⊢;clear hnb hbl
    cases gk with
    | zero=>
     have hno:¬(j:Int)<(n:Int):=by omega
     have hjn2:j<=n:=by
      clear hjn
      by_cases h:j<=n
      ·exact h
      ·have:=HJ.out;omega
     have hnl:=HN.out;have hl4:=HL4.out;rw [Nat.pow_succ] at hl4
     have hb4:nb * 4 ^ gq<=65536:=by
      have h1:nb<=4 * n:=by have:=HBl.out;have:=HNb.out;omega
      have h2:=Nat.mul_le_mul_right (4 ^ gq) h1
      have h3:4 * n * 4 ^ gq=l.length * (4 ^ gq * 4):=by rw [<-hnl];rw [Nat.mul_comm 4 n,Nat.mul_assoc,Nat.mul_comm 4 (4 ^ gq)]
      omega
     have hb5:nb<=65536:=Nat.le_trans (Nat.le_mul_of_pos_right nb (Nat.pow_pos (by decide))) hb4
     have HSo:=hide (znI bl (by have:=HNb.out;omega) B1 (.slice ba nb bc) wr (by rw [<-HNb.out];exact HOb.out))
     have HB4:=hide hb4;clear hjn hjn2 hnl hl4 hb4;go_wp2_with fail;refine HSo.out.mono ?_;rintro e w1 ⟨rfl,m,hpm,-,hom,hk1⟩
     have hml:m.length=nb:=by rw [hpm.length_eq,HNb.out]
     have HCo:=hide (znJ m (by omega) B1 (.slice ba nb bc) w1 hom)
     have HB5:Hid (Below w.heap.size w w1):=hide (HBi.out.trans (zaG hk1 (fun k e=>Nat.le_trans HB1s.out.1 (HOb.out.lt k e).1) HBi.out.size))
     have HV5:Hid (w1.heap[w.heap.size]?=some (.cells #[vp,vl] 29 (0,0))):=hide ((hk1.2.2.2.2 _ (Array.getElem?_eq_some_iff.1 HVi.out).1 (fun e=>absurd (zcg (zcR HOb.out e) ⟨_,_,HVi.out⟩) (by decide))).trans HVi.out)
     have HPm:=hide (⟨hpm,hml⟩:_/\_);have HOm:=hide hom;clear hpm hml hom hk1 HSo;go_wp2_with fail;refine HCo.out.mono ?_;rintro e w2 ⟨v2,m2,rfl,hm2,hm3,ho2,hk2⟩
     have HB6:Hid (Below w.heap.size w w2):=hide (HB5.out.trans (zaG hk2 (fun k e=>Nat.le_trans HB1s.out.1 (HOm.out.lt k e).1) HB5.out.size))
     have HV6:Hid (w2.heap[w.heap.size]?=some (.cells #[vp,vl] 29 (0,0))):=hide ((hk2.2.2.2.2 _ (Array.getElem?_eq_some_iff.1 HV5.out).1 (fun e=>absurd (zcg (zcR HOm.out e) ⟨_,_,HV5.out⟩) (by decide))).trans HV5.out)
     have HO6:=hide (zaa ho2 HB1s.out.1);have HM6:=hide (⟨hm2,hm3⟩:_/\_)
     have hi1:wrap64 ((i:Int)+1)=(i:Int)+1:=zas _ (by omega) (by have:=HQ.out;omega)
     clear hm2 hm3 ho2 hk2 HCo;go_wp2_with fail
     go_roundg (gq)
     case measure=>omega
     case rel=>exact ⟨m2,i+1,by have:=HQ.out;omega,rfl,hide (fun x hx=>HSb.out x (HPm.out.1.mem_iff.1 (HM6.out.1 x hx))),Nat.le_trans (Nat.mul_le_mul_right _ (Nat.le_trans HM6.out.2 (Nat.le_of_eq HPm.out.2))) HB4.out,HO6,HB6,HV6⟩
    | succ gk=>
     have hlt:j<n:=by omega
     have hlt':(j:Int)<(n:Int):=by omega
     obtain ⟨gp,rfl,hcj⟩:=zft HOp.out (i:=j) (by rw [<-HN.out];exact hlt) HN.out
     obtain ⟨c,hc⟩:∃c,c=l.getD j 0:=⟨_,rfl⟩;rw [<-hc] at hcj
     have HShc:Hid (∀x∈(rdN (D c)).1.cs,Sh (fun q=>rdN (D q)) gq x):=hide (HSh.out c (by rw [hc,List.getD_eq_getElem?_getD,List.getElem?_eq_getElem (by rw [<-HN.out];exact hlt)];exact List.getElem_mem _))
     have p0:=(za0 HVi.out 0).1;have p1:=(za0 HVi.out 1).1;clear hjn hc;go_wp2_with fail;refine (HRP.out c _ (zak HD.out HBi.out)).mono ?_;rintro e w1 ⟨rfl,hb1⟩;have HB1':Hid (Below w.heap.size w w1):=hide (HBi.out.trans (hb1.mono HBi.out.size));have HV1':=hide (stays HVi.out hb1);have HOb1:=hide (za6 HOb.out hb1);have HBs1:Hid (B1<=w1.heap.size):=hide (Nat.le_trans HBs.out hb1.size);have HOp1:=hide (za6 HOp.out hb1);clear hb1 p0 p1 hcj;go_wp2_with fail;refine (HRN.out c _ (zah HT.out HB1'.out)).mono ?_;rintro e w2 ⟨nd,v2,ok,rfl,hrn,hno,hb2⟩;have HB2:Hid (Below w.heap.size w w2):=hide (HB1'.out.trans (hb2.mono HB1'.out.size));have HV2:=hide (stays HV1'.out hb2);have HOb2:=hide (za6 HOb1.out hb2);have hbs2:B1<=w2.heap.size:=Nat.le_trans HBs1.out hb2.size;have HOp2:=hide (za6 HOp1.out hb2);have hcl:=(ziy hrn).2.2;have hsh:=HShc.out;rw [zh0 hrn] at hsh
     have HShn:Hid (∀x∈nd.cs,Sh (fun q=>rdN (D q)) gq x):=hide hsh
     obtain ⟨a1,d1,a2,d2,a3,d3,rfl⟩:=zbv hno;obtain ⟨nc,hnc⟩:∃n,n=nd.cs.length:=⟨_,rfl⟩
     have hrw:RowAt w2 1 (.slice a3 nc d3) nc (ints nd.cs):=by
      obtain ⟨vk,vv,vc,e,-,-,h3⟩:=zby hno;obtain ⟨-,-,-,rfl⟩:=agg4 e;rw [hnc];exact h3
     rw [<-hnc] at hcl⊢
     have hx2:∀o,Below w2.heap.size w2 (w2.alloc o):=fun o=>(Below.refl _ _).alloc (Nat.le_refl _) o
     have HR2:=hide (fun o=>za1 hrw (hx2 o))
     have HOb3:=hide (fun o=>za6 HOb2.out (hx2 o))
     have HX2:=hide hx2;have HBs2:Hid (B1<=w2.heap.size):=hide hbs2;have HNc:=hide hnc
     have hnb5:nb<=4 * j/\j<=65536:=by
      have h1:=HBl.out;have h2:=HNb.out;have h3:=HL4.out;have h4:=HN.out
      have h5:n<=n * 4 ^ (gq+1):=Nat.le_mul_of_pos_right n (Nat.pow_pos (by decide))
      rw [h4] at h5
      omega
     have hj1:wrap64 ((j:Int)+1)=(j:Int)+1:=zas _ (by omega) (by omega)
     clear hrn hno hb2 hsh hrw hx2 hnc HOb1 HOp1
     go_wp2_with (at_builtin;refine zct _ rfl (.tmp 29) (.tmp 31) 32 rfl B1 3 i0 (.int .i64 0) 1 8 Tryz.underlying32 hinf hz0 hz1 hz2 rfl (by decide) (.slice ba nb bc) nb (ints bl) rfl (HOb3.out _) (.slice a3 nc d3) nc (ints nd.cs) rfl (HR2.out _) (fun y hy=>by obtain ⟨z,-,rfl⟩:=List.mem_map.1 hy;rfl) (by unfold maxLen;omega) (by omega) (Nat.le_trans HBs2.out (HX2.out _).size) ?_)
     intro xa xc w3 hown hgr;have hA:=HX2.out (.cells #[.bool nd.lf,.slice a1 nd.ks.length d1,.slice a2 nd.vs.length d2,.slice a3 nc d3] 71)
     have HV3:Hid (w3.heap[w.heap.size]?=some (.cells #[vp,vl] 29 (0,0))):=hide ((hgr.block _ (by have:=(Array.getElem?_eq_some_iff.1 HV2.out).1;have:=hA.size;omega) (fun e=>absurd (zcg (zcR HOb2.out e.symm) ⟨_,_,HV2.out⟩) (by decide))).trans (stays HV2.out hA))
     have hK:Kept (w2.alloc (.cells #[.bool nd.lf,.slice a1 nd.ks.length d1,.slice a2 nd.vs.length d2,.slice a3 nc d3] 71)) w3 (fun k=>(Value.slice ba nb bc).ownBlock=some k):=⟨hgr.os,hgr.tape,hgr.output,hgr.size,fun k hk hn=>hgr.block k hk (fun e=>hn e.symm)⟩
     have HOp3:=hide (za7 (za6 HOp2.out hA) hK (fun k e hn=>by have:=HB1s.out.2 k e;have:=(HOb2.out.lt k hn).1;omega))
     have HB3:Hid (Below w.heap.size w w3):=hide ((HB2.out.trans (hA.mono HB2.out.size)).trans (zae hK (Nat.le_trans HB2.out.size hA.size) (fun k e=>Nat.le_trans HB1s.out.1 (HOb2.out.lt k e).1)))
     have HBs3:Hid (B1<=w3.heap.size):=hide (Nat.le_trans HBs2.out (Nat.le_trans hA.size hgr.size));have HOw:=hide hown;clear hown hgr hA hK;go_wp2_with fail
     go_roundg gk
     case measure=>omega
     case rel=>exact ⟨bl++nd.cs,j+1,by have:=HJ.out;omega,rfl,hide (fun x hx=>by
      rcases List.mem_append.1 hx with e | e
      ·exact HSb.out x e
      ·exact HShn.out x e),by have h1:=HBl.out;have h2:=HNc.out;simp;omega,by
      have h:=HOw.out;rw [List.length_append,<-HNb.out,<-HNc.out];unfold ints;rw [List.map_append]
      exact hide h,HOp3,HBs3,HB3,HV3⟩
open Go.RowKit
noncomputable def topK (k:Wk) (l:List (ByteArray×Int)):Wk:=if l.length=1 then k else putK k false (l.map (·.1)) [] (l.map (·.2))
noncomputable def topP (k:Wk) (l:List (ByteArray×Int)):Int:=if l.length=1 then (l.map (·.2)).getD 0 0 else putP k false (l.map (·.1)) [] (l.map (·.2))
theorem zle (v:Value) (k:Wk) (hk:k.small) (vh:Value) (l:List (ByteArray×Int)) (h0:0<l.length) (hl:l.length<=1000) (hks:∀x∈l,x.1.size<=1048576) (hp:l.length≠1->putP k false (l.map (·.1)) [] (l.map (·.2))≠0) (B:Nat) (w:World) (hB:B<=w.heap.size) (hT:SumTab w) (hd0:WorkOwn w B v k) (hh:RowAt w 2 vh l.length (hvs l)):
  Calls Tryz.prog 40 #[v,vh] w fun e w'=>∃v',e= .returned (.tuple #[v',.int .i64 (topP k l),.bool true])/\WorkOwn w' B v' (topK k l)/\(∀j,workBlocks v' j->workBlocks v j\/w.heap.size<=j)/\Below w.heap.size w w':=by
 have HO:=hide hd0;have hd:=zaF hd0;have HBB:=hide hB;have HD:=hide hd;have HT:=hide hT
 have HEn:=hide (fun wx hr=>zeq l (by omega) vh wx hr)
 obtain ⟨ap,cp,al,cl,au,cu,ag,cg,af,cf,rfl⟩:=zaV hd;obtain ⟨ah,ch,rfl⟩:=zbm hh;have HH:=hide hh;obtain ⟨np,hnp⟩:∃n,n=k.ps.length:=⟨_,rfl⟩;obtain ⟨nl,hnl⟩:∃n,n=k.ls.length:=⟨_,rfl⟩;obtain ⟨nu,hnu⟩:∃n,n=k.us.length:=⟨_,rfl⟩;obtain ⟨ng,hng⟩:∃n,n=k.gs.length:=⟨_,rfl⟩;obtain ⟨nf,hnf⟩:∃n,n=k.fs.length:=⟨_,rfl⟩;obtain ⟨nx,hnx⟩:∃n,n=k.next:=⟨_,rfl⟩;rw [<-hnp,<-hnl,<-hnu,<-hng,<-hnf,<-hnx] at HD HO⊢;obtain ⟨lh,hlh⟩:∃n,n=l.length:=⟨_,rfl⟩;have HLh:=hide hlh;rw [<-hlh] at HEn HH hp h0 hl⊢;obtain ⟨w0,hw0⟩:∃x,x=(w.alloc (Obj.cells #[.slice ap np cp,.slice al nl cl,.int .i64 nx,.slice au nu cu,.slice ag ng cg,.slice af nf cf] 34)).alloc (Obj.cells #[.slice none 0 0,.slice none 0 0,.int .i64 0,.slice none 0 0,.slice none 0 0,.slice none 0 0] 34):=⟨_,rfl⟩
 have hb0:Below w.heap.size w w0:=by rw [hw0];exact ((Below.refl w.heap.size w).alloc (Nat.le_refl _) _).alloc (by simp) _
 have q0:w0.heap[w.heap.size]?=some (.cells #[.slice ap np cp,.slice al nl cl,.int .i64 nx,.slice au nu cu,.slice ag ng cg,.slice af nf cf] 34 (0,0)):=by rw [hw0];simp only [zal,World.size_alloc];simp
 have q1:w0.heap[w.heap.size+1]?=some (.cells #[.slice none 0 0,.slice none 0 0,.int .i64 0,.slice none 0 0,.slice none 0 0,.slice none 0 0] 34 (0,0)):=by rw [hw0];simp only [zal,World.size_alloc];simp
 have HB0:=hide (⟨hb0,q0,q1⟩:_/\_/\_);clear hd hd0 hB hT hh hnp hnl hnu hng hnf hnx hlh hb0 q0 q1
 have hh1:((lh:Int)=1)↔lh=1:=by omega
 by_cases h1:lh=1
 ·subst h1
  obtain ⟨⟨ky,pg⟩,hx⟩:∃x,l[0]?=some x:=⟨l[0]'(by have:=HLh.out;omega),List.getElem?_eq_getElem (by have:=HLh.out;omega)⟩
  have HX:=hide hx
  obtain ⟨gh,oh,rfl,hcell⟩:∃b o,ah=some ⟨b,o,none⟩/\∀wx,Below w.heap.size w wx->wx.cell? ⟨b,o+1,none⟩=some (.int .i64 pg):=by
   obtain ⟨-,a',cap,ea,h3⟩:=HH.out
   injection ea with e1 e2 e3
   rcases h3 with h0 | ⟨b,o,rfl,hlt,-⟩
   ·omega
   ·refine ⟨b,o,e1,fun wx hb=> ?_⟩
    obtain ⟨-,a2,cap2,ea2,h4⟩:=za1 HH.out hb
    injection ea2 with e4 e5 e6
    rcases h4 with h0 | ⟨b',o',e7,-,hc⟩
    ·omega
    ·rw [e1,e7] at e4
     injection e4 with e4
     injection e4 with e8 e9 e10
     rw [<-e8,<-e9] at hc
     rw [hc 1 (by omega)]
     cases l with
     | nil=>simp at hx
     | cons x t=>
      simp at hx
      subst hx
      rfl
  have HSw:Hid (∀wx:World,Below w.heap.size w wx->wx.heap[w.heap.size]?=some (.cells #[.slice ap np cp,.slice al nl cl,.int .i64 nx,.slice au nu cu,.slice ag ng cg,.slice af nf cf] 34 (0,0))->wx.rangeAt w.heap.size 0 (#[Value.slice ap np cp,.slice al nl cl,.int .i64 nx,.slice au nu cu,.slice ag ng cg,.slice af nf cf]:Array Value).toList/\wx.cell? ⟨gh,oh+1,none⟩=some (.int .i64 pg)):=hide (fun wx hb hg=>⟨zb0 hg,hcell wx hb⟩)
  clear hcell hx;go_enter Tryz.func40,Tryz.ntmps40;go_wp2_with fail;rw [<-hw0];clear hw0;refine zjF ?_
  refine zcV (S:=fun wx=>wx.rangeAt w.heap.size 0 (#[Value.slice ap np cp,.slice al nl cl,.int .i64 nx,.slice au nu cu,.slice ag ng cg,.slice af nf cf]:Array Value).toList/\wx.cell? ⟨gh,oh+1,none⟩=some (.int .i64 pg)) [] (by kernel_rfl) ?_
  have hWd:Below w0.heap.size w0 w0.drew:=(Below.refl _ _).drew;obtain ⟨wd,hwd⟩:∃wd,wd=w0.drew:=⟨_,rfl⟩;rw [<-hwd] at hWd⊢;clear hwd;have hWw:Below w.heap.size w wd:=HB0.out.1.trans (hWd.mono HB0.out.1.size);have hHeld:=HSw.out wd hWw (stays HB0.out.2.1 hWd)
  refine zaj 0 14 (.agg #[.slice ap np cp,.slice al nl cl,.int .i64 nx,.slice au nu cu,.slice ag ng cg,.slice af nf cf]) rfl rfl (by kernel_rfl) (by kernel_rfl) (by kernel_rfl) (by kernel_rfl) (fun _ _ _ h=>h) (zbo (by rfl) 34 (.tmp 2) rfl w.heap.size 0 rfl #[.slice ap np cp,.slice al nl cl,.int .i64 nx,.slice au nu cu,.slice ag ng cg,.slice af nf cf] _ (fun _ h=>h.1) Tryz.underlying34 rfl (by kernel_rfl)) hHeld ?_
  simp only [yA,yB,yC]
  refine zaj 1 15 ?_ rfl rfl (by kernel_rfl) (by kernel_rfl) (by kernel_rfl) (by kernel_rfl) (fun _ _ _ h=>h) (Or.inl ⟨by rfl,?_⟩) hHeld ?_
  rotate_left
  ·(intro wx hSw;(try dsimp only at hSw);go_simp;try with_reducible rfl)
  simp only [yA,yB,yC]
  refine zaj 2 16 ?_ rfl rfl (by kernel_rfl) (by kernel_rfl) (by kernel_rfl) (by kernel_rfl) (fun _ _ _ h=>h) (Or.inl ⟨by rfl,?_⟩) hHeld ?_
  rotate_left
  ·(intro wx hSw;(try dsimp only at hSw);go_simp;try with_reducible rfl)
  simp only [yA,yB,yC]
  refine zaj 3 17 ?_ rfl rfl (by kernel_rfl) (by kernel_rfl) (by kernel_rfl) (by kernel_rfl) (fun _ _ _ h=>h) (Or.inl ⟨by rfl,?_⟩) hHeld ?_
  rotate_left
  ·(intro wx hSw;(try dsimp only at hSw);go_simp;try with_reducible rfl)
  simp only [yA,yB,yC]
  refine zaj 4 18 ?_ rfl rfl (by kernel_rfl) (by kernel_rfl) (by kernel_rfl) (by kernel_rfl) (fun _ _ _ h=>h) (Or.inl ⟨by rfl,?_⟩) hHeld ?_
  rotate_left
  ·(intro wx hSw;(try dsimp only at hSw);go_simp;try with_reducible rfl)
  simp only [yA,yB,yC]
  have hr:=stays HB0.out.2.2 hWd;obtain ⟨r0,r1,r2,r3,r4,r5⟩:=blk6c hr;have y0:=(za0 hr 0).2;have y1:=(za0 hr 1).2;have y2:=(za0 hr 2).2;have y3:=(za0 hr 3).2;have y4:=(za0 hr 4).2;have y5:=(za0 hr 5).2;have hk6:=zaw wd (w.heap.size+1) (.slice ap np cp) (.slice al nl cl) (.int .i64 nx) (.slice au nu cu) (.slice ag ng cg) (.slice af nf cf)
  have hSs:(fun wx:World=>wx.rangeAt w.heap.size 0 (#[Value.slice ap np cp,.slice al nl cl,.int .i64 nx,.slice au nu cu,.slice ag ng cg,.slice af nf cf]:Array Value).toList/\wx.cell? ⟨gh,oh+1,none⟩=some (.int .i64 pg)) (set6 wd (w.heap.size+1) (.slice ap np cp) (.slice al nl cl) (.int .i64 nx) (.slice au nu cu) (.slice ag ng cg) (.slice af nf cf)):=HSw.out _ (hWw.trans (zae hk6 hWw.size (fun j e=>by omega))) ((hk6.2.2.2.2 _ (Array.getElem?_eq_some_iff.1 (stays HB0.out.2.1 hWd)).1 (by omega)).trans (stays HB0.out.2.1 hWd))
  have HR:=hide hr;have HK6:=hide hk6;clear hk6 hr
  refine zau (i:=5) (by kernel_rfl) rfl ?_
  intro K hK
  go_simp
  refine hK.out _ _ (Or.inr hSs) ?_;clear hK K
  refine zau (i:=6) (by kernel_rfl) rfl ?_
  intro K hK
  go_simp
  refine hK.out _ _ (Or.inr hSs) ?_;clear hK K
  refine zau (i:=7) (by kernel_rfl) rfl ?_
  intro K hK
  go_simp
  refine hK.out _ _ (Or.inr hSs) ?_;clear hK K
  refine zgs (by kernel_rfl) ?_ _
  dsimp only [onlyN];clear y0 y1 y2 y3 y4 y5 r0 r1 r2 r3 r4 r5;go_wp2_with fail;have f1:=zb4 (u0:= .slice ap np cp) (u1:= .slice al nl cl) (u2:= .int .i64 nx) (u3:= .slice au nu cu) (u4:= .slice ag ng cg) (u5:= .slice af nf cf) HR.out;obtain ⟨q0,q1,q2,q3,q4,q5⟩:=blk6c f1
  have hbf:Below w.heap.size w (set6 wd (w.heap.size+1) (.slice ap np cp) (.slice al nl cl) (.int .i64 nx) (.slice au nu cu) (.slice ag ng cg) (.slice af nf cf)):=hWw.trans (zae HK6.out hWw.size (fun j e=>by omega))
  have hl1:l.length=1:=HLh.out.symm
  have htp:topP k l=pg:=by
   unfold topP;rw [if_pos hl1,List.getD_eq_getElem?_getD,List.getElem?_map,HX.out]
   rfl
  refine bodyPost_ret (v:= .tuple #[.agg #[.slice ap np cp,.slice al nl cl,.int .i64 nx,.slice au nu cu,.slice ag ng cg,.slice af nf cf],.int .i64 pg,.bool true]) (by simp [results,Tryz.results40,go_sem,q0,q1,q2,q3,q4,q5]) rfl ⟨_,by rw [htp],?_,fun j hj=>Or.inl hj,hbf⟩
  unfold topK;rw [if_pos hl1];exact zaC HO.out hbf
 ·have hp:=hp h1
  obtain ⟨hpt,hkt⟩:topP k l=putP k false (l.map (·.1)) [] (l.map (·.2))/\topK k l=putK k false (l.map (·.1)) [] (l.map (·.2)):=by
   unfold topP topK
   rw [if_neg (by rw [<-HLh.out];exact h1),if_neg (by rw [<-HLh.out];exact h1)]
   exact ⟨rfl,rfl⟩
  have HPt:=hide (⟨hpt,hkt⟩:_/\_)
  have HPn:=hide (fun (wx:World) (nv:Value) (hb:Below w.heap.size w wx) (hn:NodeAt wx nv false (l.map (·.1)) [] (l.map (·.2)))=>zch _ k hk nv false (l.map (·.1)) [] (l.map (·.2)) (by rw [List.length_map,<-HLh.out];omega) (by simp) (by rw [List.length_map,<-HLh.out];omega) (fun s hs=>by obtain ⟨x,hx,rfl⟩:=List.mem_map.1 hs;exact hks x hx) (fun s hs=>by cases hs) wx (zah HT.out hb) (zaf HD.out hb) hn)
  obtain ⟨pg,hpg⟩:∃p,p=putP k false (l.map (·.1)) [] (l.map (·.2)):=⟨_,rfl⟩;obtain ⟨kn,hkn⟩:∃p,p=putK k false (l.map (·.1)) [] (l.map (·.2)):=⟨_,rfl⟩;rw [<-hpg] at HPn HPt hp;rw [<-hkn] at HPn HPt;clear hpt hkt hpg hkn
  have hn1:¬(lh:Int)=1:=by omega
  go_enter Tryz.func40,Tryz.ntmps40;go_wp2_with fail;rw [<-hw0];clear hw0;refine (HEn.out w0 (za1 HH.out HB0.out.1)).mono ?_;rintro e w1 ⟨v1,v2,rfl,ho1,ho2,hb1⟩;obtain ⟨b1,d1,rfl⟩:=za4 ho1;obtain ⟨b2,d2,rfl⟩:=za4 ho2;have HB1:Hid (Below w.heap.size w w1):=hide (HB0.out.1.trans (hb1.mono HB0.out.1.size));have HQ1:=hide (⟨stays HB0.out.2.1 hb1,stays HB0.out.2.2 hb1⟩:_/\_)
  have HNd:Hid (NodeAt w1 (.agg #[.bool false,.slice b1 lh d1,.slice none 0 0,.slice b2 lh d2]) false (l.map (·.1)) [] (l.map (·.2))):=hide ⟨_,_,_,rfl,by rw [List.length_map,<-HLh.out];exact zac ho1,⟨rfl,none,0,rfl,Or.inl rfl⟩,by rw [List.length_map,<-HLh.out];exact zac ho2⟩
  obtain ⟨c0,c1,c2,c3,c4,c5⟩:=blk6c HQ1.out.1;clear ho1 ho2 hb1 HEn;go_wp2_with fail;refine (HPn.out w1 _ HB1.out HNd.out).mono ?_;rintro e w2 ⟨v',rfl,how,hb2⟩;have HB2:Hid (Below w.heap.size w w2):=hide (HB1.out.trans (hb2.mono HB1.out.size));have hq2:=stays HQ1.out.2 hb2;obtain ⟨a1,e1,a2,e2,a3,e3,a4,e4,a5,e5,rfl⟩:=zaX how;have HOw:=hide how
  have hx2:∀o,Below w2.heap.size w2 (w2.alloc o):=fun o=>(Below.refl _ _).alloc (Nat.le_refl _) o
  have hq3:=fun o=>stays hq2 (hx2 o)
  have r0:=fun o=>(za0 (hq3 o) 0).1
  have r1:=fun o=>(za0 (hq3 o) 1).1
  have r2:=fun o=>(za0 (hq3 o) 2).1
  have r3:=fun o=>(za0 (hq3 o) 3).1
  have r4:=fun o=>(za0 (hq3 o) 4).1
  have r5:=fun o=>(za0 (hq3 o) 5).1
  have y0:=fun o=>(za0 (hq3 o) 0).2
  have y1:=fun o=>(za0 (hq3 o) 1).2
  have y2:=fun o=>(za0 (hq3 o) 2).2
  have y3:=fun o=>(za0 (hq3 o) 3).2
  have y4:=fun o=>(za0 (hq3 o) 4).2
  have y5:=fun o=>(za0 (hq3 o) 5).2
  have HQ3:=hide hq3;have HX2:=hide hx2
  have hpb:(pg ==0)=false:=by simpa using hp
  clear how hb2 hq2 hq3 hx2 HPn c0 c1 c2 c3 c4 c5;go_wp2_with fail;have hA:=HX2.out (Obj.cells #[.slice a1 kn.ps.length e1,.slice a2 kn.ls.length e2,.int .i64 kn.next,.slice a3 kn.us.length e3,.slice a4 kn.gs.length e4,.slice a5 kn.fs.length e5] 34);have hr:=HQ3.out (Obj.cells #[.slice a1 kn.ps.length e1,.slice a2 kn.ls.length e2,.int .i64 kn.next,.slice a3 kn.us.length e3,.slice a4 kn.gs.length e4,.slice a5 kn.fs.length e5] 34);have f1:=zb4 (u0:= .slice a1 kn.ps.length e1) (u1:= .slice a2 kn.ls.length e2) (u2:= .int .i64 kn.next) (u3:= .slice a3 kn.us.length e3) (u4:= .slice a4 kn.gs.length e4) (u5:= .slice a5 kn.fs.length e5) hr;have hk6:=zaw (w2.alloc (Obj.cells #[.slice a1 kn.ps.length e1,.slice a2 kn.ls.length e2,.int .i64 kn.next,.slice a3 kn.us.length e3,.slice a4 kn.gs.length e4,.slice a5 kn.fs.length e5] 34)) (w.heap.size+1) (.slice a1 kn.ps.length e1) (.slice a2 kn.ls.length e2) (.int .i64 kn.next) (.slice a3 kn.us.length e3) (.slice a4 kn.gs.length e4) (.slice a5 kn.fs.length e5);obtain ⟨q0,q1,q2,q3,q4,q5⟩:=blk6c f1
  have hpn:(pg !=0)=true:=by simpa using hp
  have hz1:=(Array.getElem?_eq_some_iff.1 HQ1.out.2).1
  refine bodyPost_ret (v:= .tuple #[.agg #[.slice a1 kn.ps.length e1,.slice a2 kn.ls.length e2,.int .i64 kn.next,.slice a3 kn.us.length e3,.slice a4 kn.gs.length e4,.slice a5 kn.fs.length e5],.int .i64 pg,.bool (pg !=0)]) (by simp [results,Tryz.results40,go_sem,q0,q1,q2,q3,q4,q5]) rfl ⟨_,by rw [HPt.out.1,hpn],?_,fun j hj=>Or.inr (Nat.le_trans HB1.out.size (zam HOw.out j hj).1),(HB2.out.trans (hA.mono HB2.out.size)).trans (zae hk6 (Nat.le_trans HB2.out.size hA.size) (fun j e=>by omega))⟩
  rw [HPt.out.2]
  exact zb1 (zaz (zaC HOw.out hA) hk6 (fun j hj e=>by have:=zam HOw.out j hj;omega)) (Nat.le_trans HBB.out HB1.out.size)
end Go.Proofs.YtcbogiebfbbmbaaGreatDoor
