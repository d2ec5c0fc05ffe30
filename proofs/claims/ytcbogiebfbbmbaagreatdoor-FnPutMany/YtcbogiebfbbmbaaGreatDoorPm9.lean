/-
  Facts and contracts that the law's own text rests on, by their texts' names: Plain18, SpecIn, SrtPlain, SpecSorted, SpecDrop, Draw, Draw2, NodeGrow, SepNode, Plain23, Plain24, Plain17, PlaceFacts, SpecSet, PutGo, Plain11.
-/
import Derived.Test.YtcbogiebfbbmbaaGreatDoorPm3
import Derived.BigQuiet
import Derived.Deep.RegionHeld3
import Derived.Test.YtcbogiebfbbmbaaGreatDoorPm1
import Derived.WalkKit
import Derived.Test.YtcbogiebfbbmbaaGreatDoorPm8
import Derived.Test.YtcbogiebfbbmbaaGreatDoorPm7
import Derived.Test.YtcbogiebfbbmbaaGreatDoorPm2
import Derived.Deep.QuietTactic
import Derived.Laws.BitsAllLaws
import Derived.Laws.OwnMore
import Derived.Laws.Pointers
import Derived.Laws.Shifts
import Derived.Outline
import Derived.OwnWalk
import Derived.WalkSmall
import Derived.WalkSpells
import Derived.Test.YtcbogiebfbbmbaaGreatDoorProg
import Derived.Deep.LoopGhost
import Derived.Deep.AppendLies
import Derived.Test.YtcbogiebfbbmbaaGreatDoorPm4
import Derived.Laws.Cover1
import Derived.Test.YtcbogiebfbbmbaaGreatDoorPm5
set_option maxHeartbeats 16000000
set_option maxRecDepth 100000
namespace Go.Proofs.YtcbogiebfbbmbaaGreatDoor
structure Mt where
 tx:Int
 root:Int
 next:Int
 fs:List (Int×List Int)
open Go.RowKit
theorem zlQ (l:List Int) (hl:l.length<=1048576) (x:Int) (v:Value) (w:World) (hr:RowAt w 1 v l.length (ints l)):
  Calls Tryz.prog 67 #[v,.int .i64 x] w fun e w'=>e= .returned (.bool (decide (x∈l)))/\w=w':=by
 obtain ⟨-,a,cap,rfl,h2⟩:=hr;have HR:=hide h2;clear h2;go_enter Tryz.func67,Tryz.ntmps67
 go_wp2
 go_loopg [5] l.length (fun q iv wr=>∃k:Nat,k<=l.length/\iv= .int .i64 (k:Int)/\q+k=l.length/\Hid (x∉l.take k)/\w=wr)
 case atStart=>exact ⟨0,Nat.zero_le _,rfl,rfl,hide (by simp),rfl⟩
 case round=>
  obtain ⟨k,hk,rfl,hg,HT,rfl⟩:=hrel;have HG:=hide hg;clear hg
  by_cases hlt:k<l.length
  ·rcases HR.out with hn0 | ⟨b,off,rfl,hbl,hc⟩
   ·omega
   ·obtain ⟨y,hy⟩:∃y,y=l[k]:=⟨_,rfl⟩
    have hcx:w.cell? ⟨b,off+k,none⟩=some (.int .i64 y):=by rw [hc k (by omega),ints_at l k hlt,hy]
    have HY:=hide hy
    have hk0:(0:Int)<=(k:Int):=by omega
    have hk1:(k:Int)<(l.length:Int):=by omega
    clear hc hy
    by_cases hxy:y=x
    ·have HD:Hid (decide (x∈l)=true):=hide (decide_eq_true (by rw [<-hxy,HY.out];exact List.getElem_mem hlt))
     subst hxy
     go_wp2
     go_ret;rw [HD.out];exact ⟨rfl,rfl⟩
    ·have HT2:Hid (x∉l.take (k+1)):=hide (fun h=>by
      rw [List.take_succ_eq_append_getElem hlt] at h
      rcases List.mem_append.1 h with h | h
      ·exact HT.out h
      ·rw [List.mem_singleton,<-HY.out] at h;exact hxy h.symm)
     have hbq:(y ==x)=false:=by simp [hxy]
     have hbd:decide (y=x)=false:=decide_eq_false hxy;clear hxy
     go_wp2
     go_roundg (gk - 1)
     case measure=>have:=HG.out;omega
     case rel=>exact ⟨k+1,by omega,by go_num,by have:=HG.out;omega,HT2,rfl⟩
  ·have HD:Hid (decide (x∈l)=false):=hide (decide_eq_false (by
    have h1:=HT.out
    rw [List.take_of_length_le (by omega)] at h1
    exact h1))
   go_wp2
   go_ret;rw [HD.out];exact ⟨rfl,rfl⟩
def Srt (l:List Int):Prop:=l.Pairwise (fun x y=>x<=y)
theorem srt_one {l m:List Int} (h:l.Perm m) (hl:Srt l) (hm:Srt m):l=m:=
 h.eq_of_pairwise (fun _ _ _ _ h1 h2=>Int.le_antisymm h1 h2) hl hm
structure InsI (l0 l:List Int) (i k:Nat):Prop where
 perm:l.Perm l0
 ki:k<=i
 il:i<l.length
 ord:∀a b,a<b->b<=i->b≠k->l.getD a 0<=l.getD b 0
theorem srt_of {l:List Int} (h:∀a b,a<b->b<l.length->l.getD a 0<=l.getD b 0):Srt l:=by
 rw [Srt,List.pairwise_iff_getElem];intro i j hi hj hij;have:=h i j hij hj
 simpa [List.getD_eq_getElem?_getD,hi,hj] using this
def xch (l:List Int) (k:Nat):List Int:=(l.set k (l.getD (k - 1) 0)).set (k - 1) (l.getD k 0)
theorem zkT (l:List Int) (k:Nat):(xch l k).length=l.length:=by simp [xch]
theorem zn4 (l:List Int) (k:Nat) (h:k<l.length):(xch l k).Perm l:=by
 have h1:k - 1<l.length:=by omega
 have:=List.set_set_perm (i:=k) (j:=k - 1) h h1
 simpa [xch,List.getD_eq_getElem?_getD,h,h1] using this
theorem xch_at (l:List Int) (k a:Nat) (hk:0<k) (h:k<l.length):(xch l k).getD a 0=if a=k then l.getD (k - 1) 0 else if a=k - 1 then l.getD k 0 else l.getD a 0:=by
 have h1:k - 1<l.length:=by omega
 simp only [xch,List.getD_eq_getElem?_getD,List.getElem?_set,List.length_set]
 by_cases e1:a=k
 ·subst e1
  have:¬a - 1=a:=by omega
  simp [this,h]
 ·by_cases e2:a=k - 1
  ·subst e2;simp [h1,e1]
  ·have g1:¬k - 1=a:=fun e=>e2 e.symm
   have g2:¬k=a:=fun e=>e1 e.symm
   simp [g1,g2,e1,e2]
theorem InsI.step {l0 l:List Int} {i k:Nat} (h:InsI l0 l i k) (hk:0<k) (hgt:l.getD k 0<l.getD (k - 1) 0):InsI l0 (xch l k) i (k - 1) where
 perm:=(zn4 l k (Nat.lt_of_le_of_lt h.ki h.il)).trans h.perm
 ki:=by have:=h.ki;omega
 il:=by rw [zkT];exact h.il
 ord a b hab hb hbk:=by
  have hkl:=Nat.lt_of_le_of_lt h.ki h.il;rw [xch_at l k a hk hkl,xch_at l k b hk hkl]
  by_cases b1:b=k
  ·subst b1
   rw [if_pos rfl,if_neg (by omega)]
   by_cases a1:a=b - 1
   ·rw [if_pos a1];omega
   ·rw [if_neg a1];exact h.ord a (b - 1) (by omega) (by omega) (by omega)
  ·rw [if_neg b1,if_neg hbk]
   by_cases a1:a=k
   ·rw [if_pos a1];exact h.ord (k - 1) b (by omega) hb b1
   ·rw [if_neg a1]
    by_cases a2:a=k - 1
    ·rw [if_pos a2];have:=h.ord k b (by omega) hb b1;exact this
    ·rw [if_neg a2];exact h.ord a b hab hb b1
theorem InsI.fin {l0 l:List Int} {i k:Nat} (h:InsI l0 l i k) (hd:k=0\/¬(l.getD k 0<l.getD (k - 1) 0)):∀a b,a<b->b<=i->l.getD a 0<=l.getD b 0:=by
 intro a b hab hb
 by_cases b1:b=k
 ·subst b1
  rcases hd with hd | hd
  ·omega
  ·by_cases a1:a=b - 1
   ·rw [a1];omega
   ·have:=h.ord a (b - 1) (by omega) (by omega) (by omega);omega
 ·exact h.ord a b hab hb b1
open Go.RowKit
theorem zfT {l:List Int} {k:Nat} (h:k<l.length):(ints l)[k]?=some (.int .i64 (l.getD k 0)):=by rw [ints_at l k h];simp [List.getD_eq_getElem?_getD,h]
theorem zeg (l:List Int) (hl:l.length<=1048576) (v:Value) (w:World) (hr:RowAt w 1 v l.length (ints l)):
  Calls Tryz.prog 22 #[v] w fun e w'=>∃v' m,e= .returned v'/\w'.ownsRow w.heap.size 3 1 v' m.length (ints m)/\m.Perm l/\Srt m/\Below w.heap.size w w':=by
 obtain ⟨i0,hi,hz0,hz1,hz2⟩:=info_parts Tryz.infoIntR;obtain ⟨w0,hw0⟩:∃w0,w0=w.alloc (Obj.cells #[] 3):=⟨_,rfl⟩
 have hb0:Below w.heap.size w w0:=by rw [hw0];exact (Below.refl _ _).alloc (Nat.le_refl _) _
 have hown0:w0.ownsRow w.heap.size 3 1 (.slice (some ⟨w.heap.size,0,none⟩) 0 0) 0 (ints []):=by rw [hw0];exact ⟨rfl,Or.inr ⟨_,0,#[],rfl,Nat.le_refl _,heap_alloc_new w _,Nat.le_refl _,Nat.zero_le _,rfl,rfl⟩⟩
 have HRow:=hide (za1 hr hb0);clear hr;go_enter Tryz.func22,Tryz.ntmps22
 go_wp2_with (at_builtin;rw [<-hw0];refine zct _ rfl _ _ 32 rfl w.heap.size 3 i0 (.int .i64 0) 1 8 Tryz.underlying32 hi hz0 hz1 hz2 rfl (by decide) _ _ _ rfl hown0 _ _ _ rfl HRow.out (zha _) ?_ ?_ ?_ ?_)
 ·unfold maxLen;omega
 ·omega
 ·exact hb0.size
 intro y c w1 hown1 hg1;rw [<-hw0] at hg1
 have HB1:Hid (Below w.heap.size w w1):=hide (hb0.grown hg1 hb0.size (fun k hk=>by cases hk;exact Nat.le_refl _))
 have HO1:Hid (w1.ownsRow w.heap.size 3 1 (.slice y l.length c) l.length (ints l)):=hide hown1;clear hown1 hg1 hw0 HRow hown0 hb0;go_wp2_with fail
 go_loopg [4] l.length (fun q iv wr=>∃(i:Nat) (m:List Int),1<=i/\i<=l.length+1/\q+i=l.length+1/\iv= .int .i64 (i:Int)/\Hid (wr.ownsRow w.heap.size 3 1 (.slice y l.length c) l.length (ints m))/\Hid (m.Perm l/\∀a b,a<b->b<i->b<m.length->m.getD a 0<=m.getD b 0)/\Hid (Below w.heap.size w wr))
 case atStart=>exact ⟨1,l,Nat.le_refl _,by omega,rfl,rfl,HO1,hide ⟨List.Perm.refl _,fun a b h1 h2 h3=>by omega⟩,HB1⟩
 case round=>
  obtain ⟨i,m,hi1,hi2,hq,rfl,HOw,HM,HB⟩:=hrel;have HQ:=hide hq;clear hq
  by_cases hlt:i<l.length
  ·obtain ⟨g,rfl⟩:∃g,y=some ⟨g,0,none⟩:=by
    rcases HOw.out.2 with ⟨e,h0⟩ | ⟨g,cc,cur,e,_⟩
    ·omega
    ·injection e with e1;exact ⟨g,e1⟩
   have hi0:(0:Int)<=(i:Int):=by omega
   have hil:(i:Int)<(l.length:Int):=by omega
   obtain ⟨go,hgo⟩:∃go,go=gk:=⟨_,rfl⟩;rw [<-hgo] at HQ
   have HI0:Hid (InsI l m i i):=hide ⟨HM.out.1,Nat.le_refl _,by rw [HM.out.1.length_eq];exact hlt,fun a b h1 h2 h3=>HM.out.2 a b h1 (by omega) (by rw [HM.out.1.length_eq];omega)⟩
   clear HM HO1 HB1;go_wp2_with fail
   go_loopg [5] i (fun q kv wr=>∃(k:Nat) (m2:List Int),k<=i/\q=k/\kv= .int .i64 (k:Int)/\Hid (wr.ownsRow w.heap.size 3 1 (.slice (some ⟨g,0,none⟩) l.length c) l.length (ints m2))/\Hid (InsI l m2 i k)/\Hid (Below w.heap.size w wr))
   case atStart=>exact ⟨i,m,Nat.le_refl _,rfl,rfl,HOw,HI0,HB⟩
   case round=>
    clear HOw HI0 HB;obtain ⟨k,m2,hk,hqk,rfl,HOw,HI,HB⟩:=hrel;have HK:=hide hqk;clear hqk;have hml:m2.length=l.length:=HI.out.perm.length_eq;have HML:=hide hml
    have HFin:(k=0\/¬(m2.getD k 0<m2.getD (k - 1) 0))->Hid (m2.Perm l/\∀a b,a<b->b<i+1->b<m2.length->m2.getD a 0<=m2.getD b 0):=fun hd=>hide ⟨HI.out.perm,fun a b h1 h2 _=>HI.out.fin hd a b h1 (by omega)⟩
    clear hml
    rcases Nat.eq_zero_or_pos k with rfl | hkp
    ·have HF:=HFin (Or.inl rfl)
     clear HFin;go_wp2_with fail
     go_quiet (fail)
     go_wp2_with fail
     go_roundg (go - 1)
     case measure=>have:=HQ.out;omega
     case rel=>exact ⟨i+1,m2,by omega,by omega,by have:=HQ.out;omega,by go_num,HOw,HF,hide (below_drewN HB.out _)⟩
    ·obtain ⟨j,rfl⟩:∃j,k=j+1:=⟨k - 1,by omega⟩
     obtain ⟨x,hx⟩:∃x,x=m2.getD (j+1) 0:=⟨_,rfl⟩;obtain ⟨z,hz⟩:∃z,z=m2.getD j 0:=⟨_,rfl⟩;have ho:=HOw.out
     have c1:wr.cell? ⟨g,j+1,none⟩=some (.int .i64 x):=by rw [ho.cellAt (j+1) (by omega),zfT (by rw [HML.out];omega),hx]
     have c0:wr.cell? ⟨g,j,none⟩=some (.int .i64 z):=by rw [ho.cellAt j (by omega),zfT (by rw [HML.out];omega),hz]
     have hj0:(0:Int)<=(j:Int):=by omega
     have hj1:(j:Int)+1<(l.length:Int):=by omega
     have hj2:(j:Int)<(l.length:Int):=by omega
     have HX:Hid ((m2.set (j+1) z).set j x=xch m2 (j+1)):=hide (by rw [xch,hx,hz];rfl)
     have HZ:=hide hz
     have HSt:x<z->Hid (InsI l ((m2.set (j+1) z).set j x) i j):=fun h=>hide (by rw [HX.out];exact HI.out.step hkp (by rw [<-hx];exact hz▸h))
     have HNo:¬(x<z)->Hid (m2.Perm l/\∀a b,a<b->b<i+1->b<m2.length->m2.getD a 0<=m2.getD b 0):=fun h=>HFin (Or.inr (by rw [<-hx];exact hz▸h))
     clear ho HFin hx hz
     by_cases hgt:x<z
     ·have HS:=HSt hgt
      clear HSt HNo;go_wp2_with fail
      go_quiet (fail)
      obtain ⟨wq,hwq⟩:∃wq,wq=wr.drewN nq:=⟨_,rfl⟩
      have HOq:Hid (wq.ownsRow w.heap.size 3 1 (.slice (some ⟨g,0,none⟩) l.length c) l.length (ints m2)):=hide (by rw [hwq];exact HOw.out)
      have HBq:Hid (Below w.heap.size w wq):=hide (by rw [hwq];exact below_drewN HB.out _)
      have d1:wq.cell? ⟨g,j+1,none⟩=some (.int .i64 x):=by rw [hwq];exact c1
      have d0:wq.cell? ⟨g,j,none⟩=some (.int .i64 z):=by rw [hwq];exact c0
      have ho:=HOq.out;rw [<-hwq];clear hwq c1 c0;have f1:wq.frozen? ⟨g,j+1,none⟩=false:=ho.frozenAt (j+1);have HO2:=hide ((ho.stored (j+1) (.int .i64 z)).1);rw [ints_set] at HO2
      have c2:(wq.setCell ⟨g,j+1,none⟩ (.int .i64 z)).cell? ⟨g,j,none⟩=some (.int .i64 z):=by
       rw [HO2.out.cellAt j (by omega),zfT (by rw [List.length_set,HML.out];omega)]
       simp [List.getD_eq_getElem?_getD,HZ.out]
      have f2:(wq.setCell ⟨g,j+1,none⟩ (.int .i64 z)).frozen? ⟨g,j,none⟩=false:=HO2.out.frozenAt j;have HO3:=hide ((HO2.out.stored j (.int .i64 x)).1);rw [ints_set] at HO3;have HB3:Hid (Below w.heap.size w ((wq.setCell ⟨g,j+1,none⟩ (.int .i64 z)).setCell ⟨g,j,none⟩ (.int .i64 x))):=hide ((HBq.out.setCell (HOq.out.lt g rfl).1 _).setCell (HOq.out.lt g rfl).1 _);clear ho;go_wp2_with fail
      go_roundg (gk - 1)
      case measure=>have:=HK.out;omega
      case rel=>exact ⟨j,_,by omega,by have:=HK.out;omega,by go_num,HO3,HS,HB3⟩
     ·have HN:=HNo hgt
      clear HSt HNo;go_wp2_with fail
      go_quiet (fail)
      go_wp2_with fail
      go_roundg (go - 1)
      case measure=>have:=HQ.out;omega
      case rel=>exact ⟨i+1,m2,by omega,by omega,by have:=HQ.out;omega,by go_num,HOw,HN,hide (below_drewN HB.out _)⟩
  ·have HS:Hid (Srt m):=hide (srt_of fun a b h1 h2=>HM.out.2 a b h1 (by have:=HM.out.1.length_eq;omega) h2)
   go_wp2_with fail;go_ret
   exact ⟨_,m,rfl,by rw [HM.out.1.length_eq];exact HOw.out,HM.out.1,HS.out,HB.out⟩
open Go.RowKit
theorem zbm {w:World} {sz n:Nat} {v:Value} {xs:List Value} (h:RowAt w sz v n xs):∃a cap,v= .slice a n cap:=by
 obtain ⟨-,a,cap,e,-⟩:=h;exact ⟨a,cap,e⟩
theorem zgV (l:List Int):Srt (l.mergeSort fun x y=>decide (x<=y)):=by
 have h:=List.pairwise_mergeSort (le:=fun x y:Int=>decide (x<=y)) (fun a b c h1 h2=>by simp at h1 h2⊢;omega) (fun a b=>by simp;omega) l
 exact h.imp (fun h=>by simpa using h)
def srtL (l:List Int):List Int:=l.mergeSort fun x y=>decide (x<=y)
theorem zji {l m:List Int} (h:m.Perm l) (hs:Srt m):m=srtL l:=srt_one (h.trans (List.mergeSort_perm _ _).symm) hs (zgV _)
theorem zk2 (l:List Int):(srtL l).length=l.length:=List.length_mergeSort _
def dropS (k:Wk) (page:Int):Wk:=if page∈k.fs then {k with us:=srtL (k.us++ [page]),fs:=k.fs.filter (fun x=>x !=page)} else {k with gs:=k.gs++ [page]}
open Go.RowKit
def CodeIn (w:World) (B:Nat) (a:Option Addr) (len:Nat):Prop:=
 len<=1048576/\(len=0\/∃b off,a=some ⟨b,off,none⟩/\b<B/\∀j,j<len->∃z:Nat,z<256/\w.cell? ⟨b,off+j,none⟩=some (.int .u8 (z:Int)))
def CurAt (w:World) (g:Nat) (a:Option Addr) (len cap:Nat):Prop:=
 ∃(i:Nat) (h:Int),i<=len/\w.heap[g]?=some (.cells #[.slice a len cap,.int .i64 (i:Int),.int .i64 h] 78 (0,0))
theorem and255 (z:Int):0<=bits BinOp.and IntKind.i64 z 255/\bits BinOp.and IntKind.i64 z 255<=255:=by
 have e:bits BinOp.and IntKind.i64 z 255=IntKind.i64.wrap ((BitVec.ofInt 64 z &&& BitVec.ofInt 64 255).toNat:Int):=rfl
 have h:(BitVec.ofInt 64 z &&& BitVec.ofInt 64 255).toNat<=255:=by
  rw [BitVec.toNat_and]
  exact Nat.le_trans Nat.and_le_right (by decide)
 rw [e,IntWalk.i64_in _ ⟨by omega,by omega⟩]
 omega
theorem zgW (z:Int):∃x:Nat,x<256/\bits BinOp.and IntKind.i64 z 255=(x:Int):=by
 have:=and255 z
 exact ⟨(bits BinOp.and IntKind.i64 z 255).toNat,by omega,by omega⟩
theorem zd9 {w:World} {g:Nat} {cs:Array Value} (h:w.heap[g]?=some (.cells cs 78 (0,0))) (j:Nat):w.cell? ⟨g,j,none⟩=cs[j]?/\w.frozen? ⟨g,j,none⟩=false:=
 ⟨cell_of_row w g j cs 78 (0,0) h,frozen_of_row w g j cs 78 h⟩
theorem za9 (w:World) (g j:Nat) (u:Value):w.grownBy (w.setCell ⟨g,j,none⟩ u) (some g):=
 ⟨rfl,rfl,rfl,by simp,fun k _ hk=>heap_setCell_other w ⟨g,j,none⟩ k u (fun e=>hk (by simp [e]))⟩
theorem za3 {a b c:World} {r:Option Nat} (h:a.grownBy b r) (k:b.grownBy c r):a.grownBy c r:=
 ⟨k.os.trans h.os,k.tape.trans h.tape,k.output.trans h.output,Nat.le_trans h.size k.size,fun j hj hne=>(k.block j (Nat.lt_of_lt_of_le hj h.size) hne).trans (h.block j hj hne)⟩
theorem zdV {a b:World} {r:Option Nat} (h:a.grownBy b r) (n:Nat):a.grownBy (b.drewN n) r:=za3 h ⟨rfl,rfl,rfl,Nat.le_refl _,fun _ _ _=>rfl⟩
theorem zjj (g B:Nat) (a:Option Addr) (len cap:Nat) (w:World) (hc:CurAt w g a len cap) (hd:CodeIn w B a len) (hB:B<=g):
  Calls Tryz.prog 23 #[.pointer (some ⟨g,0,none⟩)] w fun e w'=>∃x:Nat,x<256/\e= .returned (.int .i64 (x:Int))/\CurAt w' g a len cap/\w.grownBy w' (some g):=by
 obtain ⟨i,h,hi,hblk⟩:=hc;have c0:w.cell? ⟨g,0,none⟩=some (.slice a len cap):=(zd9 hblk 0).1;have c1:w.cell? ⟨g,1,none⟩=some (.int .i64 (i:Int)):=(zd9 hblk 1).1;have c2:w.cell? ⟨g,2,none⟩=some (.int .i64 h):=(zd9 hblk 2).1;have f1:=(zd9 hblk 1).2;have f2:=(zd9 hblk 2).2;have HBlk:=hide hblk;have HD:=hide hd;clear hblk hd;have hlen:len<=1048576:=HD.out.1
 by_cases hlt:i<len
 ·rcases HD.out.2 with h0 | ⟨b,off,rfl,hb,hz⟩
  ·omega
  ·obtain ⟨z,hz256,hzc⟩:=hz i hlt
   have hne:b≠g:=by omega
   have hcode:∀u,(w.setCell ⟨g,2,none⟩ u).cell? ⟨b,off+i,none⟩=some (.int .u8 (z:Int)):=fun u=>by
    rw [World.cell?_of_block (heap_setCell_other w ⟨g,2,none⟩ b u hne)];exact hzc
   have HN:=hide hne;clear hz hzc hne
   have hi0:(0:Int)<=(i:Int):=by omega
   have hi1:(i:Int)<(len:Int):=by omega
   have hw1:=(zas ((z:Int)) (by omega) (by omega))
   go_enter Tryz.func23,Tryz.ntmps23
   go_wp2
   go_quiet (fail)
   go_wp2
   go_quiet (fail)
   go_wp2
   go_quiet (fail)
   go_wp2
   go_ret;obtain ⟨x,hx,e⟩:=zgW (wrap64 (bits BinOp.and IntKind.i64 (bits BinOp.xor IntKind.i64 (wrap64 (wrap64 (h * 6364136223846793005)+1442695040888963407) / 8589934592) (wrap64 (wrap64 (h * 6364136223846793005)+1442695040888963407) / 35184372088832)) 255+(z:Int)))
   refine ⟨x,hx,by rw [<-e];rfl,⟨i+1,wrap64 (wrap64 (h * 6364136223846793005)+1442695040888963407),by omega,?_⟩,?_⟩
   ·exact heap_setCell_same (w.setCell ⟨g,2,none⟩ _) g 1 _ _ _ (heap_setCell_same w g 2 _ _ _ HBlk.out)
   ·exact za3 (zdV (za9 w g 2 _) _) (za9 _ g 1 _)
 ·have hnl:decide ((i:Int)<(len:Int))=false:=by simp;omega
  go_enter Tryz.func23,Tryz.ntmps23
  go_wp2
  go_quiet (fail)
  go_wp2
  go_quiet (fail)
  go_wp2
  go_ret;obtain ⟨x,hx,e⟩:=zgW (bits BinOp.xor IntKind.i64 (wrap64 (wrap64 (h * 6364136223846793005)+1442695040888963407) / 8589934592) (wrap64 (wrap64 (h * 6364136223846793005)+1442695040888963407) / 35184372088832))
  refine ⟨x,hx,by rw [<-e];rfl,⟨i,wrap64 (wrap64 (h * 6364136223846793005)+1442695040888963407),hi,?_⟩,?_⟩
  ·exact heap_setCell_same w g 2 _ _ _ HBlk.out
  ·exact zdV (zdV (za9 w g 2 _) _) _
def Drawn (w w':World) (g B:Nat) (a:Option Addr) (len cap:Nat):Prop:=CurAt w' g a len cap/\w.grownBy w' (some g)/\CodeIn w' B a len
theorem zdx {w w':World} {g B:Nat} {a:Option Addr} {len:Nat} (h:CodeIn w B a len) (hg:w.grownBy w' (some g)) (hB:B<=g) (hs:g<w.heap.size):CodeIn w' B a len:=by
 refine ⟨h.1,?_⟩
 rcases h.2 with h0 | ⟨b,off,e,hb,hz⟩
 ·exact Or.inl h0
 ·refine Or.inr ⟨b,off,e,hb,fun j hj=> ?_⟩
  obtain ⟨z,h1,h2⟩:=hz j hj
  exact ⟨z,h1,by rw [World.cell?_of_block (hg.block b (by omega) (by simp;omega))];exact h2⟩
theorem zgX {w:World} {g:Nat} {a:Option Addr} {len cap:Nat} (h:CurAt w g a len cap):g<w.heap.size:=by
 obtain ⟨i,x,_,hb⟩:=h;exact (Array.getElem?_eq_some_iff.1 hb).1
theorem zc2 (g B:Nat) (a:Option Addr) (len cap:Nat) (w:World) (hc:CurAt w g a len cap) (hd:CodeIn w B a len) (hB:B<=g):
  Calls Tryz.prog 23 #[.pointer (some ⟨g,0,none⟩)] w fun e w'=>∃x:Nat,x<256/\e= .returned (.int .i64 (x:Int))/\Drawn w w' g B a len cap:=by
 refine (zjj g B a len cap w hc hd hB).mono ?_;rintro e w1 ⟨x,hx,rfl,h1,h2⟩;exact ⟨x,hx,rfl,h1,h2,zdx hd h2 hB (zgX hc)⟩
theorem zbn {a b c:World} {g B:Nat} {ad:Option Addr} {len cap:Nat} (h:Drawn a b g B ad len cap) (k:Drawn b c g B ad len cap):Drawn a c g B ad len cap:=⟨k.1,za3 h.2.1 k.2.1,k.2.2⟩
theorem zda (g B:Nat) (a:Option Addr) (len cap n:Nat) (hn:0<n) (hn1:n<=4294967296) (w:World) (hc:CurAt w g a len cap) (hd:CodeIn w B a len) (hB:B<=g):
  Calls Tryz.prog 24 #[.pointer (some ⟨g,0,none⟩),.int .i64 (n:Int)] w fun e w'=>∃x:Nat,x<n/\e= .returned (.int .i64 (x:Int))/\Drawn w w' g B a len cap:=by
 have HD:=hide hd;have HC:=hide hc;clear hd hc
 by_cases h256:n<=256
 ·go_enter Tryz.func24,Tryz.ntmps24
  go_wp2_with fail;refine (zc2 g B a len cap _ HC.out HD.out hB).mono ?_;rintro e w1 ⟨x,hx,rfl,h1⟩;have H1:=hide h1
  have hnz:((n:Int) ==0)=false:=by rw [beq_eq_false_iff_ne];omega
  clear h1;go_wp2_with fail;go_ret
  exact ⟨x % n,Nat.mod_lt _ hn,by simp,H1.out⟩
 ·go_enter Tryz.func24,Tryz.ntmps24
  go_wp2_with fail;refine (zc2 g B a len cap _ HC.out HD.out hB).mono ?_;rintro e w1 ⟨x1,hx1,rfl,h1⟩;have H1:=hide h1;clear h1;go_wp2_with fail;refine (zc2 g B a len cap _ H1.out.1 H1.out.2.2 hB).mono ?_;rintro e w2 ⟨x2,hx2,rfl,h2⟩;have H2:=hide h2;clear h2;go_wp2_with fail;refine (zc2 g B a len cap _ H2.out.1 H2.out.2.2 hB).mono ?_;rintro e w3 ⟨x3,hx3,rfl,h3⟩;have H3:=hide h3;clear h3;go_wp2_with fail;refine (zc2 g B a len cap _ H3.out.1 H3.out.2.2 hB).mono ?_;rintro e w4 ⟨x4,hx4,rfl,h4⟩;have H4:=hide h4;clear h4
  have hnz:((n:Int) ==0)=false:=by rw [beq_eq_false_iff_ne];omega
  go_wp2_with fail;go_ret
  exact ⟨(x1 * 16777216+x2 * 65536+x3 * 256+x4) % n,Nat.mod_lt _ hn,by simp,zbn H1.out (zbn H2.out (zbn H3.out H4.out))⟩
open Go.RowKit
theorem zgY (a:Option Addr) (len cap:Nat) (w:World) (hd:CodeIn w w.heap.size a len):
  Calls Tryz.prog 19 #[.slice a len cap] w fun e w'=>e= .returned (.pointer (some ⟨w.heap.size,0,none⟩))/\CurAt w' w.heap.size a len cap/\CodeIn w' w.heap.size a len/\Below w.heap.size w w':=by
 have hlen:=hd.1;have HD:=hide hd;clear hd;go_enter Tryz.func19,Tryz.ntmps19
 go_wp2
 go_loopg [3,4] len (fun q hv iv wr=>∃(k:Nat) (h:Int),k<=len/\hv= .int .i64 h/\iv= .int .i64 (k:Int)/\q+k=len/\w=wr)
 case atStart=>exact ⟨0,_,Nat.zero_le _,rfl,rfl,rfl,rfl⟩
 case round=>
  obtain ⟨k,h,hk,rfl,rfl,hg,rfl⟩:=hrel;have HG:=hide hg;clear hg
  by_cases hlt:k<len
  ·by_cases h4:k<4000
   ·rcases HD.out.2 with h0 | ⟨b,off,rfl,hb,hz⟩
    ·omega
    ·obtain ⟨z,hz256,hzc⟩:=hz k hlt
     clear hz
     have hi0:(0:Int)<=(k:Int):=by omega
     have hi1:(k:Int)<(len:Int):=by omega
     go_wp2
     go_roundg (gk - 1)
     case measure=>have:=HG.out;omega
     case rel=>exact ⟨k+1,_,by omega,rfl,by go_num,by have:=HG.out;omega,rfl⟩
   ·have hn4:decide ((k:Int)<4000)=false:=by simp;omega
    go_wp2
    go_ret
    exact ⟨rfl,⟨0,h,Nat.zero_le _,heap_alloc_new w _⟩,⟨HD.out.1,HD.out.2.imp id (fun ⟨b,off,e,hb,hz⟩=>⟨b,off,e,hb,fun j hj=>by obtain ⟨z,h1,h2⟩:=hz j hj;exact ⟨z,h1,by rw [World.cell?_of_block (Below.heap_alloc w _ b hb)];exact h2⟩⟩)⟩,(Below.refl _ _).alloc (Nat.le_refl _) _⟩
  ·have hnl:decide ((k:Int)<(len:Int))=false:=by simp;omega
   go_wp2
   go_ret
   exact ⟨rfl,⟨0,h,Nat.zero_le _,heap_alloc_new w _⟩,⟨HD.out.1,HD.out.2.imp id (fun ⟨b,off,e,hb,hz⟩=>⟨b,off,e,hb,fun j hj=>by obtain ⟨z,h1,h2⟩:=hz j hj;exact ⟨z,h1,by rw [World.cell?_of_block (Below.heap_alloc w _ b hb)];exact h2⟩⟩)⟩,(Below.refl _ _).alloc (Nat.le_refl _) _⟩
theorem zdW {a b:World} {r:Option Nat} (h:a.grownBy b r) (o:Obj):a.grownBy (b.alloc o) r:=za3 h (World.grownBy_alloc b o r)
theorem zlR {w wr w1:World} {g:Nat} {row:Option Nat} {o:Obj} (h:w.grownBy wr (some g)) (ha:(wr.alloc o).grownBy w1 row) (hr:∀k,row=some k->w.heap.size<=k):w.grownBy w1 (some g):=by
 have h2:=zdW h o
 exact ⟨ha.os.trans h2.os,ha.tape.trans h2.tape,ha.output.trans h2.output,Nat.le_trans h2.size ha.size,fun k hk hne=>
  (ha.block k (Nat.lt_of_lt_of_le hk h2.size) (fun e=>by have:=hr k e.symm;omega)).trans (h2.block k hk hne)⟩
theorem zdb {w w':World} {g:Nat} {row:Option Nat} {a:Option Addr} {len cap:Nat} (h:CurAt w g a len cap) (hg:w.grownBy w' row) (hne:some g≠row):CurAt w' g a len cap:=by
 have hlt:=zgX h;obtain ⟨i,x,hi,hb⟩:=h;exact ⟨i,x,hi,(hg.block g hlt hne).trans hb⟩
open Go.RowKit
def NSt (w:World) (gn:Nat) (n:Nd) (v1 v2 v3:Value):Prop:=
 w.heap[gn]?=some (.cells #[.bool n.lf,v1,v2,v3] 71 (0,0))/\w.ownsRow (gn+1) 9 1 v1 n.ks.length (strs n.ks)/\w.ownsRow (gn+1) 9 1 v2 n.vs.length (strs n.vs)/\w.ownsRow (gn+1) 3 1 v3 n.cs.length (ints n.cs)/\∀k,v1.ownBlock=some k->v2.ownBlock≠some k
theorem zbb {w:World} {gn:Nat} {n:Nd} {v1 v2 v3:Value} (h:NSt w gn n v1 v2 v3):gn<w.heap.size:=(Array.getElem?_eq_some_iff.1 h.1).1
theorem zb3 {w w':World} {g gn:Nat} {n:Nd} {v1 v2 v3:Value} (h:NSt w gn n v1 v2 v3) (hg:w.grownBy w' (some g)) (hlt:g<gn):NSt w' gn n v1 v2 v3:=by
 have hl:=zbb h;obtain ⟨h0,h1,h2,h3,h4⟩:=h
 refine ⟨(hg.block gn hl (fun e=>by injection e with e;omega)).trans h0,h1.kept hg (Or.inr (fun e=>by have:=(h1.lt _ e).1;omega)),h2.kept hg (Or.inr (fun e=>by have:=(h2.lt _ e).1;omega)),h3.kept hg (Or.inr (fun e=>by have:=(h3.lt _ e).1;omega)),h4⟩
theorem zax {w w':World} {gn:Nat} {n:Nd} {v1 v2 v3:Value} (h:NSt w gn n v1 v2 v3) (hb:Below w.heap.size w w'):NSt w' gn n v1 v2 v3:=by
 have hl:=zbb h;obtain ⟨h0,h1,h2,h3,h4⟩:=h;exact ⟨(hb.block gn hl).trans h0,za6 h1 hb,za6 h2 hb,za6 h3 hb,h4⟩
theorem zbi {w:World} {gn:Nat} {n:Nd} {v1 v2 v3:Value} (h:NSt w gn n v1 v2 v3):NodeOwn w (gn+1) (.agg #[.bool n.lf,v1,v2,v3]) n.lf n.ks n.vs n.cs:=⟨v1,v2,v3,rfl,h.2.1,h.2.2.1,h.2.2.2.1,h.2.2.2.2⟩
theorem zk3 (l:List ByteArray) (x:ByteArray):strs l++ [.string x]=strs (l++ [x]):=by simp [strs]
theorem zn5 (l:List Int) (x:Int):ints l++ [.int .i64 x]=ints (l++ [x]):=by simp [ints]
theorem zdc (w:World) (n:Nat) (hn:n=w.heap.size) (x:Value) (T:TypeId):∀(j:Nat) (u:Value),[x][j]?=some u->(w.alloc (Obj.cells #[x] T)).cell? ((⟨n,0,none⟩:Addr).add j)=some u:=by
 subst hn;intro j u hj
 obtain rfl:j=0:=by have:=(List.getElem?_eq_some_iff.1 hj).1;simp at this;omega
 rw [Addr.add_lit,<-hj];exact (za0 (heap_alloc_new w _) 0).1
theorem apart {u v:Value} (h:∀k,u.ownBlock=some k->v.ownBlock≠some k):v.ownBlock=none\/v.ownBlock≠u.ownBlock:=by
 cases hv:v.ownBlock with
 | none=>exact Or.inl rfl
 | some k=>exact Or.inr (fun e=>h k e.symm hv)
theorem away {u:Value} {gn:Nat} (h:∀k,u.ownBlock=some k->gn<k):some gn≠u.ownBlock:=fun e=>by have:=h gn e.symm;omega
theorem nst_key {w w':World} {gn b cap:Nat} {n:Nd} {v1 v2 v3:Value} {x:ByteArray} (h:NSt w gn n v1 v2 v3) (hown:w'.ownsRow (gn+1) 9 1 (.slice (some ⟨b,0,none⟩) (n.ks.length+1) cap) (n.ks.length+1) (strs n.ks++ [.string x])) (hg:w.grownBy w' v1.ownBlock) (hb:v1.ownBlock=some b\/b=w.heap.size):
  NSt (w'.setCell ⟨gn,1,none⟩ (.slice (some ⟨b,0,none⟩) (n.ks.length+1) cap)) gn ⟨n.lf,n.ks++ [x],n.vs,n.cs⟩ (.slice (some ⟨b,0,none⟩) (n.ks.length+1) cap) v2 v3:=by
 have hl:=zbb h;obtain ⟨h0,h1,h2,h3,h4⟩:=h
 have hgn:w'.heap[gn]?=_:=(hg.block gn hl (away (fun k e=>by have:=(h1.lt k e).1;omega))).trans h0
 have hs:=za9 w' gn 1 (.slice (some ⟨b,0,none⟩) (n.ks.length+1) cap);have k2:=h2.kept hg (apart h4)
 have k3:=h3.kept hg (apart (fun k e=>zbf h1 h3 Tryz.str_int k e))
 refine ⟨heap_setCell_same w' gn 1 _ _ _ hgn,?_,k2.kept hs (Or.inr (fun e=>by have:=(h2.lt _ e).1;omega)),k3.kept hs (Or.inr (fun e=>by have:=(h3.lt _ e).1;omega)),?_⟩
 ·rw [List.length_append,<-zk3]
  exact hown.kept hs (Or.inr (fun e=>by have:=(hown.lt _ e).1;omega))
 ·intro k e1 e2
  have e1:b=k:=Option.some.inj e1;subst e1
  rcases hb with hb | hb
  ·exact h4 b hb e2
  ·have:=(h2.lt b e2).2;omega
theorem nst_val {w w':World} {gn b cap:Nat} {n:Nd} {v1 v2 v3:Value} {x:ByteArray} (h:NSt w gn n v1 v2 v3) (hown:w'.ownsRow (gn+1) 9 1 (.slice (some ⟨b,0,none⟩) (n.vs.length+1) cap) (n.vs.length+1) (strs n.vs++ [.string x])) (hg:w.grownBy w' v2.ownBlock) (hb:v2.ownBlock=some b\/b=w.heap.size):
  NSt (w'.setCell ⟨gn,2,none⟩ (.slice (some ⟨b,0,none⟩) (n.vs.length+1) cap)) gn ⟨n.lf,n.ks,n.vs++ [x],n.cs⟩ v1 (.slice (some ⟨b,0,none⟩) (n.vs.length+1) cap) v3:=by
 have hl:=zbb h;obtain ⟨h0,h1,h2,h3,h4⟩:=h
 have hgn:w'.heap[gn]?=_:=(hg.block gn hl (away (fun k e=>by have:=(h2.lt k e).1;omega))).trans h0
 have hs:=za9 w' gn 2 (.slice (some ⟨b,0,none⟩) (n.vs.length+1) cap)
 have k1:=h1.kept hg (apart (fun k e e'=>h4 k e' e))
 have k3:=h3.kept hg (apart (fun k e=>zbf h2 h3 Tryz.str_int k e))
 refine ⟨heap_setCell_same w' gn 2 _ _ _ hgn,k1.kept hs (Or.inr (fun e=>by have:=(h1.lt _ e).1;omega)),?_,k3.kept hs (Or.inr (fun e=>by have:=(h3.lt _ e).1;omega)),?_⟩
 ·rw [List.length_append,<-zk3]
  exact hown.kept hs (Or.inr (fun e=>by have:=(hown.lt _ e).1;omega))
 ·intro k e1 e2
  have e2:b=k:=Option.some.inj e2;subst e2
  rcases hb with hb | hb
  ·exact h4 b e1 hb
  ·have:=(h1.lt b e1).2;omega
theorem nst_kid {w w':World} {gn b cap:Nat} {n:Nd} {v1 v2 v3:Value} {x:Int} (h:NSt w gn n v1 v2 v3) (hown:w'.ownsRow (gn+1) 3 1 (.slice (some ⟨b,0,none⟩) (n.cs.length+1) cap) (n.cs.length+1) (ints n.cs++ [.int .i64 x])) (hg:w.grownBy w' v3.ownBlock):
  NSt (w'.setCell ⟨gn,3,none⟩ (.slice (some ⟨b,0,none⟩) (n.cs.length+1) cap)) gn ⟨n.lf,n.ks,n.vs,n.cs++ [x]⟩ v1 v2 (.slice (some ⟨b,0,none⟩) (n.cs.length+1) cap):=by
 have hl:=zbb h;obtain ⟨h0,h1,h2,h3,h4⟩:=h
 have hgn:w'.heap[gn]?=_:=(hg.block gn hl (away (fun k e=>by have:=(h3.lt k e).1;omega))).trans h0
 have hs:=za9 w' gn 3 (.slice (some ⟨b,0,none⟩) (n.cs.length+1) cap)
 have k1:=h1.kept hg (apart (fun k e=>zbf h3 h1 Tryz.str_int.symm k e))
 have k2:=h2.kept hg (apart (fun k e=>zbf h3 h2 Tryz.str_int.symm k e))
 refine ⟨heap_setCell_same w' gn 3 _ _ _ hgn,k1.kept hs (Or.inr (fun e=>by have:=(h1.lt _ e).1;omega)),k2.kept hs (Or.inr (fun e=>by have:=(h2.lt _ e).1;omega)),?_,h4⟩
 rw [List.length_append,<-zn5]
 exact hown.kept hs (Or.inr (fun e=>by have:=(hown.lt _ e).1;omega))
theorem zfp {w w':World} {gn b cap:Nat} {n:Nd} {v1 v2 v3:Value} {x:ByteArray} {o:Obj} (h:NSt w gn n v1 v2 v3) (hown:w'.ownsRow (gn+1) 9 1 (.slice (some ⟨b,0,none⟩) (n.ks.length+1) cap) (n.ks.length+1) (strs n.ks++ [.string x])) (hg:(w.alloc o).grownBy w' v1.ownBlock) (hb:v1.ownBlock=some b\/b=(w.alloc o).heap.size):
  NSt (w'.setCell ⟨gn,1,none⟩ (.slice (some ⟨b,0,none⟩) (n.ks.length+1) cap)) gn ⟨n.lf,n.ks++ [x],n.vs,n.cs⟩ (.slice (some ⟨b,0,none⟩) (n.ks.length+1) cap) v2 v3/\Below gn w (w'.setCell ⟨gn,1,none⟩ (.slice (some ⟨b,0,none⟩) (n.ks.length+1) cap))/\w'.cell? ⟨gn,1,none⟩=some v1/\w'.frozen? ⟨gn,1,none⟩=false:=by
 have hl:=zbb h;have hba:Below w.heap.size w (w.alloc o):=(Below.refl _ _).alloc (Nat.le_refl _) _;have hA:=zax h hba
 have hlt:=fun k e=>(h.2.1.lt k e).1
 have cg:w'.heap[gn]?=_:=(hg.block gn (zbb hA) (away (fun k e=>by have:=hlt k e;omega))).trans hA.1
 refine ⟨nst_key hA hown hg hb,?_,(za0 cg 1).1,(za0 cg 1).2⟩
 have h1:Below gn w w':=((Below.refl gn w).alloc (by omega) o).grown hg (by have:=zbb hA;omega) (fun k e=>by have:=hlt k e;omega)
 exact h1.grown (za9 w' gn 1 _) (by have:=h1.size;omega) (fun k e=>by injection e with e;omega)
theorem zk4 {w w':World} {gn b cap:Nat} {n:Nd} {v1 v2 v3:Value} {x:ByteArray} {o:Obj} (h:NSt w gn n v1 v2 v3) (hown:w'.ownsRow (gn+1) 9 1 (.slice (some ⟨b,0,none⟩) (n.vs.length+1) cap) (n.vs.length+1) (strs n.vs++ [.string x])) (hg:(w.alloc o).grownBy w' v2.ownBlock) (hb:v2.ownBlock=some b\/b=(w.alloc o).heap.size):
  NSt (w'.setCell ⟨gn,2,none⟩ (.slice (some ⟨b,0,none⟩) (n.vs.length+1) cap)) gn ⟨n.lf,n.ks,n.vs++ [x],n.cs⟩ v1 (.slice (some ⟨b,0,none⟩) (n.vs.length+1) cap) v3/\Below gn w (w'.setCell ⟨gn,2,none⟩ (.slice (some ⟨b,0,none⟩) (n.vs.length+1) cap))/\w'.cell? ⟨gn,2,none⟩=some v2/\w'.frozen? ⟨gn,2,none⟩=false:=by
 have hl:=zbb h;have hba:Below w.heap.size w (w.alloc o):=(Below.refl _ _).alloc (Nat.le_refl _) _;have hA:=zax h hba
 have hlt:=fun k e=>(h.2.2.1.lt k e).1
 have cg:w'.heap[gn]?=_:=(hg.block gn (zbb hA) (away (fun k e=>by have:=hlt k e;omega))).trans hA.1
 refine ⟨nst_val hA hown hg hb,?_,(za0 cg 2).1,(za0 cg 2).2⟩
 have h1:Below gn w w':=((Below.refl gn w).alloc (by omega) o).grown hg (by have:=zbb hA;omega) (fun k e=>by have:=hlt k e;omega)
 exact h1.grown (za9 w' gn 2 _) (by have:=h1.size;omega) (fun k e=>by injection e with e;omega)
theorem zk5 {w w':World} {gn b cap:Nat} {n:Nd} {v1 v2 v3:Value} {x:Int} {o:Obj} (h:NSt w gn n v1 v2 v3) (hown:w'.ownsRow (gn+1) 3 1 (.slice (some ⟨b,0,none⟩) (n.cs.length+1) cap) (n.cs.length+1) (ints n.cs++ [.int .i64 x])) (hg:(w.alloc o).grownBy w' v3.ownBlock) (_hb:v3.ownBlock=some b\/b=(w.alloc o).heap.size):
  NSt (w'.setCell ⟨gn,3,none⟩ (.slice (some ⟨b,0,none⟩) (n.cs.length+1) cap)) gn ⟨n.lf,n.ks,n.vs,n.cs++ [x]⟩ v1 v2 (.slice (some ⟨b,0,none⟩) (n.cs.length+1) cap)/\Below gn w (w'.setCell ⟨gn,3,none⟩ (.slice (some ⟨b,0,none⟩) (n.cs.length+1) cap))/\w'.cell? ⟨gn,3,none⟩=some v3/\w'.frozen? ⟨gn,3,none⟩=false:=by
 have hl:=zbb h;have hba:Below w.heap.size w (w.alloc o):=(Below.refl _ _).alloc (Nat.le_refl _) _;have hA:=zax h hba
 have hlt:=fun k e=>(h.2.2.2.1.lt k e).1
 have cg:w'.heap[gn]?=_:=(hg.block gn (zbb hA) (away (fun k e=>by have:=hlt k e;omega))).trans hA.1
 refine ⟨nst_kid hA hown hg,?_,(za0 cg 3).1,(za0 cg 3).2⟩
 have h1:Below gn w w':=((Below.refl gn w).alloc (by omega) o).grown hg (by have:=zbb hA;omega) (fun k e=>by have:=hlt k e;omega)
 exact h1.grown (za9 w' gn 3 _) (by have:=h1.size;omega) (fun k e=>by injection e with e;omega)
theorem zcx {a b c:World} {g gn:Nat} (h:a.grownBy b (some g)) (k:Below gn b c) (hle:a.heap.size<=gn):a.grownBy c (some g):=
 ⟨k.os.trans h.os,k.tape.trans h.tape,k.output.trans h.output,Nat.le_trans h.size k.size,fun j hj hne=>by
  rw [k.block j (by omega)]
  exact h.block j hj hne⟩
theorem zaW {w:World} {a B:Nat} {lf:Bool} {v1 v2 v3 c0 c1 c2 c3:Value} {ks vs:List ByteArray} {cs:List Int} (hq:w.heap[a]?=some (.cells #[c0,c1,c2,c3] 71 (0,0))) (hn:NodeOwn w B (.agg #[.bool lf,v1,v2,v3]) lf ks vs cs) (hlt:a<B):
  ((((w.setCell ⟨a,0,none⟩ (.bool lf)).setCell ⟨a,1,none⟩ v1).setCell ⟨a,2,none⟩ v2).setCell ⟨a,3,none⟩ v3).heap[a]?=some (.cells #[.bool lf,v1,v2,v3] 71 (0,0))/\
  NodeOwn ((((w.setCell ⟨a,0,none⟩ (.bool lf)).setCell ⟨a,1,none⟩ v1).setCell ⟨a,2,none⟩ v2).setCell ⟨a,3,none⟩ v3) B (.agg #[.bool lf,v1,v2,v3]) lf ks vs cs/\
  Below a w ((((w.setCell ⟨a,0,none⟩ (.bool lf)).setCell ⟨a,1,none⟩ v1).setCell ⟨a,2,none⟩ v2).setCell ⟨a,3,none⟩ v3):=by
 have hal:a<w.heap.size:=(Array.getElem?_eq_some_iff.1 hq).1;have g1:=za3 (za3 (za3 (za9 w a 0 (.bool lf)) (za9 _ a 1 v1)) (za9 _ a 2 v2)) (za9 _ a 3 v3)
 refine ⟨heap_setCell_same _ a 3 _ _ _ (heap_setCell_same _ a 2 _ _ _ (heap_setCell_same _ a 1 _ _ _ (heap_setCell_same w a 0 _ _ _ hq))),?_,(Below.refl a w).grown g1 (by omega) (fun k e=>by injection e with e;omega)⟩
 obtain ⟨u1,u2,u3,e,h1,h2,h3,h4⟩:=hn;obtain ⟨-,rfl,rfl,rfl⟩:=agg4 e
 exact ⟨_,_,_,rfl,h1.kept g1 (Or.inr (fun e=>by have:=(h1.lt _ e).1;omega)),h2.kept g1 (Or.inr (fun e=>by have:=(h2.lt _ e).1;omega)),h3.kept g1 (Or.inr (fun e=>by have:=(h3.lt _ e).1;omega)),h4⟩
theorem zaE {w:World} {B B':Nat} {v:Value} {lf:Bool} {ks vs:List ByteArray} {cs:List Int} (h:NodeOwn w B v lf ks vs cs) (hb:B'<=B):NodeOwn w B' v lf ks vs cs:=by
 obtain ⟨u1,u2,u3,e,h1,h2,h3,h4⟩:=h;exact ⟨u1,u2,u3,e,zaa h1 hb,zaa h2 hb,zaa h3 hb,h4⟩
open Go.RowKit
theorem zkU (l:List ByteArray) (x:ByteArray):strs l++ [.string x]=strs (l++ [x]):=by simp [strs]
theorem zjk {ops:Array Oper} {rest:List Oper} {o:Oper} {a:Act} {Q:Exit->Act->World->Prop} {B:Nat} {W:World} {l:List Ast} (h:Sep B W l) (i:Nat) {B' n:Nat} {v:Value} {xs:List ByteArray} (hi:l[i]?=some (rowA B' 9 1 v n (strs xs))) (hBB:B<=B') (hBW:B<=W.heap.size) (hBW':B'<=W.heap.size)
  (hgd:o.guard=none) (s x:Operand) (ho:o.op= .call {callee:= .builtin .append,args:= #[s,x],argTypes:= #[26,26]}) (hs:a.eval s=v) (p:ByteArray) {H:Nat} (hH:H=W.heap.size) (hx:a.eval x= .slice (some ⟨H,0,none⟩) 1 1) (hn:n<=3000000)
  (hK:∀b c w',Sep B w' (l.set i (rowA B' 9 1 (.slice (some ⟨b,0,none⟩) (n+1) c) (n+1) (strs (xs++ [p]))))->Below B W w'->wpList Tryz.prog ops Q rest (a.put o.dst (.slice (some ⟨b,0,none⟩) (n+1) c)) w'):
  wpList Tryz.prog ops Q (o :: rest) a (W.alloc (Obj.cells #[.string p] 9)):=by
 obtain ⟨i0,hinf,hz0,hz1,hz2⟩:=info_parts Tryz.infoStrR
 refine zdU h i hi hBB hBW hBW' hgd s x 26 ho i0 (.string ⟨#[]⟩) 16 Tryz.underlying26 hinf hz0 hz1 hz2 rfl (by decide) hs #[.string p] hH hx rfl (fun u hu=>by simp at hu;subst hu;rfl) (by unfold maxLen;omega) (by omega) (fun b c w' k1 k2=>hK b c w' ?_ k2)
 rw [<-zkU];exact k1
theorem blk4c {W:World} {g:Nat} {c0 c1 c2 c3:Value} {t:TypeId} (h:W.heap[g]?=some (Obj.cells #[c0,c1,c2,c3] t)):
  W.cell? ⟨g,0,none⟩=some c0/\W.cell? ⟨g,1,none⟩=some c1/\W.cell? ⟨g,2,none⟩=some c2/\W.cell? ⟨g,3,none⟩=some c3:=
 ⟨(za0 h 0).1,(za0 h 1).1,(za0 h 2).1,(za0 h 3).1⟩
theorem zn6 {B:Nat} {W:World} {A A':Ast} {l:List Ast} (h:Sep B W (A :: A' :: l)):Sep B W (A' :: A :: l):=zn3 h (List.Perm.swap _ _ _)
theorem zgZ {B:Nat} {W:World} {l:List Ast} (h:Sep B W l) (i:Nat) {g:Nat} {r0 r1 r2 r3 r4 r5:Value} {T:TypeId} (hi:l[i]?=some (cellA g (Obj.cells #[r0,r1,r2,r3,r4,r5] T))) (u0 u1 u2 u3 u4 u5:Value):Sep B (set6 W g u0 u1 u2 u3 u4 u5) (l.set i (cellA g (Obj.cells #[u0,u1,u2,u3,u4,u5] T))):=by
 have h1:W.heap[g]?=some (Obj.cells #[r0,r1,r2,r3,r4,r5] T):=za5 h i hi;have h2:=zed h i hi g rfl
 refine zdT h i hi (zaw W g u0 u1 u2 u3 u4 u5) _ (zb4 h1) (fun k hk=>⟨Or.inl hk,?_⟩) (Nat.le_of_lt (Nat.lt_of_le_of_lt h2.1 h2.2))
 have hk:k=g:=hk;subst hk
 simpa using h2.2
theorem blk6z {W:World} {g:Nat} {c0 c1 c2 c3 c4 c5:Value} {t:TypeId} (h:W.heap[g]?=some (Obj.cells #[c0,c1,c2,c3,c4,c5] t)):
  W.frozen? ⟨g,0,none⟩=false/\W.frozen? ⟨g,1,none⟩=false/\W.frozen? ⟨g,2,none⟩=false/\W.frozen? ⟨g,3,none⟩=false/\W.frozen? ⟨g,4,none⟩=false/\W.frozen? ⟨g,5,none⟩=false:=
 ⟨(za0 h 0).2,(za0 h 1).2,(za0 h 2).2,(za0 h 3).2,(za0 h 4).2,(za0 h 5).2⟩
open Classical in
noncomputable def rdN (t:ByteArray):Nd×Bool:=if h:∃n,IsNd t n then (Classical.choose h,true) else (Nd.none,false)
theorem zh0 {t:ByteArray} {n:Nd} {ok:Bool} (h:ReadN t n ok):rdN t=(n,ok):=by
 unfold rdN
 rcases h with ⟨rfl,h1,h2⟩ | ⟨rfl,rfl,h2⟩
 ·have hx:∃n,IsNd t n:=⟨n,h1⟩
  rw [dif_pos hx,h2 _ (Classical.choose_spec hx)]
 ·rw [dif_neg (fun ⟨m,hm⟩=>h2 m hm)]
theorem zh1 {t:ByteArray} {n:Nd} (h:rdN t=(n,true)):n.ok=true:=by
 unfold rdN at h
 split at h
 ·rename_i hx
  injection h with h1 h2
  rw [<-h1];exact (Classical.choose_spec hx).1
 ·injection h with h1 h2
  cases h2
theorem zeZ (ks:List ByteArray) (key:ByteArray):∀k:Nat,-1<=placeK ks key k/\placeK ks key k<(k:Int)
 | 0=>by simp [placeK]
 | k+1=>by
  have:=zeZ ks key k;rw [placeK]
  split <;> omega
structure Vis where
 page:Int
 nd:Nd
 way:List (Nd×Nat)
def kidsL (f:Int->List (Nd×Nat)->List Int->List Vis×Option (List Int)) (n:Nd) (way:List (Nd×Nat)) (seen:List Int):Nat->List Vis×Option (List Int)
 | 0=>([],some seen)
 | i+1=>
  match kidsL f n way seen i with
  | (vs,none)=>(vs,none)
  | (vs,some s)=>(vs++(f (n.cs.getD i 0) (way++ [(n,i)]) s).1,(f (n.cs.getD i 0) (way++ [(n,i)]) s).2)
def downL (R:Int->Nd×Bool):Nat->Int->List (Nd×Nat)->List Int->List Vis×Option (List Int)
 | 0,_,_,_=>([],none)
 | k+1,p,way,seen=>
  if (R p).2=false\/p∈seen then ([],none)
  else (⟨p,(R p).1,way⟩ :: (kidsL (downL R k) (R p).1 way (seen++ [p]) (R p).1.cs.length).1,(kidsL (downL R k) (R p).1 way (seen++ [p]) (R p).1.cs.length).2)
theorem zaN {f:Int->List (Nd×Nat)->List Int->List Vis×Option (List Int)} {n:Nd} {way:List (Nd×Nat)} {seen s:List Int} {i:Nat} (h:(kidsL f n way seen i).2=some s):
  kidsL f n way seen (i+1)=((kidsL f n way seen i).1++(f (n.cs.getD i 0) (way++ [(n,i)]) s).1,(f (n.cs.getD i 0) (way++ [(n,i)]) s).2):=by
 rw [kidsL]
 generalize kidsL f n way seen i=r at h⊢
 obtain ⟨vs,o⟩:=r
 simp only at h
 subst h
 rfl
theorem zbt {f:Int->List (Nd×Nat)->List Int->List Vis×Option (List Int)} {n:Nd} {way:List (Nd×Nat)} {seen:List Int} {i:Nat} (h:(kidsL f n way seen i).2=none):
  kidsL f n way seen (i+1)=kidsL f n way seen i:=by
 rw [kidsL]
 generalize kidsL f n way seen i=r at h⊢
 obtain ⟨vs,o⟩:=r
 simp only at h
 subst h
 rfl
structure Al where
 pairs:List (ByteArray×ByteArray)
 pages:List Int
 depths:List Int
 bad:Bool
 loose:Bool
def Al.none:Al:=⟨[],[],[],false,false⟩
def lessB (x y:ByteArray):Bool:=Op.bytesLess x.toList y.toList
def leastB (n:Nd) (i:Nat) (low:ByteArray):ByteArray:=if lessB low (n.ks.getD i ⟨#[]⟩)=true then n.ks.getD i ⟨#[]⟩ else low
def nearB (n:Nd) (i:Nat) (high:ByteArray) (has:Bool):Bool:=decide (i+1<n.ks.length) && (!has || lessB (n.ks.getD (i+1) ⟨#[]⟩) high)
def nextB (n:Nd) (i:Nat) (high:ByteArray) (has:Bool):ByteArray:=if nearB n i high has=true then n.ks.getD (i+1) ⟨#[]⟩ else high
def moreB (n:Nd) (i:Nat) (high:ByteArray) (has:Bool):Bool:=if nearB n i high has=true then true else has
def outB (k low high:ByteArray) (has:Bool):Bool:=lessB k low || (has && !lessB k high)
def stepS (f:Int->Nat->ByteArray->ByteArray->Bool->Al->Al) (n:Nd) (deep:Nat) (low high:ByteArray) (has:Bool) (i:Nat) (a:Al):Al:=
 if n.lf=true then {a with loose:=a.loose || outB (n.ks.getD i ⟨#[]⟩) low high has,pairs:=a.pairs++ [(n.ks.getD i ⟨#[]⟩,n.vs.getD i ⟨#[]⟩)]}
 else f (n.cs.getD i 0) (deep+1) (leastB n i low) (nextB n i high has) (moreB n i high has) a
def loopS (f:Int->Nat->ByteArray->ByteArray->Bool->Al->Al) (n:Nd) (deep:Nat) (low high:ByteArray) (has:Bool) (a:Al):Nat->Al
 | 0=>a
 | i+1=>stepS f n deep low high has i (loopS f n deep low high has a i)
def walkS (R:Int->Nd×Bool):Nat->Int->Nat->ByteArray->ByteArray->Bool->Al->Al
 | 0,_,_,_,_,_,a=>{a with bad:=true}
 | k+1,p,deep,low,high,has,a=>
  if (R p).2=false\/p∈a.pages\/a.bad=true then {a with bad:=true}
  else if (R p).1.lf=true then {(loopS (walkS R k) (R p).1 deep low high has {a with pages:=a.pages++ [p]} (R p).1.ks.length) with depths:=(loopS (walkS R k) (R p).1 deep low high has {a with pages:=a.pages++ [p]} (R p).1.ks.length).depths++ [(deep:Int)]}
  else loopS (walkS R k) (R p).1 deep low high has {a with pages:=a.pages++ [p]} (R p).1.ks.length
theorem zlS (R:Int->Nd×Bool) (k:Nat) (p:Int) (deep:Nat) (low high:ByteArray) (has:Bool) (a:Al) (h:a.bad=true):walkS R k p deep low high has a=a:=by
 cases a
 simp only at h
 subst h
 cases k with
 | zero=>rfl
 | succ k=>rw [walkS,if_pos (Or.inr (Or.inr rfl))]
def pairsN (n:Nd):List (ByteArray×ByteArray):=(List.range n.vs.length).map fun i=>(n.ks.getD i ⟨#[]⟩,n.vs.getD i ⟨#[]⟩)
def pairsV (l:List Vis):List (ByteArray×ByteArray):=l.flatMap fun v=>pairsN v.nd
def pagesV (l:List Vis):List Int:=l.map Vis.page
def Right (R:Int->Nd×Bool):Prop:=∀p,(R p).2=true->(R p).1.ok=true
theorem zdy (f:Int->Nat->ByteArray->ByteArray->Bool->Al->Al) (n:Nd) (hl:n.lf=true) (deep:Nat) (low high:ByteArray) (has:Bool) (a:Al):∀i,
  (loopS f n deep low high has a i).bad=a.bad/\(loopS f n deep low high has a i).pages=a.pages/\(loopS f n deep low high has a i).depths=a.depths/\
  (loopS f n deep low high has a i).pairs=a.pairs++(List.range i).map (fun i=>(n.ks.getD i ⟨#[]⟩,n.vs.getD i ⟨#[]⟩))
 | 0=>by simp [loopS]
 | i+1=>by
  obtain ⟨h1,h2,h3,h4⟩:=zdy f n hl deep low high has a i;rw [loopS,stepS,if_pos hl];refine ⟨h1,h2,h3,?_⟩
  simp only
  rw [h4,List.range_succ,List.map_append,List.append_assoc]
  rfl
theorem zfU (R:Int->Nd×Bool) (hR:Right R):∀(k:Nat) (p:Int) (way:List (Nd×Nat)) (deep:Nat) (low high:ByteArray) (has:Bool) (a:Al),a.bad=false->
  ((downL R k p way a.pages).2=none->(walkS R k p deep low high has a).bad=true)/\
  (∀s,(downL R k p way a.pages).2=some s->(walkS R k p deep low high has a).bad=false/\(walkS R k p deep low high has a).pages=s/\s=a.pages++pagesV (downL R k p way a.pages).1/\(walkS R k p deep low high has a).pairs=a.pairs++pairsV (downL R k p way a.pages).1)
 | 0,p,way,deep,low,high,has,a,h=>by
  refine ⟨fun _=>rfl,fun s hs=> ?_⟩
  rw [downL] at hs
  cases hs
 | k+1,p,way,deep,low,high,has,a,h=>by
  by_cases hb:(R p).2=false\/p∈a.pages
  ·rw [downL,if_pos hb,walkS,if_pos (by rcases hb with hb | hb;exact Or.inl hb;exact Or.inr (Or.inl hb))]
   exact ⟨fun _=>rfl,fun s hs=>by cases hs⟩
  ·rw [downL,if_neg hb,walkS,if_neg (fun hh=>by rcases hh with hh | hh | hh;exact hb (Or.inl hh);exact hb (Or.inr hh);rw [h] at hh;cases hh)]
   have hok:(R p).1.ok=true:=hR p (by cases hc:(R p).2;exact absurd (Or.inl hc) hb;rfl)
   obtain ⟨n,hn⟩:∃n,n=(R p).1:=⟨_,rfl⟩;rw [<-hn] at hok⊢;obtain ⟨he1,he2⟩:=zaY hok
   cases hlf:n.lf with
   | true=>
    obtain ⟨e1,e2⟩:=he1 hlf;rw [if_pos rfl,e2,List.length_nil,kidsL]
    obtain ⟨h1,h2,h3,h4⟩:=zdy (walkS R k) n hlf deep low high has {a with pages:=a.pages++ [p]} n.ks.length
    refine ⟨fun hh=>(by cases hh),fun s hs=> ?_⟩
    injection hs with hs
    refine ⟨h1.trans h,h2.trans hs,?_,?_⟩
    ·rw [<-hs]
     rfl
    ·simp only
     rw [h4,pairsV]
     simp only [List.flatMap_cons,List.flatMap_nil,List.append_nil,pairsN,e1]
   | false=>
    obtain ⟨e1,e2⟩:=he2 hlf
    rw [if_neg (by decide)]
    obtain ⟨b,hbb⟩:∃b:Al,b={a with pages:=a.pages++ [p]}:=⟨_,rfl⟩
    have hb1:b.bad=false:=by rw [hbb];exact h
    have hb2:b.pages=a.pages++ [p]:=by rw [hbb]
    have hb3:b.pairs=a.pairs:=by rw [hbb]
    rw [<-hbb,<-hb2]
    have key:∀i,((kidsL (downL R k) n way b.pages i).2=none->(loopS (walkS R k) n deep low high has b i).bad=true)/\
      (∀s,(kidsL (downL R k) n way b.pages i).2=some s->(loopS (walkS R k) n deep low high has b i).bad=false/\(loopS (walkS R k) n deep low high has b i).pages=s/\s=b.pages++pagesV (kidsL (downL R k) n way b.pages i).1/\(loopS (walkS R k) n deep low high has b i).pairs=b.pairs++pairsV (kidsL (downL R k) n way b.pages i).1):=by
     intro i
     induction i with
     | zero=>
      refine ⟨fun hh=>(by cases hh),fun s hs=> ?_⟩
      injection hs with hs
      refine ⟨hb1,hs,?_,?_⟩
      ·rw [<-hs];simp [kidsL,pagesV]
      ·simp [kidsL,pairsV,loopS]
     | succ i ih=>
      rw [loopS,stepS,if_neg (by rw [hlf];decide)]
      cases hk:(kidsL (downL R k) n way b.pages i).2 with
      | none=>
       rw [zbt hk];have hbad:=ih.1 hk;rw [zlS _ _ _ _ _ _ _ _ hbad]
       exact ⟨fun _=>hbad,fun s hs=>by rw [hk] at hs;cases hs⟩
      | some s0=>
       obtain ⟨i1,i2,i3,i4⟩:=ih.2 s0 hk;rw [zaN hk];have hrec:=zfU R hR k (n.cs.getD i 0) (way++ [(n,i)]) (deep+1) (leastB n i low) (nextB n i high has) (moreB n i high has) (loopS (walkS R k) n deep low high has b i) i1;rw [i2] at hrec
       refine ⟨hrec.1,fun s hs=> ?_⟩
       obtain ⟨r1,r2,r3,r4⟩:=hrec.2 s hs;refine ⟨r1,r2,?_,?_⟩
       ·refine r3.trans ((congrArg (fun l=>l++pagesV _) i3).trans ?_)
        simp only [pagesV,List.map_append,List.append_assoc]
       ·rw [r4,i4]
        simp only [pairsV,List.flatMap_append,List.append_assoc]
    obtain ⟨k1,k2⟩:=key n.ks.length;rw [e1]
    refine ⟨k1,fun s hs=> ?_⟩
    obtain ⟨r1,r2,r3,r4⟩:=k2 s hs;refine ⟨r1,r2,?_,?_⟩
    ·rw [r3,hb2]
     simp only [pagesV,List.map_cons,List.append_assoc,List.singleton_append]
    ·rw [r4,hb3]
     simp only [pairsV,List.flatMap_cons,pairsN,e2,List.length_nil,List.range_zero,List.map_nil,List.nil_append]
def seenI (R:Int->Nd×Bool) (root:Int):List Vis×Bool:=if root=0 then ([],true) else ((downL R 8 root [] []).1,(downL R 8 root [] []).2.isSome)
def seenS (R:Int->Nd×Bool) (root:Int):Al:=if root=0 then Al.none else walkS R 8 root 0 ⟨#[]⟩ ⟨#[]⟩ false Al.none
def allI (R:Int->Nd×Bool) (root:Int):List (ByteArray×ByteArray)×Bool:=if (seenI R root).2=true then (pairsV (seenI R root).1,true) else ([],false)
def allS (R:Int->Nd×Bool) (root:Int):List (ByteArray×ByteArray)×Bool:=if (seenS R root).bad=true then ([],false) else ((seenS R root).pairs,true)
theorem zik (R:Int->Nd×Bool) (hR:Right R) (root:Int):(seenS R root).bad= !(seenI R root).2/\((seenI R root).2=true->(seenS R root).pages=pagesV (seenI R root).1/\(seenS R root).pairs=pairsV (seenI R root).1):=by
 unfold seenS seenI
 by_cases h:root=0
 ·rw [if_pos h,if_pos h]
  exact ⟨rfl,fun _=>⟨rfl,rfl⟩⟩
 ·rw [if_neg h,if_neg h]
  obtain ⟨h1,h2⟩:=zfU R hR 8 root [] 0 ⟨#[]⟩ ⟨#[]⟩ false Al.none rfl
  simp only [Al.none] at h1 h2⊢
  cases hd:(downL R 8 root [] []).2 with
  | none=>exact ⟨h1 hd,fun hh=>by cases hh⟩
  | some s=>
   obtain ⟨r1,r2,r3,r4⟩:=h2 s hd
   refine ⟨r1,fun _=>⟨?_,?_⟩⟩
   ·rw [r2,r3];rfl
   ·rw [r4];rfl
theorem zn7 (R:Int->Nd×Bool) (hR:Right R) (root:Int):allI R root=allS R root:=by
 obtain ⟨h1,h2⟩:=zik R hR root;unfold allI allS
 cases hi:(seenI R root).2 with
 | true=>rw [hi] at h1 h2;rw [if_pos rfl,if_neg (by rw [h1];decide),(h2 rfl).2]
 | false=>rw [hi] at h1;rw [if_neg (by decide),if_pos (by rw [h1];rfl)]
open Go.RowKit
def bases:List ByteArray:= [⟨#[97]⟩,⟨#[98]⟩,⟨#[99]⟩,⟨#[100]⟩,⟨#[101]⟩,⟨#[102]⟩,⟨#[103]⟩,⟨#[104]⟩,⟨#[107]⟩,⟨#[109]⟩,⟨#[112]⟩,⟨#[113]⟩,⟨#[115]⟩,⟨#[120]⟩,⟨#[122]⟩,⟨#[]⟩]
theorem zkV {c:ByteArray} (h:c∈bases):c.size<=1:=by
 simp only [bases,List.mem_cons,List.not_mem_nil,or_false] at h
 rcases h with rfl | rfl | rfl | rfl | rfl | rfl | rfl | rfl | rfl | rfl | rfl | rfl | rfl | rfl | rfl | rfl <;> decide
theorem zc3:∀(s t:List UInt8),Op.bytesLess s t=false->(s ==t)=false->Op.bytesLess t s=true
 | [],[],_,h=>by simp at h
 | [],_ :: _,h,_=>by simp [Op.bytesLess] at h
 | _ :: _,[],_,_=>by simp [Op.bytesLess]
 | x :: s,y :: t,h,hq=>by
  rw [Op.bytesLess] at h⊢
  by_cases he:x=y
  ·subst he
   have hq':(s ==t)=false:=by
    rw [beq_eq_false_iff_ne] at hq⊢
    intro e;exact hq (by rw [e])
   simp at h⊢
   exact zc3 s t h hq'
  ·have h1:¬x<y:=by intro hl;simp [hl] at h
   have h2:y<x:=by
    rcases UInt8.lt_or_lt_of_ne he with h | h
    ·exact absurd h h1
    ·exact h
   simp [h2]
open Go.RowKit
theorem zbE:∀s:List UInt8,Op.bytesLess s s=false
 | []=>rfl
 | x :: s=>by rw [Op.bytesLess];simp [zbE s]
theorem zc4:∀(s t u:List UInt8),Op.bytesLess s t=true->Op.bytesLess t u=true->Op.bytesLess s u=true
 | [],[],_,h,_=>by simp [Op.bytesLess] at h
 | [],_ :: _,[],_,k=>by simp [Op.bytesLess] at k
 | [],_ :: _,_ :: _,_,_=>by simp [Op.bytesLess]
 | _ :: _,[],_,h,_=>by simp [Op.bytesLess] at h
 | _ :: _,_ :: _,[],_,k=>by simp [Op.bytesLess] at k
 | x :: s,y :: t,z :: u,h,k=>by
  simp only [Op.bytesLess,Bool.or_eq_true,Bool.and_eq_true,decide_eq_true_eq,beq_iff_eq] at h k⊢
  rcases h with h | ⟨rfl,h⟩
  ·rcases k with k | ⟨rfl,k⟩
   ·exact Or.inl (UInt8.lt_trans h k)
   ·exact Or.inl h
  ·rcases k with k | ⟨rfl,k⟩
   ·exact Or.inl k
   ·exact Or.inr ⟨rfl,zc4 s t u h k⟩
theorem zk6 {s t:List UInt8} (h:Op.bytesLess s t=true):(Op.bytesLess t s || t ==s)=false:=by
 rw [Bool.or_eq_false_iff]
 constructor
 ·cases hb:Op.bytesLess t s with
  | false=>rfl
  | true=>have:=zc4 _ _ _ h hb;rw [zbE] at this;cases this
 ·rw [beq_eq_false_iff_ne]
  rintro rfl;rw [zbE] at h;cases h
open Go.RowKit
def lowP (ks vs:List ByteArray) (key:ByteArray) (i:Nat):List (ByteArray×ByteArray):=((ks.zip vs).take i).filter (fun p=>lessB p.1 key)
def highP (ks vs:List ByteArray) (key:ByteArray) (i:Nat):List (ByteArray×ByteArray):=((ks.zip vs).take i).filter (fun p=>lessB key p.1)
def setP (ks vs:List ByteArray) (key val:ByteArray):List (ByteArray×ByteArray):=lowP ks vs key ks.length++ [(key,val)]++highP ks vs key ks.length
theorem zjl (x y:ByteArray):(!(Op.bytesLess x.toList y.toList || x.toList ==y.toList))=lessB y x:=by
 unfold lessB
 cases h1:Op.bytesLess x.toList y.toList with
 | true=>exact by have:=zk6 h1;rw [Bool.or_eq_false_iff] at this;rw [this.1];rfl
 | false=>
  cases h2:(x.toList ==y.toList) with
  | true=>rw [eq_of_beq h2];exact (zbE _).symm
  | false=>exact (zc3 _ _ h1 h2).symm
def firstK (ks:List ByteArray) (a:Nat) (K:List ByteArray):ByteArray:=if lessB (K.getD 0 ⟨#[]⟩) (ks.getD a ⟨#[]⟩)=true then K.getD 0 ⟨#[]⟩ else ks.getD a ⟨#[]⟩
def midK (ks:List ByteArray) (a:Nat) (K:List ByteArray):Nat->List ByteArray
 | 0=> []
 | i+1=>midK ks a K i++(if i=a then firstK ks a K :: K.drop 1 else [ks.getD i ⟨#[]⟩])
def midC (cs:List Int) (a:Nat) (P:List Int):Nat->List Int
 | 0=> []
 | i+1=>midC cs a P i++(if i=a then P else [cs.getD i 0])
def finK (page:Int) (h:Wk×List ByteArray×List Int×Bool):Wk×List ByteArray×List Int×Bool:=if h.2.2.2=true then (dropS h.1 page,h.2.1,h.2.2.1,true) else (h.1,h.2.1,h.2.2.1,false)
noncomputable def goPut (key val:ByteArray):Nat->Wk->Int->Wk×List ByteArray×List Int×Bool
 | 0,k,_=>(k,[],[],false)
 | f+1,k,page=>
  if (rdN (readD k.ps k.ls page)).2=false then (k,[],[],false)
  else if (rdN (readD k.ps k.ls page)).1.lf=true then finK page (halfS k true ((setP (rdN (readD k.ps k.ls page)).1.ks (rdN (readD k.ps k.ls page)).1.vs key val).map Prod.fst) ((setP (rdN (readD k.ps k.ls page)).1.ks (rdN (readD k.ps k.ls page)).1.vs key val).map Prod.snd) [])
  else if (goPut key val f k ((rdN (readD k.ps k.ls page)).1.cs.getD (placeK (rdN (readD k.ps k.ls page)).1.ks key (rdN (readD k.ps k.ls page)).1.ks.length).toNat 0)).2.2.2=false then goPut key val f k ((rdN (readD k.ps k.ls page)).1.cs.getD (placeK (rdN (readD k.ps k.ls page)).1.ks key (rdN (readD k.ps k.ls page)).1.ks.length).toNat 0)
  else finK page (halfS (goPut key val f k ((rdN (readD k.ps k.ls page)).1.cs.getD (placeK (rdN (readD k.ps k.ls page)).1.ks key (rdN (readD k.ps k.ls page)).1.ks.length).toNat 0)).1 false
   (midK (rdN (readD k.ps k.ls page)).1.ks (placeK (rdN (readD k.ps k.ls page)).1.ks key (rdN (readD k.ps k.ls page)).1.ks.length).toNat (goPut key val f k ((rdN (readD k.ps k.ls page)).1.cs.getD (placeK (rdN (readD k.ps k.ls page)).1.ks key (rdN (readD k.ps k.ls page)).1.ks.length).toNat 0)).2.1 (rdN (readD k.ps k.ls page)).1.ks.length) []
   (midC (rdN (readD k.ps k.ls page)).1.cs (placeK (rdN (readD k.ps k.ls page)).1.ks key (rdN (readD k.ps k.ls page)).1.ks.length).toNat (goPut key val f k ((rdN (readD k.ps k.ls page)).1.cs.getD (placeK (rdN (readD k.ps k.ls page)).1.ks key (rdN (readD k.ps k.ls page)).1.ks.length).toNat 0)).2.2.1 (rdN (readD k.ps k.ls page)).1.ks.length))
theorem zdz {key val:ByteArray} {f:Nat} {k:Wk} {page:Int} {n:Nd} (h:rdN (readD k.ps k.ls page)=(n,false)):goPut key val (f+1) k page=(k,[],[],false):=by
 rw [goPut,h,if_pos rfl]
theorem zba {key val:ByteArray} {f:Nat} {k:Wk} {page:Int} {n:Nd} (h:rdN (readD k.ps k.ls page)=(n,true)) (hl:n.lf=true):goPut key val (f+1) k page=finK page (halfS k true ((setP n.ks n.vs key val).map Prod.fst) ((setP n.ks n.vs key val).map Prod.snd) []):=by
 rw [goPut,h,if_neg (fun e=>by cases e),if_pos hl]
theorem zbd {key val:ByteArray} {f:Nat} {k:Wk} {page:Int} {n:Nd} {a:Nat} (h:rdN (readD k.ps k.ls page)=(n,true)) (hl:n.lf=false) (ha:a=(placeK n.ks key n.ks.length).toNat) {R:Wk×List ByteArray×List Int×Bool} (hR:R=goPut key val f k (n.cs.getD a 0)):
  goPut key val (f+1) k page=if R.2.2.2=false then R else finK page (halfS R.1 false (midK n.ks a R.2.1 n.ks.length) [] (midC n.cs a R.2.2.1 n.ks.length)):=by
 subst ha hR
 rw [goPut,h,if_neg (fun e=>by cases e),if_neg (fun e=>by rw [hl] at e;cases e)]
theorem zfV (lf:Bool):∀(r:List Part) (k:Wk),(halfL lf k r).2.1.length=(halfL lf k r).2.2.1.length/\(halfL lf k r).2.1.length<=r.length/\((halfL lf k r).2.2.2=true->(halfL lf k r).2.1.length=r.length)
 | [],k=>by simp [halfL]
 | p :: r,k=>by
  rw [halfL]
  split
  ·simp
  ·obtain ⟨h1,h2,h3⟩:=zfV lf r (putK k lf p.1 p.2.1 p.2.2)
   refine ⟨by simp [h1],by simp;exact h2,fun h=>by simp;exact h3 h⟩
theorem zk7 (lf:Bool):∀(r:List Part) (k:Wk) (m:Nat),k.sm (m+r.length)->(halfL lf k r).1.sm m
 | [],k,m,h=>h
 | p :: r,k,m,h=>by
  rw [halfL]
  split
  ·exact zaD h (by omega)
  ·exact zk7 lf r _ m (zii (by rw [List.length_cons] at h;exact zaD h (by omega)) _ _ _ _)
theorem zcy (lf:Bool) (ks vs:List ByteArray) (cs:List Int):1<=(halfParts lf ks vs cs).length/\(halfParts lf ks vs cs).length<=2:=by
 unfold halfParts
 split
 ·split <;> simp
 ·simp
theorem zcl (k:Wk) (lf:Bool) (ks vs:List ByteArray) (cs:List Int):(halfS k lf ks vs cs).2.1.length=(halfS k lf ks vs cs).2.2.1.length/\(halfS k lf ks vs cs).2.1.length<=2/\((halfS k lf ks vs cs).2.2.2=true->1<=(halfS k lf ks vs cs).2.1.length):=by
 obtain ⟨h1,h2,h3⟩:=zfV lf (halfParts lf ks vs cs) k;have h4:=zcy lf ks vs cs
 exact ⟨h1,Nat.le_trans h2 h4.2,fun h=>by rw [show (halfS k lf ks vs cs).2.1.length=_ from h3 h];exact h4.1⟩
theorem zht {k:Wk} {m:Nat} (h:k.sm (m+2)) (lf:Bool) (ks vs:List ByteArray) (cs:List Int):(halfS k lf ks vs cs).1.sm m:=zk7 lf _ k m (zaD h (by have:=(zcy lf ks vs cs).2;omega))
theorem drop_sm {k:Wk} {m:Nat} (h:k.sm (m+1)) (page:Int):(dropS k page).sm m:=by
 obtain ⟨h1,h2,h3,h4,h5,h6,h7⟩:=h;unfold dropS
 split
 ·refine ⟨h1,h2,by show k.ls.length+m<=_;omega,h4,?_,by show k.gs.length+m<=_;omega,?_⟩
  ·show (srtL (k.us++ [page])).length+m<=_
   rw [zk2];simp;omega
  ·show (k.fs.filter (fun x=>x !=page)).length+m<=_
   have:=List.length_filter_le (fun x=>x !=page) k.fs
   omega
 ·exact ⟨h1,h2,by show k.ls.length+m<=_;omega,h4,by show k.us.length+m<=_;omega,by show (k.gs++ [page]).length+m<=_;simp;omega,by show k.fs.length+m<=_;omega⟩
theorem zdd {page:Int} {h:Wk×List ByteArray×List Int×Bool} (h1:h.2.1.length=h.2.2.1.length/\h.2.1.length<=2/\(h.2.2.2=true->1<=h.2.1.length)):(finK page h).2.1.length=(finK page h).2.2.1.length/\(finK page h).2.1.length<=2/\((finK page h).2.2.2=true->1<=(finK page h).2.1.length):=by
 unfold finK
 split
 ·next e=>exact ⟨h1.1,h1.2.1,fun _=>h1.2.2 e⟩
 ·exact ⟨h1.1,h1.2.1,fun e=>by cases e⟩
theorem zk8 {page:Int} {h:Wk×List ByteArray×List Int×Bool} {m:Nat} (h1:h.1.sm (m+1)):(finK page h).1.sm m:=by
 unfold finK
 split
 ·exact drop_sm h1 page
 ·exact zaD h1 (by omega)
theorem zfW (key val:ByteArray):∀(f:Nat) (k:Wk) (page:Int) (m:Nat),k.sm (m+3 * f)->
  (goPut key val f k page).2.1.length=(goPut key val f k page).2.2.1.length/\(goPut key val f k page).2.1.length<=2/\((goPut key val f k page).2.2.2=true->1<=(goPut key val f k page).2.1.length)/\(goPut key val f k page).1.sm m
 | 0,k,page,m,h=>by rw [goPut];exact ⟨rfl,Nat.zero_le _,(fun e=>by cases e),h⟩
 | f+1,k,page,m,h=>by
  obtain ⟨n,ok,hn⟩:∃n ok,rdN (readD k.ps k.ls page)=(n,ok):=⟨_,_,rfl⟩
  cases ok with
  | false=>rw [zdz hn];exact ⟨rfl,Nat.zero_le _,(fun e=>by cases e),zaD h (by omega)⟩
  | true=>
   cases hl:n.lf with
   | true=>
    rw [zba hn hl];have h1:=zdd (page:=page) (zcl k true ((setP n.ks n.vs key val).map Prod.fst) ((setP n.ks n.vs key val).map Prod.snd) [])
    exact ⟨h1.1,h1.2.1,h1.2.2,zk8 (zht (zaD h (by omega)) _ _ _ _)⟩
   | false=>
    rw [zbd hn hl rfl rfl]
    have ih:=zfW key val f k (n.cs.getD (placeK n.ks key n.ks.length).toNat 0) (m+3) (zaD h (by omega))
    split
    ·exact ⟨ih.1,ih.2.1,ih.2.2.1,zaD ih.2.2.2 (by omega)⟩
    ·exact ⟨(zdd (zcl _ _ _ _ _)).1,(zdd (zcl _ _ _ _ _)).2.1,(zdd (zcl _ _ _ _ _)).2.2,zk8 (zht (zaD ih.2.2.2 (by omega)) _ _ _ _)⟩
theorem zn8 {lf:Bool} {ks vs:List ByteArray} {cs:List Int} (h:nodeOkB lf ks vs cs=true):(ks.getD 0 ⟨#[]⟩).size<=24:=by
 obtain ⟨h1,h2,-⟩:=zan h;have:=h2 0 (zaP h1).1;unfold keyB at this;rw [Bool.and_eq_true,decide_eq_true_eq] at this;exact this.1
theorem zcz (lf:Bool):∀(r:List Part) (k:Wk),∀s∈(halfL lf k r).2.1,s.size<=24
 | [],k,s,h=>by rw [halfL] at h;cases h
 | p :: r,k,s,h=>by
  rw [halfL] at h
  split at h
  ·cases h
  ·next hp=>
   rcases List.mem_cons.1 h with rfl | h
   ·exact zn8 (zlK hp)
   ·exact zcz lf r _ s h
theorem zfq {page:Int} {h:Wk×List ByteArray×List Int×Bool} (h1:∀s∈h.2.1,s.size<=24):∀s∈(finK page h).2.1,s.size<=24:=by
 unfold finK
 split <;> exact h1
theorem zeL (key val:ByteArray):∀(f:Nat) (k:Wk) (page:Int),∀s∈(goPut key val f k page).2.1,s.size<=24
 | 0,k,page,s,h=>by rw [goPut] at h;cases h
 | f+1,k,page,s,h=>by
  obtain ⟨n,ok,hn⟩:∃n ok,rdN (readD k.ps k.ls page)=(n,ok):=⟨_,_,rfl⟩
  cases ok with
  | false=>rw [zdz hn] at h;cases h
  | true=>
   cases hl:n.lf with
   | true=>rw [zba hn hl] at h;exact zfq (zcz _ _ _) s h
   | false=>
    rw [zbd hn hl rfl rfl] at h
    split at h
    ·exact zeL key val f k _ s h
    ·exact zfq (zcz _ _ _) s h
theorem zil {ks K:List ByteArray} {a:Nat} {M:Nat} (hks:∀s∈ks,s.size<=M) (hK:∀s∈K,s.size<=M):∀i,∀s∈midK ks a K i,s.size<=M
 | 0,s,h=>by rw [midK] at h;cases h
 | i+1,s,h=>by
  have g1:∀j,(ks.getD j ⟨#[]⟩).size<=M:=fun j=>by
   rw [List.getD_eq_getElem?_getD]
   cases e:ks[j]? with
   | none=>exact Nat.zero_le _
   | some x=>exact hks x (List.mem_of_getElem? e)
  have g2:(K.getD 0 ⟨#[]⟩).size<=M:=by
   rw [List.getD_eq_getElem?_getD]
   cases e:K[0]? with
   | none=>exact Nat.zero_le _
   | some x=>exact hK x (List.mem_of_getElem? e)
  rw [midK] at h
  rcases List.mem_append.1 h with h | h
  ·exact zil hks hK i s h
  ·split at h
   ·rcases List.mem_cons.1 h with rfl | h
    ·unfold firstK
     split
     ·exact g2
     ·exact g1 a
    ·exact hK s (List.mem_of_mem_drop h)
   ·rw [List.mem_singleton.1 h]
    exact g1 i
open Go.RowKit
theorem zhu (ls ms:List (Int×ByteArray)) (page:Int):∀k,k<=ls.length->lateAt (ls++ms) page k=lateAt ls page k:=by
 intro k
 induction k with
 | zero=>intro _;rfl
 | succ k ih=>
  intro hk
  have e:(ls++ms)[k]?=ls[k]?:=List.getElem?_append_left (by omega)
  rw [lateAt,lateAt,e,ih (by omega)]
theorem zfX (ls:List (Int×ByteArray)) (q page:Int) (t:ByteArray):lateAt (ls++ [(q,t)]) page (ls++ [(q,t)]).length=if q=page then some t else lateAt ls page ls.length:=by
 have e:(ls++ [(q,t)])[ls.length]?=some (q,t):=by simp
 rw [List.length_append,List.length_singleton]
 by_cases h:q=page
 ·rw [if_pos h];subst h;exact zeB e
 ·rw [if_neg h,zdR e h,zhu ls _ page _ (Nat.le_refl _)]
theorem zim {ps:List ByteArray} {ls:List (Int×ByteArray)} {page:Int} {t:ByteArray} (h:0<=page/\page<(ps.length:Int)):readD ps (ls++ [(page,t)]) page=t:=
 zeC h (by rw [zfX,if_pos rfl])
theorem zkW {ps:List ByteArray} {ls:List (Int×ByteArray)} {page i:Int} {t:ByteArray} (h:i≠page):readD ps (ls++ [(page,t)]) i=readD ps ls i:=by
 have e:lateAt (ls++ [(page,t)]) i (ls++ [(page,t)]).length=lateAt ls i ls.length:=by rw [zfX,if_neg (fun e=>h e.symm)]
 rw [readD,readD,e]
end Go.Proofs.YtcbogiebfbbmbaaGreatDoor
