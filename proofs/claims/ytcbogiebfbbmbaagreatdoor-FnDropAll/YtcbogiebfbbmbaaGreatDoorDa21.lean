/-
  Facts and contracts that the law's own text rests on, by their texts' names: Plain18, SpecIn, SrtPlain, SpecSorted, SpecDrop, Plain17, PlaceFacts, SpecSet, PutGo, DropGo, Plain11, Plain25, TreePl1, TreePl2, TreePl4, PutRoom, TreePl5, PutWayPl, Read, ReadSh, Cur, ImplReader, StepDie, ReadPost.
-/
import Derived.Test.YtcbogiebfbbmbaaGreatDoorDa3
import Derived.BigQuiet
import Derived.Deep.RegionHeld3
import Derived.Test.YtcbogiebfbbmbaaGreatDoorDa1
import Derived.WalkKit
import Derived.Test.YtcbogiebfbbmbaaGreatDoorDa9
import Derived.Test.YtcbogiebfbbmbaaGreatDoorDa7
import Derived.Test.YtcbogiebfbbmbaaGreatDoorDa4
import Derived.Laws.Cover1
import Derived.Test.YtcbogiebfbbmbaaGreatDoorDa5
import Derived.Deep.DeepFit
import Derived.Deep.DeepMust
import Derived.Deep.DrawnRows
import Derived.Deep.LoopGhost
import Derived.Laws.Shifts
import Derived.WalkSmall
import Derived.WalkSpells
import Derived.Defers
import Derived.Recover
import Derived.RegionDies
import Derived.WalkLawsBesides
import Derived.Lib.Hide
import Derived.Deep.RegionLaw
import Derived.Test.YtcbogiebfbbmbaaGreatDoorDa15
set_option maxHeartbeats 16000000
set_option maxRecDepth 100000
namespace Go.Proofs.YtcbogiebfbbmbaaGreatDoor
structure Mt where
 tx:Int
 root:Int
 next:Int
 fs:List (Int×List Int)
open Go.RowKit
theorem zlL (l:List Int) (hl:l.length<=1048576) (x:Int) (v:Value) (w:World) (hr:RowAt w 1 v l.length (ints l)):
  Calls Tryz.prog 67 #[v,.int .i64 x] w fun e w'=>e= .returned (.bool (decide (x∈l)))/\w=w':=by
 obtain ⟨-,a,cap,rfl,h2⟩:=hr;have HR:=hide h2;clear h2;go_enter Tryz.func67,Tryz.ntmps67
 go_wp2
 go_loopg [5] l.length (fun q iv wr=>∃k:Nat,k<=l.length/\iv= .int .i64 (k:Int)/\q+k=l.length/\Hid (x∉l.take k)/\w=wr)
 case atStart=>exact ⟨0,Nat.zero_le _,rfl,rfl,hide (by simp),rfl⟩
 case round=>
  obtain ⟨k,hk,rfl,hg,HT,rfl⟩:=hrel;have HG:=hide hg;clear hg
  by_cases hlt:k<l.length
  ·rcases HR.out with hn0 | ⟨b,off,rfl,hbl,hc⟩
   ·omega
   ·obtain ⟨y,hy⟩:∃y,y=l[k]:=⟨_,rfl⟩
    have hcx:w.cell? ⟨b,off+k,none⟩=some (.int .i64 y):=by rw [hc k (by omega),ints_at l k hlt,hy]
    have HY:=hide hy
    have hk0:(0:Int)<=(k:Int):=by omega
    have hk1:(k:Int)<(l.length:Int):=by omega
    clear hc hy
    by_cases hxy:y=x
    ·have HD:Hid (decide (x∈l)=true):=hide (decide_eq_true (by rw [<-hxy,HY.out];exact List.getElem_mem hlt))
     subst hxy
     go_wp2
     go_ret;rw [HD.out];exact ⟨rfl,rfl⟩
    ·have HT2:Hid (x∉l.take (k+1)):=hide (fun h=>by
      rw [List.take_succ_eq_append_getElem hlt] at h
      rcases List.mem_append.1 h with h | h
      ·exact HT.out h
      ·rw [List.mem_singleton,<-HY.out] at h;exact hxy h.symm)
     have hbq:(y ==x)=false:=by simp [hxy]
     have hbd:decide (y=x)=false:=decide_eq_false hxy;clear hxy
     go_wp2
     go_roundg (gk - 1)
     case measure=>have:=HG.out;omega
     case rel=>exact ⟨k+1,by omega,by go_num,by have:=HG.out;omega,HT2,rfl⟩
  ·have HD:Hid (decide (x∈l)=false):=hide (decide_eq_false (by
    have h1:=HT.out
    rw [List.take_of_length_le (by omega)] at h1
    exact h1))
   go_wp2
   go_ret;rw [HD.out];exact ⟨rfl,rfl⟩
def Srt (l:List Int):Prop:=l.Pairwise (fun x y=>x<=y)
theorem srt_one {l m:List Int} (h:l.Perm m) (hl:Srt l) (hm:Srt m):l=m:=
 h.eq_of_pairwise (fun _ _ _ _ h1 h2=>Int.le_antisymm h1 h2) hl hm
structure InsI (l0 l:List Int) (i k:Nat):Prop where
 perm:l.Perm l0
 ki:k<=i
 il:i<l.length
 ord:∀a b,a<b->b<=i->b≠k->l.getD a 0<=l.getD b 0
theorem srt_of {l:List Int} (h:∀a b,a<b->b<l.length->l.getD a 0<=l.getD b 0):Srt l:=by
 rw [Srt,List.pairwise_iff_getElem];intro i j hi hj hij;have:=h i j hij hj
 simpa [List.getD_eq_getElem?_getD,hi,hj] using this
def xch (l:List Int) (k:Nat):List Int:=(l.set k (l.getD (k - 1) 0)).set (k - 1) (l.getD k 0)
theorem zkK (l:List Int) (k:Nat):(xch l k).length=l.length:=by simp [xch]
theorem zmP (l:List Int) (k:Nat) (h:k<l.length):(xch l k).Perm l:=by
 have h1:k - 1<l.length:=by omega
 have:=List.set_set_perm (i:=k) (j:=k - 1) h h1
 simpa [xch,List.getD_eq_getElem?_getD,h,h1] using this
theorem xch_at (l:List Int) (k a:Nat) (hk:0<k) (h:k<l.length):(xch l k).getD a 0=if a=k then l.getD (k - 1) 0 else if a=k - 1 then l.getD k 0 else l.getD a 0:=by
 have h1:k - 1<l.length:=by omega
 simp only [xch,List.getD_eq_getElem?_getD,List.getElem?_set,List.length_set]
 by_cases e1:a=k
 ·subst e1
  have:¬a - 1=a:=by omega
  simp [this,h]
 ·by_cases e2:a=k - 1
  ·subst e2;simp [h1,e1]
  ·have g1:¬k - 1=a:=fun e=>e2 e.symm
   have g2:¬k=a:=fun e=>e1 e.symm
   simp [g1,g2,e1,e2]
theorem InsI.step {l0 l:List Int} {i k:Nat} (h:InsI l0 l i k) (hk:0<k) (hgt:l.getD k 0<l.getD (k - 1) 0):InsI l0 (xch l k) i (k - 1) where
 perm:=(zmP l k (Nat.lt_of_le_of_lt h.ki h.il)).trans h.perm
 ki:=by have:=h.ki;omega
 il:=by rw [zkK];exact h.il
 ord a b hab hb hbk:=by
  have hkl:=Nat.lt_of_le_of_lt h.ki h.il;rw [xch_at l k a hk hkl,xch_at l k b hk hkl]
  by_cases b1:b=k
  ·subst b1
   rw [if_pos rfl,if_neg (by omega)]
   by_cases a1:a=b - 1
   ·rw [if_pos a1];omega
   ·rw [if_neg a1];exact h.ord a (b - 1) (by omega) (by omega) (by omega)
  ·rw [if_neg b1,if_neg hbk]
   by_cases a1:a=k
   ·rw [if_pos a1];exact h.ord (k - 1) b (by omega) hb b1
   ·rw [if_neg a1]
    by_cases a2:a=k - 1
    ·rw [if_pos a2];have:=h.ord k b (by omega) hb b1;exact this
    ·rw [if_neg a2];exact h.ord a b hab hb b1
theorem InsI.fin {l0 l:List Int} {i k:Nat} (h:InsI l0 l i k) (hd:k=0\/¬(l.getD k 0<l.getD (k - 1) 0)):∀a b,a<b->b<=i->l.getD a 0<=l.getD b 0:=by
 intro a b hab hb
 by_cases b1:b=k
 ·subst b1
  rcases hd with hd | hd
  ·omega
  ·by_cases a1:a=b - 1
   ·rw [a1];omega
   ·have:=h.ord a (b - 1) (by omega) (by omega) (by omega);omega
 ·exact h.ord a b hab hb b1
open Go.RowKit
theorem zjf {l:List Int} {k:Nat} (h:k<l.length):(ints l)[k]?=some (.int .i64 (l.getD k 0)):=by rw [ints_at l k h];simp [List.getD_eq_getElem?_getD,h]
theorem zeC (l:List Int) (hl:l.length<=1048576) (v:Value) (w:World) (hr:RowAt w 1 v l.length (ints l)):
  Calls Tryz.prog 22 #[v] w fun e w'=>∃v' m,e= .returned v'/\w'.ownsRow w.heap.size 3 1 v' m.length (ints m)/\m.Perm l/\Srt m/\Below w.heap.size w w':=by
 obtain ⟨i0,hi,hz0,hz1,hz2⟩:=info_parts Tryz.infoIntR;obtain ⟨w0,hw0⟩:∃w0,w0=w.alloc (Obj.cells #[] 3):=⟨_,rfl⟩
 have hb0:Below w.heap.size w w0:=by rw [hw0];exact (Below.refl _ _).alloc (Nat.le_refl _) _
 have hown0:w0.ownsRow w.heap.size 3 1 (.slice (some ⟨w.heap.size,0,none⟩) 0 0) 0 (ints []):=by rw [hw0];exact ⟨rfl,Or.inr ⟨_,0,#[],rfl,Nat.le_refl _,heap_alloc_new w _,Nat.le_refl _,Nat.zero_le _,rfl,rfl⟩⟩
 have HRow:=hide (za8 hr hb0);clear hr;go_enter Tryz.func22,Tryz.ntmps22
 go_wp2_with (at_builtin;rw [<-hw0];refine zeY _ rfl _ _ 32 rfl w.heap.size 3 i0 (.int .i64 0) 1 8 Tryz.underlying32 hi hz0 hz1 hz2 rfl (by decide) _ _ _ rfl hown0 _ _ _ rfl HRow.out (zei _) ?_ ?_ ?_ ?_)
 ·unfold maxLen;omega
 ·omega
 ·exact hb0.size
 intro y c w1 hown1 hg1;rw [<-hw0] at hg1
 have HB1:Hid (Below w.heap.size w w1):=hide (hb0.grown hg1 hb0.size (fun k hk=>by cases hk;exact Nat.le_refl _))
 have HO1:Hid (w1.ownsRow w.heap.size 3 1 (.slice y l.length c) l.length (ints l)):=hide hown1;clear hown1 hg1 hw0 HRow hown0 hb0;go_wp2_with fail
 go_loopg [4] l.length (fun q iv wr=>∃(i:Nat) (m:List Int),1<=i/\i<=l.length+1/\q+i=l.length+1/\iv= .int .i64 (i:Int)/\Hid (wr.ownsRow w.heap.size 3 1 (.slice y l.length c) l.length (ints m))/\Hid (m.Perm l/\∀a b,a<b->b<i->b<m.length->m.getD a 0<=m.getD b 0)/\Hid (Below w.heap.size w wr))
 case atStart=>exact ⟨1,l,Nat.le_refl _,by omega,rfl,rfl,HO1,hide ⟨List.Perm.refl _,fun a b h1 h2 h3=>by omega⟩,HB1⟩
 case round=>
  obtain ⟨i,m,hi1,hi2,hq,rfl,HOw,HM,HB⟩:=hrel;have HQ:=hide hq;clear hq
  by_cases hlt:i<l.length
  ·obtain ⟨g,rfl⟩:∃g,y=some ⟨g,0,none⟩:=by
    rcases HOw.out.2 with ⟨e,h0⟩ | ⟨g,cc,cur,e,_⟩
    ·omega
    ·injection e with e1;exact ⟨g,e1⟩
   have hi0:(0:Int)<=(i:Int):=by omega
   have hil:(i:Int)<(l.length:Int):=by omega
   obtain ⟨go,hgo⟩:∃go,go=gk:=⟨_,rfl⟩;rw [<-hgo] at HQ
   have HI0:Hid (InsI l m i i):=hide ⟨HM.out.1,Nat.le_refl _,by rw [HM.out.1.length_eq];exact hlt,fun a b h1 h2 h3=>HM.out.2 a b h1 (by omega) (by rw [HM.out.1.length_eq];omega)⟩
   clear HM HO1 HB1;go_wp2_with fail
   go_loopg [5] i (fun q kv wr=>∃(k:Nat) (m2:List Int),k<=i/\q=k/\kv= .int .i64 (k:Int)/\Hid (wr.ownsRow w.heap.size 3 1 (.slice (some ⟨g,0,none⟩) l.length c) l.length (ints m2))/\Hid (InsI l m2 i k)/\Hid (Below w.heap.size w wr))
   case atStart=>exact ⟨i,m,Nat.le_refl _,rfl,rfl,HOw,HI0,HB⟩
   case round=>
    clear HOw HI0 HB;obtain ⟨k,m2,hk,hqk,rfl,HOw,HI,HB⟩:=hrel;have HK:=hide hqk;clear hqk;have hml:m2.length=l.length:=HI.out.perm.length_eq;have HML:=hide hml
    have HFin:(k=0\/¬(m2.getD k 0<m2.getD (k - 1) 0))->Hid (m2.Perm l/\∀a b,a<b->b<i+1->b<m2.length->m2.getD a 0<=m2.getD b 0):=fun hd=>hide ⟨HI.out.perm,fun a b h1 h2 _=>HI.out.fin hd a b h1 (by omega)⟩
    clear hml
    rcases Nat.eq_zero_or_pos k with rfl | hkp
    ·have HF:=HFin (Or.inl rfl)
     clear HFin;go_wp2_with fail
     go_quiet (fail)
     go_wp2_with fail
     go_roundg (go - 1)
     case measure=>have:=HQ.out;omega
     case rel=>exact ⟨i+1,m2,by omega,by omega,by have:=HQ.out;omega,by go_num,HOw,HF,hide (below_drewN HB.out _)⟩
    ·obtain ⟨j,rfl⟩:∃j,k=j+1:=⟨k - 1,by omega⟩
     obtain ⟨x,hx⟩:∃x,x=m2.getD (j+1) 0:=⟨_,rfl⟩;obtain ⟨z,hz⟩:∃z,z=m2.getD j 0:=⟨_,rfl⟩;have ho:=HOw.out
     have c1:wr.cell? ⟨g,j+1,none⟩=some (.int .i64 x):=by rw [ho.cellAt (j+1) (by omega),zjf (by rw [HML.out];omega),hx]
     have c0:wr.cell? ⟨g,j,none⟩=some (.int .i64 z):=by rw [ho.cellAt j (by omega),zjf (by rw [HML.out];omega),hz]
     have hj0:(0:Int)<=(j:Int):=by omega
     have hj1:(j:Int)+1<(l.length:Int):=by omega
     have hj2:(j:Int)<(l.length:Int):=by omega
     have HX:Hid ((m2.set (j+1) z).set j x=xch m2 (j+1)):=hide (by rw [xch,hx,hz];rfl)
     have HZ:=hide hz
     have HSt:x<z->Hid (InsI l ((m2.set (j+1) z).set j x) i j):=fun h=>hide (by rw [HX.out];exact HI.out.step hkp (by rw [<-hx];exact hz▸h))
     have HNo:¬(x<z)->Hid (m2.Perm l/\∀a b,a<b->b<i+1->b<m2.length->m2.getD a 0<=m2.getD b 0):=fun h=>HFin (Or.inr (by rw [<-hx];exact hz▸h))
     clear ho HFin hx hz
     by_cases hgt:x<z
     ·have HS:=HSt hgt
      clear HSt HNo;go_wp2_with fail
      go_quiet (fail)
      obtain ⟨wq,hwq⟩:∃wq,wq=wr.drewN nq:=⟨_,rfl⟩
      have HOq:Hid (wq.ownsRow w.heap.size 3 1 (.slice (some ⟨g,0,none⟩) l.length c) l.length (ints m2)):=hide (by rw [hwq];exact HOw.out)
      have HBq:Hid (Below w.heap.size w wq):=hide (by rw [hwq];exact below_drewN HB.out _)
      have d1:wq.cell? ⟨g,j+1,none⟩=some (.int .i64 x):=by rw [hwq];exact c1
      have d0:wq.cell? ⟨g,j,none⟩=some (.int .i64 z):=by rw [hwq];exact c0
      have ho:=HOq.out;rw [<-hwq];clear hwq c1 c0;have f1:wq.frozen? ⟨g,j+1,none⟩=false:=ho.frozenAt (j+1);have HO2:=hide ((ho.stored (j+1) (.int .i64 z)).1);rw [ints_set] at HO2
      have c2:(wq.setCell ⟨g,j+1,none⟩ (.int .i64 z)).cell? ⟨g,j,none⟩=some (.int .i64 z):=by
       rw [HO2.out.cellAt j (by omega),zjf (by rw [List.length_set,HML.out];omega)]
       simp [List.getD_eq_getElem?_getD,HZ.out]
      have f2:(wq.setCell ⟨g,j+1,none⟩ (.int .i64 z)).frozen? ⟨g,j,none⟩=false:=HO2.out.frozenAt j;have HO3:=hide ((HO2.out.stored j (.int .i64 x)).1);rw [ints_set] at HO3;have HB3:Hid (Below w.heap.size w ((wq.setCell ⟨g,j+1,none⟩ (.int .i64 z)).setCell ⟨g,j,none⟩ (.int .i64 x))):=hide ((HBq.out.setCell (HOq.out.lt g rfl).1 _).setCell (HOq.out.lt g rfl).1 _);clear ho;go_wp2_with fail
      go_roundg (gk - 1)
      case measure=>have:=HK.out;omega
      case rel=>exact ⟨j,_,by omega,by have:=HK.out;omega,by go_num,HO3,HS,HB3⟩
     ·have HN:=HNo hgt
      clear HSt HNo;go_wp2_with fail
      go_quiet (fail)
      go_wp2_with fail
      go_roundg (go - 1)
      case measure=>have:=HQ.out;omega
      case rel=>exact ⟨i+1,m2,by omega,by omega,by have:=HQ.out;omega,by go_num,HOw,HN,hide (below_drewN HB.out _)⟩
  ·have HS:Hid (Srt m):=hide (srt_of fun a b h1 h2=>HM.out.2 a b h1 (by have:=HM.out.1.length_eq;omega) h2)
   go_wp2_with fail;go_ret
   exact ⟨_,m,rfl,by rw [HM.out.1.length_eq];exact HOw.out,HM.out.1,HS.out,HB.out⟩
open Go.RowKit
theorem zdo {w:World} {sz n:Nat} {v:Value} {xs:List Value} (h:RowAt w sz v n xs):∃a cap,v= .slice a n cap:=by
 obtain ⟨-,a,cap,e,-⟩:=h;exact ⟨a,cap,e⟩
theorem zhj (l:List Int):Srt (l.mergeSort fun x y=>decide (x<=y)):=by
 have h:=List.pairwise_mergeSort (le:=fun x y:Int=>decide (x<=y)) (fun a b c h1 h2=>by simp at h1 h2⊢;omega) (fun a b=>by simp;omega) l
 exact h.imp (fun h=>by simpa using h)
def srtL (l:List Int):List Int:=l.mergeSort fun x y=>decide (x<=y)
theorem zjg {l m:List Int} (h:m.Perm l) (hs:Srt m):m=srtL l:=srt_one (h.trans (List.mergeSort_perm _ _).symm) hs (zhj _)
theorem zk6 (l:List Int):(srtL l).length=l.length:=List.length_mergeSort _
def dropS (k:Wk) (page:Int):Wk:=if page∈k.fs then {k with us:=srtL (k.us++ [page]),fs:=k.fs.filter (fun x=>x !=page)} else {k with gs:=k.gs++ [page]}
open Go.RowKit
def bases:List ByteArray:= [⟨#[97]⟩,⟨#[98]⟩,⟨#[99]⟩,⟨#[100]⟩,⟨#[101]⟩,⟨#[102]⟩,⟨#[103]⟩,⟨#[104]⟩,⟨#[107]⟩,⟨#[109]⟩,⟨#[112]⟩,⟨#[113]⟩,⟨#[115]⟩,⟨#[120]⟩,⟨#[122]⟩,⟨#[]⟩]
theorem zkL {c:ByteArray} (h:c∈bases):c.size<=1:=by
 simp only [bases,List.mem_cons,List.not_mem_nil,or_false] at h
 rcases h with rfl | rfl | rfl | rfl | rfl | rfl | rfl | rfl | rfl | rfl | rfl | rfl | rfl | rfl | rfl | rfl <;> decide
theorem zcb:∀(s t:List UInt8),Op.bytesLess s t=false->(s ==t)=false->Op.bytesLess t s=true
 | [],[],_,h=>by simp at h
 | [],_ :: _,h,_=>by simp [Op.bytesLess] at h
 | _ :: _,[],_,_=>by simp [Op.bytesLess]
 | x :: s,y :: t,h,hq=>by
  rw [Op.bytesLess] at h⊢
  by_cases he:x=y
  ·subst he
   have hq':(s ==t)=false:=by
    rw [beq_eq_false_iff_ne] at hq⊢
    intro e;exact hq (by rw [e])
   simp at h⊢
   exact zcb s t h hq'
  ·have h1:¬x<y:=by intro hl;simp [hl] at h
   have h2:y<x:=by
    rcases UInt8.lt_or_lt_of_ne he with h | h
    ·exact absurd h h1
    ·exact h
   simp [h2]
open Go.RowKit
theorem zbm:∀s:List UInt8,Op.bytesLess s s=false
 | []=>rfl
 | x :: s=>by rw [Op.bytesLess];simp [zbm s]
theorem zcc:∀(s t u:List UInt8),Op.bytesLess s t=true->Op.bytesLess t u=true->Op.bytesLess s u=true
 | [],[],_,h,_=>by simp [Op.bytesLess] at h
 | [],_ :: _,[],_,k=>by simp [Op.bytesLess] at k
 | [],_ :: _,_ :: _,_,_=>by simp [Op.bytesLess]
 | _ :: _,[],_,h,_=>by simp [Op.bytesLess] at h
 | _ :: _,_ :: _,[],_,k=>by simp [Op.bytesLess] at k
 | x :: s,y :: t,z :: u,h,k=>by
  simp only [Op.bytesLess,Bool.or_eq_true,Bool.and_eq_true,decide_eq_true_eq,beq_iff_eq] at h k⊢
  rcases h with h | ⟨rfl,h⟩
  ·rcases k with k | ⟨rfl,k⟩
   ·exact Or.inl (UInt8.lt_trans h k)
   ·exact Or.inl h
  ·rcases k with k | ⟨rfl,k⟩
   ·exact Or.inl k
   ·exact Or.inr ⟨rfl,zcc s t u h k⟩
theorem zk7 {s t:List UInt8} (h:Op.bytesLess s t=true):(Op.bytesLess t s || t ==s)=false:=by
 rw [Bool.or_eq_false_iff]
 constructor
 ·cases hb:Op.bytesLess t s with
  | false=>rfl
  | true=>have:=zcc _ _ _ h hb;rw [zbm] at this;cases this
 ·rw [beq_eq_false_iff_ne]
  rintro rfl;rw [zbm] at h;cases h
open Go.RowKit
def lowP (ks vs:List ByteArray) (key:ByteArray) (i:Nat):List (ByteArray×ByteArray):=((ks.zip vs).take i).filter (fun p=>lessB p.1 key)
def highP (ks vs:List ByteArray) (key:ByteArray) (i:Nat):List (ByteArray×ByteArray):=((ks.zip vs).take i).filter (fun p=>lessB key p.1)
def setP (ks vs:List ByteArray) (key val:ByteArray):List (ByteArray×ByteArray):=lowP ks vs key ks.length++ [(key,val)]++highP ks vs key ks.length
theorem zlM (x y:ByteArray):(!(Op.bytesLess x.toList y.toList || x.toList ==y.toList))=lessB y x:=by
 unfold lessB
 cases h1:Op.bytesLess x.toList y.toList with
 | true=>exact by have:=zk7 h1;rw [Bool.or_eq_false_iff] at this;rw [this.1];rfl
 | false=>
  cases h2:(x.toList ==y.toList) with
  | true=>rw [eq_of_beq h2];exact (zbm _).symm
  | false=>exact (zcb _ _ h1 h2).symm
def firstK (ks:List ByteArray) (a:Nat) (K:List ByteArray):ByteArray:=if lessB (K.getD 0 ⟨#[]⟩) (ks.getD a ⟨#[]⟩)=true then K.getD 0 ⟨#[]⟩ else ks.getD a ⟨#[]⟩
def midK (ks:List ByteArray) (a:Nat) (K:List ByteArray):Nat->List ByteArray
 | 0=> []
 | i+1=>midK ks a K i++(if i=a then firstK ks a K :: K.drop 1 else [ks.getD i ⟨#[]⟩])
def midC (cs:List Int) (a:Nat) (P:List Int):Nat->List Int
 | 0=> []
 | i+1=>midC cs a P i++(if i=a then P else [cs.getD i 0])
def finK (page:Int) (h:Wk×List ByteArray×List Int×Bool):Wk×List ByteArray×List Int×Bool:=if h.2.2.2=true then (dropS h.1 page,h.2.1,h.2.2.1,true) else (h.1,h.2.1,h.2.2.1,false)
noncomputable def goPut (key val:ByteArray):Nat->Wk->Int->Wk×List ByteArray×List Int×Bool
 | 0,k,_=>(k,[],[],false)
 | f+1,k,page=>
  if (rdN (readD k.ps k.ls page)).2=false then (k,[],[],false)
  else if (rdN (readD k.ps k.ls page)).1.lf=true then finK page (halfS k true ((setP (rdN (readD k.ps k.ls page)).1.ks (rdN (readD k.ps k.ls page)).1.vs key val).map Prod.fst) ((setP (rdN (readD k.ps k.ls page)).1.ks (rdN (readD k.ps k.ls page)).1.vs key val).map Prod.snd) [])
  else if (goPut key val f k ((rdN (readD k.ps k.ls page)).1.cs.getD (placeK (rdN (readD k.ps k.ls page)).1.ks key (rdN (readD k.ps k.ls page)).1.ks.length).toNat 0)).2.2.2=false then goPut key val f k ((rdN (readD k.ps k.ls page)).1.cs.getD (placeK (rdN (readD k.ps k.ls page)).1.ks key (rdN (readD k.ps k.ls page)).1.ks.length).toNat 0)
  else finK page (halfS (goPut key val f k ((rdN (readD k.ps k.ls page)).1.cs.getD (placeK (rdN (readD k.ps k.ls page)).1.ks key (rdN (readD k.ps k.ls page)).1.ks.length).toNat 0)).1 false
   (midK (rdN (readD k.ps k.ls page)).1.ks (placeK (rdN (readD k.ps k.ls page)).1.ks key (rdN (readD k.ps k.ls page)).1.ks.length).toNat (goPut key val f k ((rdN (readD k.ps k.ls page)).1.cs.getD (placeK (rdN (readD k.ps k.ls page)).1.ks key (rdN (readD k.ps k.ls page)).1.ks.length).toNat 0)).2.1 (rdN (readD k.ps k.ls page)).1.ks.length) []
   (midC (rdN (readD k.ps k.ls page)).1.cs (placeK (rdN (readD k.ps k.ls page)).1.ks key (rdN (readD k.ps k.ls page)).1.ks.length).toNat (goPut key val f k ((rdN (readD k.ps k.ls page)).1.cs.getD (placeK (rdN (readD k.ps k.ls page)).1.ks key (rdN (readD k.ps k.ls page)).1.ks.length).toNat 0)).2.2.1 (rdN (readD k.ps k.ls page)).1.ks.length))
theorem zhL {k:Wk} {m:Nat} (h:k.sm (m+1)) (page:Int):(dropS k page).sm m:=by
 obtain ⟨h1,h2,h3,h4,h5,h6,h7⟩:=h;unfold dropS
 split
 ·refine ⟨h1,h2,by show k.ls.length+m<=_;omega,h4,?_,by show k.gs.length+m<=_;omega,?_⟩
  ·show (srtL (k.us++ [page])).length+m<=_
   rw [zk6];simp;omega
  ·show (k.fs.filter (fun x=>x !=page)).length+m<=_
   have:=List.length_filter_le (fun x=>x !=page) k.fs
   omega
 ·exact ⟨h1,h2,by show k.ls.length+m<=_;omega,h4,by show k.us.length+m<=_;omega,by show (k.gs++ [page]).length+m<=_;simp;omega,by show k.fs.length+m<=_;omega⟩
def outK (ks:List ByteArray) (skip:Bool) (a:Nat):Nat->List ByteArray
 | 0=> []
 | i+1=>outK ks skip a i++(if i=a/\skip=true then [] else [ks.getD i ⟨#[]⟩])
def outC (cs:List Int) (a:Nat) (kid:Int):Nat->List Int
 | 0=> []
 | i+1=>outC cs a kid i++(if i=a then (if kid=0 then [] else [kid]) else [cs.getD i 0])
noncomputable def endD (page:Int) (k:Wk) (lf:Bool) (K V:List ByteArray) (C:List Int):Wk×Int×Bool:=
 if K.length=0 then (dropS k page,0,true) else if putP k lf K V C=0 then (k,0,false) else (dropS (putK k lf K V C) page,putP k lf K V C,true)
noncomputable def goDrop (key:ByteArray):Nat->Wk->Int->Wk×Int×Bool
 | 0,k,_=>(k,0,false)
 | f+1,k,page=>
  if (rdN (readD k.ps k.ls page)).2=false\/placeK (rdN (readD k.ps k.ls page)).1.ks key (rdN (readD k.ps k.ls page)).1.ks.length<0 then (k,0,false)
  else if (rdN (readD k.ps k.ls page)).1.lf=true then (if (rdN (readD k.ps k.ls page)).1.ks.getD (placeK (rdN (readD k.ps k.ls page)).1.ks key (rdN (readD k.ps k.ls page)).1.ks.length).toNat ⟨#[]⟩=key then
    endD page k true (outK (rdN (readD k.ps k.ls page)).1.ks true (placeK (rdN (readD k.ps k.ls page)).1.ks key (rdN (readD k.ps k.ls page)).1.ks.length).toNat (rdN (readD k.ps k.ls page)).1.ks.length) (outK (rdN (readD k.ps k.ls page)).1.vs true (placeK (rdN (readD k.ps k.ls page)).1.ks key (rdN (readD k.ps k.ls page)).1.ks.length).toNat (rdN (readD k.ps k.ls page)).1.ks.length) []
   else (k,0,false))
  else if (goDrop key f k ((rdN (readD k.ps k.ls page)).1.cs.getD (placeK (rdN (readD k.ps k.ls page)).1.ks key (rdN (readD k.ps k.ls page)).1.ks.length).toNat 0)).2.2=false then ((goDrop key f k ((rdN (readD k.ps k.ls page)).1.cs.getD (placeK (rdN (readD k.ps k.ls page)).1.ks key (rdN (readD k.ps k.ls page)).1.ks.length).toNat 0)).1,0,false)
  else endD page (goDrop key f k ((rdN (readD k.ps k.ls page)).1.cs.getD (placeK (rdN (readD k.ps k.ls page)).1.ks key (rdN (readD k.ps k.ls page)).1.ks.length).toNat 0)).1 false
   (outK (rdN (readD k.ps k.ls page)).1.ks (decide ((goDrop key f k ((rdN (readD k.ps k.ls page)).1.cs.getD (placeK (rdN (readD k.ps k.ls page)).1.ks key (rdN (readD k.ps k.ls page)).1.ks.length).toNat 0)).2.1=0)) (placeK (rdN (readD k.ps k.ls page)).1.ks key (rdN (readD k.ps k.ls page)).1.ks.length).toNat (rdN (readD k.ps k.ls page)).1.ks.length) []
   (outC (rdN (readD k.ps k.ls page)).1.cs (placeK (rdN (readD k.ps k.ls page)).1.ks key (rdN (readD k.ps k.ls page)).1.ks.length).toNat (goDrop key f k ((rdN (readD k.ps k.ls page)).1.cs.getD (placeK (rdN (readD k.ps k.ls page)).1.ks key (rdN (readD k.ps k.ls page)).1.ks.length).toNat 0)).2.1 (rdN (readD k.ps k.ls page)).1.ks.length)
theorem ziA {key:ByteArray} {f:Nat} {k:Wk} {page:Int} {n:Nd} {ok:Bool} (h:rdN (readD k.ps k.ls page)=(n,ok)) (hb:ok=false\/placeK n.ks key n.ks.length<0):goDrop key (f+1) k page=(k,0,false):=by
 rw [goDrop,h,if_pos hb]
theorem zfu {key:ByteArray} {f:Nat} {k:Wk} {page:Int} {n:Nd} {a:Nat} (h:rdN (readD k.ps k.ls page)=(n,true)) (hl:n.lf=true) (ha:placeK n.ks key n.ks.length=(a:Int)) (hk:n.ks.getD a ⟨#[]⟩≠key):goDrop key (f+1) k page=(k,0,false):=by
 rw [goDrop,h,if_neg (by rw [ha];rintro (e | e);cases e;omega),if_pos hl,if_neg (by rw [ha];exact hk)]
theorem zea {key:ByteArray} {f:Nat} {k:Wk} {page:Int} {n:Nd} {a:Nat} (h:rdN (readD k.ps k.ls page)=(n,true)) (hl:n.lf=true) (ha:placeK n.ks key n.ks.length=(a:Int)) (hk:n.ks.getD a ⟨#[]⟩=key):goDrop key (f+1) k page=endD page k true (outK n.ks true a n.ks.length) (outK n.vs true a n.ks.length) []:=by
 rw [goDrop,h,if_neg (by rw [ha];rintro (e | e);cases e;omega),if_pos hl,if_pos (by rw [ha];exact hk),ha]
 rfl
theorem zdK {key:ByteArray} {f:Nat} {k:Wk} {page:Int} {n:Nd} {a:Nat} (h:rdN (readD k.ps k.ls page)=(n,true)) (hl:n.lf=false) (ha:placeK n.ks key n.ks.length=(a:Int)) {R:Wk×Int×Bool} (hR:R=goDrop key f k (n.cs.getD a 0)):
  goDrop key (f+1) k page=if R.2.2=false then (R.1,0,false) else endD page R.1 false (outK n.ks (decide (R.2.1=0)) a n.ks.length) [] (outC n.cs a R.2.1 n.ks.length):=by
 subst hR
 rw [goDrop,h,if_neg (by rw [ha];rintro (e | e);cases e;omega),if_neg (by rw [hl];exact fun e=>by cases e),ha]
 rfl
theorem endD_sm {page:Int} {k:Wk} {m:Nat} (h:k.sm (m+2)) (lf:Bool) (K V:List ByteArray) (C:List Int):(endD page k lf K V C).1.sm m:=by
 unfold endD
 split
 ·exact zhL (zaK h (by omega)) page
 split
 ·exact zaK h (by omega)
 ·exact zhL (zlp h _ _ _ _) page
open Go.RowKit
theorem zhM (ls ms:List (Int×ByteArray)) (page:Int):∀k,k<=ls.length->lateAt (ls++ms) page k=lateAt ls page k:=by
 intro k
 induction k with
 | zero=>intro _;rfl
 | succ k ih=>
  intro hk
  have e:(ls++ms)[k]?=ls[k]?:=List.getElem?_append_left (by omega)
  rw [lateAt,lateAt,e,ih (by omega)]
theorem zgv (ls:List (Int×ByteArray)) (q page:Int) (t:ByteArray):lateAt (ls++ [(q,t)]) page (ls++ [(q,t)]).length=if q=page then some t else lateAt ls page ls.length:=by
 have e:(ls++ [(q,t)])[ls.length]?=some (q,t):=by simp
 rw [List.length_append,List.length_singleton]
 by_cases h:q=page
 ·rw [if_pos h];subst h;exact zeU e
 ·rw [if_neg h,ze3 e h,zhM ls _ page _ (Nat.le_refl _)]
theorem ziB {ps:List ByteArray} {ls:List (Int×ByteArray)} {page:Int} {t:ByteArray} (h:0<=page/\page<(ps.length:Int)):readD ps (ls++ [(page,t)]) page=t:=
 zeV h (by rw [zgv,if_pos rfl])
theorem zkM {ps:List ByteArray} {ls:List (Int×ByteArray)} {page i:Int} {t:ByteArray} (h:i≠page):readD ps (ls++ [(page,t)]) i=readD ps ls i:=by
 have e:lateAt (ls++ [(page,t)]) i (ls++ [(page,t)]).length=lateAt ls i ls.length:=by rw [zgv,if_neg (fun e=>h e.symm)]
 rw [readD,readD,e]
theorem zb7 (x:ByteArray):lessB x x=false:=zbm _
theorem zeb {x y z:ByteArray} (h:lessB x y=true) (k:lessB y z=true):lessB x z=true:=zcc _ _ _ h k
theorem zmQ {x y z:ByteArray} (h:lessB x y=false) (k:lessB x z=true):lessB y z=true:=by
 unfold lessB at h k⊢
 cases he:(x.toList ==y.toList) with
 | true=>rw [<-eq_of_beq he];exact k
 | false=>exact zcc _ _ _ (zcb _ _ h he) k
theorem zlN {x y z:ByteArray} (h:lessB x y=false) (k:lessB z y=true):lessB z x=true:=by
 unfold lessB at h k⊢
 cases he:(x.toList ==y.toList) with
 | true=>rw [eq_of_beq he];exact k
 | false=>exact zcc _ _ _ k (zcb _ _ h he)
theorem zlO {n:Nd} (h:n.ok=true) (i:Nat):∀d,i+d+1<n.ks.length->lessB (n.ks.getD i ⟨#[]⟩) (n.ks.getD (i+d+1) ⟨#[]⟩)=true
 | 0,hl=>by
  have:=(zam h).2.1 (i+1) hl;unfold keyB at this;rw [Bool.and_eq_true] at this;unfold lessB
  simpa using this.2
 | d+1,hl=>by
  have h1:=zlO h i d (by omega)
  have e:i+(d+1)+1=i+d+1+1:=by omega
  rw [e] at hl⊢;have:=(zam h).2.1 (i+d+1+1) hl;unfold keyB at this;rw [Bool.and_eq_true] at this;refine zeb h1 ?_;unfold lessB
  simpa using this.2
def Asc (l:List (ByteArray×ByteArray)):Prop:=l.Pairwise fun x y=>lessB x.1 y.1=true
open Go.RowKit
theorem zjh {s:ByteArray} {cnt:Nat}:∀(d:Nat) {n:Nd} {p:Nat},NTry s cnt n p->n.even->n.ks.length+d=cnt->∀m m',IsIn s m->IsIn s m'->m=m'
 | 0,n,p,h,he,hc,m,m',hm,hm'=>by
  rw [(zh7 h he (by omega) m hm).1,(zh7 h he (by omega) m' hm').1]
 | d+1,n,p,h,he,hc,m,m',hm,hm'=>by
  obtain ⟨x,h1,⟨hl,y,h2,h3⟩ | ⟨hl,z,h2,h3⟩⟩:=zf4 h he (by omega) hm
  ·exact zjh d (zlj h he (by omega) hl h1 h2) (zdH he hl x y) (by simp [Nd.snocV];omega) m m' hm hm'
  ·exact zjh d (zlk h he (by omega) hl h1 h2) (zdI he hl x z) (by simp [Nd.snocC];omega) m m' hm hm'
theorem zmR {s:ByteArray} {m m':Nd} (h:IsIn s m) (h':IsIn s m'):m=m':=by
 obtain ⟨-,h1,h2⟩:=zcC h
 have hl:m.lf=decide (byt s 0=108):=by
  rw [h1]
  cases m.lf <;> decide
 have hs:=zfN (s:=s) hl h2
 exact zjh m.ks.length hs ⟨fun _=>⟨rfl,rfl⟩,fun _=>⟨rfl,rfl⟩⟩ (by simp) m m' h h'
theorem zmS {t:ByteArray} {m m':Nd} (h:IsNd t m) (h':IsNd t m'):m=m':=by
 cases hs:isSealed t.data.toList with
 | false=>exact absurd h (zcT hs m)
 | true=>exact zmR ((zbB hs m).1 h) ((zbB hs m').1 h')
theorem zlP {n:Nd} (h:n.ok=true):rdN (nodeO n.lf n.ks n.vs n.cs)=(n,true):=by
 have h':nodeOkB n.lf n.ks n.vs n.cs=true:=h
 have hm:IsNd (nodeO n.lf n.ks n.vs n.cs) n:=⟨h,by rw [nodeO,if_pos h']⟩
 exact zgi (Or.inl ⟨rfl,hm,fun m hx=>zmS hx hm⟩)
noncomputable def Wk.rd (k:Wk) (p:Int):Nd×Bool:=rdN (readD k.ps k.ls p)
structure WOk (k:Wk) (O:List Int):Prop where
 zero:(0:Int)∈O
 un:k.us.Nodup
 fn:k.fs.Nodup
 uf:∀x∈k.us,x∉k.fs
 uo:∀x∈k.us,x∉O
 fo:∀x∈k.fs,x∉O
 lu:∀x∈k.us,0<=x/\x<k.next
 lf:∀x∈k.fs,0<=x/\x<k.next
 lo:∀x∈O,0<=x/\x<k.next
 sz:k.ps.length<=1048576
 go:∀x∈k.gs,x∈O
 nl:k.next<=(k.ps.length:Int)
 lw:∀e∈k.ls,e.1∉O
def Live (k:Wk) (O X:List Int):Prop:=∀x∈X,x∉k.us/\(x∈O\/x∈k.fs)
theorem zlQ {k:Wk} {O X:List Int} (hw:WOk k O) (h:Live k O X):∀x∈X,0<=x/\x<k.next:=fun x hx=>by
 rcases (h x hx).2 with e | e
 ·exact hw.lo x e
 ·exact hw.lf x e
theorem zfU {k:Wk} {O X Y:List Int}:Live k O (X++Y)↔Live k O X/\Live k O Y:=by
 unfold Live
 constructor
 ·exact fun h=>⟨fun x hx=>h x (List.mem_append_left _ hx),fun x hx=>h x (List.mem_append_right _ hx)⟩
 ·rintro ⟨h1,h2⟩ x hx
  rcases List.mem_append.1 hx with e | e
  ·exact h1 x e
  ·exact h2 x e
theorem zk8 {k:Wk} {O:List Int} (h:WOk k O) (hp:giveP k≠0):
  WOk (giveK k) O/\giveP k∉O/\giveP k∉k.fs/\(giveK k).fs=k.fs++ [giveP k]/\giveP k∉(giveK k).us/\(∀x∈(giveK k).us,x∈k.us)/\0<=giveP k/\(giveP k∈k.us\/giveP k=k.next):=by
 cases hu:k.us with
 | cons x t=>
  obtain ⟨e1,e2⟩:=zbO hu;rw [e1,e2]
  have hx:x∈k.us:=by rw [hu];exact List.mem_cons_self ..
  have ht:∀y∈t,y∈k.us:=fun y hy=>by rw [hu];exact List.mem_cons_of_mem _ hy
  have hn:=h.un;rw [hu,List.nodup_cons] at hn
  refine ⟨⟨h.zero,hn.2,?_,fun y hy=> ?_,fun y hy=>h.uo y (ht y hy),fun y hy=> ?_,fun y hy=>h.lu y (ht y hy),fun y hy=> ?_,h.lo,h.sz,h.go,h.nl,h.lw⟩,h.uo x hx,h.uf x hx,rfl,hn.1,fun y hy=>List.mem_cons_of_mem _ hy,(h.lu x hx).1,Or.inl (List.mem_cons_self ..)⟩
  ·rw [List.nodup_append]
   exact ⟨h.fn,by simp,fun a ha b hb=>by rw [List.mem_singleton] at hb;subst hb;exact fun e=>h.uf b hx (e▸ha)⟩
  ·show y∉k.fs++ [x]
   rw [List.mem_append,List.mem_singleton];rintro (e | e)
   ·exact h.uf y (ht y hy) e
   ·exact hn.1 (e▸hy)
  ·rcases List.mem_append.1 hy with e | e
   ·exact h.fo y e
   ·rw [List.mem_singleton] at e;subst e;exact h.uo y hx
  ·rcases List.mem_append.1 hy with e | e
   ·exact h.lf y e
   ·rw [List.mem_singleton] at e;subst e;exact h.lu y hx
 | nil=>
  by_cases hn:k.next<(k.ps.length:Int)
  ·obtain ⟨e1,e2⟩:=zbP hu hn
   rw [e1,e2];have h0:=h.lo 0 h.zero;have hsz:=h.sz
   have hw:wrap64 (k.next+1)=k.next+1:=zaC _ (by omega) (by omega)
   refine ⟨⟨h.zero,h.un,?_,fun y hy=> ?_,h.uo,fun y hy=> ?_,fun y hy=> ?_,fun y hy=> ?_,fun y hy=> ?_,h.sz,h.go,(by show wrap64 (k.next+1)<=(k.ps.length:Int);rw [hw];omega),h.lw⟩,fun e=> ?_,fun e=> ?_,rfl,fun e=> ?_,fun y hy=>by rw [<-hu];exact hy,by omega,Or.inr rfl⟩
   ·rw [List.nodup_append]
    exact ⟨h.fn,by simp,fun a ha b hb=>by rw [List.mem_singleton] at hb;subst hb;exact fun e=>by have:=(h.lf a ha).2;omega⟩
   ·have hy':y∈k.us:=hy
    rw [hu] at hy';cases hy'
   ·rcases List.mem_append.1 hy with e | e
    ·exact h.fo y e
    ·rw [List.mem_singleton] at e;subst e;exact fun e=>by have:=(h.lo _ e).2;omega
   ·have hy':y∈k.us:=hy
    rw [hu] at hy';cases hy'
   ·show 0<=y/\y<wrap64 (k.next+1)
    rw [hw]
    rcases List.mem_append.1 hy with e | e
    ·have:=h.lf y e;omega
    ·rw [List.mem_singleton] at e;subst e;omega
   ·show 0<=y/\y<wrap64 (k.next+1)
    rw [hw];have:=h.lo y hy;omega
   ·have:=(h.lo _ e).2;omega
   ·have:=(h.lf _ e).2;omega
   ·have e':k.next∈k.us:=e
    rw [hu] at e';cases e'
  ·exact absurd (zcg hu hn).2 hp
theorem zhN {k:Wk} {O:List Int} (h:WOk k O) {lf:Bool} {ks vs:List ByteArray} {cs:List Int} (hp:putP k lf ks vs cs≠0):
  WOk (putK k lf ks vs cs) O/\putP k lf ks vs cs∉O/\putP k lf ks vs cs∉k.fs/\(putK k lf ks vs cs).fs=k.fs++ [putP k lf ks vs cs]/\(∀X,Live k O X->Live (putK k lf ks vs cs) O (putP k lf ks vs cs :: X)/\putP k lf ks vs cs∉X)/\
  (putK k lf ks vs cs).rd (putP k lf ks vs cs)=(⟨lf,ks,vs,cs⟩,true)/\∀x,x≠putP k lf ks vs cs->(putK k lf ks vs cs).rd x=k.rd x:=by
 cases hb:putB k lf ks vs cs with
 | false=>exact absurd (zet hb).2 hp
 | true=>
  obtain ⟨e1,e2⟩:=zgg hb;rw [e2] at hp;obtain ⟨g1,g2,g3,g4,g5,g6,g7,g8⟩:=zk8 h hp;unfold putB at hb;rw [Bool.and_eq_true,Bool.and_eq_true] at hb;obtain ⟨⟨hn,-⟩,hwo⟩:=hb;have hwl:writeL k.ps k.ls (giveP k) (nodeO lf ks vs cs)=k.ls++ [(giveP k,nodeO lf ks vs cs)]:=if_pos hwo
  have hrg:0<=giveP k/\giveP k<(k.ps.length:Int):=by
   unfold writeOk at hwo;rw [Bool.and_eq_true,Bool.and_eq_true,Bool.and_eq_true,decide_eq_true_eq] at hwo;have:=hwo.1.1.2
   omega
  rw [e1,e2,hwl]
  refine ⟨⟨g1.zero,g1.un,g1.fn,g1.uf,g1.uo,g1.fo,g1.lu,g1.lf,g1.lo,g1.sz,g1.go,g1.nl,(fun e he=>by
   rcases List.mem_append.1 he with e1 | e1
   ·exact h.lw e e1
   ·rw [List.mem_singleton] at e1;subst e1;exact g2)⟩,g2,g3,g4,fun X hX=>⟨fun x hx=> ?_,fun e=> ?_⟩,?_,fun x hx=> ?_⟩
  ·show x∉(giveK k).us/\(x∈O\/x∈(giveK k).fs)
   rw [g4]
   rcases List.mem_cons.1 hx with e | e
   ·subst e
    exact ⟨g5,Or.inr (List.mem_append_right _ (List.mem_singleton.2 rfl))⟩
   ·obtain ⟨h1,h2⟩:=hX x e
    refine ⟨fun e'=>h1 (g6 x e'),?_⟩
    rcases h2 with h2 | h2
    ·exact Or.inl h2
    ·exact Or.inr (List.mem_append_left _ h2)
  ·obtain ⟨h1,h2⟩:=hX _ e
   rcases h2 with h2 | h2
   ·exact g2 h2
   ·exact g3 h2
  ·show rdN (readD (giveK k).ps (k.ls++ [(giveP k,nodeO lf ks vs cs)]) (giveP k))=_
   rw [(zcD k).1,ziB hrg];exact zlP (n:=⟨lf,ks,vs,cs⟩) hn
  ·show rdN (readD (giveK k).ps (k.ls++ [(giveP k,nodeO lf ks vs cs)]) x)=_
   rw [(zcD k).1,zkM hx]
   rfl
theorem zdL {l:List Int} {x:Int}:x∈srtL l↔x∈l:=(List.mergeSort_perm l _).mem_iff
theorem zeD {k:Wk} {O:List Int} (h:WOk k O) (p:Int) (hp:Live k O [p]):
  WOk (dropS k p) O/\(∀x,(dropS k p).rd x=k.rd x)/\∀X,Live k O X->p∉X->Live (dropS k p) O X:=by
 obtain ⟨p1,p2⟩:=hp p (List.mem_singleton.2 rfl);unfold dropS
 split
 ·next hf=>
  refine ⟨⟨h.zero,?_,h.fn.filter _,fun x hx=> ?_,fun x hx=> ?_,fun x hx=> ?_,fun x hx=> ?_,fun x hx=> ?_,h.lo,h.sz,h.go,h.nl,h.lw⟩,fun _=>rfl,fun X hX hn x hx=> ?_⟩
  ·have hpm:(k.us++ [p]).Nodup:=by
    rw [List.nodup_append]
    exact ⟨h.un,by simp,fun a ha b hb=>by rw [List.mem_singleton] at hb;subst hb;exact fun e=>p1 (e▸ha)⟩
   exact (List.mergeSort_perm _ _).nodup_iff.2 hpm
  ·have hx:=zdL.1 hx
   show x∉k.fs.filter (fun y=>y !=p)
   rw [List.mem_filter];rintro ⟨e1,e2⟩
   rcases List.mem_append.1 hx with e | e
   ·exact h.uf x e e1
   ·rw [List.mem_singleton] at e;subst e;simp at e2
  ·rcases List.mem_append.1 (zdL.1 hx) with e | e
   ·exact h.uo x e
   ·rw [List.mem_singleton] at e;subst e;exact h.fo x hf
  ·exact h.fo x ((List.mem_filter.1 hx).1)
  ·rcases List.mem_append.1 (zdL.1 hx) with e | e
   ·exact h.lu x e
   ·rw [List.mem_singleton] at e;subst e;exact h.lf x hf
  ·exact h.lf x ((List.mem_filter.1 hx).1)
  ·obtain ⟨h1,h2⟩:=hX x hx
   refine ⟨fun e=> ?_,?_⟩
   ·rcases List.mem_append.1 (zdL.1 e) with e | e
    ·exact h1 e
    ·rw [List.mem_singleton] at e;subst e;exact hn hx
   ·rcases h2 with h2 | h2
    ·exact Or.inl h2
    ·exact Or.inr (List.mem_filter.2 ⟨h2,by simp;exact fun e=>hn (e▸hx)⟩)
 ·next hf=>
  refine ⟨⟨h.zero,h.un,h.fn,h.uf,h.uo,h.fo,h.lu,h.lf,h.lo,h.sz,fun x hx=> ?_,h.nl,h.lw⟩,fun _=>rfl,fun X hX _ x hx=>hX x hx⟩
  rcases List.mem_append.1 hx with e | e
  ·exact h.go x e
  ·rw [List.mem_singleton] at e
   subst e
   rcases p2 with e | e
   ·exact e
   ·exact absurd e hf
def newC (a b x:Int):Nat:=if a<=x/\x<b then 1 else 0
def Acc (k k':Wk) (A P:List Int):Prop:=k.next<=k'.next/\∀x,P.count x+k'.us.count x+k'.gs.count x=A.count x+k.us.count x+k.gs.count x+newC k.next k'.next x
theorem zfV {a b c:Int} (h1:a<=b) (h2:b<=c) (x:Int):newC a c x=newC a b x+newC b c x:=by
 unfold newC
 split <;> split <;> split <;> omega
theorem zeE (a x:Int):newC a a x=0:=by
 unfold newC
 rw [if_neg (by omega)]
theorem zmT (k:Wk) (A:List Int):Acc k k A A:=⟨by omega,fun x=>by rw [zeE];omega⟩
theorem zlR {k k1 k2:Wk} {A B C D:List Int} (h1:Acc k k1 A B) (h2:Acc k1 k2 (B++C) D):Acc k k2 (A++C) D:=by
 refine ⟨by have:=h1.1;have:=h2.1;omega,fun x=> ?_⟩
 have e1:=h1.2 x;have e2:=h2.2 x;rw [zfV h1.1 h2.1,List.count_append];rw [List.count_append] at e2
 omega
theorem zmU {k k':Wk} {A A' P P':List Int} (h:Acc k k' A P) (hA:∀x,A.count x=A'.count x) (hP:∀x,P.count x=P'.count x):Acc k k' A' P':=⟨h.1,fun x=>by rw [<-hA,<-hP];exact h.2 x⟩
theorem zlS {k:Wk} {O:List Int} (h:WOk k O) {lf:Bool} {ks vs:List ByteArray} {cs:List Int} (hp:putP k lf ks vs cs≠0):Acc k (putK k lf ks vs cs) [] [putP k lf ks vs cs]:=by
 cases hb:putB k lf ks vs cs with
 | false=>exact absurd (zet hb).2 hp
 | true=>
  obtain ⟨e1,e2⟩:=zgg hb;rw [e2] at hp;rw [e1,e2]
  cases hu:k.us with
  | cons x t=>
   obtain ⟨g1,g2⟩:=zbO hu;rw [g1,g2]
   refine ⟨by show k.next<=k.next;omega,fun y=> ?_⟩
   show [x].count y+t.count y+k.gs.count y= [].count y+k.us.count y+k.gs.count y+newC k.next k.next y
   rw [hu,zeE,List.count_cons,List.count_cons,List.count_nil]
   omega
  | nil=>
   by_cases hn:k.next<(k.ps.length:Int)
   ·obtain ⟨g1,g2⟩:=zbP hu hn
    rw [g1,g2];have h0:=h.lo 0 h.zero;have hsz:=h.sz
    have hw:wrap64 (k.next+1)=k.next+1:=zaC _ (by omega) (by omega)
    refine ⟨by show k.next<=wrap64 (k.next+1);omega,fun y=> ?_⟩
    show [k.next].count y+k.us.count y+k.gs.count y= [].count y+k.us.count y+k.gs.count y+newC k.next (wrap64 (k.next+1)) y
    have hN:newC k.next (k.next+1) y= [k.next].count y:=by
     unfold newC;rw [List.count_singleton]
     by_cases e:k.next=y
     ·subst e
      rw [if_pos (show k.next<=k.next/\k.next<k.next+1 by omega)]
      simp
     ·rw [if_neg (show ¬(k.next<=y/\y<k.next+1) by omega)]
      simp [e]
    rw [hw,hN,List.count_nil]
    omega
   ·exact absurd (zcg hu hn).2 hp
theorem zhO (k:Wk) (p:Int):Acc k (dropS k p) [p] []:=by
 unfold dropS
 split
 ·refine ⟨by show k.next<=k.next;omega,fun x=> ?_⟩
  show [].count x+(srtL (k.us++ [p])).count x+k.gs.count x= [p].count x+k.us.count x+k.gs.count x+newC k.next k.next x
  have hc:(srtL (k.us++ [p])).count x=(k.us++ [p]).count x:=(List.mergeSort_perm _ _).count_eq x;rw [zeE,hc,List.count_append,List.count_nil]
  omega
 ·refine ⟨by show k.next<=k.next;omega,fun x=> ?_⟩
  show [].count x+k.us.count x+(k.gs++ [p]).count x= [p].count x+k.us.count x+k.gs.count x+newC k.next k.next x
  rw [zeE,List.count_append,List.count_nil]
  omega
open Go.RowKit
abbrev Prs:=List (ByteArray×ByteArray)
def ltA (A:Prs) (x:ByteArray):Prop:=∀q∈A,lessB q.1 x=true
def geA (x:ByteArray) (A:Prs):Prop:=∀q∈A,lessB q.1 x=false
theorem zhP {A B:Prs} {x:ByteArray}:ltA (A++B) x↔ltA A x/\ltA B x:=by
 unfold ltA
 constructor
 ·exact fun h=>⟨fun q hq=>h q (List.mem_append_left _ hq),fun q hq=>h q (List.mem_append_right _ hq)⟩
 ·rintro ⟨h1,h2⟩ q hq
  rcases List.mem_append.1 hq with e | e
  ·exact h1 q e
  ·exact h2 q e
theorem geA_app {A B:Prs} {x:ByteArray}:geA x (A++B)↔geA x A/\geA x B:=by
 unfold geA
 constructor
 ·exact fun h=>⟨fun q hq=>h q (List.mem_append_left _ hq),fun q hq=>h q (List.mem_append_right _ hq)⟩
 ·rintro ⟨h1,h2⟩ q hq
  rcases List.mem_append.1 hq with e | e
  ·exact h1 q e
  ·exact h2 q e
theorem le_trans {x y z:ByteArray} (h:lessB y x=false) (k:lessB z y=false):lessB z x=false:=by
 cases e:lessB z x with
 | false=>rfl
 | true=>rw [zmQ k e] at h;cases h
theorem lt_le {x y z:ByteArray} (h:lessB x y=true) (k:lessB z y=false):lessB x z=true:=by
 cases e:lessB z x with
 | false=>exact zlN k h
 | true=>rw [zeb e h] at k;cases k
def KidsOf (T:Int->ByteArray->Prs->List Int->Prop):List ByteArray->List Int->Prs->List Int->Prop
 | [],[],L,P=>L= []/\P= []
 | x :: ks,c :: cs,L,P=>∃f L1 P1 L2 P2,T c f L1 P1/\lessB f x=false/\(∀y∈ks,ltA L1 y)/\KidsOf T ks cs L2 P2/\L=L1++L2/\P=P1++P2
 | [],_ :: _,_,_=>False
 | _ :: _,[],_,_=>False
def IsTree (R:Int->Nd×Bool):Nat->Int->ByteArray->Prs->List Int->Prop
 | 0,_,_,_,_=>False
 | h+1,p,f,L,P=>∃n,R p=(n,true)/\n.ok=true/\f=n.ks.getD 0 ⟨#[]⟩/\
   ((n.lf=true/\h=0/\L=n.ks.zip n.vs/\P= [p])\/(n.lf=false/\∃P',KidsOf (IsTree R h) n.ks n.cs L P'/\P=p :: P'))
theorem zbx {T:Int->ByteArray->Prs->List Int->Prop}:∀{ks:List ByteArray} {cs:List Int} {L:Prs} {P:List Int},KidsOf T ks cs L P->ks.length=cs.length
 | [],[],_,_,_=>rfl
 | _ :: _,_ :: _,_,_,⟨_,_,_,_,_,_,_,_,h,_,_⟩=>by simp [zbx h]
 | [],_ :: _,_,_,h=>h.elim
 | _ :: _,[],_,_,h=>h.elim
theorem zcH {T T':Int->ByteArray->Prs->List Int->Prop} {G:Int->Prop} (hT:∀c f L P,T c f L P->(∀x∈P,G x)->T' c f L P):
  ∀{ks:List ByteArray} {cs:List Int} {L:Prs} {P:List Int},KidsOf T ks cs L P->(∀x∈P,G x)->KidsOf T' ks cs L P
 | [],[],_,_,h,_=>h
 | _ :: _,_ :: _,_,_,⟨f,L1,P1,L2,P2,h1,h2,h3,h4,e1,e2⟩,hG=>⟨f,L1,P1,L2,P2,hT _ _ _ _ h1 (fun x hx=>hG x (by rw [e2];exact List.mem_append_left _ hx)),h2,h3,zcH hT h4 (fun x hx=>hG x (by rw [e2];exact List.mem_append_right _ hx)),e1,e2⟩
 | [],_ :: _,_,_,h,_=>h.elim
 | _ :: _,[],_,_,h,_=>h.elim
theorem zbq {R R':Int->Nd×Bool}:∀(h:Nat) {p:Int} {f:ByteArray} {L:Prs} {P:List Int},IsTree R h p f L P->(∀x∈P,R' x=R x)->IsTree R' h p f L P
 | 0,_,_,_,_,ht,_=>ht.elim
 | h+1,p,f,L,P,⟨n,h1,h2,h3,h4⟩,hG=>by
  rcases h4 with ⟨a,b,c,d⟩ | ⟨a,P',c,d⟩
  ·exact ⟨n,by rw [hG p (by rw [d];exact List.mem_singleton.2 rfl)];exact h1,h2,h3,Or.inl ⟨a,b,c,d⟩⟩
  ·exact ⟨n,by rw [hG p (by rw [d];exact List.mem_cons_self ..)];exact h1,h2,h3,Or.inr ⟨a,P',zcH (T:=IsTree R h) (T':=IsTree R' h) (G:=fun x=>R' x=R x) (fun _ _ _ _ ht hx=>zbq h ht hx) c (fun x hx=>hG x (by rw [d];exact List.mem_cons_of_mem _ hx)),d⟩⟩
theorem zbG {T:Int->ByteArray->Prs->List Int->Prop}:∀{ks1 ks2:List ByteArray} {cs1 cs2:List Int} {L:Prs} {P:List Int},ks1.length=cs1.length->
  (KidsOf T (ks1++ks2) (cs1++cs2) L P↔∃L1 P1 L2 P2,KidsOf T ks1 cs1 L1 P1/\KidsOf T ks2 cs2 L2 P2/\(∀y∈ks2,ltA L1 y)/\L=L1++L2/\P=P1++P2)
 | [],ks2,[],cs2,L,P,_=>by
  constructor
  ·exact fun h=>⟨[],[],L,P,⟨rfl,rfl⟩,h,(fun _ _ q hq=>by cases hq),rfl,rfl⟩
  ·rintro ⟨L1,P1,L2,P2,⟨rfl,rfl⟩,h,-,rfl,rfl⟩
   exact h
 | x :: ks1,ks2,c :: cs1,cs2,L,P,hl=>by
  have hl':ks1.length=cs1.length:=by simpa using hl
  constructor
  ·rintro ⟨f,L1,P1,L2,P2,h1,h2,h3,h4,rfl,rfl⟩
   obtain ⟨M1,Q1,M2,Q2,k1,k2,k3,rfl,rfl⟩:=(zbG hl').1 h4
   refine ⟨L1++M1,P1++Q1,M2,Q2,⟨f,L1,P1,M1,Q1,h1,h2,fun y hy=>h3 y (List.mem_append_left _ hy),k1,rfl,rfl⟩,k2,fun y hy=>zhP.2 ⟨h3 y (List.mem_append_right _ hy),k3 y hy⟩,by rw [List.append_assoc],by rw [List.append_assoc]⟩
  ·rintro ⟨N1,S1,M2,Q2,⟨f,L1,P1,M1,Q1,h1,h2,h3,k1,rfl,rfl⟩,k2,k3,rfl,rfl⟩
   refine ⟨f,L1,P1,M1++M2,Q1++Q2,h1,h2,fun y hy=> ?_,(zbG hl').2 ⟨M1,Q1,M2,Q2,k1,k2,fun y hy=>(zhP.1 (k3 y hy)).2,rfl,rfl⟩,by rw [List.append_assoc],by rw [List.append_assoc]⟩
   rcases List.mem_append.1 hy with e | e
   ·exact h3 y e
   ·exact (zhP.1 (k3 y e)).1
 | [],_,_ :: _,_,_,_,hl=>by simp at hl
 | _ :: _,_,[],_,_,_,hl=>by simp at hl
def AscK (ks:List ByteArray):Prop:=ks.Pairwise fun x y=>lessB x y=true
theorem zdp {n:Nd} (h:n.ok=true):AscK n.ks:=by
 unfold AscK;rw [List.pairwise_iff_getElem];intro i j hi hj hij
 have:=zlO h i (j - i - 1) (by omega)
 rw [show i+(j - i - 1)+1=j from by omega] at this
 simpa [List.getD_eq_getElem?_getD,hi,hj] using this
theorem zlT {T:Int->ByteArray->Prs->List Int->Prop} (hT:∀c f L P,T c f L P->geA f L):∀{ks:List ByteArray} {cs:List Int} {L:Prs} {P:List Int} (x:ByteArray),KidsOf T ks cs L P->(∀y∈ks,lessB y x=false)->geA x L
 | [],[],_,_,x,⟨e,_⟩,_=>by rw [e];exact fun q hq=>by cases hq
 | y :: ks,c :: cs,_,_,x,⟨f,L1,P1,L2,P2,h1,h2,_,h4,e1,_⟩,hx=>by
  rw [e1,geA_app]
  exact ⟨fun q hq=>le_trans (hx y (List.mem_cons_self ..)) (le_trans h2 (hT _ _ _ _ h1 q hq)),zlT hT x h4 (fun z hz=>hx z (List.mem_cons_of_mem _ hz))⟩
 | [],_ :: _,_,_,_,h,_=>h.elim
 | _ :: _,[],_,_,_,h,_=>h.elim
theorem zdq {ks:List ByteArray} (h:AscK ks):∀y∈ks,lessB y (ks.getD 0 ⟨#[]⟩)=false:=by
 cases ks with
 | nil=>exact fun y hy=>by cases hy
 | cons x ks=>
  intro y hy
  rcases List.mem_cons.1 hy with e | e
  ·subst e;exact zb7 y
  ·have hp:lessB x y=true:=(List.pairwise_cons.1 h).1 y e
   show lessB y x=false
   cases e2:lessB y x with
   | false=>rfl
   | true=>have:=zeb e2 hp;rw [zb7] at this;cases this
theorem zmV {ks vs:List ByteArray} {q:ByteArray×ByteArray} (h:q∈ks.zip vs):q.1∈ks:=(List.of_mem_zip h).1
theorem zfb {R:Int->Nd×Bool}:∀(h:Nat) {p:Int} {f:ByteArray} {L:Prs} {P:List Int},IsTree R h p f L P->geA f L
 | 0,_,_,_,_,ht=>ht.elim
 | h+1,p,f,L,P,⟨n,h1,h2,h3,h4⟩=>by
  have hf:=zdq (zdp h2);rw [<-h3] at hf
  rcases h4 with ⟨a,b,c,d⟩ | ⟨a,P',c,d⟩
  ·rw [c]
   exact fun q hq=>hf q.1 (zmV hq)
  ·exact zlT (fun _ _ _ _ ht=>zfb h ht) f c hf
theorem zgw {R:Int->Nd×Bool} {h:Nat} {p:Int} {f:ByteArray} {L:Prs} {P:List Int} (ht:IsTree R h p f L P):∃P',P=p :: P':=by
 cases h with
 | zero=>exact ht.elim
 | succ h=>
  obtain ⟨n,-,-,-,⟨-,-,-,d⟩ | ⟨-,P',-,d⟩⟩:=ht
  ·exact ⟨[],d⟩
  ·exact ⟨P',d⟩
theorem zk9 {L:Prs} {p:ByteArray×ByteArray->Bool} (h:∀q∈L,p q=true):L.filter p=L:=List.filter_eq_self.2 h
theorem zlU {L:Prs} {p:ByteArray×ByteArray->Bool} (h:∀q∈L,p q=false):L.filter p= []:=List.filter_eq_nil_iff.2 (fun q hq=>by rw [h q hq];decide)
open Go.RowKit
theorem zcY (ks:List ByteArray) (key:ByteArray):∀n,(placeK ks key n= -1/\∀j,j<n->lessB key (ks.getD j ⟨#[]⟩)=true)\/∃a:Nat,a<n/\placeK ks key n=(a:Int)/\lessB key (ks.getD a ⟨#[]⟩)=false/\∀j,a<j->j<n->lessB key (ks.getD j ⟨#[]⟩)=true
 | 0=>Or.inl ⟨rfl,fun j hj=>by omega⟩
 | n+1=>by
  rw [placeK];have hg:=zlM (ks.getD n ⟨#[]⟩) key
  split
  ·next hc=>
   rw [hc] at hg
   exact Or.inr ⟨n,by omega,rfl,hg.symm,fun j h1 h2=>by omega⟩
  ·next hc=>
   have hc':(Op.bytesLess (ks.getD n ⟨#[]⟩).toList key.toList || (ks.getD n ⟨#[]⟩).toList ==key.toList)=false:=by simpa using hc
   rw [hc'] at hg;have hn:lessB key (ks.getD n ⟨#[]⟩)=true:=hg.symm
   rcases zcY ks key n with ⟨e,h⟩ | ⟨a,h1,h2,h3,h4⟩
   ·refine Or.inl ⟨e,fun j hj=> ?_⟩
    by_cases ej:j=n
    ·subst ej;exact hn
    ·exact h j (by omega)
   ·refine Or.inr ⟨a,by omega,h2,h3,fun j j1 j2=> ?_⟩
    by_cases ej:j=n
    ·subst ej;exact hn
    ·exact h4 j j1 (by omega)
open Go.RowKit
def Wk.room (k:Wk):Int:=(k.us.length:Int)+((k.ps.length:Int) - k.next)
structure Rmq (k:Wk) (O:List Int) (m q:Nat):Prop where
 wok:WOk k O
 one:(1:Int)∈O
 dk:diskOkB k.ps k.ls=true
 rm:(m:Int)<=k.room
 lt:k.ls.length+q<=200
 gn:k.gs= []
theorem zbH {k:Wk} {O:List Int} {m q m' q':Nat} (h:Rmq k O m q) (h1:m'<=m) (h2:q'<=q):Rmq k O m' q':=
 ⟨h.wok,h.one,h.dk,by have:=h.rm;omega,by have:=h.lt;omega,h.gn⟩
theorem zlV {k:Wk} {O:List Int} (h:WOk k O) (hr:1<=k.room):giveP k≠0/\(giveK k).room=k.room - 1/\(giveK k).gs=k.gs/\giveP k<(k.ps.length:Int):=by
 cases hu:k.us with
 | cons x t=>
  obtain ⟨e1,e2⟩:=zbO hu
  have hx:x∈k.us:=by rw [hu];exact List.mem_cons_self ..
  rw [e1,e2]
  refine ⟨fun e=>h.uo x hx (e▸h.zero),?_,rfl,by have:=(h.lu x hx).2;have:=h.nl;omega⟩
  unfold Wk.room;rw [hu,List.length_cons]
  show (t.length:Int)+((k.ps.length:Int) - k.next)=_
  omega
 | nil=>
  have hn:k.next<(k.ps.length:Int):=by
   unfold Wk.room at hr;rw [hu,List.length_nil] at hr
   omega
  obtain ⟨e1,e2⟩:=zbP hu hn;have h0:=h.lo 0 h.zero;have hsz:=h.sz;rw [e1,e2]
  refine ⟨by omega,?_,rfl,hn⟩
  unfold Wk.room
  show (k.us.length:Int)+((k.ps.length:Int) - wrap64 (k.next+1))=_
  rw [zaC _ (by omega) (by omega)]
  omega
theorem dk_put {ps:List ByteArray} {ls:List (Int×ByteArray)} {page:Int} {text:ByteArray} (h:diskOkB ps ls=true) (h1:0<=page/\page<(ps.length:Int)) (h2:text.size<=240) (h3:ls.length<200):writeOk ps ls page text=true/\diskOkB ps (ls++ [(page,text)])=true:=by
 obtain ⟨a1,a2,a3,a4,a5⟩:=zeX h
 constructor
 ·unfold writeOk
  rw [h,decide_eq_true (show 0<=page/\page<=(ps.length:Int) - 1 by omega),decide_eq_true h2,decide_eq_true (show ls.length≠200 by omega)]
  rfl
 ·rw [zeW (fun i hi=>a1 _ (List.getElem_mem hi)) (fun i hi=> ?_)]
  ·exact decide_eq_true ⟨a3,a4,by simp;omega⟩
  ·rcases List.mem_append.1 (List.getElem_mem hi) with e | e
   ·exact a2 _ e
   ·rw [List.mem_singleton] at e
    rw [e];exact ⟨h1.1,h1.2,h2⟩
theorem zka {k:Wk} {O:List Int} {m q:Nat} (h:Rmq k O (m+1) (q+1)) {lf:Bool} {ks vs:List ByteArray} {cs:List Int} (hn:nodeOkB lf ks vs cs=true):putP k lf ks vs cs≠0/\Rmq (putK k lf ks vs cs) O m q:=by
 have hr:=h.rm
 obtain ⟨g1,g2,g3,g4⟩:=zlV h.wok (by omega)
 have g5:=(zk8 h.wok g1).2.2.2.2.2.2.1
 obtain ⟨d1,d2⟩:=dk_put h.dk ⟨g5,g4⟩ (Nat.le_trans (zck lf ks vs cs) (by omega)) (by have:=h.lt;omega)
 have hb:putB k lf ks vs cs=true:=by
  unfold putB;rw [hn,decide_eq_true g1,d1]
  rfl
 obtain ⟨e1,e2⟩:=zgg hb
 have hp:putP k lf ks vs cs≠0:=by rw [e2];exact g1
 have hw:=(zhN h.wok hp).1;have hwl:writeL k.ps k.ls (giveP k) (nodeO lf ks vs cs)=k.ls++ [(giveP k,nodeO lf ks vs cs)]:=if_pos d1;refine ⟨hp,hw,h.one,?_,?_,?_,?_⟩
 ·rw [e1,hwl]
  show diskOkB (giveK k).ps _=true
  rw [(zcD k).1];exact d2
 ·rw [e1]
  show (m:Int)<=(giveK k).room
  omega
 ·rw [e1,hwl]
  show (k.ls++ [(giveP k,nodeO lf ks vs cs)]).length+q<=200
  have:=h.lt
  simp
  omega
 ·rw [e1]
  exact g3.trans h.gn
theorem zgx {k:Wk} {O:List Int} {m q:Nat} (h:Rmq k O m q) {p:Int} (hp:p∈k.fs) (hu:p∉k.us):Rmq (dropS k p) O (m+1) q:=by
 obtain ⟨d1,-⟩:=zeD h.wok p (fun x hx=>by rw [List.mem_singleton] at hx;subst hx;exact ⟨hu,Or.inr hp⟩)
 refine ⟨d1,h.one,?_,?_,?_,?_⟩ <;> unfold dropS <;> rw [if_pos hp]
 ·exact h.dk
 ·show ((m+1:Nat):Int)<=((srtL (k.us++ [p])).length:Int)+((k.ps.length:Int) - k.next)
  have:=h.rm;unfold Wk.room at this;rw [zk6]
  simp
  omega
 ·exact h.lt
 ·exact h.gn
structure JOk (k:Wk):Prop where
 asc:k.us.Pairwise (·<·)
 uf:∀x∈k.us,x∉k.fs
 lu:∀x∈k.us,x<k.next
 lf:∀x∈k.fs,x<k.next
 sz:k.ps.length<=1048576
 nn:0<=k.next
theorem zmW {k:Wk} (h:JOk k):JOk (giveK k):=by
 cases hu:k.us with
 | cons x t=>
  have ha:=h.asc;rw [hu,List.pairwise_cons] at ha
  have ht:∀y∈t,y∈k.us:=fun y hy=>by rw [hu];exact List.mem_cons_of_mem _ hy
  rw [(zbO hu).1]
  refine ⟨ha.2,fun y hy e=> ?_,fun y hy=>h.lu y (ht y hy),fun y hy=> ?_,h.sz,h.nn⟩
  ·rcases List.mem_append.1 e with e | e
   ·exact h.uf y (ht y hy) e
   ·rw [List.mem_singleton] at e
    have:=ha.1 y hy
    omega
  ·rcases List.mem_append.1 hy with e | e
   ·exact h.lf y e
   ·rw [List.mem_singleton] at e
    rw [e]
    exact h.lu x (by rw [hu];exact List.mem_cons_self ..)
 | nil=>
  by_cases hn:k.next<(k.ps.length:Int)
  ·rw [(zbP hu hn).1]
   have hsz:=h.sz;have hnn:=h.nn
   have hw:wrap64 (k.next+1)=k.next+1:=zaC _ (by omega) (by omega)
   refine ⟨h.asc,fun y hy=> ?_,fun y hy=> ?_,fun y hy=> ?_,h.sz,?_⟩
   ·have hy:y∈k.us:=hy
    rw [hu] at hy;cases hy
   ·have hy:y∈k.us:=hy
    rw [hu] at hy;cases hy
   ·show y<wrap64 (k.next+1)
    rw [hw]
    rcases List.mem_append.1 hy with e | e
    ·have:=h.lf y e;omega
    ·rw [List.mem_singleton] at e;omega
   ·show 0<=wrap64 (k.next+1)
    rw [hw];omega
  ·rw [(zcg hu hn).1];exact h
theorem zji {k:Wk} (h:JOk k) (lf:Bool) (ks vs:List ByteArray) (cs:List Int):JOk (putK k lf ks vs cs):=by
 unfold putK
 split
 ·have g:=zmW h
  exact ⟨g.asc,g.uf,g.lu,g.lf,g.sz,g.nn⟩
 ·exact h
theorem zfW {k:Wk} (h:JOk k) (p:Int):JOk (dropS k p):=by
 unfold dropS
 split
 ·next hf=>
  have hn:p∉k.us:=fun e=>h.uf p e hf
  refine ⟨?_,fun x hx e=> ?_,fun x hx=> ?_,fun x hx=>h.lf x (List.mem_filter.1 hx).1,h.sz,h.nn⟩
  ·have h1:(srtL (k.us++ [p])).Pairwise (·<=·):=zhj _
   have h2:(srtL (k.us++ [p])).Nodup:=(List.mergeSort_perm _ _).nodup_iff.2 (List.nodup_append.2 ⟨h.asc.imp (fun h=>Int.ne_of_lt h),by simp,fun a ha b hb=>by rw [List.mem_singleton] at hb;subst hb;exact fun e=>hn (e▸ha)⟩)
   exact (h1.and h2).imp (fun h=>by have:=h.1;have:=h.2;omega)
  ·have e:=List.mem_filter.1 e
   rcases List.mem_append.1 (zdL.1 hx) with e1 | e1
   ·exact h.uf x e1 e.1
   ·rw [List.mem_singleton] at e1;subst e1;simp at e
  ·rcases List.mem_append.1 (zdL.1 hx) with e1 | e1
   ·exact h.lu x e1
   ·rw [List.mem_singleton] at e1;subst e1;exact h.lf x hf
 ·exact ⟨h.asc,h.uf,h.lu,h.lf,h.sz,h.nn⟩
open Go.RowKit
theorem ziC {n:Nd} (h:n.ok=true):0<n.ks.length:=(zaX (zam h).1).1
theorem zlW {n:Nd} (h:n.ok=true):Asc (n.ks.zip n.vs):=by
 have ha:=zdp h;unfold AscK at ha;unfold Asc;rw [List.pairwise_iff_getElem] at ha⊢;intro i j hi hj hij;rw [List.length_zip] at hi hj
 simpa using ha i j (by omega) (by omega) hij
theorem zjj {R:Int->Nd×Bool}:∀(h:Nat) {p:Int} {f:ByteArray} {L:Prs} {P:List Int},IsTree R h p f L P->L≠ []
 | 0,_,_,_,_,ht=>ht.elim
 | h+1,p,f,L,P,⟨n,h1,h2,h3,h4⟩=>by
  have hp:=ziC h2
  rcases h4 with ⟨a,b,c,d⟩ | ⟨a,P',c,d⟩
  ·have hv:=((zbj h2).1 a).1
   rw [c];intro e;have:=congrArg List.length e;rw [List.length_zip,List.length_nil] at this
   omega
  ·cases hk:n.ks with
   | nil=>rw [hk] at hp;simp at hp
   | cons x ks=>
    rw [hk] at c
    cases hc:n.cs with
    | nil=>rw [hc] at c;exact c.elim
    | cons y cs=>
     rw [hc] at c;obtain ⟨f,L1,P1,L2,P2,k1,-,-,-,e1,-⟩:=c;rw [e1];intro e;exact zjj h k1 (List.append_eq_nil_iff.1 e).1
theorem zeF {T:Int->ByteArray->Prs->List Int->Prop} (hT:∀c f L P,T c f L P->geA f L):∀{ks:List ByteArray} {cs:List Int} {L:Prs} {P:List Int},KidsOf T ks cs L P->∀q∈L,∃y∈ks,lessB q.1 y=false
 | [],[],_,_,⟨e,_⟩,q,hq=>by rw [e] at hq;cases hq
 | y :: ks,c :: cs,_,_,⟨f,L1,P1,L2,P2,h1,h2,_,h4,e1,_⟩,q,hq=>by
  rw [e1] at hq
  rcases List.mem_append.1 hq with e | e
  ·exact ⟨y,List.mem_cons_self ..,le_trans h2 (hT _ _ _ _ h1 q e)⟩
  ·obtain ⟨z,hz,hz2⟩:=zeF hT h4 q e
   exact ⟨z,List.mem_cons_of_mem _ hz,hz2⟩
 | [],_ :: _,_,_,h,_,_=>h.elim
 | _ :: _,[],_,_,h,_,_=>h.elim
theorem zb2 {α:Type} (l:List α) (a:Nat) (h:a<l.length):l=l.take a++l[a] :: l.drop (a+1):=by
 rw [<-List.drop_eq_getElem_cons h,List.take_append_drop]
theorem getD_lt {α:Type} (l:List α) (a:Nat) (h:a<l.length) (d:α):l.getD a d=l[a]:=by simp [List.getD_eq_getElem?_getD,h]
def FatT (R:Int->Nd×Bool):Nat->Int->Prop
 | 0,_=>True
 | h+1,p=>2<=(R p).1.ks.length/\((R p).1.lf=false->∀c∈(R p).1.cs,FatT R h c)
abbrev WLvl:=Int×Nd×Int
open Go.RowKit
attribute [local go_sem↓] Go.wp_at_zero Go.wp_at_succ
def rvOut (at_:Nat):Option (Nat×Nat)->Value
 | some (n,c)=> .tuple #[.int .i64 n,.int .i64 ((at_+c:Nat):Int),.bool true]
 | none=> .tuple #[.int .i64 0,.int .i64 0,.bool false]
theorem zkN {N X j p:Nat} {s:ByteArray} {b:Nat->Nat} (hA:N+X=accN b (j+1)) (hE:(s.extract p (p+(j+1))).data.toList=bytesTo b (j+1))
  (h:(!vtext ((N:Int)+(X:Int)).toNat ==(s.extract p (p+(j+1))).toList)=false):vtext (accN b (j+1))=bytesTo b (j+1):=by
 rw [show ((N:Int)+(X:Int)).toNat=N+X from by omega,hA,ByteArray.toList_eq,hE] at h
 simpa using h
theorem zlX {N X j p:Nat} {s:ByteArray} {b:Nat->Nat} (hA:N+X=accN b (j+1)) (hE:(s.extract p (p+(j+1))).data.toList=bytesTo b (j+1))
  (h:(!vtext ((N:Int)+(X:Int)).toNat ==(s.extract p (p+(j+1))).toList)=true):¬vtext (accN b (j+1))=bytesTo b (j+1):=by
 rw [show ((N:Int)+(X:Int)).toNat=N+X from by omega,hA,ByteArray.toList_eq,hE] at h
 simpa using h
theorem zdW (s:ByteArray) (p:Nat) (hs:s.size<=1048576) (hp:p<=s.size) (w:World):
  Calls Tryz.prog 136 #[.string s,.int .i64 p] w fun e w'=>e= .returned (rvOut p (rvGo (fun i=>byt s (p+i)) (s.size - p) 5 0))/\w'=w:=by
 obtain ⟨b,hb⟩:∃b:Nat->Nat,b=fun i=>byt s (p+i):=⟨_,rfl⟩
 rw [<-hb]
 have hb0:∀i,b i<256:=fun i=>by rw [hb];exact zeg _ _
 have hbs:∀i (h:p+i<s.size),s[p+i].toNat=b i:=fun i h=>by rw [hb];exact zd8 _ _ h
 have HB:=hide hbs;have HB0:=hide hb0;clear hb hbs hb0
 have hq1:decide ((p:Int)<0)=false:=by simp
 have hq2:decide (s.size<p)=false:=by simp;omega
 go_enter Tryz.func136,Tryz.ntmps136
 go_wp2
 go_loopg [7,8] 5 (fun g nv uv wr=>∃j N:Nat,j<=5/\p+j<=s.size/\nv= .int .i64 N/\uv= .int .i64 j/\g+j=5/\Hid (N=accN b j)/\Hid (rvGo b (s.size - p) (5 - j) j=rvGo b (s.size - p) 5 0)/\wr=w)
 case atStart=>exact ⟨0,0,by omega,by omega,rfl,rfl,rfl,hide rfl,hide rfl,rfl⟩
 case round=>
  obtain ⟨j,N,hj,hpj,rfl,rfl,hg,HN,HR,rfl⟩:=hrel;have HG:=hide hg;clear hg
  by_cases h5:j<5
  ·by_cases hlt:p+j<s.size
   ·have hN:N<128 ^ j:=by rw [HN.out];exact zj3 b j
    have hN5:N<34359738368:=Nat.lt_of_lt_of_le hN (by have:128 ^ j<=128 ^ 5:=Nat.pow_le_pow_right (by omega) (by omega);simpa using this)
    obtain ⟨y,hy⟩:∃y,y=b j:=⟨_,rfl⟩
    have hbj:y<256:=by rw [hy];exact HB0.out j
    have hsj:s[p+j].toNat=y:=by rw [hy];exact HB.out j hlt
    obtain ⟨X,hX⟩:∃X,X=y % 128 * 128 ^ j:=⟨_,rfl⟩
    have hXb:X<=34091302912:=by rw [hX];exact zfH y j h5
    have hw:=zkB y j X h5 hX;have HX:=hide hX;have HY:=hide hy
    have HA:Hid (N+X=accN b (j+1)):=hide (by rw [accN,<-hy,<-hX,<-HN.out])
    clear hX hy hN
    by_cases hc:128<=y
    ·go_wp2
     go_roundg (gk - 1)
     case measure=>have:=HG.out;omega
     case rel=>exact ⟨j+1,N+X,by omega,by omega,by go_num,by go_num,by have:=HG.out;omega,HA,hide (by rw [zi7 b _ j h5 (by omega) (by rw [<-HY.out];exact hc)];exact HR.out),rfl⟩
    ·have HY':Hid (b j<128):=hide (by rw [<-HY.out];omega)
     by_cases hz:y=0
     ·have hzb:((y:Int) ==0)=true:=by simp [hz]
      have HZ:Hid (b j=0):=hide (by rw [<-HY.out];exact hz)
      have HX0:Hid (X=0):=hide (by rw [HX.out,hz];simp)
      clear hz
      by_cases hj0:0<j
      ·have HM:=hide (zeh b (s.size - p) j h5 (by omega) HY'.out (by have:=HZ.out;omega))
       go_wp2
       go_ret3;refine ⟨?_,rfl⟩;rw [<-HR.out,HM.out];rfl
      ·have HM:=hide (zht b (s.size - p) j h5 (by omega) HY'.out (by have:=HA.out;have:=HX0.out;have:=HN.out;have:j=0:=(by omega);subst this;simp [accN,HZ.out]) (by omega))
       have hsum:N+X<=1000000000:=by
        have hj':j=0:=by omega
        have:=HX0.out;have h2:=HN.out;rw [hj'] at h2;simp [accN] at h2;omega
       go_wp2
       go_ret3;refine ⟨?_,rfl⟩;rw [<-HR.out,HM.out,<-HA.out]
       simp [rvOut];omega
     ·have hzb:((y:Int) ==0)=false:=by simp;omega
      have HZ:Hid (b j≠0):=hide (by rw [<-HY.out];exact hz)
      clear hz
      by_cases hsum:N+X<=1000000000
      ·have HM:=hide (zht b (s.size - p) j h5 (by omega) HY'.out (by rw [<-HA.out];exact hsum) (Or.inl HZ.out))
       go_wp2
       go_ret3;refine ⟨?_,rfl⟩;rw [<-HR.out,HM.out,<-HA.out]
       simp [rvOut];omega
      ·have HM:=hide (zeh b (s.size - p) j h5 (by omega) HY'.out (by rw [<-HA.out];omega))
       go_wp2
       go_ret3;refine ⟨?_,rfl⟩;rw [<-HR.out,HM.out];rfl
   ·have HM:=hide (zfI b (s.size - p) j (by omega))
    go_wp2
    go_ret3;refine ⟨?_,rfl⟩;rw [<-HR.out,HM.out];rfl
  ·have HM:=hide (zfI b (s.size - p) j (by omega))
   go_wp2
   go_ret3;refine ⟨?_,rfl⟩;rw [<-HR.out,HM.out];rfl
theorem zdX (s:ByteArray) (p:Nat) (hs:s.size<=1048576) (hp:p<=s.size) (w:World):
  Calls Tryz.prog 125 #[.string s,.int .i64 p] w fun e w'=>e= .returned (rvOut p (rvGo (fun i=>byt s (p+i)) (s.size - p) 5 0))/\Below w.heap.size w w':=by
 obtain ⟨b,hb⟩:∃b:Nat->Nat,b=fun i=>byt s (p+i):=⟨_,rfl⟩
 rw [<-hb]
 have hb0:∀i,b i<256:=fun i=>by rw [hb];exact zeg _ _
 have hbs:∀i (h:p+i<s.size),s[p+i].toNat=b i:=fun i h=>by rw [hb];exact zd8 _ _ h
 have HE:Hid (∀n,p+n<=s.size->(s.extract p (p+n)).data.toList=bytesTo b n):=hide (fun n h=>by rw [hb];exact zcN s p n h)
 have HB:=hide hbs;have HB0:=hide hb0;clear hb hbs hb0;go_enter Tryz.func125,Tryz.ntmps125;go_wp2_with fail
 refine (zg4 p 0 s.size _ (by omega) (by omega)).mono ?_
 rintro e w1 ⟨rfl,rfl⟩;go_wp2_with fail
 go_loopg [7,8,9] 5 (fun g nv sv iv wr=>∃j N Z:Nat,j<=5/\p+j<=s.size/\nv= .int .i64 N/\sv= .int .i64 Z/\iv= .int .i64 ((p+j:Nat):Int)/\g+j=5/\Hid (N=accN b j)/\Hid (Z=128 ^ j)/\Hid (∀i,i<j->128<=b i)/\Hid (rvGo b (s.size - p) (5 - j) j=rvGo b (s.size - p) 5 0)/\wr=w)
 case atStart=>exact ⟨0,0,1,by omega,by omega,rfl,rfl,rfl,rfl,hide rfl,hide rfl,hide (fun i h=>by omega),hide rfl,rfl⟩
 case round=>
  obtain ⟨j,N,Z,hj,hpj,rfl,rfl,rfl,hg,HN,HZ,HI,HR,rfl⟩:=hrel;have HG:=hide hg;clear hg
  have hZ5:Z<=34359738368:=by rw [HZ.out];exact zl8 j hj
  by_cases h5:j<5
  ·by_cases hlt:p+j<s.size
   ·have hN5:N<34359738368:=by rw [HN.out];exact Nat.lt_of_lt_of_le (zj3 b j) (zl8 j hj)
    obtain ⟨y,hy⟩:∃y,y=b j:=⟨_,rfl⟩
    have hbj:y<256:=by rw [hy];exact HB0.out j
    have hsj:s[p+j].toNat=y:=by rw [hy];exact HB.out j hlt
    obtain ⟨X,hX⟩:∃X,X=y % 128 * 128 ^ j:=⟨_,rfl⟩
    have hXb:X<=34091302912:=by rw [hX];exact zfH y j h5
    have hw:=zj4 y j X Z h5 hX HZ.out;have HX:=hide hX;have HY:=hide hy
    have HA:Hid (N+X=accN b (j+1)):=hide (by rw [accN,<-hy,<-hX,<-HN.out])
    clear hX hy
    by_cases hc:128<=y
    ·go_wp2_with fail
     go_roundg (gk - 1)
     case measure=>have:=HG.out;omega
     case rel=>exact ⟨j+1,N+X,Z * 128,by omega,by omega,by go_num,by go_num,by go_num,by have:=HG.out;omega,HA,hide (by rw [HZ.out,Nat.pow_succ]),hide (fun i hi=>by by_cases e:i=j;(rw [e,<-HY.out];exact hc);(exact HI.out i (by omega))),hide (by rw [zi7 b _ j h5 (by omega) (by rw [<-HY.out];exact hc)];exact HR.out),rfl⟩
    ·have HY':Hid (b j<128):=hide (by rw [<-HY.out];omega)
     by_cases hsum:N+X<=1000000000
     ·have HV:=hide (zi6 j b (by omega) HB0.out HI.out HY'.out)
      have HE':=hide (HE.out (j+1) (by omega))
      have hng:decide ((1000000000:Int)<(N:Int)+(X:Int))=false:=by simp;omega
      go_wp2_with fail;clear hw hsj
      have hb1:(0:Int)<=(p:Int):=by omega
      have hb2:(p:Int)<=(p:Int)+(j:Int)+1:=by omega
      have hb3:(p:Int)+(j:Int)+1<=(s.size:Int):=by omega
      have hwr:IntKind.i64.wrap ((p:Int)+(j:Int)+1)=(p:Int)+(j:Int)+1:=IntWalk.i64_in _ ⟨by omega,by omega⟩
      have hsl:∀wx:World,(Instr.slice 9 (.string s) (some (.int .i64 (p:Int))) (some (.int .i64 ((p:Int)+(j:Int)+1))) none).run Tryz.prog wx= .ok (.string (s.extract p (p+(j+1)))) wx:=fun wx=>by
       have:=run_slice_string (P:=Tryz.prog) wx 9 s .i64 .i64 (p:Int) ((p:Int)+(j:Int)+1) Tryz.underlying9 hb1 hb2 hb3
       rw [this,show ((p:Int)+(j:Int)+1).toNat=p+(j+1) from by omega,Int.toNat_natCast]
      go_region_held3 (fun _=>True) (trivial) ((go_at_call 95;refine (zdC ((N:Int)+(X:Int)) (by omega) (by omega) _).mono ?_;rintro e w2 ⟨rfl,hbw⟩))
      go_wp2_with fail
      ·have hne:(!vtext ((N:Int)+(X:Int)).toNat ==(s.extract p (p+(j+1))).toList)=true:=by assumption
       go_ret3;refine ⟨?_,?_⟩
       ·rw [<-HR.out,zeh b _ j h5 (by omega) HY'.out (fun hok=>zlX HA.out HE'.out hne (HV.out.2 hok.2))];rfl
       ·exact ((Below.refl _ _).drew).trans hbw
      ·have hne:(!vtext ((N:Int)+(X:Int)).toNat ==(s.extract p (p+(j+1))).toList)=false:=by assumption
       go_ret3;refine ⟨?_,?_⟩
       ·rw [<-HR.out,zht b _ j h5 (by omega) HY'.out (by rw [<-HA.out];exact hsum) (HV.out.1 (zkN HA.out HE'.out hne)),<-HA.out]
        simp [rvOut];omega
       ·exact ((Below.refl _ _).drew).trans hbw
     ·have HM:=hide (zeh b (s.size - p) j h5 (by omega) HY'.out (by rw [<-HA.out];omega))
      have hgt:(1000000000:Int)<(N:Int)+(X:Int):=by omega
      have hgd:decide ((1000000000:Int)<(N:Int)+(X:Int))=true:=by simp;omega
      go_wp2_with fail
      go_quiet (fail)
      go_wp2_with fail;go_ret3;refine ⟨?_,below_drewN (Below.refl _ _) _⟩;rw [<-HR.out,HM.out];rfl
   ·have HM:=hide (zfI b (s.size - p) j (by omega))
    go_wp2_with fail;go_ret3;refine ⟨?_,Below.refl _ _⟩;rw [<-HR.out,HM.out];rfl
  ·have HM:=hide (zfI b (s.size - p) j (by omega))
   go_wp2_with fail
   all_goals (try go_ret3)
   all_goals refine ⟨?_,Below.refl _ _⟩
   all_goals (rw [<-HR.out,HM.out];rfl)
theorem zdr (s:ByteArray) (p:Int) (_hs:s.size<=1048576) (hp:p<0\/(s.size:Int)<p) (w:World):
  Calls Tryz.prog 136 #[.string s,.int .i64 p] w fun e w'=>e= .returned (.tuple #[.int .i64 0,.int .i64 0,.bool false])/\w=w':=by
 by_cases h1:p<0
 ·go_enter Tryz.func136,Tryz.ntmps136
  go_wp2
  go_ret3;exact ⟨rfl,rfl⟩
 ·have h2:(s.size:Int)<p:=by omega
  have h3:0<=p:=by omega
  clear hp h1;go_enter Tryz.func136,Tryz.ntmps136
  go_wp2
  go_ret3;exact ⟨rfl,rfl⟩
theorem zds (s:ByteArray) (p:Int) (_hs:s.size<=1048576) (hp:p<0\/(s.size:Int)<p) (w:World):
  Calls Tryz.prog 125 #[.string s,.int .i64 p] w fun e w'=>e= .returned (.tuple #[.int .i64 0,.int .i64 0,.bool false])/\w=w':=by
 go_enter Tryz.func125,Tryz.ntmps125;go_wp2_with fail;refine (zhu p 0 s.size _ hp).mono ?_;rintro e w1 ⟨rfl,rfl⟩;go_wp2_with fail;go_ret3;exact ⟨rfl,rfl⟩
open Go.RowKit
theorem zgy (b:Nat->Nat) (len n c:Nat):∀(f j:Nat),rvGo b len f j=some (n,c)->c<=len/\n<=1000000000
 | 0,j,h=>by simp [rvGo] at h
 | f+1,j,h=>by
  rw [rvGo] at h
  split at h
  ·split at h
   ·split at h
    ·rename_i h1 _ h2
     simp at h
     omega
    ·cases h
   ·exact zgy b len n c f (j+1) h
  ·cases h
def shOut (s:ByteArray) (p:Nat):Option (Nat×Nat)->Value
 | some (n,c)=>if n<=20000/\n<=s.size - (p+c) then .tuple #[.string (s.extract (p+c) (p+c+n)),.int .i64 ((p+c+n:Nat):Int),.bool true] else .tuple #[.string ⟨#[]⟩,.int .i64 0,.bool false]
 | none=> .tuple #[.string ⟨#[]⟩,.int .i64 0,.bool false]
theorem zfC (s:ByteArray) (p:Nat) (hs:s.size<=1048576) (hp:p<=s.size) (w:World):
  Calls Tryz.prog 126 #[.string s,.int .i64 p] w fun e w'=>e= .returned (shOut s p (rvGo (fun i=>byt s (p+i)) (s.size - p) 5 0))/\Below w.heap.size w w':=by
 obtain ⟨o,ho⟩:∃o,o=rvGo (fun i=>byt s (p+i)) (s.size - p) 5 0:=⟨_,rfl⟩
 have hcon:=zdX s p hs hp;rw [<-ho] at hcon⊢;have HC:=hide hcon;clear hcon
 cases o with
 | none=>
  clear ho;go_enter Tryz.func126,Tryz.ntmps126;go_wp2_with fail;refine (HC.out _).mono ?_;rintro e w1 ⟨rfl,hb1⟩;rw [rvOut];go_wp2_with fail;go_ret3;exact ⟨rfl,hb1⟩
 | some x=>
  obtain ⟨n,c⟩:=x;obtain ⟨hc,hn⟩:=zgy _ _ _ _ _ _ ho.symm;clear ho
  by_cases h1:20000<n
  ·go_enter Tryz.func126,Tryz.ntmps126
   go_wp2_with fail;refine (HC.out _).mono ?_;rintro e w1 ⟨rfl,hb1⟩;rw [rvOut];go_wp2_with fail;go_ret3;refine ⟨?_,hb1⟩
   rw [shOut,if_neg (by omega)];rfl
  ·by_cases h2:n<=s.size - (p+c)
   ·have hsl:∀wx:World,(Instr.slice 9 (.string s) (some (.int .i64 ((p:Int)+(c:Int)))) (some (.int .i64 ((p:Int)+(c:Int)+(n:Int)))) none).run Tryz.prog wx= .ok (.string (s.extract (p+c) (p+c+n))) wx:=fun wx=>by
     have:=run_slice_string (P:=Tryz.prog) wx 9 s .i64 .i64 ((p:Int)+(c:Int)) ((p:Int)+(c:Int)+(n:Int)) Tryz.underlying9 (by omega) (by omega) (by omega)
     rw [this,show ((p:Int)+(c:Int)).toNat=p+c from by omega,show ((p:Int)+(c:Int)+(n:Int)).toNat=p+c+n from by omega]
    go_enter Tryz.func126,Tryz.ntmps126;go_wp2_with fail;refine (HC.out _).mono ?_;rintro e w1 ⟨rfl,hb1⟩;rw [rvOut];go_wp2_with fail;go_ret3;refine ⟨?_,hb1⟩
    rw [shOut,if_pos (by omega)];simp
   ·go_enter Tryz.func126,Tryz.ntmps126
    go_wp2_with fail;refine (HC.out _).mono ?_;rintro e w1 ⟨rfl,hb1⟩;rw [rvOut];go_wp2_with fail;go_ret3;refine ⟨?_,hb1⟩
    rw [shOut,if_neg (by omega)];rfl
theorem zfD (s:ByteArray) (p:Nat) (hs:s.size<=1048576) (hp:p<=s.size) (w:World):
  Calls Tryz.prog 137 #[.string s,.int .i64 p] w fun e w'=>e= .returned (shOut s p (rvGo (fun i=>byt s (p+i)) (s.size - p) 5 0))/\Below w.heap.size w w':=by
 obtain ⟨o,ho⟩:∃o,o=rvGo (fun i=>byt s (p+i)) (s.size - p) 5 0:=⟨_,rfl⟩
 have hcon:=zdW s p hs hp;rw [<-ho] at hcon⊢;have HC:=hide hcon;clear hcon
 cases o with
 | none=>
  clear ho;go_enter Tryz.func137,Tryz.ntmps137;go_wp2_with fail;refine (HC.out _).mono ?_;rintro e w1 ⟨rfl,hw1⟩
  have hb1:Below w.heap.size w w1:=by rw [hw1];exact Below.refl _ _
  clear hw1;rw [rvOut];go_wp2_with fail;go_ret3;exact ⟨rfl,hb1⟩
 | some x=>
  obtain ⟨n,c⟩:=x;obtain ⟨hc,hn⟩:=zgy _ _ _ _ _ _ ho.symm;clear ho
  by_cases h1:20000<n
  ·go_enter Tryz.func137,Tryz.ntmps137
   go_wp2_with fail;refine (HC.out _).mono ?_;rintro e w1 ⟨rfl,hw1⟩
   have hb1:Below w.heap.size w w1:=by rw [hw1];exact Below.refl _ _
   clear hw1;rw [rvOut];go_wp2_with fail;go_ret3;refine ⟨?_,hb1⟩
   rw [shOut,if_neg (by omega)];rfl
  ·by_cases h2:n<=s.size - (p+c)
   ·have hsl:∀wx:World,(Instr.slice 9 (.string s) (some (.int .i64 ((p:Int)+(c:Int)))) (some (.int .i64 ((p:Int)+(c:Int)+(n:Int)))) none).run Tryz.prog wx= .ok (.string (s.extract (p+c) (p+c+n))) wx:=fun wx=>by
     have:=run_slice_string (P:=Tryz.prog) wx 9 s .i64 .i64 ((p:Int)+(c:Int)) ((p:Int)+(c:Int)+(n:Int)) Tryz.underlying9 (by omega) (by omega) (by omega)
     rw [this,show ((p:Int)+(c:Int)).toNat=p+c from by omega,show ((p:Int)+(c:Int)+(n:Int)).toNat=p+c+n from by omega]
    go_enter Tryz.func137,Tryz.ntmps137;go_wp2_with fail;refine (HC.out _).mono ?_;rintro e w1 ⟨rfl,hw1⟩
    have hb1:Below w.heap.size w w1:=by rw [hw1];exact Below.refl _ _
    clear hw1;rw [rvOut];go_wp2_with fail
    refine (zcj _ (by simp;omega) _).mono ?_
    rintro e w2 ⟨rfl,hb2⟩;go_wp2_with fail;go_ret3;refine ⟨?_,hb1.trans (hb2.mono hb1.size)⟩
    rw [shOut,if_pos (by omega)];simp
   ·go_enter Tryz.func137,Tryz.ntmps137
    go_wp2_with fail;refine (HC.out _).mono ?_;rintro e w1 ⟨rfl,hw1⟩
    have hb1:Below w.heap.size w w1:=by rw [hw1];exact Below.refl _ _
    clear hw1;rw [rvOut];go_wp2_with fail;go_ret3;refine ⟨?_,hb1⟩
    rw [shOut,if_neg (by omega)];rfl
theorem zfc (s:ByteArray) (p:Int) (hs:s.size<=1048576) (hp:p<0\/(s.size:Int)<p) (w:World):
  Calls Tryz.prog 126 #[.string s,.int .i64 p] w fun e w'=>e= .returned (.tuple #[.string ⟨#[]⟩,.int .i64 0,.bool false])/\w=w':=by
 go_enter Tryz.func126,Tryz.ntmps126;go_wp2_with fail;refine (zds s p hs hp _).mono ?_;rintro e w1 ⟨rfl,rfl⟩;go_wp2_with fail;go_ret3;exact ⟨rfl,rfl⟩
theorem zfd (s:ByteArray) (p:Int) (hs:s.size<=1048576) (hp:p<0\/(s.size:Int)<p) (w:World):
  Calls Tryz.prog 137 #[.string s,.int .i64 p] w fun e w'=>e= .returned (.tuple #[.string ⟨#[]⟩,.int .i64 0,.bool false])/\w=w':=by
 go_enter Tryz.func137,Tryz.ntmps137;go_wp2_with fail;refine (zdr s p hs hp _).mono ?_;rintro e w1 ⟨rfl,rfl⟩;go_wp2_with fail;go_ret3;exact ⟨rfl,rfl⟩
open Go.RowKit
def tupS:Option (ByteArray×Nat)->Value
 | some (x,q)=> .tuple #[.string x,.int .i64 (q:Int),.bool true]
 | none=> .tuple #[.string ⟨#[]⟩,.int .i64 0,.bool false]
def tupV:Option (Nat×Nat)->Value
 | some (n,q)=> .tuple #[.int .i64 (n:Int),.int .i64 (q:Int),.bool true]
 | none=> .tuple #[.int .i64 0,.int .i64 0,.bool false]
theorem zkb (t:ByteArray) (p:Nat):rvOut p (rvGo (fun i=>byt t (p+i)) (t.size - p) 5 0)=tupV (rdV t p):=by
 rw [rdV]
 cases rvGo (fun i=>byt t (p+i)) (t.size - p) 5 0 with
 | none=>rfl
 | some x=>obtain ⟨n,c⟩:=x;simp [rvOut,tupV]
theorem zkc (t:ByteArray) (p:Nat):shOut t p (rvGo (fun i=>byt t (p+i)) (t.size - p) 5 0)=tupS (rdS t p):=by
 rw [rdS,rdV]
 cases rvGo (fun i=>byt t (p+i)) (t.size - p) 5 0 with
 | none=>rfl
 | some x=>
  obtain ⟨n,c⟩:=x
  simp only [shOut,Option.map_some,Option.bind_some]
  split
  ·simp [tupS]
  ·rfl
theorem zdY (t:ByteArray) (ht:t.size<=1048576) (p:Nat) (w:World):
  Calls Tryz.prog 125 #[.string t,.int .i64 (p:Int)] w fun e w'=>e= .returned (tupV (rdV t p))/\Below w.heap.size w w':=by
 by_cases h:p<=t.size
 ·have:=zdX t p ht h w
  rw [zkb] at this;exact this
 ·rw [zhA (by omega)]
  exact (zds t p ht (by omega) w).mono (fun e w' ⟨h1,h2⟩=>⟨h1,by rw [<-h2];exact Below.refl _ _⟩)
theorem zdZ (t:ByteArray) (ht:t.size<=1048576) (p:Nat) (w:World):
  Calls Tryz.prog 136 #[.string t,.int .i64 (p:Int)] w fun e w'=>e= .returned (tupV (rdV t p))/\Below w.heap.size w w':=by
 by_cases h:p<=t.size
 ·have:=zdW t p ht h w
  rw [zkb] at this
  exact this.mono (fun e w' ⟨h1,h2⟩=>⟨h1,by rw [<-h2];exact Below.refl _ _⟩)
 ·rw [zhA (by omega)]
  exact (zdr t p ht (by omega) w).mono (fun e w' ⟨h1,h2⟩=>⟨h1,by rw [<-h2];exact Below.refl _ _⟩)
theorem zd6 (t:ByteArray) (ht:t.size<=1048576) (p:Nat) (w:World):
  Calls Tryz.prog 126 #[.string t,.int .i64 (p:Int)] w fun e w'=>e= .returned (tupS (rdS t p))/\Below w.heap.size w w':=by
 by_cases h:p<=t.size
 ·have:=zfC t p ht h w
  rw [zkc] at this;exact this
 ·rw [zjK (by omega)]
  exact (zfc t p ht (by omega) w).mono (fun e w' ⟨h1,h2⟩=>⟨h1,by rw [<-h2];exact Below.refl _ _⟩)
theorem zd7 (t:ByteArray) (ht:t.size<=1048576) (p:Nat) (w:World):
  Calls Tryz.prog 137 #[.string t,.int .i64 (p:Int)] w fun e w'=>e= .returned (tupS (rdS t p))/\Below w.heap.size w w':=by
 by_cases h:p<=t.size
 ·have:=zfD t p ht h w
  rw [zkc] at this;exact this
 ·rw [zjK (by omega)]
  exact (zfd t p ht (by omega) w).mono (fun e w' ⟨h1,h2⟩=>⟨h1,by rw [<-h2];exact Below.refl _ _⟩)
def CurT (w:World) (g:Nat) (t:ByteArray) (p:Nat) (bad:Bool):Prop:=w.heap[g]?=some (.cells #[.string t,.int .i64 (p:Int),.bool bad] 138 (0,0))
theorem zcz {w:World} {g p:Nat} {t:ByteArray} {bad:Bool} (h:CurT w g t p bad):g<w.heap.size:=(Array.getElem?_eq_some_iff.1 h).1
theorem zah {w w':World} (h:Below w.heap.size w w') (r:Option Nat):w.grownBy w' r:=⟨h.os,h.tape,h.output,h.size,fun k hk _=>h.block k hk⟩
theorem zaS (g:Nat) (t:ByteArray) (ht:t.size<=1048576) (p:Nat) (x:ByteArray) (q:Nat) (ho:rdS t p=some (x,q)) (w:World) (hc:CurT w g t p false):
  Calls Tryz.prog 92 #[.pointer (some ⟨g,0,none⟩)] w fun e w'=>e= .returned (.string x)/\CurT w' g t q false/\w.grownBy w' (some g):=by
 have HC:=hide (zd6 t ht p);rw [ho,tupS] at HC;have hgl:=zcz hc;have HCu:=hide hc;have c0:w.cell? ⟨g,0,none⟩=some (.string t):=(za0 hc 0).1;have c1:w.cell? ⟨g,1,none⟩=some (.int .i64 (p:Int)):=(za0 hc 1).1;clear hc ho;go_enter Tryz.func92,Tryz.ntmps92;go_wp2_with fail
 go_region_held3 (fun wx=>wx.cell? ⟨g,0,none⟩=some (.string t)/\wx.cell? ⟨g,1,none⟩=some (.int .i64 (p:Int))) (first | exact ⟨c0,c1⟩ | exact hS2) ((go_at_call 126;refine (HC.out _).mono ?_;rintro e w2 ⟨rfl,hb2⟩;have hS2:w2.cell? ⟨g,0,none⟩=some (.string t)/\w2.cell? ⟨g,1,none⟩=some (.int .i64 (p:Int)):=⟨(hb2.cell (by exact hgl)).trans c0,(hb2.cell (by exact hgl)).trans c1⟩))
 have hbw:Below w.heap.size w w2:=(Below.refl _ _).drew.trans hb2;have hcur:CurT w2 g t p false:=(hbw.block _ hgl).trans HCu.out;have HGr:Hid (w.grownBy w2 (some g)):=hide (zah hbw _);have HC2:=hide hcur;have e2:w2.cell? ⟨g,2,none⟩=some (.bool false):=(za0 hcur 2).1;have f1:=(za0 hcur 1).2;clear hb2 hS2 c0 c1 hbw hcur;go_wp2_with fail;go_ret;exact ⟨rfl,heap_setCell_same w2 g 1 _ _ _ HC2.out,za3 HGr.out (za7 _ g 1 _)⟩
theorem zbh (g:Nat) (t:ByteArray) (ht:t.size<=1048576) (p:Nat) (bad:Bool) (ho:bad=true\/rdS t p=none) (w:World) (hc:CurT w g t p bad):
  Calls Tryz.prog 92 #[.pointer (some ⟨g,0,none⟩)] w fun e w'=>e= .returned (.string ⟨#[]⟩)/\CurT w' g t p true/\w.grownBy w' (some g):=by
 have HC:=hide (zd6 t ht p);have hgl:=zcz hc;have HCu:=hide hc;have c0:w.cell? ⟨g,0,none⟩=some (.string t):=(za0 hc 0).1;have c1:w.cell? ⟨g,1,none⟩=some (.int .i64 (p:Int)):=(za0 hc 1).1
 obtain ⟨r1,r2,r3,hr⟩:∃r1 r2 r3,tupS (rdS t p)= .tuple #[r1,r2,.bool r3]/\(bad=true\/r3=false):=by
  rcases ho with h | h
  ·cases rdS t p with
   | none=>exact ⟨_,_,_,rfl,Or.inl h⟩
   | some x=>exact ⟨_,_,_,rfl,Or.inl h⟩
  ·rw [h];exact ⟨_,_,_,rfl,Or.inr rfl⟩
 rw [hr.1] at HC;obtain ⟨-,hr⟩:=hr;clear hc ho;go_enter Tryz.func92,Tryz.ntmps92;go_wp2_with fail
 go_region_held3 (fun wx=>wx.cell? ⟨g,0,none⟩=some (.string t)/\wx.cell? ⟨g,1,none⟩=some (.int .i64 (p:Int))) (first | exact ⟨c0,c1⟩ | exact hS2) ((go_at_call 126;refine (HC.out _).mono ?_;rintro e w2 ⟨rfl,hb2⟩;have hS2:w2.cell? ⟨g,0,none⟩=some (.string t)/\w2.cell? ⟨g,1,none⟩=some (.int .i64 (p:Int)):=⟨(hb2.cell (by exact hgl)).trans c0,(hb2.cell (by exact hgl)).trans c1⟩))
 have hbw:Below w.heap.size w w2:=(Below.refl _ _).drew.trans hb2;have hcur:CurT w2 g t p bad:=(hbw.block _ hgl).trans HCu.out;have HGr:Hid (w.grownBy w2 (some g)):=hide (zah hbw _);have HC2:=hide hcur;have e2:w2.cell? ⟨g,2,none⟩=some (.bool bad):=(za0 hcur 2).1;have f2:=(za0 hcur 2).2;clear hb2 hS2 c0 c1 hbw hcur
 cases bad with
 | true=>
  go_wp2_with fail;go_ret;exact ⟨rfl,heap_setCell_same w2 g 2 _ _ _ HC2.out,za3 HGr.out (za7 _ g 2 _)⟩
 | false=>
  obtain rfl:r3=false:=by rcases hr with h | h;cases h;exact h
  go_wp2_with fail;go_ret;exact ⟨rfl,heap_setCell_same w2 g 2 _ _ _ HC2.out,za3 HGr.out (za7 _ g 2 _)⟩
theorem zgz (g:Nat) (t:ByteArray) (ht:t.size<=1048576) (p:Nat) (x:Nat) (q:Nat) (ho:rdV t p=some (x,q)) (w:World) (hc:CurT w g t p false):
  Calls Tryz.prog 91 #[.pointer (some ⟨g,0,none⟩)] w fun e w'=>e= .returned (.int .i64 (x:Int))/\CurT w' g t q false/\w.grownBy w' (some g):=by
 have HC:=hide (zdY t ht p);rw [ho,tupV] at HC;have hgl:=zcz hc;have HCu:=hide hc;have c0:w.cell? ⟨g,0,none⟩=some (.string t):=(za0 hc 0).1;have c1:w.cell? ⟨g,1,none⟩=some (.int .i64 (p:Int)):=(za0 hc 1).1;clear hc ho;go_enter Tryz.func91,Tryz.ntmps91;go_wp2_with fail
 go_region_held3 (fun wx=>wx.cell? ⟨g,0,none⟩=some (.string t)/\wx.cell? ⟨g,1,none⟩=some (.int .i64 (p:Int))) (first | exact ⟨c0,c1⟩ | exact hS2) ((go_at_call 125;refine (HC.out _).mono ?_;rintro e w2 ⟨rfl,hb2⟩;have hS2:w2.cell? ⟨g,0,none⟩=some (.string t)/\w2.cell? ⟨g,1,none⟩=some (.int .i64 (p:Int)):=⟨(hb2.cell (by exact hgl)).trans c0,(hb2.cell (by exact hgl)).trans c1⟩))
 have hbw:Below w.heap.size w w2:=(Below.refl _ _).drew.trans hb2;have hcur:CurT w2 g t p false:=(hbw.block _ hgl).trans HCu.out;have HGr:Hid (w.grownBy w2 (some g)):=hide (zah hbw _);have HC2:=hide hcur;have e2:w2.cell? ⟨g,2,none⟩=some (.bool false):=(za0 hcur 2).1;have f1:=(za0 hcur 1).2;clear hb2 hS2 c0 c1 hbw hcur;go_wp2_with fail;go_ret;exact ⟨rfl,heap_setCell_same w2 g 1 _ _ _ HC2.out,za3 HGr.out (za7 _ g 1 _)⟩
theorem zfe (g:Nat) (t:ByteArray) (ht:t.size<=1048576) (p:Nat) (bad:Bool) (ho:bad=true\/rdV t p=none) (w:World) (hc:CurT w g t p bad):
  Calls Tryz.prog 91 #[.pointer (some ⟨g,0,none⟩)] w fun e w'=>e= .returned (.int .i64 0)/\CurT w' g t p true/\w.grownBy w' (some g):=by
 have HC:=hide (zdY t ht p);have hgl:=zcz hc;have HCu:=hide hc;have c0:w.cell? ⟨g,0,none⟩=some (.string t):=(za0 hc 0).1;have c1:w.cell? ⟨g,1,none⟩=some (.int .i64 (p:Int)):=(za0 hc 1).1
 obtain ⟨r1,r2,r3,hr⟩:∃r1 r2 r3,tupV (rdV t p)= .tuple #[r1,r2,.bool r3]/\(bad=true\/r3=false):=by
  rcases ho with h | h
  ·cases rdV t p with
   | none=>exact ⟨_,_,_,rfl,Or.inl h⟩
   | some x=>exact ⟨_,_,_,rfl,Or.inl h⟩
  ·rw [h];exact ⟨_,_,_,rfl,Or.inr rfl⟩
 rw [hr.1] at HC;obtain ⟨-,hr⟩:=hr;clear hc ho;go_enter Tryz.func91,Tryz.ntmps91;go_wp2_with fail
 go_region_held3 (fun wx=>wx.cell? ⟨g,0,none⟩=some (.string t)/\wx.cell? ⟨g,1,none⟩=some (.int .i64 (p:Int))) (first | exact ⟨c0,c1⟩ | exact hS2) ((go_at_call 125;refine (HC.out _).mono ?_;rintro e w2 ⟨rfl,hb2⟩;have hS2:w2.cell? ⟨g,0,none⟩=some (.string t)/\w2.cell? ⟨g,1,none⟩=some (.int .i64 (p:Int)):=⟨(hb2.cell (by exact hgl)).trans c0,(hb2.cell (by exact hgl)).trans c1⟩))
 have hbw:Below w.heap.size w w2:=(Below.refl _ _).drew.trans hb2;have hcur:CurT w2 g t p bad:=(hbw.block _ hgl).trans HCu.out;have HGr:Hid (w.grownBy w2 (some g)):=hide (zah hbw _);have HC2:=hide hcur;have e2:w2.cell? ⟨g,2,none⟩=some (.bool bad):=(za0 hcur 2).1;have f2:=(za0 hcur 2).2;clear hb2 hS2 c0 c1 hbw hcur
 cases bad with
 | true=>
  go_wp2_with fail;go_ret;exact ⟨rfl,heap_setCell_same w2 g 2 _ _ _ HC2.out,za3 HGr.out (za7 _ g 2 _)⟩
 | false=>
  obtain rfl:r3=false:=by rcases hr with h | h;cases h;exact h
  go_wp2_with fail;go_ret;exact ⟨rfl,heap_setCell_same w2 g 2 _ _ _ HC2.out,za3 HGr.out (za7 _ g 2 _)⟩
open Go.RowKit
def RdT (w:World) (g:Nat) (t:ByteArray) (p:Nat):Prop:=w.heap[g]?=some (.cells #[.string t,.int .i64 (p:Int)] 126 (0,0))
theorem zfv {w:World} {g p:Nat} {t:ByteArray} (h:RdT w g t p):g<w.heap.size:=(Array.getElem?_eq_some_iff.1 h).1
def misread:List PanicEntry:= [{v:= .iface 158 (.agg #[]),recovered:=false}]
theorem zbI (g:Nat) (w:World):Calls Tryz.prog 82 #[.pointer (some ⟨g,0,none⟩),.bool true] w fun e w'=>e= .returned (.tuple #[])/\w=w':=by
 go_enter Tryz.func82,Tryz.ntmps82;go_wp2_with fail
 go_end0
 exact ⟨rfl,rfl⟩
theorem zcn (g:Nat) (w:World):Calls Tryz.prog 82 #[.pointer (some ⟨g,0,none⟩),.bool false] w fun e w'=>e= .panicked misread/\w=w':=by
 go_enter Tryz.func82,Tryz.ntmps82;go_wp2_with fail;exact ⟨rfl,rfl,rfl⟩
theorem zec (g:Nat) (t:ByteArray) (ht:t.size<=1048576) (p:Nat) (x:Nat) (q:Nat) (ho:rdV t p=some (x,q)) (w:World) (hc:RdT w g t p):
  Calls Tryz.prog 110 #[.pointer (some ⟨g,0,none⟩)] w fun e w'=>e= .returned (.int .i64 (x:Int))/\RdT w' g t q/\w.grownBy w' (some g):=by
 have HC:=hide (zdZ t ht p);rw [ho,tupV] at HC;have hgl:=zfv hc;have HCu:=hide hc;have c0:w.cell? ⟨g,0,none⟩=some (.string t):=(za0 hc 0).1;have c1:w.cell? ⟨g,1,none⟩=some (.int .i64 (p:Int)):=(za0 hc 1).1;clear hc ho;go_enter Tryz.func110,Tryz.ntmps110;go_wp2_with fail
 go_region_held3 (fun wx=>wx.cell? ⟨g,0,none⟩=some (.string t)/\wx.cell? ⟨g,1,none⟩=some (.int .i64 (p:Int))) (first | exact ⟨c0,c1⟩ | exact hS2) ((go_at_call 136;refine (HC.out _).mono ?_;rintro e w2 ⟨rfl,hb2⟩;have hS2:w2.cell? ⟨g,0,none⟩=some (.string t)/\w2.cell? ⟨g,1,none⟩=some (.int .i64 (p:Int)):=⟨(hb2.cell (by exact hgl)).trans c0,(hb2.cell (by exact hgl)).trans c1⟩))
 have hbw:Below w.heap.size w w2:=(Below.refl _ _).drew.trans hb2;have hcur:RdT w2 g t p:=(hbw.block _ hgl).trans HCu.out;have HGr:Hid (w.grownBy w2 (some g)):=hide (zah hbw _);have HC2:=hide hcur;have f1:=(za0 hcur 1).2;have e1:w2.cell? ⟨g,1,none⟩=some (.int .i64 (p:Int)):=(za0 hcur 1).1;clear hb2 hS2 c0 c1 hbw hcur;go_wp2_with fail;refine (zbI g _).mono ?_;rintro e w3 ⟨rfl,rfl⟩;go_wp2_with fail;go_ret;exact ⟨rfl,heap_setCell_same w2 g 1 _ _ _ HC2.out,za3 HGr.out (za7 _ g 1 _)⟩
theorem zff (g:Nat) (t:ByteArray) (ht:t.size<=1048576) (p:Nat) (ho:rdV t p=none) (w:World) (hc:RdT w g t p):
  Calls Tryz.prog 110 #[.pointer (some ⟨g,0,none⟩)] w fun e w'=>e= .panicked misread/\w.grownBy w' (some g):=by
 have HC:=hide (zdZ t ht p);rw [ho,tupV] at HC;have hgl:=zfv hc;have c0:w.cell? ⟨g,0,none⟩=some (.string t):=(za0 hc 0).1;have c1:w.cell? ⟨g,1,none⟩=some (.int .i64 (p:Int)):=(za0 hc 1).1;clear hc ho;go_enter Tryz.func110,Tryz.ntmps110;go_wp2_with fail
 go_region_held3 (fun wx=>wx.cell? ⟨g,0,none⟩=some (.string t)/\wx.cell? ⟨g,1,none⟩=some (.int .i64 (p:Int))) (first | exact ⟨c0,c1⟩ | exact hS2) ((go_at_call 136;refine (HC.out _).mono ?_;rintro e w2 ⟨rfl,hb2⟩;have hS2:w2.cell? ⟨g,0,none⟩=some (.string t)/\w2.cell? ⟨g,1,none⟩=some (.int .i64 (p:Int)):=⟨(hb2.cell (by exact hgl)).trans c0,(hb2.cell (by exact hgl)).trans c1⟩))
 have hbw:Below w.heap.size w w2:=(Below.refl _ _).drew.trans hb2;have HGr:Hid (w.grownBy w2 (some g)):=hide (zah hbw _);clear hb2 hS2 c0 c1 hbw;go_wp2_with fail;refine (zcn g _).mono ?_;rintro e w3 ⟨rfl,rfl⟩;exact ⟨rfl,rfl,HGr.out⟩
theorem zfg (g:Nat) (t:ByteArray) (ht:t.size<=1048576) (p:Nat) (x:ByteArray) (q:Nat) (ho:rdS t p=some (x,q)) (w:World) (hc:RdT w g t p):
  Calls Tryz.prog 111 #[.pointer (some ⟨g,0,none⟩)] w fun e w'=>e= .returned (.string x)/\RdT w' g t q/\w.grownBy w' (some g):=by
 have HC:=hide (zd7 t ht p);rw [ho,tupS] at HC;have hgl:=zfv hc;have HCu:=hide hc;have c0:w.cell? ⟨g,0,none⟩=some (.string t):=(za0 hc 0).1;have c1:w.cell? ⟨g,1,none⟩=some (.int .i64 (p:Int)):=(za0 hc 1).1;clear hc ho;go_enter Tryz.func111,Tryz.ntmps111;go_wp2_with fail
 go_region_held3 (fun wx=>wx.cell? ⟨g,0,none⟩=some (.string t)/\wx.cell? ⟨g,1,none⟩=some (.int .i64 (p:Int))) (first | exact ⟨c0,c1⟩ | exact hS2) ((go_at_call 137;refine (HC.out _).mono ?_;rintro e w2 ⟨rfl,hb2⟩;have hS2:w2.cell? ⟨g,0,none⟩=some (.string t)/\w2.cell? ⟨g,1,none⟩=some (.int .i64 (p:Int)):=⟨(hb2.cell (by exact hgl)).trans c0,(hb2.cell (by exact hgl)).trans c1⟩))
 have hbw:Below w.heap.size w w2:=(Below.refl _ _).drew.trans hb2;have hcur:RdT w2 g t p:=(hbw.block _ hgl).trans HCu.out;have HGr:Hid (w.grownBy w2 (some g)):=hide (zah hbw _);have HC2:=hide hcur;have f1:=(za0 hcur 1).2;have e1:w2.cell? ⟨g,1,none⟩=some (.int .i64 (p:Int)):=(za0 hcur 1).1;clear hb2 hS2 c0 c1 hbw hcur;go_wp2_with fail;refine (zbI g _).mono ?_;rintro e w3 ⟨rfl,rfl⟩;go_wp2_with fail;go_ret;exact ⟨rfl,heap_setCell_same w2 g 1 _ _ _ HC2.out,za3 HGr.out (za7 _ g 1 _)⟩
theorem zgA (g:Nat) (t:ByteArray) (ht:t.size<=1048576) (p:Nat) (ho:rdS t p=none) (w:World) (hc:RdT w g t p):
  Calls Tryz.prog 111 #[.pointer (some ⟨g,0,none⟩)] w fun e w'=>e= .panicked misread/\w.grownBy w' (some g):=by
 have HC:=hide (zd7 t ht p);rw [ho,tupS] at HC;have hgl:=zfv hc;have c0:w.cell? ⟨g,0,none⟩=some (.string t):=(za0 hc 0).1;have c1:w.cell? ⟨g,1,none⟩=some (.int .i64 (p:Int)):=(za0 hc 1).1;clear hc ho;go_enter Tryz.func111,Tryz.ntmps111;go_wp2_with fail
 go_region_held3 (fun wx=>wx.cell? ⟨g,0,none⟩=some (.string t)/\wx.cell? ⟨g,1,none⟩=some (.int .i64 (p:Int))) (first | exact ⟨c0,c1⟩ | exact hS2) ((go_at_call 137;refine (HC.out _).mono ?_;rintro e w2 ⟨rfl,hb2⟩;have hS2:w2.cell? ⟨g,0,none⟩=some (.string t)/\w2.cell? ⟨g,1,none⟩=some (.int .i64 (p:Int)):=⟨(hb2.cell (by exact hgl)).trans c0,(hb2.cell (by exact hgl)).trans c1⟩))
 have hbw:Below w.heap.size w w2:=(Below.refl _ _).drew.trans hb2;have HGr:Hid (w.grownBy w2 (some g)):=hide (zah hbw _);clear hb2 hS2 c0 c1 hbw;go_wp2_with fail;refine (zcn g _).mono ?_;rintro e w3 ⟨rfl,rfl⟩;exact ⟨rfl,rfl,HGr.out⟩
theorem zgB (g:Nat) (t:ByteArray) (ht:t.size<=1048576) (h0:0<t.size) (w:World) (hc:RdT w g t 0):
  Calls Tryz.prog 109 #[.pointer (some ⟨g,0,none⟩)] w fun e w'=>e= .returned (.int .u8 (byt t 0:Int))/\RdT w' g t 1/\w.grownBy w' (some g):=by
 have hgl:=zfv hc;have HCu:=hide hc;have c0:w.cell? ⟨g,0,none⟩=some (.string t):=(za0 hc 0).1;have c1:w.cell? ⟨g,1,none⟩=some (.int .i64 0):=(za0 hc 1).1;have f1:=(za0 hc 1).2
 have d1:decide ((0:Int)<(t.size:Int))=true:=decide_eq_true (by omega)
 obtain ⟨y,hy⟩:∃y,y=byt t 0:=⟨_,rfl⟩
 have hyb:y<256:=by rw [hy];exact zeg t _
 have hs1:t[0].toNat=y:=by rw [hy];exact zd8 t _ h0
 rw [<-hy];clear hc hy;go_enter Tryz.func109,Tryz.ntmps109;go_wp2_with fail
 go_region_held3 (fun wx=>wx.cell? ⟨g,0,none⟩=some (.string t)/\wx.cell? ⟨g,1,none⟩=some (.int .i64 0)) (first | exact ⟨c0,c1⟩ | exact hS2) ((go_at_call 82;refine (zbI g _).mono ?_;rintro e w2 ⟨rfl,hb2⟩;have hS2:w2.cell? ⟨g,0,none⟩=some (.string t)/\w2.cell? ⟨g,1,none⟩=some (.int .i64 0):=by rw [<-hb2];exact ⟨c0,c1⟩))
 have hcur:RdT w2 g t 0:=by rw [<-hb2];exact HCu.out
 have HGr:Hid (w.grownBy w2 (some g)):=hide (by rw [<-hb2];exact zah (Below.refl _ _).drew _)
 have HC2:=hide hcur;have f1':=(za0 hcur 1).2;have e1:w2.cell? ⟨g,1,none⟩=some (.int .i64 0):=(za0 hcur 1).1;have e0:w2.cell? ⟨g,0,none⟩=some (.string t):=(za0 hcur 0).1;clear hb2 hS2 c0 c1 hcur f1
 have hp1:(0:Int)<(t.size:Int):=by omega
 go_wp2_with fail
 go_quiet (fail)
 go_wp2_with fail;go_ret;exact ⟨rfl,heap_setCell_same w2 g 1 _ _ _ HC2.out,za3 HGr.out (za3 (za7 _ g 1 _) (zah (below_drewN (Below.refl _ _) _) _))⟩
theorem zmX (g:Nat) (t:ByteArray) (h0:t.size=0) (w:World) (hc:RdT w g t 0):
  Calls Tryz.prog 109 #[.pointer (some ⟨g,0,none⟩)] w fun e w'=>e= .panicked misread/\w.grownBy w' (some g):=by
 have c0:w.cell? ⟨g,0,none⟩=some (.string t):=(za0 hc 0).1;have c1:w.cell? ⟨g,1,none⟩=some (.int .i64 0):=(za0 hc 1).1
 have d1:decide ((0:Int)<(t.size:Int))=false:=decide_eq_false (by omega)
 clear hc;go_enter Tryz.func109,Tryz.ntmps109;go_wp2_with fail
 go_region_dies
 all_goals
  refine (zcn g _).mono ?_;rintro e w3 ⟨rfl,rfl⟩;exact ⟨rfl,rfl,zah (Below.refl _ _).drew _⟩
open Go.RowKit
theorem zcZ {P : Program} (w : World) {ops : Array Oper} {o : Oper} {a : Act} {K : Act → World → Prop} {Q : Exit → Act → World → Prop} {E : Prop} (hw : Region.wanted o (yielded ops a.tmps) = true) (f : FuncId) (fn : Func) (hfn : P.funcs[f]? = some fn) (hname : ¬ fn.name = "runtime.NumGoroutine") (hbody : ¬ fn.body = none) (s : Operand) (ts : Array TypeId)
  (ho:o.op= .call {callee:= .value (.func f),args:= #[s],argTypes:=ts}) (u:Value) (hs:a.eval s=u)
  (R:Ending→World→Prop) (hc:Calls P f #[u] w R) (hR:∀e w',R e w'→∃r,e= .returned r∧K (a.put o.dst r) w'):
  if Region.wanted o (yielded ops a.tmps)=true then Oper.wp P o a w K Q else E:=by
 rw [if_pos hw];unfold Oper.wp execOp;have hf:a.eval (.func f)= .func (.func f) #[] #[]:=rfl
 simp only [ho,resolve,invoke,hf,Deferred.ofValue,callFunc,Sem.run_bind,Sem.run_pure,Result.andThen_ok,List.map_toArray,List.map_cons,List.map_nil,hs]
 simp [go_sem,hfn,hname,hbody]
 refine hc.mono ?_;intro e w' h;obtain ⟨r,rfl,hk⟩:=hR e w' h;exact hk
theorem zbJ {P : Program} (w : World) {ops : Array Oper} {o : Oper} {a : Act} {K : Act → World → Prop} {Q : Exit → Act → World → Prop} {E : Prop} (hgd : o.guard = none) (f : FuncId) (fn : Func) (hfn : P.funcs[f]? = some fn) (hname : ¬ fn.name = "runtime.NumGoroutine") (hbody : ¬ fn.body = none) (s x : Operand) (ts : Array TypeId)
  (ho:o.op= .call {callee:= .value (.func f),args:= #[s,x],argTypes:=ts}) (u v:Value) (hs:a.eval s=u) (hx:a.eval x=v)
  (R:Ending→World→Prop) (hc:Calls P f #[u,v] w R) (hR:∀e w',R e w'→∃ch,e= .panicked ch∧Q (.panic ch) a w') (_hk:Hid False→K (a.put o.dst undef) w):
  if Region.wanted o (yielded ops a.tmps)=true then Oper.wp P o a w K Q else E:=by
 have hw:Region.wanted o (yielded ops a.tmps)=true:=by simp [Region.wanted,hgd]
 rw [if_pos hw];unfold Oper.wp execOp;have hf:a.eval (.func f)= .func (.func f) #[] #[]:=rfl
 simp only [ho,resolve,invoke,hf,Deferred.ofValue,callFunc,Sem.run_bind,Sem.run_pure,Result.andThen_ok,List.map_toArray,List.map_cons,List.map_nil,hs,hx]
 simp [go_sem,hfn,hname,hbody]
 refine hc.mono ?_;intro e w' h;obtain ⟨ch,rfl,hk⟩:=hR e w' h;exact hk
open Go.RowKit
def RnPost (w:World) (g:Nat) (s:ByteArray) (e:Ending) (w':World):Prop:=
 w.grownBy w' (some g)/\((∃n v,e= .returned v/\IsIn s n/\(∀m,IsIn s m->m=n)/\NodeOwn w' w.heap.size v n.lf n.ks n.vs n.cs)\/(e= .panicked misread/\∀m,¬IsIn s m))
theorem zcx {w w':World} {g:Nat} {s:ByteArray} (h:w.grownBy w' (some g)) (hn:∀m,¬IsIn s m):RnPost w g s (.panicked misread) w':=⟨h,Or.inr ⟨rfl,hn⟩⟩
theorem zcI {w:World} {g p:Nat} {t:ByteArray} (h:RdT w g t p) (o:Obj):RdT (w.alloc o) g t p:=(Below.heap_alloc w o g (zfv h)).trans h
theorem zbK {a b:World} {r:Option Nat} (h:a.grownBy b r):a.grownBy b.drew r:=za3 h ⟨rfl,rfl,rfl,Nat.le_refl _,fun _ _ _=>rfl⟩
theorem zhQ {w w':World} {g gn p:Nat} {t:ByteArray} (h:RdT w g t p) (hb:Below gn w w') (hlt:g<gn):RdT w' g t p:=(hb.block g hlt).trans h
end Go.Proofs.YtcbogiebfbbmbaaGreatDoor
