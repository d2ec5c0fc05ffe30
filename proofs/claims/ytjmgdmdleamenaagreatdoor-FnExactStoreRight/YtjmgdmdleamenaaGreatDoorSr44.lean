/-
  Facts and contracts that the law's own text rests on, by their texts' names: PgImpl, ShelfIndexByte, ImplThing2, ImplRead2, ShelfCut, ShelfSortS, ChkKeysI, AscPlain.
-/
import Derived.ScopeJumps
import Derived.WalkMore
import Derived.Test.YtjmgdmdleamenaaGreatDoorSr43
import Derived.Test.YtjmgdmdleamenaaGreatDoorSr40
import Derived.Test.YtjmgdmdleamenaaGreatDoorSr42
import Derived.Shelf.LaysM
import Derived.Shelf.Small.Strs
import Derived.Test.YtjmgdmdleamenaaGreatDoorProg
import Derived.Test.YtjmgdmdleamenaaGreatDoorSr34
import Derived.Test.YtjmgdmdleamenaaGreatDoorSr33
import Derived.Test.YtjmgdmdleamenaaGreatDoorSr35
import Derived.Test.YtjmgdmdleamenaaGreatDoorSr39
import Derived.Shelf.Lays
import Derived.Shelf.Strings.Cut
import Derived.Shelf.Strings.Prefix
import Derived.Shelf.Slices.CompactS
import Derived.Shelf.Slices.Equal
import Derived.Shelf.Slices.In.SortNone
import Derived.Shelf.Sort.Plain
import Derived.Lib.SlicesCompact
import Derived.WalkKit
set_option maxHeartbeats 16000000
set_option maxRecDepth 100000
namespace Go.Proofs.YtjmgdmdleamenaaGreatDoor
open Go.RowKit
theorem below_of_keptC {w w':World} {B:Nat} {S:Nat->Prop} (h:KeptC S w w') (hB:B<=w.heap.size) (hS:∀k,S k->B<=k):Below B w w':=by
 obtain ⟨h1,h2,h3,h4,h5⟩:=h
 exact ⟨h1,h2,h3,h4,fun k hk=>h5 k (by omega) (fun hs=>by have:=hS k hs;omega)⟩
theorem implPagesRight_any (ps:List ByteArray) (ls:List (Int×ByteArray)) (hp:ps.length<=1048576) (hl:ls.length<=1048576) (hps:∀s∈ps,s.size<=1048576) (hls:∀p∈ls,p.2.size<=1048576) (m:Mt) (hok:m.ok=true) (ap al:Option Addr) (np nl cp cl:Nat) (vm:Value) (w:World) (hT:SumTab w) (hd:DiskAt w (.agg #[.slice ap np cp,.slice al nl cl]) ps ls) (hm:MetaAt w vm m):
  Calls Tryz.prog 23 #[.agg #[.slice ap np cp,.slice al nl cl],vm] w fun e w'=>∃b,e= .returned (.bool b)/\PgTold (pagesI (fun q=>rdN (readD ps ls q)) m.root) m.fs m.next b/\Below w.heap.size w w':=by
 obtain ⟨i0,hi,hz0,hz1,hz2⟩:=info_parts Tryz.infoIntR;obtain ⟨vf,rfl,hf⟩:=hm;obtain ⟨xf,cf,rfl⟩:=frees_slice hf;obtain ⟨mt,mr,nx,fs⟩:=m;obtain ⟨hn2,hn40,hf20,hf40⟩:=ok_short hok;dsimp only at hf hn2 hn40 hf20 hf40⊢;obtain ⟨w0,hw0⟩:∃w0,w0=(w.alloc (Obj.cells #[.slice ap np cp,.slice al nl cl] 41)).alloc (Obj.cells #[.int .i64 mt,.int .i64 mr,.int .i64 nx,.slice xf fs.length cf] 44):=⟨_,rfl⟩
 have hb0:Below w.heap.size w w0:=by rw [hw0];exact ((Below.refl _ _).alloc (Nat.le_refl _) _).alloc (by simp) _
 have HVar:=hide (meta_var (w.alloc (Obj.cells #[.slice ap np cp,.slice al nl cl] 41)) mt mr nx (.slice xf fs.length cf) 44);rw [<-hw0,World.size_alloc] at HVar;have HP:=hide (pagesOf.implPagesOf_any ps ls hp hl hps hls ap al np nl cp cl mr w0 (sumTab_below hT hb0) (disk_below hd hb0));have HPl:=hide (pages_len ps ls mr)
 obtain ⟨R,hR⟩:∃R,R=pagesI (fun q=>rdN (readD ps ls q)) mr:=⟨_,rfl⟩
 rw [<-hR] at HP HPl⊢;have HF:=hide hf;obtain ⟨nf,hnf⟩:∃n,n=fs.length:=⟨_,rfl⟩;rw [<-hnf] at HVar HF hf20 hw0⊢
 have hq:w0.heap[w.heap.size]?=some (Obj.cells #[.slice ap np cp,.slice al nl cl] 41):=by rw [hw0];exact (two_allocs w _ _).1
 have q0:=(cell_at hq 0).1;have q1:=(cell_at hq 1).1;obtain ⟨m0,m1,m2,m3⟩:=HVar.out w0 (Below.refl _ _);have HNf:=hide hnf;have HSh:=hide hf40;have HB0:=hide hb0;clear hp hl hps hls hd hT hok hf hf40 hR hb0 hnf;go_enter Tryz.func23,Tryz.ntmps23;go_wp2_with fail;rw [<-hw0];clear hw0 hq
 refine wp_scope_jumps 0 (fun a' w'=>(a'.tmps.size=53/\a'.defers= [])/\PgTold R fs nx false/\Below w.heap.size w w') (fun _ _=>0) rfl ?_ ?_
 rotate_left
 ·rintro ⟨T,df⟩ w' ⟨⟨hT,hdf⟩,hN,hb⟩
  dsimp only at hT hdf;subst hdf;go_wp2_with fail
  simp only [Exit.jump]
  go_ret
  exact ⟨false,by simp [hT],hN,hb⟩
 go_wp2_with fail;refine HP.out.mono ?_;rintro e w1 ⟨v,l,rfl,hown,hpm,hsm,hb1⟩;obtain ⟨rl,rb⟩:=R;dsimp only at hpm HPl⊢;have HPm:=hide hpm
 have hll:l.length<=22000:=by rw [hpm.length_eq];exact HPl.out
 have HB1:=hide hb1;have HO1:Hid (w1.ownsRow w0.heap.size 3 1 v l.length (ints l)):=hide hown;obtain ⟨x1,c1,rfl⟩:=own_slice hown;obtain ⟨e0,e1,e2,e3⟩:=HVar.out w1 hb1;clear hown hpm hsm hb1 q0 q1 m0 m1 m2 m3
 cases rb with
 | false=>
  go_wp2_with fail;go_step3;exact ⟨rfl,⟨rfl,rfl⟩,Or.inl ⟨rfl,rfl⟩,HB0.out.trans (HB1.out.mono HB0.out.size)⟩
 | true=>
  go_wp2_with fail;clear e0 e1 e2 e3
  go_loopg [5,23] nf (fun q lv iv wr=>∃(i nr:Nat) (x:Option Addr) (c:Nat),i<=nf/\q+i=nf/\lv= .slice x nr c/\iv= .int .i64 (i:Int)/\Hid (wr.ownsRow w0.heap.size 3 1 (.slice x nr c) nr (ints (l++flatF fs i)))/\Hid (Below w0.heap.size w0 wr))
  case atStart=>exact ⟨0,l.length,x1,c1,Nat.zero_le _,by omega,rfl,rfl,hide (by rw [show flatF fs 0= [] from rfl,List.append_nil];exact HO1.out),HB1⟩
  case round=>
   clear HO1 HB1;obtain ⟨i,nr,x,c,hin,hq,rfl,rfl,HO,HB⟩:=hrel;have HQ:=hide hq;clear hq
   by_cases hlt:i<nf
   ·obtain ⟨⟨tx,pgs⟩,hfi⟩:∃f,fs[i]?=some f:=⟨fs[i]'(by rw [<-HNf.out];exact hlt),List.getElem?_eq_getElem _⟩
    obtain ⟨bf,off,xp,cq,rfl,hbf,hc1,hc2,hrp⟩:=frees_at HF.out hfi;have hwb:=HB0.out.trans (HB.out.mono HB0.out.size)
    have hcw:wr.cell? ⟨bf,off+i * 2,none⟩=some (.int .i64 tx):=(hwb.cell (by exact hbf)).trans hc1
    have hcx:wr.cell? ⟨bf,off+i * 2+1,none⟩=some (.slice xp pgs.length cq):=(hwb.cell (by exact hbf)).trans hc2
    have HRp:Hid (∀o,RowAt (wr.alloc o) 1 (.slice xp pgs.length cq) pgs.length (ints pgs)):=hide (fun o=>row_below hrp (hwb.alloc hwb.size _))
    have HUp:Hid (flatF fs (i+1)=flatF fs i++pgs):=hide (flatF_succ hfi);have hpl:pgs.length<=40:=HSh.out _ (List.mem_of_getElem? hfi)
    have hnr:nr<=22800:=by
     have h1:=row_n HO.out;have h2:=flatF_short HSh.out i;rw [List.length_append] at h1
     omega
    have hbw:bf<wr.heap.size:=Nat.lt_of_lt_of_le hbf hwb.size;have hws:=HB.out.size
    have hi0:(0:Int)<=(i:Int):=by omega
    have hi1:(i:Int)<(nf:Int):=by omega
    obtain ⟨lp,hlp⟩:∃m,m=pgs.length:=⟨_,rfl⟩;rw [<-hlp] at hcx HRp hpl;clear hfi hbf hc1 hc2 hrp hwb hlp
    go_wp2_with (at_builtin;refine wpList_append_row _ rfl _ _ 30 rfl w0.heap.size 3 i0 (.int .i64 0) 1 8 Tryz.underlying30 hi hz0 hz1 hz2 rfl (by decide) _ _ _ rfl (HO.out.alloc _) _ _ _ rfl (HRp.out _) (ints_one _) ?d3 ?d4 ?d5 ?_)
    case d3=>unfold maxLen;omega
    case d4=>omega
    case d5=>simp;omega
    intro x4 c5 w4 hown4 hgrow4
    have HB4:Hid (Below w0.heap.size w0 w4):=hide ((HB.out.alloc hws _).grown hgrow4 (by simp;omega) (fun k hk=>(HO.out.lt k hk).1))
    have HO4:Hid (w4.ownsRow w0.heap.size 3 1 (.slice x4 (nr+lp) c5) (nr+lp) (ints (l++flatF fs (i+1)))):=hide (by rw [HUp.out,<-List.append_assoc,<-ints_app];exact hown4)
    clear hown4 hgrow4;go_wp2_with fail
    go_roundg (gk - 1)
    case measure=>have:=HQ.out;omega
    case rel=>exact ⟨i+1,nr+lp,x4,c5,by omega,by have:=HQ.out;omega,rfl,by go_num,HO4,HB4⟩
   ·have HE:Hid (flatF fs i=flatF fs fs.length):=hide (by rw [<-HNf.out,show i=nf from by omega])
    rw [HE.out] at HO
    have hll2:(l++flatF fs fs.length).length<=22800:=by
     have h2:=flatF_short HSh.out fs.length;have:=HNf.out;rw [List.length_append]
     omega
    have hnr:=row_n HO.out
    have HSo:=hide (sort_own (l++flatF fs fs.length) (by omega) w0.heap.size (.slice x nr c) wr (by rw [<-hnr];exact HO.out))
    have HBn:Hid (∀k,(Value.slice x nr c).ownBlock=some k->w0.heap.size<=k):=hide (fun k hk=>(HO.out.lt k hk).1)
    have HB2:Hid (Below w.heap.size w wr):=hide (HB0.out.trans (HB.out.mono HB0.out.size));have HNr:=hide hnr;clear hnr;go_wp2_with fail;refine HSo.out.mono ?_;rintro e w2 ⟨rfl,s,hpm,hsm,hown,hkp⟩;have hb2:Below w0.heap.size wr w2:=below_of_keptC hkp HB.out.size HBn.out
    have hsl:s.length<=22800:=by rw [hpm.length_eq];exact hll2
    have hsn:s.length=nr:=by rw [hpm.length_eq];exact HNr.out.symm
    have HPs:Hid (s.Perm (rl++flatF fs fs.length)):=hide (hpm.trans (HPm.out.append_right _));have HSs:=hide hsm;have hb3:Below w0.heap.size w0 w2:=HB.out.trans hb2;have HB3:Hid (Below w.heap.size w w2):=hide (HB0.out.trans (hb3.mono HB0.out.size));rw [hsn] at hown hsl;have HO2:=hide hown;have HNs:=hide hsn;obtain ⟨d0,d2,d3,d4⟩:=HVar.out w2 hb3;clear hown hpm hsm hb2 HO hsn hkp hb3;go_wp2_with fail
    go_loopg [36] nr (fun q iv wq=>∃i:Nat,i<=nr/\q+i=nr/\iv= .int .i64 (i:Int)/\Hid (∀j,j<i->s.getD j 0=(j:Int)+2)/\w2=wq)
    case atStart=>exact ⟨0,Nat.zero_le _,by omega,rfl,hide (fun j hj=>by omega),rfl⟩
    case round=>
     obtain ⟨i,hi3,hq,rfl,HA,rfl⟩:=hrel;have HQ:=hide hq;clear hq
     by_cases hl3:i<nr
     ·obtain ⟨g,rfl⟩:∃g,x=some ⟨g,0,none⟩:=by
       rcases HO2.out.2 with ⟨e,h0⟩ | ⟨g,cc,cur,e,_⟩
       ·omega
       ·injection e with e1;exact ⟨g,e1⟩
      have hce:=own_int_at HO2.out (k:=i) (by rw [HNs.out];exact hl3)
      obtain ⟨y,hy⟩:∃y,y=s.getD i 0:=⟨_,rfl⟩;rw [<-hy] at hce;have HY:=hide hy
      have hi0:(0:Int)<=(i:Int):=by omega
      have hi1:(i:Int)<(nr:Int):=by omega
      have hw2:IntKind.i64.wrap (2+(i:Int))=2+(i:Int):=IntWalk.i64_in _ ⟨by omega,by omega⟩
      clear hy
      by_cases he:y=2+(i:Int)
      ·have dy:(y !=2+(i:Int))=false:=by rw [he];simp
       have HA2:Hid (∀j,j<i+1->s.getD j 0=(j:Int)+2):=hide (fun j hj=>by
        by_cases e:j=i
        ·rw [e,<-HY.out,he];omega
        ·exact HA.out j (by omega))
       clear HA he;go_wp2_with fail
       go_roundg (gk - 1)
       case measure=>have:=HQ.out;omega
       case rel=>exact ⟨i+1,by omega,by have:=HQ.out;omega,by go_num,HA2,rfl⟩
      ·have dy:(y !=2+(i:Int))=true:=by simp [he]
       have HNo:Hid (inRow s=false):=hide (inRow_no (k:=i) (by rw [HNs.out];exact hl3) (by rw [<-HY.out];omega))
       clear he;go_wp2_with fail;go_step3
       exact ⟨rfl,⟨rfl,rfl⟩,Or.inr ⟨rfl,s,HPs.out,HSs.out,by rw [HNo.out,Bool.and_false]⟩,HB3.out⟩
     ·have HYe:Hid (inRow s=true):=hide (inRow_yes (fun j hj=>HA.out j (by have:=HNs.out;omega)))
      have hw2:IntKind.i64.wrap (2+(nr:Int))=2+(nr:Int):=IntWalk.i64_in _ ⟨by omega,by omega⟩
      have hmx:max (2:Int) nx=nx:=by omega
      go_wp2_with fail
      simp only [Exit.jump]
      go_ret;refine ⟨_,rfl,Or.inr ⟨rfl,s,HPs.out,HSs.out,?_⟩,HB3.out⟩;rw [HYe.out,Bool.and_true,HNs.out];rw [Bool.eq_iff_iff]
      simp
      omega
end Go.Proofs.YtjmgdmdleamenaaGreatDoor
namespace Go.Proofs
open Go.Shelf
def Tryz.lays137_ren:Go.Shelf.Ren:=⟨fun | 137=>183 | 217=>176 | 266=>193 | n=>n,fun | 9=>9 | 5=>5 | 3=>3 | n=>n,fun | n=>n⟩
theorem Tryz.lays137:Go.Proofs.Lays.n137 Tryz.prog Tryz.lays137_ren:={
 mixed:=by kernel_rfl
 f137:=Tryz.func183.trans (congrArg some (by kernel_rfl))
 f217:=Tryz.func176.trans (congrArg some (by kernel_rfl))
 f266:=Tryz.func193.trans (congrArg some (by kernel_rfl))
 t3:=Tryz.underlying3
 a3:=Tryz.isAgg3
 z3:=Tryz.sizeOf3
 v3:=Tryz.zeroValue3
 t5:=Tryz.underlying5
 a5:=Tryz.isAgg5
 z5:=Tryz.sizeOf5
 v5:=Tryz.zeroValue5
 t9:=Tryz.underlying9
 a9:=Tryz.isAgg9
 z9:=Tryz.sizeOf9
 v9:=Tryz.zeroValue9}
open Go.RowKit in
theorem Tryz.strings_IndexByte (s:ByteArray) (c:Int) (w:World):
  Calls Tryz.prog 183 #[.string s,.int .u8 c] w fun e w'=>e= .returned (.int .i64 (Lib.indexByte s.data.toList c.toNat.toUInt8))/\w'=w:=Any.strings_IndexByte Tryz.lays137 s c w
end Go.Proofs
namespace Go.Proofs.YtjmgdmdleamenaaGreatDoor
open Go.RowKit
theorem ixb_neg:∀(l:List UInt8) (c:UInt8),Lib.indexByte l c<0↔∀b∈l,b≠c
 | [],c=>by simp [Lib.indexByte]
 | b :: l,c=>by
  have ih:=ixb_neg l c;have hge:=Lib.indexByte_ge l c
  by_cases hb:b=c
  ·subst hb
   simp [Lib.indexByte]
  ·have hb':(b ==c)=false:=by simp [hb]
   rw [Lib.indexByte,hb']
   constructor
   ·intro h x hx
    have h2:Lib.indexByte l c<0:=by
     by_cases e:Lib.indexByte l c= -1
     ·omega
     ·have e':(Lib.indexByte l c == -1)=false:=by simp [e]
      rw [e'] at h
      simp at h
      omega
    rcases List.mem_cons.1 hx with rfl | hx
    ·exact hb
    ·exact ih.1 h2 x hx
   ·intro h
    have h2:=ih.2 (fun x hx=>h x (List.mem_cons_of_mem _ hx))
    have e:Lib.indexByte l c= -1:=by omega
    rw [e]
    simp
theorem zero_free (t:ByteArray):(Lib.indexByte t.data.toList (Int.toNat 0).toUInt8<0)↔∀i,i<t.size->byt t i≠0:=by
 rw [ixb_neg]
 have hl:t.data.toList.length=t.size:=by rw [Array.length_toList];rfl
 have hat:∀i (h:i<t.size),(t.data.toList[i]'(by omega)).toNat=byt t i:=fun i h=>by rw [<-byt_eq t i h];simp;rfl
 constructor
 ·intro h i hi h0
  have:=h _ (List.getElem_mem (show i<t.data.toList.length by omega))
  apply this
  apply UInt8.toNat_inj.1
  rw [hat i hi,h0];rfl
 ·intro h b hb
  obtain ⟨i,hi,rfl⟩:=List.getElem_of_mem hb;intro e
  apply h i (by omega)
  rw [<-hat i (by omega),e];rfl
theorem text_nil {t:ByteArray} (h:t.toList= []):t=⟨#[]⟩:=by
 rw [ByteArray.toList_eq] at h
 apply ByteArray.ext
 exact Array.toList_inj.1 h
theorem num_v1 {num:Int} {t:ByteArray} (h:t.toList= []) (h2:¬num<0):valueB 1 num t=decide (num<=999999):=by
 rw [value_num,decide_eq_true (text_nil h),Bool.and_true]
 congr 1
 simp;omega
theorem num_v2 {num:Int} {t:ByteArray} (h2:num<0):valueB 1 num t=false:=by
 rw [value_num,decide_eq_false (by omega)];rfl
theorem num_v3 {num:Int} {t:ByteArray} (h:¬t.toList= []):valueB 1 num t=false:=by
 rw [value_num,decide_eq_false (show ¬(t=⟨#[]⟩) from fun e=>h (by rw [e,ByteArray.toList_eq])),Bool.and_false]
theorem valueOk_any (kind num:Int) (t:ByteArray) (ht:t.size<=1048576) (w:World):
  Calls Tryz.prog 152 #[.int .i64 kind,.agg #[.int .i64 num,.string t]] w fun e w'=>e= .returned (.bool (valueB kind num t))/\Below w.heap.size w w':=by
 obtain ⟨w0,hw0⟩:∃w0,w0=w.alloc (Obj.cells #[.int .i64 num,.string t] 144):=⟨_,rfl⟩
 have hb0:Below w.heap.size w w0:=by rw [hw0];exact (Below.refl w.heap.size w).alloc (Nat.le_refl _) _
 have hblk:w0.heap[w.heap.size]?=some (Obj.cells #[.int .i64 num,.string t] 144):=by rw [hw0];exact heap_alloc_new w _
 have HB:=hide hb0;have cb0:w0.cell? ⟨w.heap.size,0,none⟩=some (.int .i64 num):=(cell_at hblk 0).1;have cb1:w0.cell? ⟨w.heap.size,1,none⟩=some (.string t):=(cell_at hblk 1).1;clear hb0 hblk;obtain ⟨r,hr⟩:∃r,r=valueB kind num t:=⟨_,rfl⟩;have HR:=hide hr;rw [<-hr];clear hr
 by_cases hk:kind=1
 ·subst hk
  go_enter Tryz.func152,Tryz.ntmps152;go_wp2_with fail
  all_goals rw [<-hw0]
  all_goals go_ret
  all_goals refine ⟨?_,HB.out⟩
  all_goals rw [HR.out]
  ·rw [num_v1 (by assumption) (by omega)];rfl
  ·rw [num_v2 (by omega)];rfl
  ·rw [num_v3 (by assumption)];rfl
 ·have d1:(kind ==1)=false:=by simp [hk]
  have d1':((1:Int) ==kind)=false:=by simp;omega
  by_cases hk2:kind=2
  ·subst hk2
   have HV:Hid (r=(decide (∀i,i<t.size->byt t i≠0) && decide (num=0/\t.size<=6))):=hide (by rw [HR.out,valueB,if_neg (by omega)];simp)
   have HIx:=hide (Tryz.strings_IndexByte t 0);have HZ:=hide (zero_free t);clear HR
   by_cases h0:num=0
   ·subst h0
    by_cases h6:t.size<=6
    ·have d6:decide ((t.size:Int)<=6)=true:=by simp;omega
     obtain ⟨ix,hix⟩:∃ix,ix=Lib.indexByte t.data.toList (Int.toNat 0).toUInt8:=⟨_,rfl⟩;rw [<-hix] at HIx HZ
     have HV2:Hid (r=decide (ix<0)):=hide (by
      rw [HV.out,decide_eq_true (show (0:Int)=0/\t.size<=6 from ⟨rfl,h6⟩),Bool.and_true]
      exact decide_eq_decide.2 HZ.out.symm)
     clear HV HZ hix;go_enter Tryz.func152,Tryz.ntmps152;go_wp2_with fail;rw [<-hw0];refine (HIx.out _).mono ?_;rintro e w2 ⟨rfl,rfl⟩;clear hw0;go_wp2_with fail;go_ret;rw [HV2.out];exact ⟨rfl,HB.out⟩
    ·have d6:decide ((t.size:Int)<=6)=false:=by simp;omega
     have HV2:Hid (r=false):=hide (by
      rw [HV.out,decide_eq_false (show ¬((0:Int)=0/\t.size<=6) from fun h=>h6 h.2),Bool.and_false])
     clear HV HZ;go_enter Tryz.func152,Tryz.ntmps152;go_wp2_with fail;rw [<-hw0];go_ret;rw [HV2.out];exact ⟨rfl,HB.out⟩
   ·have HV2:Hid (r=false):=hide (by
     rw [HV.out,decide_eq_false (show ¬(num=0/\t.size<=6) from fun h=>h0 h.1),Bool.and_false])
    have dn:(num ==0)=false:=by simp [h0]
    clear HV HZ;go_enter Tryz.func152,Tryz.ntmps152;go_wp2_with fail;rw [<-hw0];go_ret;rw [HV2.out];exact ⟨rfl,HB.out⟩
  ·have d2:(kind ==2)=false:=by simp [hk2]
   have d2':((2:Int) ==kind)=false:=by simp;omega
   have HV2:Hid (r=false):=hide (by rw [HR.out,valueB,if_neg hk,decide_eq_false (show ¬(kind=2/\num=0/\t.size<=6) from fun h=>hk2 h.1),Bool.and_false])
   go_enter Tryz.func152,Tryz.ntmps152;go_wp2_with fail;rw [<-hw0];go_ret;rw [HV2.out];exact ⟨rfl,HB.out⟩
theorem implThingOk_any (fs:List (ByteArray×Int)) (vs:List (Int×ByteArray)) (hl:fs.length<=1048576) (hn:∀f∈fs,f.1.size<=1048576) (_hl2:vs.length<=1048576) (hn2:∀f∈vs,f.2.size<=1048576) (v u:Value) (w:World) (hr:RowAt w 2 v fs.length (flds fs)) (hu:RowAt w 2 u vs.length (puts vs)):
  Calls Tryz.prog 125 #[v,u] w fun e w'=>e= .returned (.bool (thingOkB fs vs))/\Below w.heap.size w w':=by
 have HS:=hide (fun wx h=>implSchemaOk_any fs hl hn v wx h)
 have HRv:=hide hr;obtain ⟨-,a,cap,rfl,h2⟩:=hr;obtain ⟨-,a',cap',rfl,h3⟩:=hu;have HR:=hide h2;have HQ:=hide h3;have HN2:=hide hn2;clear h2 h3 hn hn2
 cases hsk:schemaOkB fs with
 | false=>
  rw [hsk] at HS;have HO:=hide (thing_schema (vs:=vs) hsk);clear hsk;go_enter Tryz.func125,Tryz.ntmps125;go_wp2_with fail;refine (HS.out _ HRv.out).mono ?_;rintro e w1 ⟨rfl,hb⟩;go_wp2_with fail;go_ret;rw [HO.out];exact ⟨rfl,hb⟩
 | true=>
  rw [hsk] at HS;have HSk:=hide hsk;clear hsk
  by_cases hne:vs.length=fs.length
  ·have HNe:=hide hne
   have d1:((vs.length:Int) !=(fs.length:Int))=false:=by rw [hne];simp
   go_enter Tryz.func125,Tryz.ntmps125;go_wp2_with fail;refine (HS.out _ HRv.out).mono ?_;rintro e w1 ⟨rfl,hb⟩;have HB1:=hide hb;clear hb hne;go_wp2_with fail;clear d1
   go_loopg [19] fs.length (fun g iv wr=>∃k:Nat,k<=fs.length/\iv= .int .i64 (k:Int)/\g+k=fs.length/\Hid (∀i (hi:i<vs.length) (hf:i<fs.length),i<k->valueB fs[i].2 vs[i].1 vs[i].2=true)/\Hid (Below w.heap.size w wr))
   case atStart=>exact ⟨0,Nat.zero_le _,rfl,rfl,hide (fun i h hf h0=>by omega),HB1⟩
   case round=>
    obtain ⟨k,hk,rfl,hg,HA,HB⟩:=hrel;have HG:=hide hg;clear hg
    by_cases hlf:k<fs.length
    ·have hlt:k<vs.length:=by have:=HNe.out;omega
     rcases HR.out with h0 | ⟨b,off,rfl,hbl,hc⟩
     ·omega
     ·rcases HQ.out with h0 | ⟨b',off',rfl,hbl',hc'⟩
      ·omega
      ·obtain ⟨y,hy⟩:∃y,y=fs[k].1:=⟨_,rfl⟩
       obtain ⟨q,hq⟩:∃q,q=fs[k].2:=⟨_,rfl⟩;obtain ⟨p,hp⟩:∃p,p=vs[k].1:=⟨_,rfl⟩;obtain ⟨x,hx⟩:∃x,x=vs[k].2:=⟨_,rfl⟩
       have hc0:wr.cell? ⟨b,off+k * 2,none⟩=some (.string y):=by rw [HB.out.cell (by exact hbl),hc (k * 2) (by omega),(flds_at fs k hlf).1,hy]
       have hc1:wr.cell? ⟨b,off+k * 2+1,none⟩=some (.int .i64 q):=by rw [HB.out.cell (by exact hbl),Nat.add_assoc,hc (k * 2+1) (by omega),(flds_at fs k hlf).2,hq]
       have hxs:x.size<=1048576:=by rw [hx];exact HN2.out _ (List.getElem_mem hlt)
       have HV:=hide (valueOk_any q p x hxs);have HQP:=hide (⟨hq,hp,hx⟩:q=fs[k].2/\p=vs[k].1/\x=vs[k].2);obtain ⟨wa,hwa⟩:∃wa,wa=wr.alloc (Obj.cells #[.string y,.int .i64 q] 146):=⟨_,rfl⟩
       have hblk:wa.heap[wr.heap.size]?=some (Obj.cells #[.string y,.int .i64 q] 146):=by rw [hwa];exact heap_alloc_new wr _
       have HWa:Hid (Below w.heap.size w wa):=hide (by rw [hwa];exact HB.out.alloc HB.out.size _)
       have hf1:wa.cell? ⟨wr.heap.size,1,none⟩=some (.int .i64 q):=(cell_at hblk 1).1
       have hd0:wa.cell? ⟨b',off'+k * 2,none⟩=some (.int .i64 p):=by rw [HWa.out.cell (by exact hbl'),hc' (k * 2) (by omega),(puts_at vs k hlt).1,hp]
       have hd1:wa.cell? ⟨b',off'+k * 2+1,none⟩=some (.string x):=by rw [HWa.out.cell (by exact hbl'),Nat.add_assoc,hc' (k * 2+1) (by omega),(puts_at vs k hlt).2,hx]
       have hk0:(0:Int)<=(k:Int):=by omega
       have hk1:(k:Int)<(fs.length:Int):=by omega
       have hk2:(k:Int)<(vs.length:Int):=by omega
       have hnw:=Nat.lt_of_lt_of_le hbl' HWa.out.size;have hnf:wr.heap.size<wa.heap.size:=(Array.getElem?_eq_some_iff.1 hblk).1;clear hc hc' hq hp hx hy hblk
       cases hvb:valueB q p x with
       | false=>
        rw [hvb] at HV
        have HO:Hid (thingOkB fs vs=false):=hide (thing_bad hlt hlf (by rw [<-HQP.out.1,<-HQP.out.2.1,<-HQP.out.2.2];exact hvb))
        clear hvb;go_wp2_with fail;rw [<-hwa];clear hwa hc0 hc1
        go_region_held3 (fun wx=>wx.cell? ⟨wr.heap.size,1,none⟩=some (.int .i64 q)/\wx.cell? ⟨b',off'+k * 2,none⟩=some (.int .i64 p)/\wx.cell? ⟨b',off'+k * 2+1,none⟩=some (.string x)) (first | exact ⟨hf1,hd0,hd1⟩ | exact hS2) ((go_at_call 152;refine (HV.out _).mono ?_;rintro e w2 ⟨rfl,hb2⟩;have hS2:w2.cell? ⟨wr.heap.size,1,none⟩=some (.int .i64 q)/\w2.cell? ⟨b',off'+k * 2,none⟩=some (.int .i64 p)/\w2.cell? ⟨b',off'+k * 2+1,none⟩=some (.string x):=⟨(hb2.cell (by exact hnf)).trans hf1,(hb2.cell (by exact hnw)).trans hd0,(hb2.cell (by exact hnw)).trans hd1⟩))
        have hb3:Below w.heap.size w w2:=HWa.out.trans ((Below.refl _ _).drew.trans (hb2.mono HWa.out.size));clear hb2 hS2 hf1 hd0 hd1;go_wp2_with fail;go_ret;rw [HO.out];exact ⟨rfl,hb3⟩
       | true=>
        rw [hvb] at HV
        have HA2:Hid (∀i (hi:i<vs.length) (hf:i<fs.length),i<k+1->valueB fs[i].2 vs[i].1 vs[i].2=true):=hide (fun i hi hf h=>by
         by_cases e:i=k
         ·subst e;rw [<-HQP.out.1,<-HQP.out.2.1,<-HQP.out.2.2];exact hvb
         ·exact HA.out i hi hf (by omega))
        clear hvb;go_wp2_with fail;rw [<-hwa];clear hwa hc0 hc1
        go_region_held3 (fun wx=>wx.cell? ⟨wr.heap.size,1,none⟩=some (.int .i64 q)/\wx.cell? ⟨b',off'+k * 2,none⟩=some (.int .i64 p)/\wx.cell? ⟨b',off'+k * 2+1,none⟩=some (.string x)) (first | exact ⟨hf1,hd0,hd1⟩ | exact hS2) ((go_at_call 152;refine (HV.out _).mono ?_;rintro e w2 ⟨rfl,hb2⟩;have hS2:w2.cell? ⟨wr.heap.size,1,none⟩=some (.int .i64 q)/\w2.cell? ⟨b',off'+k * 2,none⟩=some (.int .i64 p)/\w2.cell? ⟨b',off'+k * 2+1,none⟩=some (.string x):=⟨(hb2.cell (by exact hnf)).trans hf1,(hb2.cell (by exact hnw)).trans hd0,(hb2.cell (by exact hnw)).trans hd1⟩))
        have hb3:Below w.heap.size w w2:=HWa.out.trans ((Below.refl _ _).drew.trans (hb2.mono HWa.out.size));have HB3:=hide hb3;clear hb2 hb3 hS2 hf1 hd0 hd1;go_wp2_with fail
        go_roundg (gk - 1)
        case measure=>have:=HG.out;omega
        case rel=>exact ⟨k+1,by omega,by go_num,by have:=HG.out;omega,HA2,HB3⟩
    ·have HO:Hid (thingOkB fs vs=true):=hide (thing_all HSk.out HNe.out (fun i hi hf=>HA.out i hi hf (by omega)))
     go_wp2_with fail;go_ret;rw [HO.out];exact ⟨rfl,HB.out⟩
  ·have HO:=hide (thing_len hne)
   have d1:((vs.length:Int) !=(fs.length:Int))=true:=by simp;omega
   go_enter Tryz.func125,Tryz.ntmps125;go_wp2_with fail;refine (HS.out _ HRv.out).mono ?_;rintro e w1 ⟨rfl,hb⟩;go_wp2_with fail;go_ret;rw [HO.out];exact ⟨rfl,hb⟩
theorem implKeyText_any (kind num:Int) (t:ByteArray) (ht:t.size<=1048576) (w:World):
  Calls Tryz.prog 126 #[.int .i64 kind,.agg #[.int .i64 num,.string t]] w fun e w'=>e= .returned (.tuple #[.string (keyO kind num t),.bool (valueB kind num t)])/\Below w.heap.size w w':=by
 obtain ⟨w0,hw0⟩:∃w0,w0=w.alloc (Obj.cells #[.int .i64 num,.string t] 144):=⟨_,rfl⟩
 have hb0:Below w.heap.size w w0:=by rw [hw0];exact (Below.refl w.heap.size w).alloc (Nat.le_refl _) _
 have hblk:w0.heap[w.heap.size]?=some (Obj.cells #[.int .i64 num,.string t] 144):=by rw [hw0];exact heap_alloc_new w _
 have HB:=hide hb0;have HBk:=hide hblk;have HV:=hide (valueOk_any kind num t ht);clear hb0;have ca0:w0.cell? ⟨w.heap.size,0,none⟩=some (.int .i64 num):=(cell_at hblk 0).1;have ca1:w0.cell? ⟨w.heap.size,1,none⟩=some (.string t):=(cell_at hblk 1).1;clear hblk
 cases hvb:valueB kind num t with
 | false=>
  have HO:Hid (keyO kind num t=⟨#[]⟩):=hide (by rw [keyO,hvb];rfl)
  rw [hvb] at HV;clear hvb;go_enter Tryz.func126,Tryz.ntmps126;go_wp2_with fail;rw [<-hw0];refine (HV.out _).mono ?_;rintro e w1 ⟨rfl,hb1⟩;clear hw0;go_wp2_with fail;go_ret2;rw [HO.out];exact ⟨rfl,HB.out.trans (hb1.mono HB.out.size)⟩
 | true=>
  have HK:Hid (keyO kind num t=keyT kind num t):=hide (by rw [keyO,hvb];rfl)
  have HVb:=hide hvb;rw [hvb] at HV;clear hvb;go_enter Tryz.func126,Tryz.ntmps126;go_wp2_with fail;rw [<-hw0];refine (HV.out _).mono ?_;rintro e w1 ⟨rfl,hb1⟩;have hblk1:=(hb1.block _ (Array.getElem?_eq_some_iff.1 HBk.out).1).trans HBk.out;have cb0:w1.cell? ⟨w.heap.size,0,none⟩=some (.int .i64 num):=(cell_at hblk1 0).1;have cb1:w1.cell? ⟨w.heap.size,1,none⟩=some (.string t):=(cell_at hblk1 1).1;have HB1:Hid (Below w.heap.size w w1):=hide (HB.out.trans (hb1.mono HB.out.size));clear hw0 hb1 hblk1 ca0 ca1
  by_cases hk:kind=1
  ·subst hk
   have hnum:0<=num/\num<=999999:=by
    have:=HVb.out;rw [value_num,Bool.and_eq_true,decide_eq_true_eq] at this;exact this.1
   obtain ⟨n,rfl⟩:=Int.eq_ofNat_of_zero_le hnum.1
   have hn:n<=999999:=by omega
   have HO:Hid (keyO 1 (n:Int) t=⟨#[UInt8.ofNat (n / 65536),UInt8.ofNat (n / 256 % 256),UInt8.ofNat (n % 256)]⟩):=hide (by rw [HK.out,keyT,if_pos rfl,Int.toNat_natCast])
   go_wp2_with fail;obtain ⟨a1,a3,a4,ha1,ha3,ha4,hl1,hl3,hl4,e1,e3,e4⟩:=digits n hn;rw [e1,e3,e4];have hcv:=string_own (P:=Tryz.prog) (src:=183) (dst:=9) Tryz.underlying183 Tryz.underlying5 Tryz.underlying9 (own3 w1 a1 a3 a4 hl1 hl3 hl4);have HB2:Hid (Below w.heap.size w (w1.alloc (Obj.cells #[.int .u8 (a1:Int),.int .u8 (a3:Int),.int .u8 (a4:Int)] 5))):=hide (HB1.out.alloc HB1.out.size _);rw [<-ha1,<-ha3,<-ha4] at HO;rw [hcv];clear hcv e1 e3 e4 ha1 ha3 ha4 hl1 hl3 hl4 hnum cb0 cb1;go_wp2_with fail;go_ret2;rw [HO.out];exact ⟨rfl,HB2.out⟩
  ·have HO:Hid (keyO kind num t=t++⟨#[0]⟩):=hide (by rw [HK.out,keyT,if_neg hk])
   have d1:(kind ==1)=false:=by simp [hk]
   have d2:decide (kind=1)=false:=by simp [hk]
   clear hk;go_wp2_with fail;go_ret2;rw [HO.out];exact ⟨rfl,HB1.out⟩
open Go.RowKit
theorem implReadThing_any (fs:List (ByteArray×Int)) (hl:fs.length<=1048576) (hn:∀f∈fs,f.1.size<=1048576) (t:ByteArray) (ht:t.size<=1048576) (v:Value) (w:World) (hr:RowAt w 2 v fs.length (flds fs)):
  Calls Tryz.prog 87 #[v,.string t] w fun e w'=>∃u vs ok,e= .returned (.tuple #[u,.bool ok])/\w'.ownsRow w.heap.size 144 2 u vs.length (puts vs)/\ReadTh fs t vs ok/\Below w.heap.size w w':=by
 obtain ⟨i0,hi,hz0,hz1,hz2⟩:=info_parts Tryz.infoVal;have HS:=hide (implSchemaOk_any fs hl hn v w hr);have HRv:=hide hr;obtain ⟨-,fa,fcap,rfl,h2⟩:=hr;have HR:=hide h2;have HNf:=hide hn;clear h2 hn
 cases hsk:schemaOkB fs with
 | false=>
  rw [hsk] at HS
  have HNo:Hid (∀us,¬IsTh fs t us):=hide (fun us hg=>by
   have:=(thing_yes hg.1).1
   rw [hsk] at this;cases this)
  clear hsk;go_enter Tryz.func87,Tryz.ntmps87;go_wp2_with fail;refine HS.out.mono ?_;rintro e w2 ⟨rfl,hb2⟩;have HB2:=hide hb2;clear hb2;go_wp2_with fail;go_ret2;exact ⟨_,[],false,rfl,own_vals0 _ _ HB2.out.size,Or.inr ⟨rfl,rfl,HNo.out⟩,HB2.out.alloc HB2.out.size _⟩
 | true=>
  rw [hsk] at HS;have HY:=hide (schema_yes hsk);clear hsk;go_enter Tryz.func87,Tryz.ntmps87;go_wp2_with fail;refine HS.out.mono ?_;rintro e w1 ⟨rfl,hb1⟩;have HB1:=hide hb1;have HOw:=hide (own_vals0 w1 w.heap.size hb1.size)
  have HBa:Hid (∀o,Below w.heap.size w (w1.alloc o)):=hide (fun o=>hb1.alloc hb1.size _)
  clear hb1;go_wp2_with fail
  go_loopg [6,7,20] fs.length (fun r ov pv iv wr=>∃(vs:List (Int×ByteArray)) (p:Nat),vs.length<=fs.length/\p<=t.size/\pv= .int .i64 (p:Int)/\iv= .int .i64 (vs.length:Int)/\r+vs.length=fs.length/\wr.ownsRow w.heap.size 144 2 ov vs.length (puts vs)/\Hid (Below w.heap.size w wr)/\Hid (ThTry fs t vs p/\ThHas fs t vs p))
  case atStart=>exact ⟨[],0,by simp,by omega,rfl,rfl,rfl,HOw.out,hide (HBa.out _),hide ⟨thTry_nil fs t,thHas_nil fs t⟩⟩
  case round=>
   obtain ⟨vs,p,hvl,hp,rfl,rfl,hgk,hown,HB,HT⟩:=hrel;have HG:=hide hgk;have HOn:=hide hown;have hws:=HB.out.size;have h3:=HY.out.2.1
   obtain ⟨a,cap,hov⟩:∃a cap,u6= .slice a vs.length cap:=by obtain ⟨-,a,cap,e,-⟩:=row_of_own hown;exact ⟨a,cap,e⟩
   subst hov;clear hgk hown
   by_cases hlf:vs.length<fs.length
   ·rcases HR.out with h0 | ⟨b,off,rfl,hbl,hc⟩
    ·omega
    ·obtain ⟨k,hkk⟩:∃k,k=fs[vs.length].2:=⟨_,rfl⟩
     obtain ⟨y,hy⟩:∃y,y=fs[vs.length].1:=⟨_,rfl⟩
     have hf0:wr.cell? ⟨b,off+vs.length * 2,none⟩=some (.string y):=by rw [HB.out.cell (by exact hbl),hc (vs.length * 2) (by omega),(flds_at fs vs.length hlf).1,hy]
     have hf1:wr.cell? ⟨b,off+vs.length * 2+1,none⟩=some (.int .i64 k):=by rw [HB.out.cell (by exact hbl),Nat.add_assoc,hc (vs.length * 2+1) (by omega),(flds_at fs vs.length hlf).2,hkk]
     have hi0:(0:Int)<=(vs.length:Int):=by omega
     have hi1:(vs.length:Int)<(fs.length:Int):=by omega
     have HC:=hide (readValue_any k t ht p);obtain ⟨wa,hwa⟩:∃wa,wa=wr.alloc (Obj.cells #[.string y,.int .i64 k] 146):=⟨_,rfl⟩
     have HWb:Hid (Below wr.heap.size wr wa):=hide (by rw [hwa];exact (Below.refl _ _).alloc (Nat.le_refl _) _)
     clear hc hy
     cases ho:rdVal k t p with
     | none=>
      rw [ho,tupVal] at HC
      have HNo:Hid (∀us,¬IsTh fs t us):=hide (thTry_none HT.out.1 hlf (by rw [<-hkk];exact ho))
      clear ho hkk;go_wp2_with fail;rw [<-hwa];refine (HC.out _).mono ?_;rintro e w2 ⟨rfl,hb2⟩;have hbx:Below wr.heap.size wr w2:=HWb.out.trans (hb2.mono HWb.out.size);have HB2:Hid (Below w.heap.size w w2):=hide (HB.out.trans (hbx.mono HB.out.size));clear hb2 hbx hwa hf0 hf1
      have HB3:Hid (∀o,Below w.heap.size w (w2.alloc o)):=hide (fun o=>HB2.out.alloc HB2.out.size _)
      go_wp2_with fail;go_ret2
      exact ⟨_,[],false,rfl,by simpa using own_vals0 (w2.alloc _) _ (HB3.out _).size,Or.inr ⟨rfl,rfl,HNo.out⟩,(HB3.out _).alloc (HB3.out _).size _⟩
     | some r=>
      obtain ⟨⟨un,ux⟩,q⟩:=r;rw [ho,tupVal] at HC;obtain ⟨k1,k2,-,-⟩:=rdVal_back ho
      have HT2:Hid (ThTry fs t (vs++ [(un,ux)]) q/\ThHas fs t (vs++ [(un,ux)]) q):=hide ⟨thTry_some HT.out.1 hlf (by rw [<-hkk];exact ho),thHas_some HT.out.2 hlf (by rw [<-hkk];exact ho)⟩
      clear ho hkk;go_wp2_with fail;rw [<-hwa];refine (HC.out _).mono ?_;rintro e w2 ⟨rfl,hb2⟩;have hbx:Below wr.heap.size wr w2:=HWb.out.trans (hb2.mono HWb.out.size);have HB2:Hid (Below w.heap.size w w2):=hide (HB.out.trans (hbx.mono HB.out.size));have HO2:=hide (own_stays HOn.out hbx);have hws2:=HB2.out.size;clear hb2 hbx hwa hf0 hf1;obtain ⟨w3,hw3⟩:∃w3,w3=w2.alloc (Obj.cells #[.int .i64 un,.string ux] 144):=⟨_,rfl⟩
      have HS3:Hid (w2.heap.size+1=w3.heap.size):=hide (by rw [hw3];simp)
      have HO3:Hid (w3.ownsRow w.heap.size 144 2 (.slice a vs.length cap) vs.length (puts vs)):=hide (by rw [hw3];exact HO2.out.alloc _)
      have HB3:Hid (Below w.heap.size w w3):=hide (by rw [hw3];exact HB2.out.alloc hws2 _)
      have hs3:=HB3.out.size
      go_wp2_with (at_builtin;(rw [<-hw3];refine wpList_append_row _ rfl _ _ 102 rfl w.heap.size 144 i0 (.agg #[.int .i64 0,.string ⟨#[]⟩]) 2 24 Tryz.underlying102 hi hz0 hz1 hz2 rfl (by decide) _ _ _ rfl (HO3.out.alloc _) _ 1 (puts [(un,ux)]) rfl (val_at w3 (w2.heap.size+1) HS3.out un ux) (vals_one _) ?_ ?_ ?_ ?_))
      ·unfold maxLen;omega
      ·omega
      ·simp;omega
      intro y6 d6 w6 hown6 hg6
      try rw [<-hw3] at hg6
      have hown7:w6.ownsRow w.heap.size 144 2 (.slice y6 (vs.length+1) d6) (vs++ [(un,ux)]).length (puts (vs++ [(un,ux)])):=by
       rw [<-vals_snoc,List.length_append];exact hown6
      have HB6:Hid (Below w.heap.size w w6):=hide ((HB3.out.alloc hs3 _).grown hg6 (by simp;omega) (fun k hk=>(HO3.out.lt k hk).1))
      clear hown6 hg6 hw3;go_wp2_with fail
      go_roundg (gk - 1)
      case measure=>have:=HG.out;omega
      case rel=>exact ⟨vs++ [(un,ux)],q,by simp;omega,k2,rfl,by rw [List.length_append];go_num,by have:=HG.out;simp;omega,hown7,HB6,HT2⟩
   ·have HE:Hid (∀us,IsTh fs t us->us=vs/\p=t.size):=hide (thTry_end HT.out.1 (by omega))
    have HSp:=hide (implThingOk_any fs vs hl HNf.out (by omega) (fun f hf=>Nat.le_trans (HT.out.2.2.2 f hf) (by omega)) (.slice fa fs.length fcap) (.slice a vs.length cap) wr (row_below HRv.out HB.out) (row_of_own HOn.out))
    by_cases hpe:p=t.size
    ·have HTx:Hid (thT fs vs=t):=hide (by rw [HT.out.2.2.1,extract_allT t p (by omega)])
     have de:((p:Int) !=(t.size:Int))=false:=by rw [hpe];simp
     cases hok:thingOkB fs vs with
     | false=>
      rw [hok] at HSp
      have HNo:Hid (∀us,¬IsTh fs t us):=hide (fun us hg=>by
       have:=(HE.out us hg).1;subst this
       rw [hg.1] at hok;cases hok)
      clear hok hpe;go_wp2_with fail;refine HSp.out.mono ?_;rintro e w2 ⟨rfl,hb2⟩;have HB2:Hid (Below w.heap.size w w2):=hide (HB.out.trans (hb2.mono HB.out.size));clear hb2;go_wp2_with fail;go_ret2;exact ⟨_,[],false,rfl,own_vals0 _ _ HB2.out.size,Or.inr ⟨rfl,rfl,HNo.out⟩,HB2.out.alloc HB2.out.size _⟩
     | true=>
      rw [hok] at HSp;have HYs:Hid (IsTh fs t vs):=hide ⟨hok,HTx.out⟩;clear hok hpe;go_wp2_with fail;refine HSp.out.mono ?_;rintro e w2 ⟨rfl,hb2⟩;have HB2:Hid (Below w.heap.size w w2):=hide (HB.out.trans (hb2.mono HB.out.size));have HO2:=hide (own_stays HOn.out hb2);clear hb2;go_wp2_with fail;go_ret2
      exact ⟨_,vs,true,rfl,HO2.out,Or.inl ⟨rfl,HYs.out,fun us hg=>(HE.out us hg).1⟩,HB2.out⟩
    ·have HNo:Hid (∀us,¬IsTh fs t us):=hide (fun us hg=>hpe (HE.out us hg).2)
     have de:((p:Int) !=(t.size:Int))=true:=by simp;omega
     clear hpe;go_wp2_with fail;go_ret2;exact ⟨_,[],false,rfl,own_vals0 _ _ HB.out.size,Or.inr ⟨rfl,rfl,HNo.out⟩,HB.out.alloc HB.out.size _⟩
end Go.Proofs.YtjmgdmdleamenaaGreatDoor
namespace Go.Proofs
open Go.Shelf
def Tryz.lays99_ren:Go.Shelf.Ren:=⟨fun | 99=>56 | 206=>84 | n=>n,fun | 9=>9 | 4=>4 | 3=>3 | n=>n,fun | n=>n⟩
theorem Tryz.lays99:Go.Proofs.Lays.n99 Tryz.prog Tryz.lays99_ren:={
 mixed:=by kernel_rfl
 f99:=Tryz.func56.trans (congrArg some (by kernel_rfl))
 f206:=Tryz.func84.trans (congrArg some (by kernel_rfl))
 t3:=Tryz.underlying3
 a3:=Tryz.isAgg3
 z3:=Tryz.sizeOf3
 v3:=Tryz.zeroValue3
 t4:=Tryz.underlying4
 a4:=Tryz.isAgg4
 z4:=Tryz.sizeOf4
 v4:=Tryz.zeroValue4
 t9:=Tryz.underlying9
 a9:=Tryz.isAgg9
 z9:=Tryz.sizeOf9
 v9:=Tryz.zeroValue9}
open Go.RowKit Go.Lib in
theorem Tryz.strings_HasPrefix (s p:ByteArray) (w:World):
  Calls Tryz.prog 56 #[.string s,.string p] w fun e w'=>e= .returned (.bool (Lib.hasPrefix s.data.toList p.data.toList))/\w'=w:=Any.strings_HasPrefix Tryz.lays99 s p w
def Tryz.lays219_ren:Go.Shelf.Ren:=⟨fun | 219=>145 | 217=>176 | 225=>177 | 224=>178 | 267=>179 | 266=>193 | 314=>194 | n=>n,fun | 9=>9 | 3=>3 | 4=>4 | 5=>5 | 46=>164 | 146=>252 | 51=>196 | n=>n,fun | 1=>0 | n=>n⟩
theorem Tryz.lays219:Go.Proofs.Lays.n219 Tryz.prog Tryz.lays219_ren:={
 mixed:=by kernel_rfl
 f217:=Tryz.func176.trans (congrArg some (by kernel_rfl))
 f219:=Tryz.func145.trans (congrArg some (by kernel_rfl))
 f224:=Tryz.func178.trans (congrArg some (by kernel_rfl))
 f225:=Tryz.func177.trans (congrArg some (by kernel_rfl))
 f266:=Tryz.func193.trans (congrArg some (by kernel_rfl))
 f267:=Tryz.func179.trans (congrArg some (by kernel_rfl))
 f314:=Tryz.func194.trans (congrArg some (by kernel_rfl))
 t3:=Tryz.underlying3
 a3:=Tryz.isAgg3
 z3:=Tryz.sizeOf3
 v3:=Tryz.zeroValue3
 t4:=Tryz.underlying4
 a4:=Tryz.isAgg4
 z4:=Tryz.sizeOf4
 v4:=Tryz.zeroValue4
 t5:=Tryz.underlying5
 a5:=Tryz.isAgg5
 z5:=Tryz.sizeOf5
 v5:=Tryz.zeroValue5
 t9:=Tryz.underlying9
 a9:=Tryz.isAgg9
 z9:=Tryz.sizeOf9
 v9:=Tryz.zeroValue9
 t46:=Tryz.underlying164
 a46:=Tryz.isAgg164
 z46:=Tryz.sizeOf164
 v46:=Tryz.zeroValue164
 t51:=Tryz.underlying196
 a51:=Tryz.isAgg196
 z51:=Tryz.sizeOf196
 v51:=Tryz.zeroValue196
 t146:=Tryz.underlying252
 a146:=Tryz.isAgg252
 z146:=Tryz.sizeOf252
 v146:=Tryz.zeroValue252
 g1:=by kernel_rfl}
open Go.RowKit Go.Lib in
theorem Tryz.stringslite_Index_one (s:ByteArray) (c:UInt8) (w:World):
  Calls Tryz.prog 145 #[.string s,.string ⟨#[c]⟩] w fun e w'=>e= .returned (.int .i64 (Lib.indexByte s.data.toList c))/\w'=w:=Any.stringslite_Index_one Tryz.lays219 s c w
end Go.Proofs
namespace Go.Proofs
open Go.Shelf
def Tryz.lays190_ren:Go.Shelf.Ren:=⟨fun | 190=>89 | 125=>83 | 258=>128 | 128=>117 | 129=>118 | 302=>153 | 303=>154 | 304=>155 | 305=>156 | 306=>157 | 307=>158 | 308=>159 | 309=>160 | 310=>161 | 333=>184 | 329=>140 | 330=>141 | 334=>185 | 335=>186 | 336=>187 | 344=>198 | n=>n,fun | 31=>22 | 9=>9 | 3=>3 | 46=>164 | 0=>0 | 51=>196 | 53=>198 | 4=>4 | 183=>188 | 182=>187 | 131=>193 | 5=>5 | 218=>209 | 222=>213 | 228=>237 | 229=>238 | n=>n,fun | n=>n⟩
theorem Tryz.lays190:Go.Proofs.Lays.n190 Tryz.prog Tryz.lays190_ren:={
 mixed:=by kernel_rfl
 f125:=Tryz.func83.trans (congrArg some (by kernel_rfl))
 f128:=Tryz.func117.trans (congrArg some (by kernel_rfl))
 f129:=Tryz.func118.trans (congrArg some (by kernel_rfl))
 f190:=Tryz.func89.trans (congrArg some (by kernel_rfl))
 f258:=Tryz.func128.trans (congrArg some (by kernel_rfl))
 f302:=Tryz.func153.trans (congrArg some (by kernel_rfl))
 f303:=Tryz.func154.trans (congrArg some (by kernel_rfl))
 f304:=Tryz.func155.trans (congrArg some (by kernel_rfl))
 f305:=Tryz.func156.trans (congrArg some (by kernel_rfl))
 f306:=Tryz.func157.trans (congrArg some (by kernel_rfl))
 f307:=Tryz.func158.trans (congrArg some (by kernel_rfl))
 f308:=Tryz.func159.trans (congrArg some (by kernel_rfl))
 f309:=Tryz.func160.trans (congrArg some (by kernel_rfl))
 f310:=Tryz.func161.trans (congrArg some (by kernel_rfl))
 f329:=Tryz.func140.trans (congrArg some (by kernel_rfl))
 f330:=Tryz.func141.trans (congrArg some (by kernel_rfl))
 f333:=Tryz.func184.trans (congrArg some (by kernel_rfl))
 f334:=Tryz.func185.trans (congrArg some (by kernel_rfl))
 f335:=Tryz.func186.trans (congrArg some (by kernel_rfl))
 f336:=Tryz.func187.trans (congrArg some (by kernel_rfl))
 f344:=Tryz.func198.trans (congrArg some (by kernel_rfl))
 t0:=Tryz.underlying0
 a0:=Tryz.isAgg0
 z0:=Tryz.sizeOf0
 v0:=Tryz.zeroValue0
 t3:=Tryz.underlying3
 a3:=Tryz.isAgg3
 z3:=Tryz.sizeOf3
 v3:=Tryz.zeroValue3
 t4:=Tryz.underlying4
 a4:=Tryz.isAgg4
 z4:=Tryz.sizeOf4
 v4:=Tryz.zeroValue4
 t5:=Tryz.underlying5
 a5:=Tryz.isAgg5
 z5:=Tryz.sizeOf5
 v5:=Tryz.zeroValue5
 t9:=Tryz.underlying9
 a9:=Tryz.isAgg9
 z9:=Tryz.sizeOf9
 v9:=Tryz.zeroValue9
 t31:=Tryz.underlying22
 a31:=Tryz.isAgg22
 z31:=Tryz.sizeOf22
 v31:=Tryz.zeroValue22
 t46:=Tryz.underlying164
 a46:=Tryz.isAgg164
 z46:=Tryz.sizeOf164
 v46:=Tryz.zeroValue164
 t51:=Tryz.underlying196
 a51:=Tryz.isAgg196
 z51:=Tryz.sizeOf196
 v51:=Tryz.zeroValue196
 t53:=Tryz.underlying198
 a53:=Tryz.isAgg198
 z53:=Tryz.sizeOf198
 v53:=Tryz.zeroValue198
 t131:=Tryz.underlying193
 a131:=Tryz.isAgg193
 z131:=Tryz.sizeOf193
 v131:=Tryz.zeroValue193
 t182:=Tryz.underlying187
 a182:=Tryz.isAgg187
 z182:=Tryz.sizeOf187
 v182:=Tryz.zeroValue187
 t183:=Tryz.underlying188
 a183:=Tryz.isAgg188
 z183:=Tryz.sizeOf188
 v183:=Tryz.zeroValue188
 t218:=Tryz.underlying209
 a218:=Tryz.isAgg209
 z218:=Tryz.sizeOf209
 v218:=Tryz.zeroValue209
 t222:=Tryz.underlying213
 a222:=Tryz.isAgg213
 z222:=Tryz.sizeOf213
 v222:=Tryz.zeroValue213
 t228:=Tryz.underlying237
 a228:=Tryz.isAgg237
 z228:=Tryz.sizeOf237
 v228:=Tryz.zeroValue237
 t229:=Tryz.underlying238
 a229:=Tryz.isAgg238
 z229:=Tryz.sizeOf238
 v229:=Tryz.zeroValue238}
open Go.Sort Go.RowKit in
theorem Tryz.slices_Sort_string (blk off cap:Nat) (ss:List (List UInt8)) (w:World) (hH:Holds encStr w blk off ss.toArray) (hblk:blk<w.heap.size) (hsz:ss.length<4611686018427387904):
  Calls Tryz.prog 89 #[.slice (some ⟨blk,off,none⟩) ss.length cap] w fun e w'=>
   e= .returned (.tuple #[])/\∃n os,w'=grow (putRow encStr (Sort.ahead w n) blk off (ss.mergeSort fun x y=>decide (x<=y)).toArray) os:=Any.slices_Sort_string Tryz.lays190 blk off cap ss w hH hblk hsz
open Go.RowKit Go.Sort in
theorem Tryz.slices_Sort_string_none (p:Option Addr) (cap:Nat) (w:World):
  Calls Tryz.prog 89 #[.slice p 0 cap] w fun e w'=>e= .returned (.tuple #[])/\w'=w:=Any.slices_Sort_string_none Tryz.lays190 p cap w
def Tryz.lays194_ren:Go.Shelf.Ren:=⟨fun | 194=>90 | n=>n,fun | 31=>22 | 9=>9 | 3=>3 | 4=>4 | 0=>0 | n=>n,fun | n=>n⟩
theorem Tryz.lays194:Go.Proofs.Lays.n194 Tryz.prog Tryz.lays194_ren:={
 mixed:=by kernel_rfl
 f194:=Tryz.func90.trans (congrArg some (by kernel_rfl))
 t0:=Tryz.underlying0
 a0:=Tryz.isAgg0
 z0:=Tryz.sizeOf0
 v0:=Tryz.zeroValue0
 t3:=Tryz.underlying3
 a3:=Tryz.isAgg3
 z3:=Tryz.sizeOf3
 v3:=Tryz.zeroValue3
 t4:=Tryz.underlying4
 a4:=Tryz.isAgg4
 z4:=Tryz.sizeOf4
 v4:=Tryz.zeroValue4
 t9:=Tryz.underlying9
 a9:=Tryz.isAgg9
 z9:=Tryz.sizeOf9
 v9:=Tryz.zeroValue9
 t31:=Tryz.underlying22
 a31:=Tryz.isAgg22
 z31:=Tryz.sizeOf22
 v31:=Tryz.zeroValue22}
open Go.RowKit Go.Lib Go.Sort in
theorem Tryz.slices_Compact_string (blk off cap:Nat) (zs:List (List UInt8)) (w:World) (hH:Holds encStr w blk off zs.toArray) (hsz:zs.length<=9223372036854775807) (hcap:zs.length<=cap):
  Calls Tryz.prog 90 #[.slice (some ⟨blk,off,none⟩) zs.length cap] w fun e w'=>e= .returned (.slice (some ⟨blk,off,none⟩) (Lib.compact zs).length cap)/\∃q,w'=putRow encStr (Sort.ahead w q) blk off (Lib.compact zs++List.replicate (zs.length - (Lib.compact zs).length) []).toArray:=Any.slices_Compact_string Tryz.lays194 blk off cap zs w hH hsz hcap
open Go.RowKit Go.Lib Go.Sort in
theorem Tryz.slices_Compact_string_empty (a:Option Addr) (cap:Nat) (w:World):
  Calls Tryz.prog 90 #[.slice a 0 cap] w fun e w'=>e= .returned (.slice a 0 cap)/\w'=w:=Any.slices_Compact_string_empty Tryz.lays194 a cap w
def Tryz.lays193_ren:Go.Shelf.Ren:=⟨fun | 193=>58 | n=>n,fun | 31=>22 | 9=>9 | 4=>4 | 3=>3 | 0=>0 | n=>n,fun | n=>n⟩
theorem Tryz.lays193:Go.Proofs.Lays.n193 Tryz.prog Tryz.lays193_ren:={
 mixed:=by kernel_rfl
 f193:=Tryz.func58.trans (congrArg some (by kernel_rfl))
 t0:=Tryz.underlying0
 a0:=Tryz.isAgg0
 z0:=Tryz.sizeOf0
 v0:=Tryz.zeroValue0
 t3:=Tryz.underlying3
 a3:=Tryz.isAgg3
 z3:=Tryz.sizeOf3
 v3:=Tryz.zeroValue3
 t4:=Tryz.underlying4
 a4:=Tryz.isAgg4
 z4:=Tryz.sizeOf4
 v4:=Tryz.zeroValue4
 t9:=Tryz.underlying9
 a9:=Tryz.isAgg9
 z9:=Tryz.sizeOf9
 v9:=Tryz.zeroValue9
 t31:=Tryz.underlying22
 a31:=Tryz.isAgg22
 z31:=Tryz.sizeOf22
 v31:=Tryz.zeroValue22}
open Go.RowKit Go.Lib in
theorem Tryz.slices_Equal_string (b1 o1 n c b2 o2 m d:Nat) (xs ys:List ByteArray) (w:World) (hx:n<=xs.length) (hy:m<=ys.length) (hbig:n<=9223372036854775807) (hbig2:m<=9223372036854775807) (hc1:∀j,j<xs.length->w.cell? ⟨b1,o1+j,none⟩=some (.string (xs.getD j ByteArray.empty))) (hc2:∀j,j<ys.length->w.cell? ⟨b2,o2+j,none⟩=some (.string (ys.getD j ByteArray.empty))):
  Calls Tryz.prog 58 #[.slice (some ⟨b1,o1,none⟩) n c,.slice (some ⟨b2,o2,none⟩) m d] w fun e w'=>e= .returned (.bool (decide (xs.take n=ys.take m)))/\∃q,w'=w.drewN q:=Any.slices_Equal_string Tryz.lays193 b1 o1 n c b2 o2 m d xs ys w hx hy hbig hbig2 hc1 hc2
open Go.RowKit Go.Lib in
theorem Tryz.slices_Equal_string_empty (a1 a2:Option Addr) (c m d:Nat) (w:World) (hbig2:m<=9223372036854775807):
  Calls Tryz.prog 58 #[.slice a1 0 c,.slice a2 m d] w fun e w'=>e= .returned (.bool (decide (m=0)))/\w'=w:=Any.slices_Equal_string_empty Tryz.lays193 a1 a2 c m d w hbig2
end Go.Proofs
namespace Go.Proofs.YtjmgdmdleamenaaGreatDoor
open Go.RowKit
theorem implIndexKeys_any (fs:List (ByteArray×Int)) (vs:List (Int×ByteArray)) (hth:thingOkB fs vs=true) (c k:ByteArray) (hc:c.size<=1000000) (hk:k.size<=1000000) (vf vv:Value) (w:World) (hrf:RowAt w 2 vf fs.length (flds fs)) (hrv:RowAt w 2 vv vs.length (puts vs)):
  Calls Tryz.prog 88 #[.string c,.string k,vf,vv] w fun e w'=>∃u,e= .returned u/\w'.ownsRow w.heap.size 9 1 u (keysL c k fs vs).length (strs (keysL c k fs vs))/\Below w.heap.size w w':=by
 obtain ⟨i0,hi,hz0,hz1,hz2⟩:=info_parts Tryz.infoStrK;obtain ⟨hvl,hf3,hns,hvs⟩:=thing_small hth;obtain ⟨-,fa,fcap,rfl,h2⟩:=hrf;obtain ⟨-,va,vcap,rfl,h3⟩:=hrv;have HR:=hide h2;have HQ:=hide h3;have HNs:=hide hns;have HVs:=hide hvs;obtain ⟨w1,hw1⟩:∃w1,w1=w.alloc (Obj.cells #[] 9):=⟨_,rfl⟩
 have HB1:Hid (Below w.heap.size w w1):=hide (by rw [hw1];exact (Below.refl _ _).alloc (Nat.le_refl _) _)
 have HO1:Hid (w1.ownsRow w.heap.size 9 1 (.slice (some ⟨w.heap.size,0,none⟩) 0 0) 0 (strs [])):=hide (by rw [hw1];exact ⟨rfl,Or.inr ⟨_,0,#[],rfl,Nat.le_refl _,heap_alloc_new w _,Nat.le_refl _,Nat.zero_le _,rfl,rfl⟩⟩)
 obtain ⟨n,hn⟩:∃n,n=fs.length:=⟨_,rfl⟩;have HN:Hid (n=fs.length/\vs.length=fs.length):=hide ⟨hn,hvl⟩
 have HKl:Hid ((keysL c k fs vs).length=n):=hide (by rw [keysL_len,hn,hvl];omega)
 rw [hvl];rw [<-hn] at hf3⊢;clear h2 h3 hth hns hvs hvl hn;go_enter Tryz.func88,Tryz.ntmps88;go_wp2_with fail;rw [<-hw1];clear hw1
 go_loopg [9,17] n (fun q ov iv wr=>∃(i:Nat) (x:Option Addr) (d:Nat),i<=n/\q+i=n/\ov= .slice x i d/\iv= .int .i64 (i:Int)/\Hid (wr.ownsRow w.heap.size 9 1 (.slice x i d) i (strs ((keysL c k fs vs).take i)))/\Hid (Below w.heap.size w wr))
 case atStart=>exact ⟨0,_,_,Nat.zero_le _,by omega,rfl,rfl,HO1,HB1⟩
 case round=>
  clear HO1 HB1;obtain ⟨i,x,d,hin,hq,rfl,rfl,HO,HB⟩:=hrel;have HG:=hide hq;clear hq
  by_cases hlt:i<n
  ·have hlf:i<fs.length:=by rw [<-HN.out.1];exact hlt
   have hlv:i<vs.length:=by rw [HN.out.2];exact hlf
   rcases HR.out with h0 | ⟨b,off,rfl,hbl,hcf⟩
   ·omega
   rcases HQ.out with h0 | ⟨b',off',rfl,hbl',hcv⟩
   ·omega
   obtain ⟨y,hy⟩:∃y,y=fs[i].1:=⟨_,rfl⟩;obtain ⟨q,hq⟩:∃q,q=fs[i].2:=⟨_,rfl⟩;obtain ⟨p,hp⟩:∃p,p=vs[i].1:=⟨_,rfl⟩;obtain ⟨t,ht⟩:∃t,t=vs[i].2:=⟨_,rfl⟩
   have hc0:wr.cell? ⟨b,off+i * 2,none⟩=some (.string y):=by rw [HB.out.cell (by exact hbl),hcf (i * 2) (by omega),(flds_at fs i hlf).1,hy]
   have hc1:wr.cell? ⟨b,off+i * 2+1,none⟩=some (.int .i64 q):=by rw [HB.out.cell (by exact hbl),Nat.add_assoc,hcf (i * 2+1) (by omega),(flds_at fs i hlf).2,hq]
   have hd0:wr.cell? ⟨b',off'+i * 2,none⟩=some (.int .i64 p):=by rw [HB.out.cell (by exact hbl'),hcv (i * 2) (by omega),(puts_at vs i hlv).1,hp]
   have hd1:wr.cell? ⟨b',off'+i * 2+1,none⟩=some (.string t):=by rw [HB.out.cell (by exact hbl'),Nat.add_assoc,hcv (i * 2+1) (by omega),(puts_at vs i hlv).2,ht]
   have hbw:b<wr.heap.size:=Nat.lt_of_lt_of_le hbl HB.out.size;have hbw':b'<wr.heap.size:=Nat.lt_of_lt_of_le hbl' HB.out.size;obtain ⟨hvb,hts,hos⟩:=HVs.out i hlf hlv;have hys:=HNs.out i hlf;rw [<-hy] at hys;rw [<-hq,<-hp,<-ht] at hvb hos;rw [<-ht] at hts
   have HV:=hide (fun wx=>implKeyText_any q p t (by omega) wx)
   obtain ⟨o,ho⟩:∃o,o=keyO q p t:=⟨_,rfl⟩;rw [<-ho] at HV hos;rw [hvb] at HV
   have HIx:=hide (fun wx=>implIndexKey_any c y o k (by omega) (by omega) (by omega) (by omega) wx)
   obtain ⟨z,hz⟩:∃z,z=idxK c y o k:=⟨_,rfl⟩;rw [<-hz] at HIx
   have HUp:Hid ((keysL c k fs vs).take (i+1)=(keysL c k fs vs).take i++ [z]):=hide (by rw [keysL_at i hlf hlv,hz,ho,hy,hq,hp,ht])
   have hk0:(0:Int)<=(i:Int):=by omega
   have hk1:(i:Int)<(n:Int):=by omega
   have hws:=HB.out.size;obtain ⟨G,hG⟩:∃G,G=wr.heap.size:=⟨_,rfl⟩;obtain ⟨wa,hwa⟩:∃wa,wa=wr.alloc (Obj.cells #[.string y,.int .i64 q] 146):=⟨_,rfl⟩
   have hba:Below wr.heap.size wr wa:=by rw [hwa];exact (Below.refl _ _).alloc (Nat.le_refl _) _
   have hga:wa.heap[G]?=some (Obj.cells #[.string y,.int .i64 q] 146):=by rw [hwa,hG];exact heap_alloc_new wr _
   have hza:wa.heap.size=G+1:=by rw [hwa,hG];simp
   have HBa:Hid (Below w.heap.size w wa):=hide (HB.out.trans (hba.mono hws))
   have HOa:Hid (wa.ownsRow w.heap.size 9 1 (.slice x i d) i (strs ((keysL c k fs vs).take i))):=hide (by rw [hwa];exact HO.out.alloc _)
   have HSw:Hid (∀wx,Below wa.heap.size wa wx->wx.cell? ⟨G,0,none⟩=some (.string y)/\wx.cell? ⟨G,1,none⟩=some (.int .i64 q)/\wx.cell? ⟨b',off'+i * 2,none⟩=some (.int .i64 p)/\wx.cell? ⟨b',off'+i * 2+1,none⟩=some (.string t)):=hide (fun wx hb=>by
    have h:=(hb.block G (by omega)).trans hga
    have hl:b'<wa.heap.size:=by omega
    exact ⟨(cell_at h 0).1,(cell_at h 1).1,(hb.cell (by exact hl)).trans ((hba.cell (by exact hbw')).trans hd0),(hb.cell (by exact hl)).trans ((hba.cell (by exact hbw')).trans hd1)⟩)
   clear hcf hcv hy hq hp ht hvb ho hz hlf hlv hbl hbl' hys hts hos hba hga hza hd0 hd1 HO HB;go_wp2_with fail;rw [<-hwa,<-hG];clear hwa hG hc0 hc1;have hS0:=(HSw.out wa (Below.refl _ _)).2
   go_region_held3 (fun wx=>wx.cell? ⟨G,1,none⟩=some (.int .i64 q)/\wx.cell? ⟨b',off'+i * 2,none⟩=some (.int .i64 p)/\wx.cell? ⟨b',off'+i * 2+1,none⟩=some (.string t)) (first | exact hS0 | exact hS2) ((go_at_call 126;(with_reducible refine (HV.out _).mono ?_);rintro e w1 ⟨rfl,hb2⟩;have hA2:Below wa.heap.size wa w1:=(Below.refl _ _).drew.trans hb2;have hS2:=(HSw.out w1 hA2).2))
   have hc0:=(HSw.out w1 hA2).1;have HB1:Hid (Below w.heap.size w w1):=hide (HBa.out.trans (hA2.mono HBa.out.size));have HO1:Hid (w1.ownsRow w.heap.size 9 1 (.slice x i d) i (strs ((keysL c k fs vs).take i))):=hide (own_stays HOa.out hA2);clear hA2 hS2 hb2 HSw HOa HBa hS0;go_wp2_with fail;refine (HIx.out _).mono ?_;rintro e w2 ⟨rfl,hb2⟩;have HB2:Hid (Below w.heap.size w w2):=hide (HB1.out.trans (hb2.mono HB1.out.size));have HO2:Hid (w2.ownsRow w.heap.size 9 1 (.slice x i d) i (strs ((keysL c k fs vs).take i))):=hide (own_stays HO1.out hb2);have hws2:=HB2.out.size;clear hb2 hc0 HO1 HB1
   go_wp2_with (at_builtin;refine wpList_append_own _ rfl _ _ 22 rfl w.heap.size 9 i0 (.string ⟨#[]⟩) 1 16 Tryz.underlying22 hi hz0 hz1 hz2 rfl (by decide) _ _ _ rfl (HO2.out.alloc _) ⟨w2.heap.size,0,none⟩ 1 1 [.string z] rfl rfl ?c1 ?c2 ?c3 ?c4 ?c5 ?_)
   case c1=>
    intro j u hj
    match j,hj with
    | 0,hj=>simp at hj;subst hj;simp [Addr.add]
   case c2=>intro u hu;simp at hu;subst hu;rfl
   case c3=>unfold maxLen;omega
   case c4=>omega
   case c5=>simp;omega
   intro v' w4 hown3 hgrow _;obtain ⟨x4,d4,rfl⟩:=own_slice hown3
   have HO4:Hid (w4.ownsRow w.heap.size 9 1 (.slice x4 (i+1) d4) (i+1) (strs ((keysL c k fs vs).take (i+1)))):=hide (by rw [HUp.out,show strs ((keysL c k fs vs).take i++ [z])=strs ((keysL c k fs vs).take i)++ [.string z] from by simp [strs]];exact hown3)
   have HB4:Hid (Below w.heap.size w w4):=hide ((HB2.out.alloc hws2 _).grown hgrow (by simp;omega) (fun k hk=>(HO2.out.lt k hk).1))
   clear hown3 hgrow;go_wp2_with fail
   go_roundg (gk - 1)
   case measure=>have:=HG.out;omega
   case rel=>exact ⟨i+1,x4,d4,by omega,by have:=HG.out;omega,rfl,by go_num,HO4,HB4⟩
  ·have HE:Hid ((keysL c k fs vs).take i=keysL c k fs vs/\i=(keysL c k fs vs).length):=hide ⟨List.take_of_length_le (by have:=HKl.out;omega),by have:=HKl.out;omega⟩
   rw [HE.out.1] at HO;go_wp2_with fail;go_ret;refine ⟨_,rfl,?_,HB.out⟩;rw [<-HE.out.2];exact HO.out
abbrev Bs:=List UInt8
theorem bs_trans {a b c:Bs} (h1:a<=b) (h2:b<=c):a<=c:=List.le_trans h1 h2
theorem bs_total (a b:Bs):a<=b\/b<=a:=List.le_total a b
theorem bs_anti {a b:Bs} (h1:a<=b) (h2:b<=a):a=b:=List.le_antisymm h1 h2
def Once (l:List Bs):Prop:=l.Pairwise fun x y=>x<=y/\x≠y
theorem once_one:∀{l m:List Bs},Once l->Once m->(∀x,x∈l↔x∈m)->l=m
 | [],[],_,_,_=>rfl
 | [],b :: m,_,_,h=>by have:=(h b).2 (List.mem_cons_self ..);cases this
 | a :: l,[],_,_,h=>by have:=(h a).1 (List.mem_cons_self ..);cases this
 | a :: l,b :: m,hl,hm,h=>by
  rw [Once,List.pairwise_cons] at hl hm
  have hab:a=b:=by
   rcases List.mem_cons.1 ((h a).1 (List.mem_cons_self ..)) with e | h1
   ·exact e
   ·rcases List.mem_cons.1 ((h b).2 (List.mem_cons_self ..)) with e | h2
    ·exact e.symm
    ·exact bs_anti (hl.1 b h2).1 (hm.1 a h1).1
  subst hab
  rw [once_one hl.2 hm.2 (fun x=>⟨fun hx=> ?_,fun hx=> ?_⟩)]
  ·rcases List.mem_cons.1 ((h x).1 (List.mem_cons_of_mem _ hx)) with e | h1
   ·exact absurd e.symm (hl.1 x hx).2
   ·exact h1
  ·rcases List.mem_cons.1 ((h x).2 (List.mem_cons_of_mem _ hx)) with e | h1
   ·exact absurd e.symm (hm.1 x hx).2
   ·exact h1
theorem comp_mem (d:Array Bs):∀(m:Nat) (z:Bs),z∈Lib.compactUpTo d m↔∃j,j<m/\d[j]! =z
 | 0,z=>by simp [Lib.compactUpTo]
 | m+1,z=>by
  rw [Lib.compactUpTo_succ,List.mem_append,comp_mem d m z]
  constructor
  ·rintro (⟨j,hj,e⟩ | h)
   ·exact ⟨j,by omega,e⟩
   ·split at h
    ·rw [List.mem_singleton] at h
     exact ⟨m,by omega,h.symm⟩
    ·cases h
  ·rintro ⟨j,hj,e⟩
   by_cases hjm:j<m
   ·exact Or.inl ⟨j,hjm,e⟩
   ·obtain rfl:j=m:=by omega
    by_cases hk:Lib.keeps d j=true
    ·rw [if_pos hk]
     exact Or.inr (by rw [e];exact List.mem_singleton.2 rfl)
    ·left
     have hk2:¬(j=0\/d[j]! ≠d[j - 1]!):=fun hh=>hk (decide_eq_true hh)
     have h0:j≠0:=fun h=>hk2 (Or.inl h)
     have h1:d[j]! =d[j - 1]! :=Classical.byContradiction fun h=>hk2 (Or.inr h)
     exact ⟨j - 1,by omega,by rw [<-h1];exact e⟩
theorem comp_once (d:Array Bs) (hs:∀i j,i<j->j<d.size->d[i]! <=d[j]!):∀m,m<=d.size->Once (Lib.compactUpTo d m)
 | 0,_=>by rw [Once,Lib.compactUpTo];exact List.Pairwise.nil
 | m+1,hm=>by
  rw [Lib.compactUpTo_succ,Once,List.pairwise_append]
  refine ⟨comp_once d hs m (by omega),?_,fun x hx y hy=> ?_⟩
  ·split
   ·exact List.pairwise_singleton ..
   ·exact List.Pairwise.nil
  ·split at hy
   ·rename_i hk
    rw [List.mem_singleton] at hy;subst hy;obtain ⟨j,hj,rfl⟩:=(comp_mem d m x).1 hx
    refine ⟨hs j m hj (by omega),fun e=> ?_⟩
    rcases of_decide_eq_true (show decide (m=0\/d[m]! ≠d[m - 1]!)=true from hk) with h0 | h0
    ·omega
    ·apply h0
     by_cases hjm:j=m - 1
     ·rw [<-hjm,e]
     ·exact bs_anti (by rw [<-e];exact hs j (m - 1) (by omega) (by omega)) (hs (m - 1) m (by omega) (by omega))
   ·cases hy
def cano (ss:List Bs):List Bs:=Lib.compact (ss.mergeSort fun x y=>decide (x<=y))
theorem srt_bs (ss:List Bs):(ss.mergeSort fun x y=>decide (x<=y)).Pairwise fun x y=>x<=y:=by
 have h:=List.pairwise_mergeSort (le:=fun x y:Bs=>decide (x<=y)) (fun a b c h1 h2=>decide_eq_true (bs_trans (of_decide_eq_true h1) (of_decide_eq_true h2))) (fun a b=>by
  rcases bs_total a b with h | h
  ·rw [decide_eq_true h];rfl
  ·rw [decide_eq_true h,Bool.or_true]) ss
 exact h.imp (fun h=>of_decide_eq_true h)
theorem cano_mem (ss:List Bs) (z:Bs):z∈cano ss↔z∈ss:=by
 have hp:=List.mergeSort_perm ss fun x y=>decide (x<=y)
 rw [cano,Lib.compact,comp_mem,<-hp.mem_iff]
 generalize ss.mergeSort (fun x y=>decide (x<=y))=l
 constructor
 ·rintro ⟨j,hj,rfl⟩
  simp [hj]
 ·intro h
  obtain ⟨j,hj,rfl⟩:=List.getElem_of_mem h
  exact ⟨j,hj,by simp [hj]⟩
theorem cano_once (ss:List Bs):Once (cano ss):=by
 have h:=srt_bs ss;rw [cano,Lib.compact]
 generalize ss.mergeSort (fun x y=>decide (x<=y))=l at h
 refine comp_once _ (fun i j hij hj=> ?_) _ (by simp)
 rw [List.size_toArray] at hj;rw [List.pairwise_iff_getElem] at h
 have:=h i j (by omega) hj hij
 simpa [hj,show i<l.length by omega] using this
theorem cano_same (ss ts:List Bs):cano ss=cano ts↔∀x,x∈ss↔x∈ts:=
 ⟨fun h x=>by rw [<-cano_mem ss,h,cano_mem ts],fun h=>once_one (cano_once ss) (cano_once ts) (fun x=>by rw [cano_mem,cano_mem];exact h x)⟩
theorem cano_len (ss:List Bs):(cano ss).length<=ss.length:=by
 rw [cano,Lib.compact,Lib.compactUpTo,List.length_map];refine Nat.le_trans (List.length_filter_le _ _) ?_;rw [List.length_range,List.length_mergeSort];exact Nat.le_refl _
end Go.Proofs.YtjmgdmdleamenaaGreatDoor
