/-
  Facts and contracts that the law's own text rests on, by their texts' names: Sum, ShelfClone, Clone, Seal, SumS, NodeSpec2, PutPlain, HalfPlain, BuildPl, Plain23, Plain24, RangeSep, AlSpec, PairRow, Sep, SepApp, SepWork, Draw, Draw2, NodeGrow, SepNode, TwoWays.
-/
import Derived.Below
import Derived.BigQuiet
import Derived.Deep.LoopGhost
import Derived.Deep.QuietTactic
import Derived.Laws.BitsAllLaws
import Derived.Laws.Shifts
import Derived.Outline
import Derived.WalkSmall
import Derived.WalkSpells
import Derived.Test.YtcbogiebfbbmbaaGreatDoorDa1
import Derived.Test.YtcbogiebfbbmbaaGreatDoorDa3
import Derived.Shelf.LaysM
import Derived.Shelf.Strconv.Clone
import Derived.Test.YtcbogiebfbbmbaaGreatDoorProg
import Derived.WalkKit
import Derived.Deep.RegionHeld3
import Derived.Laws.Concat
import Derived.Test.YtcbogiebfbbmbaaGreatDoorDa6
import Derived.Test.YtcbogiebfbbmbaaGreatDoorDa5
import Derived.Test.YtcbogiebfbbmbaaGreatDoorDa4
import Derived.RangeFuncBound
import Derived.RangeFuncBox
import Derived.RangeFuncCalls
import Derived.RangeFuncLeaves
import Derived.RangeFuncNested
import Derived.Deep.RegionHeld
import Derived.Deep.AppendLies
import Derived.Test.YtcbogiebfbbmbaaGreatDoorDa2
import Derived.Laws.OwnMore
import Derived.Laws.Pointers
import Derived.OwnWalk
set_option maxHeartbeats 16000000
set_option maxRecDepth 100000
namespace Go.Proofs.YtcbogiebfbbmbaaGreatDoor
open Go.RowKit
def SumTab (w:World):Prop:=∀i:Nat,i<16->w.cell? ⟨0,i,none⟩=some (.int .u32 ((tab16.getD i 0:Nat):Int))
theorem zag {w w':World} (h:SumTab w) (hb:Below w.heap.size w w'):SumTab w':=by
 intro i hi;have hc:=h i hi;have hlt:0<w.heap.size:=World.block_lt_of_cell? w _ hc;rw [World.cell?_of_block (hb.block _ hlt)];exact hc
theorem wrap32 (x:Int) (h0:0<=x) (h1:x<4294967296):IntKind.u32.wrap x=x:=by
 simp [IntKind.wrap,IntKind.signed,IntKind.bits];omega
theorem xor32 (a b:Nat) (ha:a<4294967296) (hb:b<4294967296):bits BinOp.xor IntKind.u32 (a:Int) (b:Int)=((a ^^^ b:Nat):Int):=by
 have e:bits BinOp.xor IntKind.u32 (a:Int) (b:Int)=IntKind.u32.wrap ((BitVec.ofInt 32 (a:Int) ^^^ BitVec.ofInt 32 (b:Int)).toNat:Int):=rfl;have hl:=zep a b ha hb
 have h:(BitVec.ofInt 32 (a:Int) ^^^ BitVec.ofInt 32 (b:Int)).toNat=a ^^^ b:=by
  rw [BitVec.toNat_xor,BitVec.ofInt_natCast,BitVec.ofInt_natCast,BitVec.toNat_ofNat,BitVec.toNat_ofNat,Nat.mod_eq_of_lt (by omega),Nat.mod_eq_of_lt (by omega)]
 rw [e,h,wrap32 _ (by omega) (by omega)]
theorem zjQ (a:Nat) (ha:a<4294967296):bits BinOp.and IntKind.u32 (a:Int) 15=((a % 16:Nat):Int):=by
 have e:bits BinOp.and IntKind.u32 (a:Int) 15=IntKind.u32.wrap ((BitVec.ofInt 32 (a:Int) &&& BitVec.ofInt 32 15).toNat:Int):=rfl
 have h:(BitVec.ofInt 32 (a:Int) &&& BitVec.ofInt 32 15).toNat=a % 16:=by
  rw [BitVec.toNat_and,BitVec.ofInt_natCast,BitVec.toNat_ofNat,Nat.mod_eq_of_lt (by omega)]
  exact Nat.and_two_pow_sub_one_eq_mod a 4
 rw [e,h,wrap32 _ (by omega) (by omega)]
theorem zjR (r:Nat) (h:r<16):tab16.getD r 0<4294967296:=by
 revert r
 decide
theorem zlm (c b:Nat) (hc:c<4294967296) (hb:b<256) (w:World) (hT:SumTab w):
  Calls Tryz.prog 144 #[.int .u32 (c:Int),.int .u8 (b:Int)] w fun e w'=>e= .returned (.int .u32 (sumB c b:Int))/\w=w':=by
 obtain ⟨x,hx⟩:∃x,x=c ^^^ b:=⟨_,rfl⟩
 have hxl:x<4294967296:=by rw [hx];exact zep _ _ hc (by omega)
 obtain ⟨r,hr⟩:∃r,r=x % 16:=⟨_,rfl⟩;obtain ⟨t,ht⟩:∃t,t=tab16.getD r 0:=⟨_,rfl⟩
 have htl:t<4294967296:=by rw [ht];exact zjR r (by omega)
 obtain ⟨y,hy⟩:∃y,y=half4 x:=⟨_,rfl⟩
 have hyl:y<4294967296:=by rw [hy];exact zhz x hxl
 obtain ⟨r2,hr2⟩:∃r,r=y % 16:=⟨_,rfl⟩;obtain ⟨t2,ht2⟩:∃t,t=tab16.getD r2 0:=⟨_,rfl⟩
 have ht2l:t2<4294967296:=by rw [ht2];exact zjR r2 (by omega)
 have q1:IntKind.u32.wrap (b:Int)=(b:Int):=wrap32 _ (by omega) (by omega)
 have q2:bits BinOp.xor IntKind.u32 (c:Int) (b:Int)=(x:Int):=by rw [hx];exact xor32 c b hc (by omega)
 have q3:bits BinOp.and IntKind.u32 (x:Int) 15=(r:Int):=by rw [hr];exact zjQ x hxl
 have q4:w.cell? ⟨0,r,none⟩=some (.int .u32 (t:Int)):=by rw [ht];exact hT r (by omega)
 have q5:bits BinOp.xor IntKind.u32 ((x:Int) / 16) (t:Int)=(y:Int):=by
  rw [show (x:Int) / 16=((x / 16:Nat):Int) by omega,xor32 _ _ (by omega) htl,hy,zjJ,ht,hr]
 have q6:bits BinOp.and IntKind.u32 (y:Int) 15=(r2:Int):=by rw [hr2];exact zjQ y hyl
 have q7:w.cell? ⟨0,r2,none⟩=some (.int .u32 (t2:Int)):=by rw [ht2];exact hT r2 (by omega)
 have q8:bits BinOp.xor IntKind.u32 ((y:Int) / 16) (t2:Int)=(sumB c b:Int):=by
  rw [show (y:Int) / 16=((y / 16:Nat):Int) by omega,xor32 _ _ (by omega) ht2l,ht2,hr2,<-zjJ,hy,hx];rfl
 have l1:(0:Int)<=(r:Int):=by omega
 have l2:(r:Int)<16:=by omega
 have l3:(0:Int)<=(r2:Int):=by omega
 have l4:(r2:Int)<16:=by omega
 obtain ⟨z,hz⟩:∃z,z=sumB c b:=⟨_,rfl⟩;rw [<-hz] at q8⊢;clear hx hr ht hy hr2 ht2 hz hT;go_enter Tryz.func144,Tryz.ntmps144
 go_wp2
 go_ret;exact ⟨rfl,rfl⟩
theorem zge (c:Nat) (s:ByteArray) (hc:c<4294967296) (hs:s.size<=9223372036854775807) (w:World) (hT:SumTab w):
  Calls Tryz.prog 135 #[.int .u32 (c:Int),.string s] w fun e w'=>e= .returned (.int .u32 (sumL c s.data.toList:Int))/\w=w':=by
 have HT:=hide hT;clear hT;go_enter Tryz.func135,Tryz.ntmps135
 go_wp2
 go_loopg [5,6] s.size (fun g cv iv wr=>∃k x:Nat,k<=s.size/\iv= .int .i64 (k:Int)/\g+k=s.size/\cv= .int .u32 (x:Int)/\x<4294967296/\Hid (x=sumL c (s.data.toList.take k))/\w=wr)
 case atStart=>exact ⟨0,c,Nat.zero_le _,rfl,rfl,rfl,hc,hide rfl,rfl⟩
 case round=>
  obtain ⟨k,x,hk,rfl,hg,rfl,hx,HX,rfl⟩:=hrel;have HG:=hide hg;clear hg
  by_cases hlt:k<s.size
  ·obtain ⟨y,hy⟩:∃y,y=byt s k:=⟨_,rfl⟩
   have hyb:y<256:=by rw [hy];exact zeg s k
   have hsj:s[k].toNat=y:=by rw [hy];exact zd8 s k hlt
   have HY:=hide hy;clear hy
   have hk0:(0:Int)<=(k:Int):=by omega
   have hk1:(k:Int)<(s.size:Int):=by omega
   go_wp2_with fail;refine (zlm x y hx hyb _ HT.out).mono ?_;rintro e w1 ⟨rfl,rfl⟩;have hl:=sumB_lt x y hx hyb
   have HN:Hid (sumB x y=sumL c (s.data.toList.take (k+1))):=hide (by rw [zjG s k hlt,zg8,<-HX.out,HY.out,sumL];simp [zbL _ (zeg s k)])
   go_wp2
   go_roundg (gk - 1)
   case measure=>have:=HG.out;omega
   case rel=>exact ⟨k+1,sumB x y,by omega,by go_num,by have:=HG.out;omega,rfl,hl,HN,rfl⟩
  ·have hk':s.data.toList.take k=s.data.toList:=List.take_of_length_le (by rw [Array.length_toList];have:s.data.size=s.size:=rfl;omega)
   rw [hk'] at HX
   go_wp2
   go_ret;rw [<-HX.out];exact ⟨rfl,rfl⟩
theorem zer (s:ByteArray) (hs:s.size<=9223372036854775807) (w:World) (hT:SumTab w):
  Calls Tryz.prog 107 #[.string s] w fun e w'=>e= .returned (.int .u32 (sumL 4294967295 s.data.toList:Int))/\w=w':=by
 have HT:=hide hT;clear hT;go_enter Tryz.func107,Tryz.ntmps107;go_wp2_with fail
 refine (zge 4294967295 s (by omega) hs _ HT.out).mono ?_
 rintro e w1 ⟨rfl,rfl⟩
 go_wp2
 go_ret;exact ⟨rfl,rfl⟩
theorem zln (x:Nat): [Value.int .u8 ((x / 16777216 % 256:Nat):Int),.int .u8 ((x / 65536 % 256:Nat):Int),.int .u8 ((x / 256 % 256:Nat):Int),.int .u8 ((x % 256:Nat):Int)]=Lib.byteCells (fourL x):=by
 simp [Lib.byteCells,fourL]
theorem wrap8 (a b:Nat) (h:b=a % 256):IntKind.u8.wrap (a:Int)=(b:Int):=by
 subst h
 simp [IntKind.wrap,IntKind.signed,IntKind.bits]
theorem zjS (x:Nat) (w:World):
  Calls Tryz.prog 108 #[.int .u32 (x:Int)] w fun e w'=>e= .returned (.string ⟨(fourL x).toArray⟩)/\Below w.heap.size w w':=by
 obtain ⟨a,ha⟩:∃a,a=x / 16777216 % 256:=⟨_,rfl⟩;obtain ⟨b,hb⟩:∃b,b=x / 65536 % 256:=⟨_,rfl⟩;obtain ⟨c,hc⟩:∃c,c=x / 256 % 256:=⟨_,rfl⟩;obtain ⟨d,hd⟩:∃d,d=x % 256:=⟨_,rfl⟩;have q1:IntKind.u8.wrap ((x:Int) / 16777216)=(a:Int):=wrap8 (x / 16777216) a ha;have q2:IntKind.u8.wrap ((x:Int) / 65536)=(b:Int):=wrap8 (x / 65536) b hb;have q3:IntKind.u8.wrap ((x:Int) / 256)=(c:Int):=wrap8 (x / 256) c hc;have q4:IntKind.u8.wrap (x:Int)=(d:Int):=wrap8 x d hd
 have HC:Hid ([Value.int .u8 (a:Int),.int .u8 (b:Int),.int .u8 (c:Int),.int .u8 (d:Int)]=Lib.byteCells (fourL x)):=hide (by rw [ha,hb,hc,hd];exact zln x)
 clear ha hb hc hd
 have hown:(w.alloc (Obj.cells #[.int .u8 (a:Int),.int .u8 (b:Int),.int .u8 (c:Int),.int .u8 (d:Int)] 5)).ownsRow w.heap.size 5 1 (.slice (some ⟨w.heap.size,0,none⟩) 4 4) (fourL x).length (Lib.byteCells (fourL x)):=by
  rw [<-HC.out]
  exact World.ownsRow_lit (base:=w.heap.size) (e:=5) (size:=1) w #[.int .u8 (a:Int),.int .u8 (b:Int),.int .u8 (c:Int),.int .u8 (d:Int)] 4 (Nat.le_refl _) (by unfold maxLen;omega) (by simp)
 have hcv:(convert 22 9 (.slice (some ⟨w.heap.size,0,none⟩) 4 4)).run Tryz.prog (w.alloc (Obj.cells #[.int .u8 (a:Int),.int .u8 (b:Int),.int .u8 (c:Int),.int .u8 (d:Int)] 5))= .ok (.string ⟨(fourL x).toArray⟩) (w.alloc (Obj.cells #[.int .u8 (a:Int),.int .u8 (b:Int),.int .u8 (c:Int),.int .u8 (d:Int)] 5)):=
  zdB (l:=fourL x) Tryz.underlying22 Tryz.underlying5 Tryz.underlying9 hown
 clear hown;go_enter Tryz.func108,Tryz.ntmps108
 go_wp2
 go_ret;exact ⟨rfl,(Below.refl _ _).alloc (Nat.le_refl _) _⟩
end Go.Proofs.YtcbogiebfbbmbaaGreatDoor
namespace Go.Proofs
open Go.Shelf
def Tryz.laysM316_ren:Go.Shelf.Ren:=⟨fun | 316=>89 | n=>n,fun | 9=>9 | 3=>3 | 4=>4 | 37=>22 | 0=>0 | 127=>174 | 5=>5 | n=>n,fun | n=>n⟩
theorem Tryz.laysM316:Go.Proofs.LaysM.n316 Tryz.prog Tryz.laysM316_ren:={
 mixed:=by kernel_rfl
 f316:=Tryz.func89.trans (congrArg some (by kernel_rfl))
 t0:=Tryz.underlying0
 a0:=Tryz.isAgg0
 z0:=Tryz.sizeOf0
 v0:=Tryz.zeroValue0
 t3:=Tryz.underlying3
 a3:=Tryz.isAgg3
 z3:=Tryz.sizeOf3
 v3:=Tryz.zeroValue3
 t4:=Tryz.underlying4
 a4:=Tryz.isAgg4
 z4:=Tryz.sizeOf4
 v4:=Tryz.zeroValue4
 t9:=Tryz.underlying9
 a9:=Tryz.isAgg9
 z9:=Tryz.sizeOf9
 v9:=Tryz.zeroValue9
 t37:=Tryz.underlying22
 a37:=Tryz.isAgg22
 z37:=Tryz.sizeOf22
 v37:=Tryz.zeroValue22
 t127:=Tryz.underlying174
 a127:=Tryz.isAgg174
 z127:=Tryz.sizeOf174
 v127:=Tryz.zeroValue174
 t5:=Tryz.underlying5
 a5:=Tryz.isAgg5
 z5:=Tryz.sizeOf5
 v5:=Tryz.zeroValue5
 i0:=by kernel_rfl
 i3:=by kernel_rfl
 i4:=by kernel_rfl
 i5:=by kernel_rfl
 i9:=by kernel_rfl
 i37:=by kernel_rfl
 i127:=by kernel_rfl}
open Go.RowKit in
theorem Tryz.stringslite_Clone (s:ByteArray) (w:World) (hlim:s.size<=281474976710656):
  Calls Tryz.prog 89 #[.string s] w fun e w'=>e= .returned (.string s)/\Below w.heap.size w w':=Any.stringslite_Clone Tryz.laysM316 s w hlim
end Go.Proofs
namespace Go.Proofs.YtcbogiebfbbmbaaGreatDoor
open Go.RowKit
theorem zcj (s:ByteArray) (hs:s.size<=140737488351232) (w:World):
  Calls Tryz.prog 64 #[.string s] w fun e w'=>e= .returned (.string s)/\Below w.heap.size w w':=by
 go_enter Tryz.func64,Tryz.ntmps64;go_wp2_with fail
 refine (Tryz.stringslite_Clone s _ (by omega)).mono ?_
 rintro e w1 ⟨rfl,hb⟩
 go_wp2
 go_ret;exact ⟨rfl,hb⟩
open Go.RowKit
theorem zh8 (s:ByteArray):s++⟨(fourL (sumL 4294967295 s.data.toList)).toArray⟩=(⟨(sealL s.data.toList).toArray⟩:ByteArray):=by
 apply ByteArray.ext
 simp [sealL]
def unOut (s:ByteArray):Value:=if isSealed s.data.toList=true then .tuple #[.string (s.extract 0 (s.size - 4)),.bool true] else .tuple #[.string ⟨#[]⟩,.bool false]
theorem zgV (s:ByteArray) (h:s.size<=20000) (w:World) (hT:SumTab w):
  Calls Tryz.prog 77 #[.string s] w fun e w'=>e= .returned (.tuple #[.string ⟨(sealL s.data.toList).toArray⟩,.bool true])/\Below w.heap.size w w':=by
 have HT:=hide hT;clear hT;have hf:(⟨(fourL (sumL 4294967295 s.data.toList)).toArray⟩:ByteArray).size=4:=rfl;go_enter Tryz.func77,Tryz.ntmps77;go_wp2_with fail
 refine (zer s (by omega) _ HT.out).mono ?_
 rintro e w1 ⟨rfl,rfl⟩;go_wp2_with fail;refine (zjS (sumL 4294967295 s.data.toList) _).mono ?_;rintro e w1 ⟨rfl,hb⟩
 go_wp2
 go_ret2;rw [<-zh8];exact ⟨rfl,hb⟩
theorem zaz (t:ByteArray):t.toList=t.data.toList:=ByteArray.toList_eq t
theorem zcU (s:ByteArray):s.data.toList.length=s.size:=by rw [Array.length_toList];rfl
theorem zfP (s:ByteArray) (n:Nat) (hn:s.size=n+4):(s.extract 0 n).data.toList=s.data.toList.take n/\(s.extract n s.size).data.toList=s.data.toList.drop n:=by
 constructor
 ·simp [ByteArray.data_extract]
 ·simp [ByteArray.data_extract,hn];rw [List.take_of_length_le];rw [List.length_drop,zcU];omega
theorem zfy (s:ByteArray) (hs:s.size<=1048576) (w:World) (hT:SumTab w):
  Calls Tryz.prog 81 #[.string s] w fun e w'=>e= .returned (unOut s)/\Below w.heap.size w w':=by
 have HT:=hide hT;clear hT
 by_cases h4:s.size<4
 ·have HO:Hid (unOut s= .tuple #[.string ⟨#[]⟩,.bool false]):=hide (by rw [unOut,if_neg];rw [isSealed,decide_eq_true_eq,zcU];omega)
  have hd:decide ((s.size:Int)<4)=true:=by simp;omega
  go_enter Tryz.func81,Tryz.ntmps81
  go_wp2
  go_ret2;rw [HO.out];exact ⟨rfl,Below.refl _ _⟩
 ·have hd:decide ((s.size:Int)<4)=false:=by simp;omega
  by_cases hbig:20004<s.size
  ·have HO:Hid (unOut s= .tuple #[.string ⟨#[]⟩,.bool false]):=hide (by rw [unOut,if_neg];rw [isSealed,decide_eq_true_eq,zcU];omega)
   have hd2:decide ((20004:Int)<(s.size:Int))=true:=by simp;omega
   go_enter Tryz.func81,Tryz.ntmps81
   go_wp2
   go_ret2;rw [HO.out];exact ⟨rfl,Below.refl _ _⟩
  ·have hd2:decide ((20004:Int)<(s.size:Int))=false:=by simp;omega
   obtain ⟨n,hn⟩:∃n,s.size=n+4:=⟨s.size - 4,by omega⟩
   obtain ⟨t,ht⟩:∃t,t=s.extract n s.size:=⟨_,rfl⟩;obtain ⟨x,hx⟩:∃x,x=sumL 4294967295 (s.data.toList.take n):=⟨_,rfl⟩
   have hil:(s.extract 0 n).size=n:=by rw [ByteArray.size_extract];omega
   have HC:Hid (∀wx,SumTab wx->Calls Tryz.prog 107 #[.string (s.extract 0 n)] wx fun e w'=>e= .returned (.int .u32 (x:Int))/\wx=w'):=hide (fun wx h=>by
    have:=zer (s.extract 0 n) (by omega) wx h
    rw [(zfP s n hn).1,<-hx] at this
    exact this)
   have HTl:Hid (t.data.toList=s.data.toList.drop n):=hide (by rw [ht];exact (zfP s n hn).2)
   have HO:Hid (isSealed s.data.toList=decide (t.data.toList=fourL x)):=hide (by rw [isSealed,zcU,hn,Nat.add_sub_cancel,HTl.out,hx];congr 1;simp;omega)
   have hs2:∀wx:World,(Instr.slice 9 (.string s) (some (.int .i64 (n:Int))) none none).run Tryz.prog wx= .ok (.string t) wx:=fun wx=>by
    rw [run_slice_string_l (P:=Tryz.prog) wx 9 s Tryz.underlying9 .i64 (n:Int) (by omega) (by omega),ht,Int.toNat_natCast]
   have HS:Hid (s.size - 4=n):=hide (by omega)
   clear ht hx;go_enter Tryz.func81,Tryz.ntmps81;go_wp2_with fail
   go_region_held3 (fun _=>True) (trivial) (first | (go_at_call 107;refine (HC.out _ ?_).mono ?_;exact HT.out;rintro e wx ⟨rfl,rfl⟩) | (go_at_call 108;refine (zjS x _).mono ?_;rintro e wx ⟨rfl,hbw⟩))
   by_cases he:t.data.toList=fourL x
   ·have hq:(fourL x ==t.toList)=true:=by rw [zaz,he];exact beq_self_eq_true _
    rw [hq];go_wp2_with fail
    refine (zcj _ (by omega) _).mono ?_
    rintro e w2 ⟨rfl,hb2⟩
    go_wp2
    go_ret2
    rw [unOut,HO.out,if_pos (by simpa using he),HS.out]
    exact ⟨rfl,(((Below.refl _ _).drew).trans hbw).trans (hb2.mono hbw.size)⟩
   ·have hq:(fourL x ==t.toList)=false:=by rw [zaz];exact beq_eq_false_iff_ne.2 (fun e=>he e.symm)
    rw [hq];go_wp2_with fail;go_ret2
    rw [unOut,HO.out,if_neg (by simpa using he)]
    exact ⟨rfl,((Below.refl _ _).drew).trans hbw⟩
open Go.RowKit
def halfK:Nat->Nat->Nat
 | 0,x=>x
 | k+1,x=>half (halfK k x)
theorem zgf (c:Nat) (s:ByteArray) (hc:c<4294967296) (hs:s.size<=9223372036854775807) (w:World):
  Calls Tryz.prog 127 #[.int .u32 (c:Int),.string s] w fun e w'=>e= .returned (.int .u32 (sumL c s.data.toList:Int))/\w=w':=by
 go_enter Tryz.func127,Tryz.ntmps127
 go_wp2
 go_loopg [0,5] s.size (fun g cv iv wr=>∃k x:Nat,k<=s.size/\iv= .int .i64 (k:Int)/\g+k=s.size/\cv= .int .u32 (x:Int)/\x<4294967296/\Hid (x=sumL c (s.data.toList.take k))/\w=wr)
 case atStart=>exact ⟨0,c,Nat.zero_le _,rfl,rfl,rfl,hc,hide rfl,rfl⟩
 case round=>
  obtain ⟨k,x,hk,rfl,hg,rfl,hx,HX,rfl⟩:=hrel;have HG:=hide hg;clear hg
  by_cases hlt:k<s.size
  ·obtain ⟨y,hy⟩:∃y,y=byt s k:=⟨_,rfl⟩
   have hyb:y<256:=by rw [hy];exact zeg s k
   have hsj:s[k].toNat=y:=by rw [hy];exact zd8 s k hlt
   have HY:=hide hy;clear hy
   have hk0:(0:Int)<=(k:Int):=by omega
   have hk1:(k:Int)<(s.size:Int):=by omega
   obtain ⟨z,hz⟩:∃z,z=x ^^^ y:=⟨_,rfl⟩
   have hzl:z<4294967296:=by rw [hz];exact zep _ _ hx (by omega)
   have q1:IntKind.u32.wrap (y:Int)=(y:Int):=wrap32 _ (by omega) (by omega)
   have q2:bits BinOp.xor IntKind.u32 (x:Int) (y:Int)=(z:Int):=by rw [hz];exact xor32 x y hx (by omega)
   have HZ:=hide hz;clear hz;obtain ⟨go,hgo⟩:∃go,go=gk:=⟨_,rfl⟩;rw [<-hgo] at HG
   go_wp2
   go_loopg [0,6] 8 (fun g cv kv wr=>∃j m:Nat,j<=8/\kv= .int .i64 (j:Int)/\g+j=8/\cv= .int .u32 (m:Int)/\m<4294967296/\Hid (m=halfK j z)/\w=wr)
   case atStart=>exact ⟨0,z,Nat.zero_le _,rfl,rfl,rfl,hzl,hide rfl,rfl⟩
   case round=>
    obtain ⟨j,m,hj,rfl,hg,rfl,hm,HM,rfl⟩:=hrel;have HG2:=hide hg;clear hg
    by_cases hj8:j<8
    ·by_cases hodd:m % 2=1
     ·have hq:decide ((m:Int) % 2=1)=true:=by simp;omega
      obtain ⟨v,hv⟩:∃v,v=half m:=⟨_,rfl⟩
      have hvl:v<4294967296:=by rw [hv];exact zg7 m hm
      have q3:bits BinOp.xor IntKind.u32 ((m:Int) / 2) 3558460437=(v:Int):=by
       rw [hv,half,if_pos hodd]
       exact xor32 (m / 2) 3558460437 (by omega) (by omega)
      have HV:Hid (v=halfK (j+1) z):=hide (by rw [hv,halfK,<-HM.out])
      clear hv
      go_wp2
      go_roundg (gk - 1)
      case measure=>have:=HG2.out;omega
      case rel=>exact ⟨j+1,v,by omega,by go_num,by have:=HG2.out;omega,rfl,hvl,HV,rfl⟩
     ·have hq:decide ((m:Int) % 2=1)=false:=by simp;omega
      have hqn:¬((m:Int) % 2=1):=by omega
      have HV:Hid (m / 2=halfK (j+1) z):=hide (by rw [halfK,<-HM.out,half,if_neg hodd])
      clear hodd
      go_wp2
      go_roundg (gk - 1)
      case measure=>have:=HG2.out;omega
      case rel=>exact ⟨j+1,m / 2,by omega,by go_num,by have:=HG2.out;omega,by go_num,by omega,HV,rfl⟩
    ·obtain rfl:j=8:=by omega
     have HN:Hid (m=sumL c (s.data.toList.take (k+1))):=hide (by rw [zjG s k hlt,zg8,<-HX.out,<-HY.out,sumL];simp only [List.foldl_cons,List.foldl_nil];rw [zbL _ hyb,HM.out,HZ.out];rfl)
     go_wp2
     go_roundg (go - 1)
     case measure=>have:=HG.out;omega
     case rel=>exact ⟨k+1,m,by omega,by go_num,by have:=HG.out;omega,rfl,hm,HN,rfl⟩
  ·have hk':s.data.toList.take k=s.data.toList:=List.take_of_length_le (by rw [Array.length_toList];have:s.data.size=s.size:=rfl;omega)
   rw [hk'] at HX
   go_wp2
   go_ret;rw [<-HX.out];exact ⟨rfl,rfl⟩
theorem zes (s:ByteArray) (hs:s.size<=9223372036854775807) (w:World):
  Calls Tryz.prog 94 #[.string s] w fun e w'=>e= .returned (.int .u32 (sumL 4294967295 s.data.toList:Int))/\w=w':=by
 go_enter Tryz.func94,Tryz.ntmps94;go_wp2_with fail
 refine (zgf 4294967295 s (by omega) hs _).mono ?_
 rintro e w1 ⟨rfl,rfl⟩
 go_wp2
 go_ret;exact ⟨rfl,rfl⟩
theorem zfq (x:Nat) (w:World):
  Calls Tryz.prog 93 #[.int .u32 (x:Int)] w fun e w'=>e= .returned (.string ⟨(fourL x).toArray⟩)/\Below w.heap.size w w':=by
 obtain ⟨a,ha⟩:∃a,a=x / 16777216 % 256:=⟨_,rfl⟩;obtain ⟨b,hb⟩:∃b,b=x / 65536 % 256:=⟨_,rfl⟩;obtain ⟨c,hc⟩:∃c,c=x / 256 % 256:=⟨_,rfl⟩;obtain ⟨d,hd⟩:∃d,d=x % 256:=⟨_,rfl⟩;have q1:IntKind.u8.wrap ((x:Int) / 16777216)=(a:Int):=wrap8 (x / 16777216) a ha;have q2:IntKind.u8.wrap ((x:Int) / 65536)=(b:Int):=wrap8 (x / 65536) b hb;have q3:IntKind.u8.wrap ((x:Int) / 256)=(c:Int):=wrap8 (x / 256) c hc;have q4:IntKind.u8.wrap (x:Int)=(d:Int):=wrap8 x d hd
 have HC:Hid ([Value.int .u8 (a:Int),.int .u8 (b:Int),.int .u8 (c:Int),.int .u8 (d:Int)]=Lib.byteCells (fourL x)):=hide (by rw [ha,hb,hc,hd];exact zln x)
 clear ha hb hc hd
 have hown:(w.alloc (Obj.cells #[.int .u8 (a:Int),.int .u8 (b:Int),.int .u8 (c:Int),.int .u8 (d:Int)] 5)).ownsRow w.heap.size 5 1 (.slice (some ⟨w.heap.size,0,none⟩) 4 4) (fourL x).length (Lib.byteCells (fourL x)):=by
  rw [<-HC.out]
  exact World.ownsRow_lit (base:=w.heap.size) (e:=5) (size:=1) w #[.int .u8 (a:Int),.int .u8 (b:Int),.int .u8 (c:Int),.int .u8 (d:Int)] 4 (Nat.le_refl _) (by unfold maxLen;omega) (by simp)
 have hcv:(convert 22 9 (.slice (some ⟨w.heap.size,0,none⟩) 4 4)).run Tryz.prog (w.alloc (Obj.cells #[.int .u8 (a:Int),.int .u8 (b:Int),.int .u8 (c:Int),.int .u8 (d:Int)] 5))= .ok (.string ⟨(fourL x).toArray⟩) (w.alloc (Obj.cells #[.int .u8 (a:Int),.int .u8 (b:Int),.int .u8 (c:Int),.int .u8 (d:Int)] 5)):=
  zdB (l:=fourL x) Tryz.underlying22 Tryz.underlying5 Tryz.underlying9 hown
 clear hown;go_enter Tryz.func93,Tryz.ntmps93
 go_wp2
 go_ret;exact ⟨rfl,(Below.refl _ _).alloc (Nat.le_refl _) _⟩
theorem zgW (s:ByteArray) (h:s.size<=20000) (w:World):
  Calls Tryz.prog 69 #[.string s] w fun e w'=>e= .returned (.tuple #[.string ⟨(sealL s.data.toList).toArray⟩,.bool true])/\Below w.heap.size w w':=by
 have hf:(⟨(fourL (sumL 4294967295 s.data.toList)).toArray⟩:ByteArray).size=4:=rfl;go_enter Tryz.func69,Tryz.ntmps69;go_wp2_with fail
 refine (zes s (by omega) _).mono ?_
 rintro e w1 ⟨rfl,rfl⟩;go_wp2_with fail;refine (zfq (sumL 4294967295 s.data.toList) _).mono ?_;rintro e w1 ⟨rfl,hb⟩
 go_wp2
 go_ret2;rw [<-zh8];exact ⟨rfl,hb⟩
theorem zbW (s:ByteArray) (hs:s.size<=1048576) (w:World):
  Calls Tryz.prog 90 #[.string s] w fun e w'=>e= .returned (unOut s)/\Below w.heap.size w w':=by
 by_cases h4:s.size<4
 ·have HO:Hid (unOut s= .tuple #[.string ⟨#[]⟩,.bool false]):=hide (by rw [unOut,if_neg];rw [isSealed,decide_eq_true_eq,zcU];omega)
  have hd:decide ((s.size:Int) - 4<0)=true:=by simp;omega
  go_enter Tryz.func90,Tryz.ntmps90;go_wp2_with fail
  go_quiet (fail)
  go_wp2
  go_ret2;rw [HO.out];exact ⟨rfl,below_drewN (Below.refl _ _) _⟩
 ·by_cases hbig:20004<s.size
  ·have HO:Hid (unOut s= .tuple #[.string ⟨#[]⟩,.bool false]):=hide (by rw [unOut,if_neg];rw [isSealed,decide_eq_true_eq,zcU];omega)
   have hd:decide ((s.size:Int) - 4<0)=false:=by simp;omega
   have hd2:decide ((20000:Int)<(s.size:Int) - 4)=true:=by simp;omega
   go_enter Tryz.func90,Tryz.ntmps90;go_wp2_with fail
   go_quiet (fail)
   go_wp2
   go_ret2;rw [HO.out];exact ⟨rfl,below_drewN (Below.refl _ _) _⟩
  ·obtain ⟨n,hn⟩:∃n,s.size=n+4:=⟨s.size - 4,by omega⟩
   obtain ⟨t,ht⟩:∃t,t=s.extract n s.size:=⟨_,rfl⟩;obtain ⟨x,hx⟩:∃x,x=sumL 4294967295 (s.data.toList.take n):=⟨_,rfl⟩
   have hil:(s.extract 0 n).size=n:=by rw [ByteArray.size_extract];omega
   have HC:Hid (∀wx,Calls Tryz.prog 94 #[.string (s.extract 0 n)] wx fun e w'=>e= .returned (.int .u32 (x:Int))/\wx=w'):=hide (fun wx=>by
    have:=zes (s.extract 0 n) (by omega) wx
    rw [(zfP s n hn).1,<-hx] at this
    exact this)
   have HTl:Hid (t.data.toList=s.data.toList.drop n):=hide (by rw [ht];exact (zfP s n hn).2)
   have HO:Hid (isSealed s.data.toList=decide (t.data.toList=fourL x)):=hide (by rw [isSealed,zcU,hn,Nat.add_sub_cancel,HTl.out,hx];congr 1;simp;omega)
   have hs1:∀wx:World,(Instr.slice 9 (.string s) none (some (.int .i64 (n:Int))) none).run Tryz.prog wx= .ok (.string (s.extract 0 n)) wx:=fun wx=>by
    rw [run_slice_string_h (P:=Tryz.prog) wx 9 s Tryz.underlying9 .i64 (n:Int) (by omega) (by omega),Int.toNat_natCast]
   have hs2:∀wx:World,(Instr.slice 9 (.string s) (some (.int .i64 (n:Int))) none none).run Tryz.prog wx= .ok (.string t) wx:=fun wx=>by
    rw [run_slice_string_l (P:=Tryz.prog) wx 9 s Tryz.underlying9 .i64 (n:Int) (by omega) (by omega),ht,Int.toNat_natCast]
   have hd:decide ((n:Int)<0)=false:=by simp
   have hd2:decide ((20000:Int)<(n:Int))=false:=by simp;omega
   have HS:Hid (s.size - 4=n):=hide (by omega)
   clear ht hx;go_enter Tryz.func90,Tryz.ntmps90;go_wp2_with fail
   go_region_held3 (fun _=>True) (trivial) (first | (go_at_call 94;refine (HC.out _).mono ?_;rintro e wx ⟨rfl,rfl⟩) | (go_at_call 93;refine (zfq x _).mono ?_;rintro e wx ⟨rfl,hbw⟩))
   by_cases he:t.data.toList=fourL x
   ·have hq:(t.toList ==fourL x)=true:=by rw [zaz,he];exact beq_self_eq_true _
    rw [hq];go_wp2_with fail;go_ret2
    rw [unOut,HO.out,if_pos (by simpa using he),HS.out]
    exact ⟨rfl,((Below.refl _ _).drew).trans hbw⟩
   ·have hq:(t.toList ==fourL x)=false:=by rw [zaz];exact beq_eq_false_iff_ne.2 he
    rw [hq];go_wp2_with fail;go_ret2
    rw [unOut,HO.out,if_neg (by simpa using he)]
    exact ⟨rfl,((Below.refl _ _).drew).trans hbw⟩
open Go.RowKit
theorem zf5 (s:ByteArray) (h:s.size<=20000) (w:World):
  Calls Tryz.prog 96 #[.string s] w fun e w'=>e= .returned (.string (shortB s))/\Below w.heap.size w w':=by
 have hlen:=(zau s.size).2;have HO:Hid (shortB s=⟨(vtext s.size).toArray⟩++s):=hide rfl;go_enter Tryz.func96,Tryz.ntmps96;go_wp2_with fail
 refine (zdC s.size (by omega) (by omega) _).mono ?_
 rintro e w2 ⟨rfl,hb⟩;rw [Int.toNat_natCast]
 go_wp2
 go_ret;rw [HO.out];exact ⟨rfl,hb⟩
theorem zii (v:Value) (lf:Bool) (ks vs:List ByteArray) (cs:List Int) (hok:nodeOkB lf ks vs cs=true) (w:World) (hd:NodeAt w v lf ks vs cs):
  Calls Tryz.prog 70 #[v] w fun e w'=>e= .returned (.string (nodeB lf ks vs cs))/\Below w.heap.size w w':=by
 obtain ⟨vk,vv,vc,rfl,h1,h2,h3⟩:=hd
 obtain ⟨xk,ck,rfl⟩:∃a cap,vk= .slice a ks.length cap:=by obtain ⟨-,a,cap,e,-⟩:=h1;exact ⟨a,cap,e⟩
 obtain ⟨xv,cv,rfl⟩:∃a cap,vv= .slice a vs.length cap:=by obtain ⟨-,a,cap,e,-⟩:=h2;exact ⟨a,cap,e⟩
 obtain ⟨xc,cc,rfl⟩:∃a cap,vc= .slice a cs.length cap:=by obtain ⟨-,a,cap,e,-⟩:=h3;exact ⟨a,cap,e⟩
 obtain ⟨w0,hw0⟩:∃w0,w0=w.alloc (Obj.cells #[.bool lf,.slice xk ks.length ck,.slice xv vs.length cv,.slice xc cs.length cc] 71):=⟨_,rfl⟩
 have hb0:Below w.heap.size w w0:=by rw [hw0];exact (Below.refl w.heap.size w).alloc (Nat.le_refl _) _
 have hblk:w0.heap[w.heap.size]?=some (Obj.cells #[.bool lf,.slice xk ks.length ck,.slice xv vs.length cv,.slice xc cs.length cc] 71):=by rw [hw0];exact heap_alloc_new w _
 have HB0:=hide hb0;have HR:=hide (⟨za8 h1 hb0,za8 h2 hb0,za8 h3 hb0⟩:_/\_/\_)
 have HPb:Hid (∀wx,Below w0.heap.size w0 wx->wx.cell? ⟨w.heap.size,0,none⟩=some (.bool lf)/\wx.cell? ⟨w.heap.size,1,none⟩=some (.slice xk ks.length ck)/\wx.cell? ⟨w.heap.size,2,none⟩=some (.slice xv vs.length cv)/\wx.cell? ⟨w.heap.size,3,none⟩=some (.slice xc cs.length cc)):=hide (fun wx hb=>by
  have hq:=(hb.block _ (Array.getElem?_eq_some_iff.1 hblk).1).trans hblk
  exact ⟨(za0 hq 0).1,(za0 hq 1).1,(za0 hq 2).1,(za0 hq 3).1⟩)
 obtain ⟨c0,c1,-,-⟩:=HPb.out w0 (Below.refl _ _);have HOk:=hide hok;have HY:=hide (zam hok);have HCn:=hide (zaX (zam hok).1);have hk4:=HCn.out.2.1
 have HVk:=hide (zdC (ks.length:Int) (by omega) (by omega))
 rw [Int.toNat_natCast] at HVk;obtain ⟨z0,hz0⟩:∃z:ByteArray,z=⟨(vtext ks.length).toArray⟩:=⟨_,rfl⟩;rw [<-hz0] at HVk
 have hzs:z0.size<=5:=by rw [hz0,zbe];exact (zau _).2
 have HS0:Hid (nodeP lf ks.length ks vs cs 0=headB lf++z0):=hide (by rw [nodeP,hz0])
 clear h1 h2 h3 hb0 hblk hok hz0
 cases lf with
 | true=>
  have HLn:Hid (vs.length=ks.length):=hide (HCn.out.2.2.1 rfl).1;go_enter Tryz.func70,Tryz.ntmps70;go_wp2_with fail;rw [<-hw0];clear hw0;refine (HVk.out _).mono ?_;rintro e w1 ⟨rfl,hb1⟩;have HB1:=hide hb1;have HP0:Hid (headB true++z0=nodeP true ks.length ks vs cs 0):=hide HS0.out.symm;clear hb1 c0 c1;go_wp2_with fail
  go_loopg [3,4] ks.length (fun q sv iv wr=>∃i:Nat,i<=ks.length/\sv= .string (nodeP true ks.length ks vs cs i)/\iv= .int .i64 (i:Int)/\q+i=ks.length/\Hid (Below w0.heap.size w0 wr))
  case atStart=>exact ⟨0,Nat.zero_le _,by rw [<-HP0.out];rfl,rfl,rfl,HB1⟩
  case round=>
   obtain ⟨i,hi,rfl,rfl,hg,HB⟩:=hrel;have HG:=hide hg;have hsz:=zc9 HOk.out i hi;clear hg;obtain ⟨p0,p1,p2,p3⟩:=HPb.out wr HB.out
   by_cases hlt:i<ks.length
   ·obtain ⟨-,a1,cp1,e1,h0 | ⟨bk,ok,e0,hbk,hck⟩⟩:=HR.out.1
    ·omega
    injection e1 with e11 _ e12
    subst e11 e12;subst e0;obtain ⟨x,hx⟩:∃x,x=ks.getD i ⟨#[]⟩:=⟨_,rfl⟩
    have hxc:wr.cell? ⟨bk,ok+i,none⟩=some (.string x):=by rw [HB.out.cell (by exact hbk),hck i (by omega),zaP ks i hlt,hx];simp [List.getD,hlt]
    have hx24:x.size<=24:=by rw [hx];exact zbQ (HY.out.2.1 i hlt)
    have hi0:(0:Int)<=(i:Int):=by omega
    have hi1:(i:Int)<(ks.length:Int):=by omega
    have HV1:=hide (zf5 x (by omega))
    have hs1:=zaN x;obtain ⟨b1,hb1⟩:∃b,b=shortB x:=⟨_,rfl⟩;rw [<-hb1] at HV1 hs1
    have hlv:i<vs.length:=by have:=HLn.out;omega
    obtain ⟨-,a2,cp2,e2,h0 | ⟨bv,ov,e3,hbv,hcv⟩⟩:=HR.out.2.1
    ·omega
    injection e2 with e21 _ e22
    subst e21 e22;subst e3;obtain ⟨z,hz⟩:∃z,z=vs.getD i ⟨#[]⟩:=⟨_,rfl⟩
    have HZc:Hid (∀wx,Below w0.heap.size w0 wx->wx.cell? ⟨bv,ov+i,none⟩=some (.string z)):=hide (fun wx hb=>by rw [hb.cell (by exact hbv),hcv i (by omega),zaP vs i hlv,hz];simp [List.getD,hlv])
    have hz24:z.size<=24:=by rw [hz];exact HY.out.2.2.1 i hlv
    have hiv:(i:Int)<(vs.length:Int):=by omega
    have HV2:=hide (zf5 z (by omega))
    have hSd:sideT true vs cs i=shortB z:=by rw [sideT,if_pos rfl,hz]
    have hs2:=zaN z;obtain ⟨b2,hb2⟩:∃b,b=shortB z:=⟨_,rfl⟩;rw [<-hb2] at HV2 hSd hs2;clear hcv hz hb2
    have HK:Hid (nodeP true ks.length ks vs cs (i+1)=nodeP true ks.length ks vs cs i++b1++b2):=hide (by rw [nodeP,<-hx,<-hb1,hSd])
    obtain ⟨s,hs⟩:∃s,s=nodeP true ks.length ks vs cs i:=⟨_,rfl⟩;rw [<-hs] at HK hsz⊢;clear hck hx hb1 hSd hs;go_wp2_with fail;refine (HV1.out _).mono ?_;rintro e w2 ⟨rfl,hb2⟩;have HB2:Hid (Below w0.heap.size w0 w2):=hide (HB.out.trans (hb2.mono HB.out.size));obtain ⟨r0,r1,r2,r3⟩:=HPb.out w2 HB2.out;have hzc:=HZc.out w2 HB2.out;clear hb2 p0 p1 p2 p3 hxc;go_wp2_with fail;refine (HV2.out _).mono ?_;rintro e w3 ⟨rfl,hb3⟩;have HB3:Hid (Below w0.heap.size w0 w3):=hide (HB2.out.trans (hb3.mono HB2.out.size));clear hb3 r0 r1 r2 r3 hzc;go_wp2_with fail
    go_roundg (gk - 1)
    case measure=>have:=HG.out;omega
    case rel=>exact ⟨i+1,by omega,by rw [HK.out],by go_num,by have:=HG.out;omega,HB3⟩
   ·obtain rfl:i=ks.length:=by omega
    have HO:Hid (nodeB true ks vs cs=nodeP true ks.length ks vs cs ks.length):=hide rfl;go_wp2_with fail;go_ret;rw [HO.out];exact ⟨rfl,HB0.out.trans (HB.out.mono HB0.out.size)⟩
 | false=>
  have HLn:Hid (cs.length=ks.length):=hide (HCn.out.2.2.2 rfl).1;go_enter Tryz.func70,Tryz.ntmps70;go_wp2_with fail;rw [<-hw0];clear hw0;refine (HVk.out _).mono ?_;rintro e w1 ⟨rfl,hb1⟩;have HB1:=hide hb1;have HP0:Hid (headB false++z0=nodeP false ks.length ks vs cs 0):=hide HS0.out.symm;clear hb1 c0 c1;go_wp2_with fail
  go_loopg [3,4] ks.length (fun q sv iv wr=>∃i:Nat,i<=ks.length/\sv= .string (nodeP false ks.length ks vs cs i)/\iv= .int .i64 (i:Int)/\q+i=ks.length/\Hid (Below w0.heap.size w0 wr))
  case atStart=>exact ⟨0,Nat.zero_le _,by rw [<-HP0.out];rfl,rfl,rfl,HB1⟩
  case round=>
   obtain ⟨i,hi,rfl,rfl,hg,HB⟩:=hrel;have HG:=hide hg;have hsz:=zc9 HOk.out i hi;clear hg;obtain ⟨p0,p1,p2,p3⟩:=HPb.out wr HB.out
   by_cases hlt:i<ks.length
   ·obtain ⟨-,a1,cp1,e1,h0 | ⟨bk,ok,e0,hbk,hck⟩⟩:=HR.out.1
    ·omega
    injection e1 with e11 _ e12
    subst e11 e12;subst e0;obtain ⟨x,hx⟩:∃x,x=ks.getD i ⟨#[]⟩:=⟨_,rfl⟩
    have hxc:wr.cell? ⟨bk,ok+i,none⟩=some (.string x):=by rw [HB.out.cell (by exact hbk),hck i (by omega),zaP ks i hlt,hx];simp [List.getD,hlt]
    have hx24:x.size<=24:=by rw [hx];exact zbQ (HY.out.2.1 i hlt)
    have hi0:(0:Int)<=(i:Int):=by omega
    have hi1:(i:Int)<(ks.length:Int):=by omega
    have HV1:=hide (zf5 x (by omega))
    have hs1:=zaN x;obtain ⟨b1,hb1⟩:∃b,b=shortB x:=⟨_,rfl⟩;rw [<-hb1] at HV1 hs1
    have hlv:i<cs.length:=by have:=HLn.out;omega
    obtain ⟨-,a2,cp2,e2,h0 | ⟨bv,ov,e3,hbv,hcv⟩⟩:=HR.out.2.2
    ·omega
    injection e2 with e21 _ e22
    subst e21 e22;subst e3;obtain ⟨z,hz⟩:∃z,z=cs.getD i 0:=⟨_,rfl⟩
    have HZc:Hid (∀wx,Below w0.heap.size w0 wx->wx.cell? ⟨bv,ov+i,none⟩=some (.int .i64 z)):=hide (fun wx hb=>by rw [hb.cell (by exact hbv),hcv i (by omega),ints_at cs i hlv,hz];simp [List.getD,hlv])
    have hz24:2<=z/\z<=39:=by rw [hz];exact zdF (HY.out.2.2.2 i hlv)
    have hiv:(i:Int)<(cs.length:Int):=by omega
    have HV2:=hide (zdC z (by omega) (by omega))
    have hSd:sideT false vs cs i=⟨(vtext z.toNat).toArray⟩:=by rw [sideT,if_neg (by decide),hz]
    have hs2:(⟨(vtext z.toNat).toArray⟩:ByteArray).size<=29:=by rw [zbe];have:=(zau z.toNat).2;omega
    obtain ⟨b2,hb2⟩:∃b:ByteArray,b=⟨(vtext z.toNat).toArray⟩:=⟨_,rfl⟩;rw [<-hb2] at HV2 hSd hs2;clear hcv hz hb2
    have HK:Hid (nodeP false ks.length ks vs cs (i+1)=nodeP false ks.length ks vs cs i++b1++b2):=hide (by rw [nodeP,<-hx,<-hb1,hSd])
    obtain ⟨s,hs⟩:∃s,s=nodeP false ks.length ks vs cs i:=⟨_,rfl⟩;rw [<-hs] at HK hsz⊢;clear hck hx hb1 hSd hs;go_wp2_with fail;refine (HV1.out _).mono ?_;rintro e w2 ⟨rfl,hb2⟩;have HB2:Hid (Below w0.heap.size w0 w2):=hide (HB.out.trans (hb2.mono HB.out.size));obtain ⟨r0,r1,r2,r3⟩:=HPb.out w2 HB2.out;have hzc:=HZc.out w2 HB2.out;clear hb2 p0 p1 p2 p3 hxc;go_wp2_with fail;refine (HV2.out _).mono ?_;rintro e w3 ⟨rfl,hb3⟩;have HB3:Hid (Below w0.heap.size w0 w3):=hide (HB2.out.trans (hb3.mono HB2.out.size));clear hb3 r0 r1 r2 r3 hzc;go_wp2_with fail
    go_roundg (gk - 1)
    case measure=>have:=HG.out;omega
    case rel=>exact ⟨i+1,by omega,by rw [HK.out],by go_num,by have:=HG.out;omega,HB3⟩
   ·obtain rfl:i=ks.length:=by omega
    have HO:Hid (nodeB false ks vs cs=nodeP false ks.length ks vs cs ks.length):=hide rfl;go_wp2_with fail;go_ret;rw [HO.out];exact ⟨rfl,HB0.out.trans (HB.out.mono HB0.out.size)⟩
theorem zkF (s:ByteArray) (h:s.size<=20000) (w:World):Calls Tryz.prog 69 #[.string s] w fun e w'=>e= .returned (.tuple #[.string ⟨(sealL s.data.toList).toArray⟩,.bool true])/\Below w.heap.size w w':=zgW s h w
theorem zbX (v:Value) (lf:Bool) (ks vs:List ByteArray) (cs:List Int) (hk:ks.length<=1048576) (hv:vs.length<=1048576) (hc:cs.length<=1048576) (hks:∀s∈ks,s.size<=1048576) (hvs:∀s∈vs,s.size<=1048576) (w:World) (hd:NodeAt w v lf ks vs cs):
  Calls Tryz.prog 45 #[v] w fun e w'=>e= .returned (.tuple #[.string (nodeO lf ks vs cs),.bool (nodeOkB lf ks vs cs)])/\Below w.heap.size w w':=by
 have HS:=hide (fun wx h=>zgU v lf ks vs cs hk hv hc hks hvs wx h)
 have HD:=hide hd;obtain ⟨vk,vv,vc,rfl,-,-,-⟩:=hd;obtain ⟨w0,hw0⟩:∃w0,w0=w.alloc (Obj.cells #[.bool lf,vk,vv,vc] 71):=⟨_,rfl⟩
 have HB0:Hid (Below w.heap.size w w0):=hide (by rw [hw0];exact (Below.refl w.heap.size w).alloc (Nat.le_refl _) _)
 have HQ0:Hid (w0.heap[w.heap.size]?=some (Obj.cells #[.bool lf,vk,vv,vc] 71)):=hide (by rw [hw0];exact heap_alloc_new w _)
 clear hk hv hc hks hvs
 cases hok:nodeOkB lf ks vs cs with
 | false=>
  rw [hok] at HS
  have HO:Hid (nodeO lf ks vs cs=⟨#[]⟩):=hide (by rw [nodeO,hok];rfl)
  clear hok;go_enter Tryz.func45,Tryz.ntmps45;go_wp2_with fail;rw [<-hw0];clear hw0;refine (HS.out _ (zat HD.out HB0.out)).mono ?_;rintro e w1 ⟨rfl,hb⟩;go_wp2_with fail;go_ret2;rw [HO.out];exact ⟨rfl,HB0.out.trans (hb.mono HB0.out.size)⟩
 | true=>
  rw [hok] at HS
  have HBy:=hide (fun wx h=>zii (.agg #[.bool lf,vk,vv,vc]) lf ks vs cs hok wx h)
  have HO:Hid (nodeO lf ks vs cs=nodeT lf ks vs cs):=hide (by rw [nodeO,hok];rfl)
  have HSe:=hide (zkF (nodeB lf ks vs cs) (by have:=(zdG hok).1;omega))
  have HTt:Hid (nodeT lf ks vs cs=⟨(sealL (nodeB lf ks vs cs).data.toList).toArray⟩):=hide rfl;obtain ⟨bs,hbs⟩:∃b,b=nodeB lf ks vs cs:=⟨_,rfl⟩;rw [<-hbs] at HBy HSe HTt;clear hok hbs;go_enter Tryz.func45,Tryz.ntmps45;go_wp2_with fail;rw [<-hw0];clear hw0;refine (HS.out _ (zat HD.out HB0.out)).mono ?_;rintro e w1 ⟨rfl,hb⟩;have HB1:Hid (Below w.heap.size w w1):=hide (HB0.out.trans (hb.mono HB0.out.size));have hq:=(hb.block _ (Array.getElem?_eq_some_iff.1 HQ0.out).1).trans HQ0.out;have c0:w1.cell? ⟨w.heap.size,0,none⟩=some (.bool lf):=(za0 hq 0).1;have c1:w1.cell? ⟨w.heap.size,1,none⟩=some vk:=(za0 hq 1).1;have c2:w1.cell? ⟨w.heap.size,2,none⟩=some vv:=(za0 hq 2).1;have c3:w1.cell? ⟨w.heap.size,3,none⟩=some vc:=(za0 hq 3).1;clear hb hq;go_wp2_with fail;refine (HBy.out _ (zat HD.out HB1.out)).mono ?_;rintro e w2 ⟨rfl,hb2⟩;have HB2:Hid (Below w.heap.size w w2):=hide (HB1.out.trans (hb2.mono HB1.out.size));clear hb2 c0 c1 c2 c3;go_wp2_with fail;refine (HSe.out _).mono ?_;rintro e w3 ⟨rfl,hb3⟩;have HB3:Hid (Below w.heap.size w w3):=hide (HB2.out.trans (hb3.mono HB2.out.size));clear hb3;go_wp2_with fail;go_ret2;rw [HO.out,HTt.out];exact ⟨rfl,HB3.out⟩
open Go.RowKit
def putB (k:Wk) (lf:Bool) (ks vs:List ByteArray) (cs:List Int):Bool:=nodeOkB lf ks vs cs && decide (giveP k≠0) && writeOk k.ps k.ls (giveP k) (nodeO lf ks vs cs)
def putK (k:Wk) (lf:Bool) (ks vs:List ByteArray) (cs:List Int):Wk:=if putB k lf ks vs cs=true then {giveK k with ls:=writeL k.ps k.ls (giveP k) (nodeO lf ks vs cs)} else k
def putP (k:Wk) (lf:Bool) (ks vs:List ByteArray) (cs:List Int):Int:=if putB k lf ks vs cs=true then giveP k else 0
theorem zet {k:Wk} {lf:Bool} {ks vs:List ByteArray} {cs:List Int} (h:putB k lf ks vs cs=false):putK k lf ks vs cs=k/\putP k lf ks vs cs=0:=by
 unfold putK putP;rw [h];exact ⟨rfl,rfl⟩
theorem zgg {k:Wk} {lf:Bool} {ks vs:List ByteArray} {cs:List Int} (h:putB k lf ks vs cs=true):putK k lf ks vs cs={giveK k with ls:=writeL k.ps k.ls (giveP k) (nodeO lf ks vs cs)}/\putP k lf ks vs cs=giveP k:=by
 unfold putK putP;rw [h];exact ⟨rfl,rfl⟩
theorem zcD (k:Wk):(giveK k).ps=k.ps/\(giveK k).ls=k.ls:=by
 unfold giveK
 split
 ·exact ⟨rfl,rfl⟩
 ·split <;> exact ⟨rfl,rfl⟩
theorem zck (lf:Bool) (ks vs:List ByteArray) (cs:List Int):(nodeO lf ks vs cs).size<=206:=by
 unfold nodeO
 split
 ·next h=>exact zkE h
 ·exact Nat.zero_le _
theorem zlo {w w5:World} {kg:Wk} {ls':List (Int×ByteArray)} {a1 g B U:Nat} {rs:Obj} {u0 u1 u3 u4 u5 d0 d1:Value} {t:TypeId} (hv:w5.heap[g]?=some (Obj.cells #[u0,u1,.int .i64 kg.next,u3,u4,u5] t)) (hres:w5.heap[a1]?=some rs) (hw:WorkOwn w5 B (.agg #[u0,u1,.int .i64 kg.next,u3,u4,u5]) kg) (hu:∀j,workBlocks (.agg #[u0,u1,.int .i64 kg.next,u3,u4,u5]) j->j<U) (hg:U<=g) (hd:DiskOwn w5 (g+1) (.agg #[d0,d1]) kg.ps ls') (ha:a1<B) (hB:B<=g) (hwa:w.heap.size<=a1) (hlow:Below w.heap.size w w5):
  ((w5.setCell ⟨g,0,none⟩ d0).setCell ⟨g,1,none⟩ d1).heap[g]?=some (Obj.cells #[d0,d1,.int .i64 kg.next,u3,u4,u5] t)/\((w5.setCell ⟨g,0,none⟩ d0).setCell ⟨g,1,none⟩ d1).heap[a1]?=some rs/\
  WorkOwn ((w5.setCell ⟨g,0,none⟩ d0).setCell ⟨g,1,none⟩ d1) B (.agg #[d0,d1,.int .i64 kg.next,u3,u4,u5]) {kg with ls:=ls'}/\Below w.heap.size w ((w5.setCell ⟨g,0,none⟩ d0).setCell ⟨g,1,none⟩ d1):=by
 have hk:Kept w5 ((w5.setCell ⟨g,0,none⟩ d0).setCell ⟨g,1,none⟩ d1) (fun j=>j=g):=kept_trans (za9 _ _ _ _) (za9 _ _ _ _) (fun _ _ h=>h)
 obtain ⟨vp,vl,vu,vg,vf,e,h1,h2,h3,h4,h5⟩:=hw;obtain ⟨rfl,rfl,-,rfl,rfl,rfl⟩:=agg6 e
 refine ⟨heap_setCell_same _ g 1 _ _ _ (heap_setCell_same w5 g 0 _ _ _ hv),(hk.2.2.2.2 a1 (Array.getElem?_eq_some_iff.1 hres).1 (by omega)).trans hres,⟨d0,d1,_,_,_,rfl,?_,?_,?_,?_,h5⟩,hlow.trans (zac hk hlow.size (fun j e=>by omega))⟩
 ·obtain ⟨vp',vl',e,k1,k2⟩:=zbo hd hk (fun j e h=>by have:=(zby hd j e).1;omega)
  exact ⟨vp',vl',e,zad k1 (by omega),zad k2 (by omega)⟩
 ·exact zaW h2 hk (fun j e h=>by have:=hu j ⟨_,_,_,_,_,_,rfl,Or.inr (Or.inl e)⟩;omega)
 ·exact zaW h3 hk (fun j e h=>by have:=hu j ⟨_,_,_,_,_,_,rfl,Or.inr (Or.inr (Or.inl e))⟩;omega)
 ·exact zaW h4 hk (fun j e h=>by have:=hu j ⟨_,_,_,_,_,_,rfl,Or.inr (Or.inr (Or.inr e))⟩;omega)
abbrev Part:=List ByteArray×List ByteArray×List Int
def halfParts (lf:Bool) (ks vs:List ByteArray) (cs:List Int):List Part:=
 if 4<ks.length then (if lf=true then [(ks.take 3,vs.take 3,[]),(ks.drop 3,vs.drop 3,[])] else [(ks.take 3,[],cs.take 3),(ks.drop 3,[],cs.drop 3)]) else [(ks,vs,cs)]
noncomputable def halfL (lf:Bool):Wk->List Part->Wk×List ByteArray×List Int×Bool
 | k,[]=>(k,[],[],true)
 | k,p :: r=>if putP k lf p.1 p.2.1 p.2.2=0 then (k,[],[],false) else
   ((halfL lf (putK k lf p.1 p.2.1 p.2.2) r).1,p.1.getD 0 ⟨#[]⟩ :: (halfL lf (putK k lf p.1 p.2.1 p.2.2) r).2.1,putP k lf p.1 p.2.1 p.2.2 :: (halfL lf (putK k lf p.1 p.2.1 p.2.2) r).2.2.1,(halfL lf (putK k lf p.1 p.2.1 p.2.2) r).2.2.2)
noncomputable def halfS (k:Wk) (lf:Bool) (ks vs:List ByteArray) (cs:List Int):Wk×List ByteArray×List Int×Bool:=halfL lf k (halfParts lf ks vs cs)
def Wk.sm (k:Wk) (m:Nat):Prop:=k.ps.length<=1048576/\(∀s∈k.ps,s.size<=1048576)/\k.ls.length+m<=1048576/\(∀p∈k.ls,p.2.size<=1048576)/\k.us.length+m<=1048576/\k.gs.length+m<=1048576/\k.fs.length+m<=1048576
theorem zct {k:Wk} {m:Nat} (h:k.sm m):k.small:=by
 obtain ⟨h1,h2,h3,h4,h5,h6,h7⟩:=h
 exact ⟨h1,h2,by omega,h4,by omega,by omega,by omega⟩
theorem zaK {k:Wk} {m m':Nat} (h:k.sm m) (hm:m'<=m):k.sm m':=by
 obtain ⟨h1,h2,h3,h4,h5,h6,h7⟩:=h
 exact ⟨h1,h2,by omega,h4,by omega,by omega,by omega⟩
theorem sm_give {k:Wk} {m:Nat} (h:k.sm (m+1)):(giveK k).sm m:=by
 obtain ⟨h1,h2,h3,h4,h5,h6,h7⟩:=h
 cases hu:k.us with
 | cons x t=>
  rw [(zbO hu).1];rw [hu] at h5
  simp at h5
  exact ⟨h1,h2,by show k.ls.length+m<=_;omega,h4,by show t.length+m<=_;omega,by show k.gs.length+m<=_;omega,by show (k.fs++ [x]).length+m<=_;simp;omega⟩
 | nil=>
  by_cases hn:k.next<(k.ps.length:Int)
  ·rw [(zbP hu hn).1]
   exact ⟨h1,h2,by show k.ls.length+m<=_;omega,h4,by show k.us.length+m<=_;omega,by show k.gs.length+m<=_;omega,by show (k.fs++ [k.next]).length+m<=_;simp;omega⟩
  ·rw [(zcg hu hn).1]
   exact ⟨h1,h2,by omega,h4,by omega,by omega,by omega⟩
theorem zlp {k:Wk} {m:Nat} (h:k.sm (m+1)) (lf:Bool) (ks vs:List ByteArray) (cs:List Int):(putK k lf ks vs cs).sm m:=by
 unfold putK
 split
 ·obtain ⟨g1,g2,g3,g4,g5,g6,g7⟩:=sm_give h
  obtain ⟨h1,h2,h3,h4,-⟩:=h
  refine ⟨g1,g2,?_,fun p hp=> ?_,g5,g6,g7⟩
  ·show (writeL k.ps k.ls (giveP k) (nodeO lf ks vs cs)).length+m<=_
   unfold writeL
   split
   ·simp;omega
   ·omega
  have hp:p∈writeL k.ps k.ls (giveP k) (nodeO lf ks vs cs):=hp;unfold writeL at hp
  split at hp
  ·rcases List.mem_append.1 hp with hp | hp
   ·exact h4 p hp
   ·obtain rfl:=List.mem_singleton.1 hp
    exact Nat.le_trans (zck lf ks vs cs) (by omega)
  ·exact h4 p hp
 ·exact zaK h (by omega)
theorem put_ok {k:Wk} {lf:Bool} {ks vs:List ByteArray} {cs:List Int} (h:putP k lf ks vs cs≠0):nodeOkB lf ks vs cs=true:=by
 cases hb:putB k lf ks vs cs with
 | false=>exact absurd (zet hb).2 h
 | true=>
  unfold putB at hb;rw [Bool.and_eq_true,Bool.and_eq_true] at hb;exact hb.1.1
open Go.RowKit
def four {α:Type} (l:List α) (i:Nat):List α:=(l.drop (4 * i)).take 4
def fours (n:Nat):Nat:=(n+3) / 4
theorem zfQ {n i:Nat}:4 * i<n↔i<fours n:=by unfold fours;omega
theorem zcu {α:Type} (l:List α) (i:Nat):(four l i).length=min 4 (l.length - 4 * i):=by simp [four]
theorem zmD {α β:Type} (f:α->β) (l:List α) (i:Nat):(four l i).map f=four (l.map f) i:=by simp [four,List.map_take,List.map_drop]
theorem zc2 {α:Type} {l:List α} {i:Nat} {x:α} (h:x∈four l i):x∈l:=List.mem_of_mem_drop (List.mem_of_mem_take h)
theorem zij {α:Type} (l:List α) (i:Nat) (d:α):(four l i).getD 0 d=l.getD (4 * i) d:=by
 unfold four
 simp [List.getD_eq_getElem?_getD,List.getElem?_drop]
abbrev Bst:=Wk×List ByteArray×List Int
def oneS (st:Bst) (lf:Bool) (ks vs:List ByteArray) (cs:List Int):Option Bst:=
 if putP st.1 lf ks vs cs=0 then none else some (putK st.1 lf ks vs cs,st.2.1++ [ks.getD 0 ⟨#[]⟩],st.2.2++ [putP st.1 lf ks vs cs])
def lvlR (N:Nat->Bool×List ByteArray×List ByteArray×List Int):Nat->Nat->Bst->Option Bst
 | 0,_,st=>some st
 | m+1,i,st=>(oneS st (N i).1 (N i).2.1 (N i).2.2.1 (N i).2.2.2).bind (lvlR N m (i+1))
def lfN (L:List (ByteArray×ByteArray)) (i:Nat):Bool×List ByteArray×List ByteArray×List Int:=(true,(four L i).map (·.1),(four L i).map (·.2),[])
def mdN (ks:List ByteArray) (cs:List Int) (i:Nat):Bool×List ByteArray×List ByteArray×List Int:=(false,four ks i,[],four cs i)
def lvs (k:Wk) (L:List (ByteArray×ByteArray)):Option Bst:=lvlR (lfN L) (fours L.length) 0 (k,[],[])
def mds (st:Bst):Option Bst:=lvlR (mdN st.2.1 st.2.2) (fours st.2.2.length) 0 (st.1,[],[])
def its:Nat->Bst->Option Bst
 | 0,st=>some st
 | j+1,st=>(mds st).bind (its j)
def lup:Nat->Nat->Nat
 | 0,_=>0
 | f+1,c=>if c<=1 then 0 else lup f (fours c)+1
def ascB (L:List (ByteArray×ByteArray)):Bool:=decide (∀i,i<L.length->0<i->Op.bytesLess (L.getD (i - 1) (⟨#[]⟩,⟨#[]⟩)).1.toList (L.getD i (⟨#[]⟩,⟨#[]⟩)).1.toList=true)
theorem zhE (L:List (ByteArray×ByteArray)):ascB L=true↔∀i,i<L.length->0<i->Op.bytesLess (L.getD (i - 1) (⟨#[]⟩,⟨#[]⟩)).1.toList (L.getD i (⟨#[]⟩,⟨#[]⟩)).1.toList=true:=by simp only [ascB,decide_eq_true_eq]
theorem asc_no {L:List (ByteArray×ByteArray)} {j:Nat} (hj:j+1<L.length) (h:Op.bytesLess (L.getD j (⟨#[]⟩,⟨#[]⟩)).1.toList (L.getD (j+1) (⟨#[]⟩,⟨#[]⟩)).1.toList=false):ascB L=false:=by
 cases hu:ascB L with
 | false=>rfl
 | true=>
  have h2:=(zhE L).1 hu (j+1) hj (by omega)
  rw [show j+1 - 1=j from rfl,h] at h2
  cases h2
def bldO (k:Wk) (L:List (ByteArray×ByteArray)):Option Bst:=(lvs k L).bind fun st=>its (lup 21 st.2.2.length) st
def bldS (k:Wk) (L:List (ByteArray×ByteArray)):Wk×Int×Bool:=
 if ascB L=false then (k,0,false) else match bldO k L with | none=>(k,0,false) | some r=>(r.1,r.2.2.getD 0 0,true)
theorem bld_no {k:Wk} {L:List (ByteArray×ByteArray)} (h:ascB L=false):bldS k L=(k,0,false):=if_pos h
theorem zjT {k:Wk} {L:List (ByteArray×ByteArray)} (h:ascB L=true) (h2:bldO k L=none):bldS k L=(k,0,false):=by
 unfold bldS
 rw [if_neg (by rw [h];decide),h2]
theorem zfR {k:Wk} {L:List (ByteArray×ByteArray)} {r:Bst} (h:ascB L=true) (h2:bldO k L=some r):bldS k L=(r.1,r.2.2.getD 0 0,true):=by
 unfold bldS
 rw [if_neg (by rw [h];decide),h2]
theorem zjU (k:Wk):bldO k []=some (k,[],[]):=rfl
theorem zhF {st st':Bst} {lf:Bool} {ks vs:List ByteArray} {cs:List Int} (h:oneS st lf ks vs cs=some st'):putP st.1 lf ks vs cs≠0/\st'=(putK st.1 lf ks vs cs,st.2.1++ [ks.getD 0 ⟨#[]⟩],st.2.2++ [putP st.1 lf ks vs cs]):=by
 unfold oneS at h
 split at h
 ·cases h
 ·next h0=>exact ⟨h0,by injection h with h;exact h.symm⟩
def Wk.rm (k:Wk) (m:Nat):Prop:=k.ps.length<=1048576/\(∀s∈k.ps,s.size<=1048576)/\k.ls.length<=1048576/\(∀p∈k.ls,p.2.size<=1048576)/\k.us.length<=1048576/\k.gs.length<=1048576/\k.fs.length+m<=2000000
theorem zhG {k:Wk} {m:Nat} (h:k.rm m):k.small:=by
 obtain ⟨h1,h2,h3,h4,h5,h6,h7⟩:=h
 exact ⟨h1,h2,h3,h4,by omega,by omega,by omega⟩
theorem zhH {k:Wk} {m m':Nat} (h:k.rm m) (hm:m'<=m):k.rm m':=by
 obtain ⟨h1,h2,h3,h4,h5,h6,h7⟩:=h
 exact ⟨h1,h2,h3,h4,h5,h6,by omega⟩
theorem rm_put {k:Wk} {m:Nat} (h:k.rm (m+1)) (lf:Bool) (ks vs:List ByteArray) (cs:List Int):(putK k lf ks vs cs).rm m:=by
 have hg:(giveK k).ps=k.ps/\(giveK k).us.length<=k.us.length/\(giveK k).gs=k.gs/\(giveK k).fs.length<=k.fs.length+1:=by
  cases hu:k.us with
  | cons x t=>
   rw [(zbO hu).1]
   exact ⟨rfl,by simp,rfl,by simp⟩
  | nil=>
   by_cases hn:k.next<(k.ps.length:Int)
   ·rw [(zbP hu hn).1]
    exact ⟨rfl,by rw [hu];exact Nat.le_refl _,rfl,by simp⟩
   ·rw [(zcg hu hn).1]
    exact ⟨rfl,by rw [hu];exact Nat.le_refl _,rfl,by omega⟩
 obtain ⟨h1,h2,h3,h4,h5,h6,h7⟩:=h;unfold putK
 split
 ·obtain ⟨g1,g2,g3,g4⟩:=hg
  refine ⟨by show (giveK k).ps.length<=_;rw [g1];exact h1,by show ∀s∈(giveK k).ps,_;rw [g1];exact h2,zll h3,fun p hp=> ?_,by show (giveK k).us.length<=_;omega,by show (giveK k).gs.length<=_;rw [g3];exact h6,by show (giveK k).fs.length+m<=_;omega⟩
  have hp:p∈writeL k.ps k.ls (giveP k) (nodeO lf ks vs cs):=hp;unfold writeL at hp
  split at hp
  ·rcases List.mem_append.1 hp with hp | hp
   ·exact h4 p hp
   ·obtain rfl:=List.mem_singleton.1 hp
    exact Nat.le_trans (zck lf ks vs cs) (by omega)
  ·exact h4 p hp
 ·exact ⟨h1,h2,h3,h4,h5,h6,by omega⟩
def Bst.ok (st:Bst) (i m:Nat):Prop:=st.2.1.length=i/\st.2.2.length=i/\(∀s∈st.2.1,s.size<=1048576)/\st.1.rm m
theorem one_ok {st st':Bst} {lf:Bool} {ks vs:List ByteArray} {cs:List Int} {i m:Nat} (hs:st.ok i (m+1)) (hk:∀s∈ks,s.size<=1048576) (h:oneS st lf ks vs cs=some st'):st'.ok (i+1) m:=by
 obtain ⟨h1,h2,h3,h4⟩:=hs;obtain ⟨-,rfl⟩:=zhF h
 refine ⟨by simp [h1],by simp [h2],fun s hm=> ?_,rm_put h4 _ _ _ _⟩
 rcases List.mem_append.1 hm with hm | hm
 ·exact h3 s hm
 ·obtain rfl:=List.mem_singleton.1 hm
  cases ks with
  | nil=>exact Nat.zero_le _
  | cons x t=>exact hk x List.mem_cons_self
theorem zjV (N:Nat->Bool×List ByteArray×List ByteArray×List Int) (hN:∀i,∀s∈(N i).2.1,s.size<=1048576):∀(m i r:Nat) {st st':Bst},st.ok i (r+m)->lvlR N m i st=some st'->st'.ok (i+m) r
 | 0,i,r,st,st',hs,h=>by
  injection h with h
  subst h;exact hs
 | m+1,i,r,st,st',hs,h=>by
  rw [lvlR] at h
  cases e:oneS st (N i).1 (N i).2.1 (N i).2.2.1 (N i).2.2.2 with
  | none=>rw [e] at h;cases h
  | some q=>
   rw [e] at h
   have h2:=zjV N hN m (i+1) r (one_ok (m:=r+m) (by rw [Nat.add_assoc];exact hs) (hN i) e) h
   rw [show i+(m+1)=i+1+m from by omega]
   exact h2
theorem zeu {k:Wk} {m:Nat} (h:k.rm m):Bst.ok (k,[],[]) 0 m:=⟨rfl,rfl,fun s hs=>(by cases hs),h⟩
theorem lvs_ok {k:Wk} {L:List (ByteArray×ByteArray)} (hL:∀p∈L,p.1.size<=1048576) {r:Nat} {st:Bst} (hk:k.rm (r+fours L.length)) (h:lvs k L=some st):st.ok (fours L.length) r:=by
 have:=zjV (lfN L) (fun i s hs=>by
  obtain ⟨p,hp,rfl⟩:=List.mem_map.1 hs
  exact hL p (zc2 hp)) _ 0 r (zeu hk) h
 rwa [Nat.zero_add] at this
theorem mds_ok {st st':Bst} {i r:Nat} (hs:st.ok i (r+fours i)) (h:mds st=some st'):st'.ok (fours i) r:=by
 obtain ⟨h1,h2,h3,h4⟩:=hs;unfold mds at h;rw [h2] at h
 have:=zjV (mdN st.2.1 st.2.2) (fun i s hs=>h3 s (zc2 hs)) _ 0 r (zeu h4) h
 rwa [Nat.zero_add] at this
theorem zev {c:Nat} (h:1<c):fours c+fours c<=c:=by unfold fours;omega
def Bst.fit (st:Bst):Prop:=st.ok st.2.2.length st.2.2.length
theorem fit_up {st st':Bst} (hs:st.fit) (h1:1<st.2.2.length) (h:mds st=some st'):st'.fit/\st'.2.2.length=fours st.2.2.length:=by
 have h2:=zev h1;obtain ⟨a1,a2,a3,a4⟩:=hs;have h3:=mds_ok (r:=fours st.2.2.length) ⟨a1,rfl,a3,zhH a4 h2⟩ h;refine ⟨?_,h3.2.1⟩;unfold Bst.fit;rw [h3.2.1];exact h3
theorem lvs_fit {k:Wk} {L:List (ByteArray×ByteArray)} (hL:∀p∈L,p.1.size<=1048576) (hl:L.length<=1048576) (hk:k.rm 951424) {st:Bst} (h:lvs k L=some st):st.fit/\st.2.2.length=fours L.length:=by
 have hf:fours L.length<=262144:=by unfold fours;omega
 have h3:=lvs_ok (r:=fours L.length) hL (zhH hk (by omega)) h
 refine ⟨?_,h3.2.1⟩;unfold Bst.fit;rw [h3.2.1];exact h3
theorem zgh {f c:Nat} (h:c<=1):lup f c=0:=by
 cases f with
 | zero=>rfl
 | succ f=>rw [lup,if_pos h]
theorem zjW:∀(f c:Nat),c<=2 ^ f->lup (f+1) c=lup f c
 | 0,c,h=>by rw [zgh (by simpa using h),zgh (by simpa using h)]
 | f+1,c,h=>by
  rw [lup]
  conv=>rhs;rw [lup]
  split
  ·rfl
  ·rw [zjW f (fours c) (by rw [Nat.pow_succ] at h;unfold fours;omega)]
theorem zlq {c:Nat} (h1:1<c) (h:c<=1048576):lup 21 c=lup 21 (fours c)+1:=by
 have:lup 21 (fours c)=lup 20 (fours c):=zjW 20 _ (by have:=zev h1;omega)
 rw [this,lup,if_neg (by omega)]
open Classical in
noncomputable def rdN (t:ByteArray):Nd×Bool:=if h:∃n,IsNd t n then (Classical.choose h,true) else (Nd.none,false)
theorem zgi {t:ByteArray} {n:Nd} {ok:Bool} (h:ReadN t n ok):rdN t=(n,ok):=by
 unfold rdN
 rcases h with ⟨rfl,h1,h2⟩ | ⟨rfl,rfl,h2⟩
 ·have hx:∃n,IsNd t n:=⟨n,h1⟩
  rw [dif_pos hx,h2 _ (Classical.choose_spec hx)]
 ·rw [dif_neg (fun ⟨m,hm⟩=>h2 m hm)]
theorem zew {t:ByteArray} {n:Nd} (h:rdN t=(n,true)):n.ok=true:=by
 unfold rdN at h
 split at h
 ·rename_i hx
  injection h with h1 h2
  rw [<-h1];exact (Classical.choose_spec hx).1
 ·injection h with h1 h2
  cases h2
theorem zbR (ks:List ByteArray) (key:ByteArray):∀k:Nat,-1<=placeK ks key k/\placeK ks key k<(k:Int)
 | 0=>by simp [placeK]
 | k+1=>by
  have:=zbR ks key k;rw [placeK]
  split <;> omega
noncomputable def getL (D:Int->ByteArray) (key:ByteArray):Nat->Int->Option ByteArray
 | 0,_=>none
 | k+1,p=>
  if (rdN (D p)).2=false\/placeK (rdN (D p)).1.ks key (rdN (D p)).1.ks.length<0 then none
  else if (rdN (D p)).1.lf=true then
   (if (rdN (D p)).1.ks.getD (placeK (rdN (D p)).1.ks key (rdN (D p)).1.ks.length).toNat ⟨#[]⟩=key then some ((rdN (D p)).1.vs.getD (placeK (rdN (D p)).1.ks key (rdN (D p)).1.ks.length).toNat ⟨#[]⟩) else none)
  else getL D key k ((rdN (D p)).1.cs.getD (placeK (rdN (D p)).1.ks key (rdN (D p)).1.ks.length).toNat 0)
def getO:Option ByteArray->Value
 | none=> .tuple #[.string ⟨#[]⟩,.bool false]
 | some v=> .tuple #[.string v,.bool true]
noncomputable def getK (D:Int->ByteArray) (root:Int) (key:ByteArray):Option ByteArray:=if root=0 then none else getL D key 8 root
structure Vis where
 page:Int
 nd:Nd
 way:List (Nd×Nat)
def kidsL (f:Int->List (Nd×Nat)->List Int->List Vis×Option (List Int)) (n:Nd) (way:List (Nd×Nat)) (seen:List Int):Nat->List Vis×Option (List Int)
 | 0=>([],some seen)
 | i+1=>
  match kidsL f n way seen i with
  | (vs,none)=>(vs,none)
  | (vs,some s)=>(vs++(f (n.cs.getD i 0) (way++ [(n,i)]) s).1,(f (n.cs.getD i 0) (way++ [(n,i)]) s).2)
def downL (R:Int->Nd×Bool):Nat->Int->List (Nd×Nat)->List Int->List Vis×Option (List Int)
 | 0,_,_,_=>([],none)
 | k+1,p,way,seen=>
  if (R p).2=false\/p∈seen then ([],none)
  else (⟨p,(R p).1,way⟩ :: (kidsL (downL R k) (R p).1 way (seen++ [p]) (R p).1.cs.length).1,(kidsL (downL R k) (R p).1 way (seen++ [p]) (R p).1.cs.length).2)
theorem zde {f:Int->List (Nd×Nat)->List Int->List Vis×Option (List Int)} {n:Nd} {way:List (Nd×Nat)} {seen s:List Int} {i:Nat} (h:(kidsL f n way seen i).2=some s):
  kidsL f n way seen (i+1)=((kidsL f n way seen i).1++(f (n.cs.getD i 0) (way++ [(n,i)]) s).1,(f (n.cs.getD i 0) (way++ [(n,i)]) s).2):=by
 rw [kidsL]
 generalize kidsL f n way seen i=r at h⊢
 obtain ⟨vs,o⟩:=r
 simp only at h
 subst h
 rfl
theorem zgj {f:Int->List (Nd×Nat)->List Int->List Vis×Option (List Int)} {n:Nd} {way:List (Nd×Nat)} {seen:List Int} {i:Nat} (h:(kidsL f n way seen i).2=none):
  kidsL f n way seen (i+1)=kidsL f n way seen i:=by
 rw [kidsL]
 generalize kidsL f n way seen i=r at h⊢
 obtain ⟨vs,o⟩:=r
 simp only at h
 subst h
 rfl
structure Al where
 pairs:List (ByteArray×ByteArray)
 pages:List Int
 depths:List Int
 bad:Bool
 loose:Bool
def Al.none:Al:=⟨[],[],[],false,false⟩
def lessB (x y:ByteArray):Bool:=Op.bytesLess x.toList y.toList
def leastB (n:Nd) (i:Nat) (low:ByteArray):ByteArray:=if lessB low (n.ks.getD i ⟨#[]⟩)=true then n.ks.getD i ⟨#[]⟩ else low
def nearB (n:Nd) (i:Nat) (high:ByteArray) (has:Bool):Bool:=decide (i+1<n.ks.length) && (!has || lessB (n.ks.getD (i+1) ⟨#[]⟩) high)
def nextB (n:Nd) (i:Nat) (high:ByteArray) (has:Bool):ByteArray:=if nearB n i high has=true then n.ks.getD (i+1) ⟨#[]⟩ else high
def moreB (n:Nd) (i:Nat) (high:ByteArray) (has:Bool):Bool:=if nearB n i high has=true then true else has
def outB (k low high:ByteArray) (has:Bool):Bool:=lessB k low || (has && !lessB k high)
def stepS (f:Int->Nat->ByteArray->ByteArray->Bool->Al->Al) (n:Nd) (deep:Nat) (low high:ByteArray) (has:Bool) (i:Nat) (a:Al):Al:=
 if n.lf=true then {a with loose:=a.loose || outB (n.ks.getD i ⟨#[]⟩) low high has,pairs:=a.pairs++ [(n.ks.getD i ⟨#[]⟩,n.vs.getD i ⟨#[]⟩)]}
 else f (n.cs.getD i 0) (deep+1) (leastB n i low) (nextB n i high has) (moreB n i high has) a
def loopS (f:Int->Nat->ByteArray->ByteArray->Bool->Al->Al) (n:Nd) (deep:Nat) (low high:ByteArray) (has:Bool) (a:Al):Nat->Al
 | 0=>a
 | i+1=>stepS f n deep low high has i (loopS f n deep low high has a i)
def walkS (R:Int->Nd×Bool):Nat->Int->Nat->ByteArray->ByteArray->Bool->Al->Al
 | 0,_,_,_,_,_,a=>{a with bad:=true}
 | k+1,p,deep,low,high,has,a=>
  if (R p).2=false\/p∈a.pages\/a.bad=true then {a with bad:=true}
  else if (R p).1.lf=true then {(loopS (walkS R k) (R p).1 deep low high has {a with pages:=a.pages++ [p]} (R p).1.ks.length) with depths:=(loopS (walkS R k) (R p).1 deep low high has {a with pages:=a.pages++ [p]} (R p).1.ks.length).depths++ [(deep:Int)]}
  else loopS (walkS R k) (R p).1 deep low high has {a with pages:=a.pages++ [p]} (R p).1.ks.length
theorem zlr (R:Int->Nd×Bool) (k:Nat) (p:Int) (deep:Nat) (low high:ByteArray) (has:Bool) (a:Al) (h:a.bad=true):walkS R k p deep low high has a=a:=by
 cases a
 simp only at h
 subst h
 cases k with
 | zero=>rfl
 | succ k=>rw [walkS,if_pos (Or.inr (Or.inr rfl))]
def pairsN (n:Nd):List (ByteArray×ByteArray):=(List.range n.vs.length).map fun i=>(n.ks.getD i ⟨#[]⟩,n.vs.getD i ⟨#[]⟩)
def pairsV (l:List Vis):List (ByteArray×ByteArray):=l.flatMap fun v=>pairsN v.nd
def pagesV (l:List Vis):List Int:=l.map Vis.page
def Right (R:Int->Nd×Bool):Prop:=∀p,(R p).2=true->(R p).1.ok=true
theorem zf6 (f:Int->Nat->ByteArray->ByteArray->Bool->Al->Al) (n:Nd) (hl:n.lf=true) (deep:Nat) (low high:ByteArray) (has:Bool) (a:Al):∀i,
  (loopS f n deep low high has a i).bad=a.bad/\(loopS f n deep low high has a i).pages=a.pages/\(loopS f n deep low high has a i).depths=a.depths/\
  (loopS f n deep low high has a i).pairs=a.pairs++(List.range i).map (fun i=>(n.ks.getD i ⟨#[]⟩,n.vs.getD i ⟨#[]⟩))
 | 0=>by simp [loopS]
 | i+1=>by
  obtain ⟨h1,h2,h3,h4⟩:=zf6 f n hl deep low high has a i;rw [loopS,stepS,if_pos hl];refine ⟨h1,h2,h3,?_⟩
  simp only
  rw [h4,List.range_succ,List.map_append,List.append_assoc]
  rfl
theorem zik (R:Int->Nd×Bool) (hR:Right R):∀(k:Nat) (p:Int) (way:List (Nd×Nat)) (deep:Nat) (low high:ByteArray) (has:Bool) (a:Al),a.bad=false->
  ((downL R k p way a.pages).2=none->(walkS R k p deep low high has a).bad=true)/\
  (∀s,(downL R k p way a.pages).2=some s->(walkS R k p deep low high has a).bad=false/\(walkS R k p deep low high has a).pages=s/\s=a.pages++pagesV (downL R k p way a.pages).1/\(walkS R k p deep low high has a).pairs=a.pairs++pairsV (downL R k p way a.pages).1)
 | 0,p,way,deep,low,high,has,a,h=>by
  refine ⟨fun _=>rfl,fun s hs=> ?_⟩
  rw [downL] at hs
  cases hs
 | k+1,p,way,deep,low,high,has,a,h=>by
  by_cases hb:(R p).2=false\/p∈a.pages
  ·rw [downL,if_pos hb,walkS,if_pos (by rcases hb with hb | hb;exact Or.inl hb;exact Or.inr (Or.inl hb))]
   exact ⟨fun _=>rfl,fun s hs=>by cases hs⟩
  ·rw [downL,if_neg hb,walkS,if_neg (fun hh=>by rcases hh with hh | hh | hh;exact hb (Or.inl hh);exact hb (Or.inr hh);rw [h] at hh;cases hh)]
   have hok:(R p).1.ok=true:=hR p (by cases hc:(R p).2;exact absurd (Or.inl hc) hb;rfl)
   obtain ⟨n,hn⟩:∃n,n=(R p).1:=⟨_,rfl⟩;rw [<-hn] at hok⊢;obtain ⟨he1,he2⟩:=zbj hok
   cases hlf:n.lf with
   | true=>
    obtain ⟨e1,e2⟩:=he1 hlf;rw [if_pos rfl,e2,List.length_nil,kidsL]
    obtain ⟨h1,h2,h3,h4⟩:=zf6 (walkS R k) n hlf deep low high has {a with pages:=a.pages++ [p]} n.ks.length
    refine ⟨fun hh=>(by cases hh),fun s hs=> ?_⟩
    injection hs with hs
    refine ⟨h1.trans h,h2.trans hs,?_,?_⟩
    ·rw [<-hs]
     rfl
    ·simp only
     rw [h4,pairsV]
     simp only [List.flatMap_cons,List.flatMap_nil,List.append_nil,pairsN,e1]
   | false=>
    obtain ⟨e1,e2⟩:=he2 hlf
    rw [if_neg (by decide)]
    obtain ⟨b,hbb⟩:∃b:Al,b={a with pages:=a.pages++ [p]}:=⟨_,rfl⟩
    have hb1:b.bad=false:=by rw [hbb];exact h
    have hb2:b.pages=a.pages++ [p]:=by rw [hbb]
    have hb3:b.pairs=a.pairs:=by rw [hbb]
    rw [<-hbb,<-hb2]
    have key:∀i,((kidsL (downL R k) n way b.pages i).2=none->(loopS (walkS R k) n deep low high has b i).bad=true)/\
      (∀s,(kidsL (downL R k) n way b.pages i).2=some s->(loopS (walkS R k) n deep low high has b i).bad=false/\(loopS (walkS R k) n deep low high has b i).pages=s/\s=b.pages++pagesV (kidsL (downL R k) n way b.pages i).1/\(loopS (walkS R k) n deep low high has b i).pairs=b.pairs++pairsV (kidsL (downL R k) n way b.pages i).1):=by
     intro i
     induction i with
     | zero=>
      refine ⟨fun hh=>(by cases hh),fun s hs=> ?_⟩
      injection hs with hs
      refine ⟨hb1,hs,?_,?_⟩
      ·rw [<-hs];simp [kidsL,pagesV]
      ·simp [kidsL,pairsV,loopS]
     | succ i ih=>
      rw [loopS,stepS,if_neg (by rw [hlf];decide)]
      cases hk:(kidsL (downL R k) n way b.pages i).2 with
      | none=>
       rw [zgj hk];have hbad:=ih.1 hk;rw [zlr _ _ _ _ _ _ _ _ hbad]
       exact ⟨fun _=>hbad,fun s hs=>by rw [hk] at hs;cases hs⟩
      | some s0=>
       obtain ⟨i1,i2,i3,i4⟩:=ih.2 s0 hk;rw [zde hk];have hrec:=zik R hR k (n.cs.getD i 0) (way++ [(n,i)]) (deep+1) (leastB n i low) (nextB n i high has) (moreB n i high has) (loopS (walkS R k) n deep low high has b i) i1;rw [i2] at hrec
       refine ⟨hrec.1,fun s hs=> ?_⟩
       obtain ⟨r1,r2,r3,r4⟩:=hrec.2 s hs;refine ⟨r1,r2,?_,?_⟩
       ·refine r3.trans ((congrArg (fun l=>l++pagesV _) i3).trans ?_)
        simp only [pagesV,List.map_append,List.append_assoc]
       ·rw [r4,i4]
        simp only [pairsV,List.flatMap_append,List.append_assoc]
    obtain ⟨k1,k2⟩:=key n.ks.length;rw [e1]
    refine ⟨k1,fun s hs=> ?_⟩
    obtain ⟨r1,r2,r3,r4⟩:=k2 s hs;refine ⟨r1,r2,?_,?_⟩
    ·rw [r3,hb2]
     simp only [pagesV,List.map_cons,List.append_assoc,List.singleton_append]
    ·rw [r4,hb3]
     simp only [pairsV,List.flatMap_cons,pairsN,e2,List.length_nil,List.range_zero,List.map_nil,List.nil_append]
def seenI (R:Int->Nd×Bool) (root:Int):List Vis×Bool:=if root=0 then ([],true) else ((downL R 8 root [] []).1,(downL R 8 root [] []).2.isSome)
def seenS (R:Int->Nd×Bool) (root:Int):Al:=if root=0 then Al.none else walkS R 8 root 0 ⟨#[]⟩ ⟨#[]⟩ false Al.none
def allI (R:Int->Nd×Bool) (root:Int):List (ByteArray×ByteArray)×Bool:=if (seenI R root).2=true then (pairsV (seenI R root).1,true) else ([],false)
def allS (R:Int->Nd×Bool) (root:Int):List (ByteArray×ByteArray)×Bool:=if (seenS R root).bad=true then ([],false) else ((seenS R root).pairs,true)
theorem zls (R:Int->Nd×Bool) (hR:Right R) (root:Int):(seenS R root).bad= !(seenI R root).2/\((seenI R root).2=true->(seenS R root).pages=pagesV (seenI R root).1/\(seenS R root).pairs=pairsV (seenI R root).1):=by
 unfold seenS seenI
 by_cases h:root=0
 ·rw [if_pos h,if_pos h]
  exact ⟨rfl,fun _=>⟨rfl,rfl⟩⟩
 ·rw [if_neg h,if_neg h]
  obtain ⟨h1,h2⟩:=zik R hR 8 root [] 0 ⟨#[]⟩ ⟨#[]⟩ false Al.none rfl
  simp only [Al.none] at h1 h2⊢
  cases hd:(downL R 8 root [] []).2 with
  | none=>exact ⟨h1 hd,fun hh=>by cases hh⟩
  | some s=>
   obtain ⟨r1,r2,r3,r4⟩:=h2 s hd
   refine ⟨r1,fun _=>⟨?_,?_⟩⟩
   ·rw [r2,r3];rfl
   ·rw [r4];rfl
theorem zmE (R:Int->Nd×Bool) (hR:Right R) (root:Int):allI R root=allS R root:=by
 obtain ⟨h1,h2⟩:=zls R hR root;unfold allI allS
 cases hi:(seenI R root).2 with
 | true=>rw [hi] at h1 h2;rw [if_pos rfl,if_neg (by rw [h1];decide),(h2 rfl).2]
 | false=>rw [hi] at h1;rw [if_neg (by decide),if_pos (by rw [h1];rfl)]
open Go Go.RowKit
def KeptC (C:Nat->Prop) (W W':World):Prop:=W'.os=W.os/\W'.tape=W.tape/\W'.output=W.output/\W.heap.size<=W'.heap.size/\∀k,k<W.heap.size->¬C k->W'.heap[k]?=W.heap[k]?
theorem zbk {C C':Nat->Prop} {A B D:World} (h:KeptC C A B) (k:KeptC C' B D) (hC:∀j,C' j->C j\/A.heap.size<=j):KeptC C A D:=
 ⟨k.1.trans h.1,k.2.1.trans h.2.1,k.2.2.1.trans h.2.2.1,Nat.le_trans h.2.2.2.1 k.2.2.2.1,fun j hj hn=>(k.2.2.2.2 j (Nat.lt_of_lt_of_le hj h.2.2.2.1) (fun hc=>by rcases hC j hc with h1 | h1;exact hn h1;omega)).trans (h.2.2.2.2 j hj hn)⟩
theorem zj9 {C:Nat->Prop} {A B:World} {n0:Nat} (h:KeptC C A B) (hC:∀k,C k->n0<=k) (hn:n0<=A.heap.size):Below n0 A B:=
 ⟨h.1,h.2.1,h.2.2.1,h.2.2.2.1,fun k hk=>h.2.2.2.2 k (by omega) (fun hc=>by have:=hC k hc;omega)⟩
theorem zbd {C:Nat->Prop} {A B:World} (h:Below A.heap.size A B):KeptC C A B:=
 ⟨h.os,h.tape,h.output,h.size,fun k hk _=>h.block k hk⟩
theorem zja (C:Nat->Prop) (W:World) (o:Obj):KeptC C W (W.alloc o):=zbd ((Below.refl _ W).alloc (Nat.le_refl _) _)
theorem zc3 {C:Nat->Prop} (W:World) {b:Nat} (j:Nat) (v:Value) (hl:C b):KeptC C W (W.setCell ⟨b,j,none⟩ v):=
 ⟨rfl,rfl,rfl,(KeepsWalks.setCell W _ v).size,fun k _ hn=>Below.heap_setCell _ _ _ k (fun e=>hn (by rw [e];exact hl))⟩
open Go.RowKit
def prs (l:List (ByteArray×ByteArray)):List Value:=l.flatMap fun p=> [.string p.1,.string p.2]
theorem zmF (l:List (ByteArray×ByteArray)) (k v:ByteArray):prs l++ [.string k,.string v]=prs (l++ [(k,v)]):=by simp [prs]
theorem zil (l:List Int) (x:Int):ints l++ [.int .i64 x]=ints (l++ [x]):=by simp [ints]
def AlIs (W:World) (ga:Nat) (a:Al) (vp vg vd:Value):Prop:=
 W.heap[ga]?=some (.cells #[vp,vg,vd,.bool a.bad,.bool a.loose] 67 (0,0))/\W.ownsRow (ga+1) 41 2 vp a.pairs.length (prs a.pairs)/\W.ownsRow (ga+1) 3 1 vg a.pages.length (ints a.pages)/\W.ownsRow (ga+1) 3 1 vd a.depths.length (ints a.depths)/\(∀k,vg.ownBlock=some k->vd.ownBlock≠some k)
def AlF (ga:Nat) (vp vg vd:Value) (k:Nat):Prop:=k=ga\/vp.ownBlock=some k\/vg.ownBlock=some k\/vd.ownBlock=some k
theorem al_lt {W:World} {ga:Nat} {a:Al} {vp vg vd:Value} (h:AlIs W ga a vp vg vd):∀k,AlF ga vp vg vd k->ga<=k/\k<W.heap.size:=by
 obtain ⟨h1,h2,h3,h4,-⟩:=h;rintro k (rfl | hk | hk | hk)
 ·exact ⟨Nat.le_refl _,(Array.getElem?_eq_some_iff.1 h1).1⟩
 ·have:=h2.lt k hk;omega
 ·have:=h3.lt k hk;omega
 ·have:=h4.lt k hk;omega
theorem Tryz.pair_int:(41:Nat)≠3:=by decide
theorem al_kept {W W':World} {ga:Nat} {a:Al} {vp vg vd:Value} {S:Nat->Prop} (h:AlIs W ga a vp vg vd) (hk:Kept W W' S) (hS:∀k,AlF ga vp vg vd k->¬S k):AlIs W' ga a vp vg vd:=by
 obtain ⟨h1,h2,h3,h4,h5⟩:=h
 exact ⟨(hk.2.2.2.2 ga (Array.getElem?_eq_some_iff.1 h1).1 (hS ga (Or.inl rfl))).trans h1,za6 h2 hk (fun k e=>hS k (Or.inr (Or.inl e))),za6 h3 hk (fun k e=>hS k (Or.inr (Or.inr (Or.inl e)))),za6 h4 hk (fun k e=>hS k (Or.inr (Or.inr (Or.inr e)))),h5⟩
theorem zc4 {W W':World} {ga:Nat} {a:Al} {vp vg vd:Value} (h:AlIs W ga a vp vg vd) (hb:Below W.heap.size W W'):AlIs W' ga a vp vg vd:=al_kept h (ze1 hb (fun _=>False)) (fun _ _ h=>h)
theorem al_bad {W:World} {ga:Nat} {a:Al} {vp vg vd:Value} (h:AlIs W ga a vp vg vd) (b:Bool):AlIs (W.setCell ⟨ga,3,none⟩ (.bool b)) ga {a with bad:=b} vp vg vd:=by
 obtain ⟨h1,h2,h3,h4,h5⟩:=h;have hk:=za9 W ga 3 (.bool b)
 refine ⟨heap_setCell_same _ ga 3 _ _ _ h1,za6 h2 hk (fun k e=> ?_),za6 h3 hk (fun k e=> ?_),za6 h4 hk (fun k e=> ?_),h5⟩
 ·have:=(h2.lt k e).1;omega
 ·have:=(h3.lt k e).1;omega
 ·have:=(h4.lt k e).1;omega
theorem zjX {W:World} {ga:Nat} {a:Al} {vp vg vd:Value} (h:AlIs W ga a vp vg vd) (b:Bool):AlIs (W.setCell ⟨ga,4,none⟩ (.bool b)) ga {a with loose:=b} vp vg vd:=by
 obtain ⟨h1,h2,h3,h4,h5⟩:=h;have hk:=za9 W ga 4 (.bool b)
 refine ⟨heap_setCell_same _ ga 4 _ _ _ h1,za6 h2 hk (fun k e=> ?_),za6 h3 hk (fun k e=> ?_),za6 h4 hk (fun k e=> ?_),h5⟩
 ·have:=(h2.lt k e).1;omega
 ·have:=(h3.lt k e).1;omega
 ·have:=(h4.lt k e).1;omega
theorem zbv {W w':World} {o:Obj} {v:Value} (hg:(W.alloc o).grownBy w' v.ownBlock):Kept W w' (fun k=>v.ownBlock=some k):=
 ⟨hg.os,hg.tape,hg.output,Nat.le_trans (by simp) hg.size,fun k hk hn=>(hg.block k (by simp;omega) (fun e=>hn e.symm)).trans (heap_alloc_old W o hk)⟩
theorem zlt {W w':World} {ga b cap:Nat} {a:Al} {vp vg vd:Value} {p:Int} {o:Obj} (h:AlIs W ga a vp vg vd) (hown:w'.ownsRow (ga+1) 3 1 (.slice (some ⟨b,0,none⟩) (a.pages.length+1) cap) (a.pages.length+1) (ints a.pages++ [.int .i64 p])) (hg:(W.alloc o).grownBy w' vg.ownBlock) (hb:vg.ownBlock=some b\/b=W.heap.size+1):
  AlIs (w'.setCell ⟨ga,1,none⟩ (.slice (some ⟨b,0,none⟩) (a.pages.length+1) cap)) ga {a with pages:=a.pages++ [p]} vp (.slice (some ⟨b,0,none⟩) (a.pages.length+1) cap) vd/\
  KeptC (AlF ga vp vg vd) W (w'.setCell ⟨ga,1,none⟩ (.slice (some ⟨b,0,none⟩) (a.pages.length+1) cap))/\(∀k,AlF ga vp (.slice (some ⟨b,0,none⟩) (a.pages.length+1) cap) vd k->AlF ga vp vg vd k\/W.heap.size<=k)/\
  w'.cell? ⟨ga,1,none⟩=some vg/\w'.frozen? ⟨ga,1,none⟩=false:=by
 obtain ⟨h1,h2,h3,h4,h5⟩:=h
 have k1:Kept W w' (fun k=>vg.ownBlock=some k):=zbv hg
 have hga:ga<W.heap.size:=(Array.getElem?_eq_some_iff.1 h1).1
 have g1:=(k1.2.2.2.2 ga hga (fun e=>by have:=(h3.lt ga e).1;omega)).trans h1
 have k2:=za9 w' ga 1 (.slice (some ⟨b,0,none⟩) (a.pages.length+1) cap);have hbe:=hb
 refine ⟨⟨heap_setCell_same _ ga 1 _ _ _ g1,za6 (za6 h2 k1 (fun k e=>zbE h2 h3 Tryz.pair_int k e)) k2 (fun k e=>by have:=(h2.lt k e).1;omega),?_,za6 (za6 h4 k1 (fun k e e2=>h5 k e2 e)) k2 (fun k e=>by have:=(h4.lt k e).1;omega),fun k e=> ?_⟩,?_,fun k hk=> ?_,(za0 g1 1).1,(za0 g1 1).2⟩
 ·have ho:=za6 hown k2 (fun k e=>by have:=(hown.lt k e).1;omega)
  rw [zil] at ho;rw [List.length_append,List.length_singleton];exact ho
 ·injection e with e
  have e:b=k:=e;subst e
  rcases hbe with e2 | e2
  ·exact h5 b e2
  ·intro e3
   have:=(h4.lt b e3).2
   omega
 ·refine zbk (C:=AlF ga vp vg vd) (C':=fun k=>k=ga) ⟨k1.1,k1.2.1,k1.2.2.1,k1.2.2.2.1,fun k hk hn=>k1.2.2.2.2 k hk (fun e=>hn (Or.inr (Or.inr (Or.inl e))))⟩ k2 (fun j e=>Or.inl (Or.inl e))
 ·rcases hk with hk | hk | hk | hk
  ·exact Or.inl (Or.inl hk)
  ·exact Or.inl (Or.inr (Or.inl hk))
  ·injection hk with hk
   have hk:b=k:=hk;subst hk
   rcases hbe with e2 | e2
   ·exact Or.inl (Or.inr (Or.inr (Or.inl e2)))
   ·exact Or.inr (by omega)
  ·exact Or.inl (Or.inr (Or.inr (Or.inr hk)))
theorem zmG {W w':World} {ga b cap:Nat} {a:Al} {vp vg vd:Value} {p:Int} {o:Obj} (h:AlIs W ga a vp vg vd) (hown:w'.ownsRow (ga+1) 3 1 (.slice (some ⟨b,0,none⟩) (a.depths.length+1) cap) (a.depths.length+1) (ints a.depths++ [.int .i64 p])) (hg:(W.alloc o).grownBy w' vd.ownBlock) (hb:vd.ownBlock=some b\/b=W.heap.size+1):
  AlIs (w'.setCell ⟨ga,2,none⟩ (.slice (some ⟨b,0,none⟩) (a.depths.length+1) cap)) ga {a with depths:=a.depths++ [p]} vp vg (.slice (some ⟨b,0,none⟩) (a.depths.length+1) cap)/\
  KeptC (AlF ga vp vg vd) W (w'.setCell ⟨ga,2,none⟩ (.slice (some ⟨b,0,none⟩) (a.depths.length+1) cap))/\(∀k,AlF ga vp vg (.slice (some ⟨b,0,none⟩) (a.depths.length+1) cap) k->AlF ga vp vg vd k\/W.heap.size<=k)/\
  w'.cell? ⟨ga,2,none⟩=some vd/\w'.frozen? ⟨ga,2,none⟩=false:=by
 obtain ⟨h1,h2,h3,h4,h5⟩:=h
 have k1:Kept W w' (fun k=>vd.ownBlock=some k):=zbv hg
 have hga:ga<W.heap.size:=(Array.getElem?_eq_some_iff.1 h1).1
 have g1:=(k1.2.2.2.2 ga hga (fun e=>by have:=(h4.lt ga e).1;omega)).trans h1
 have k2:=za9 w' ga 2 (.slice (some ⟨b,0,none⟩) (a.depths.length+1) cap);have hbe:=hb
 refine ⟨⟨heap_setCell_same _ ga 2 _ _ _ g1,za6 (za6 h2 k1 (fun k e=>zbE h2 h4 Tryz.pair_int k e)) k2 (fun k e=>by have:=(h2.lt k e).1;omega),za6 (za6 h3 k1 (fun k e e2=>h5 k e e2)) k2 (fun k e=>by have:=(h3.lt k e).1;omega),?_,fun k e e3=> ?_⟩,?_,fun k hk=> ?_,(za0 g1 2).1,(za0 g1 2).2⟩
 ·have ho:=za6 hown k2 (fun k e=>by have:=(hown.lt k e).1;omega)
  rw [zil] at ho;rw [List.length_append,List.length_singleton];exact ho
 ·injection e3 with e3
  have e3:b=k:=e3;subst e3
  rcases hbe with e2 | e2
  ·exact h5 b e e2
  ·have:=(h3.lt b e).2
   omega
 ·refine zbk (C:=AlF ga vp vg vd) (C':=fun k=>k=ga) ⟨k1.1,k1.2.1,k1.2.2.1,k1.2.2.2.1,fun k hk hn=>k1.2.2.2.2 k hk (fun e=>hn (Or.inr (Or.inr (Or.inr e))))⟩ k2 (fun j e=>Or.inl (Or.inl e))
 ·rcases hk with hk | hk | hk | hk
  ·exact Or.inl (Or.inl hk)
  ·exact Or.inl (Or.inr (Or.inl hk))
  ·exact Or.inl (Or.inr (Or.inr (Or.inl hk)))
  ·injection hk with hk
   have hk:b=k:=hk;subst hk
   rcases hbe with e2 | e2
   ·exact Or.inl (Or.inr (Or.inr (Or.inr e2)))
   ·exact Or.inr (by omega)
theorem zhI {W w':World} {ga b cap:Nat} {a:Al} {vp vg vd:Value} {x y:ByteArray} {o:Obj} (h:AlIs W ga a vp vg vd) (hown:w'.ownsRow (ga+1) 41 2 (.slice (some ⟨b,0,none⟩) (a.pairs.length+1) cap) (a.pairs.length+1) (prs a.pairs++ [.string x,.string y])) (hg:(W.alloc o).grownBy w' vp.ownBlock) (hb:vp.ownBlock=some b\/b=W.heap.size+1):
  AlIs (w'.setCell ⟨ga,0,none⟩ (.slice (some ⟨b,0,none⟩) (a.pairs.length+1) cap)) ga {a with pairs:=a.pairs++ [(x,y)]} (.slice (some ⟨b,0,none⟩) (a.pairs.length+1) cap) vg vd/\
  KeptC (AlF ga vp vg vd) W (w'.setCell ⟨ga,0,none⟩ (.slice (some ⟨b,0,none⟩) (a.pairs.length+1) cap))/\(∀k,AlF ga (.slice (some ⟨b,0,none⟩) (a.pairs.length+1) cap) vg vd k->AlF ga vp vg vd k\/W.heap.size<=k)/\
  w'.cell? ⟨ga,0,none⟩=some vp/\w'.frozen? ⟨ga,0,none⟩=false:=by
 obtain ⟨h1,h2,h3,h4,h5⟩:=h
 have k1:Kept W w' (fun k=>vp.ownBlock=some k):=zbv hg
 have hga:ga<W.heap.size:=(Array.getElem?_eq_some_iff.1 h1).1
 have g1:=(k1.2.2.2.2 ga hga (fun e=>by have:=(h2.lt ga e).1;omega)).trans h1
 have k2:=za9 w' ga 0 (.slice (some ⟨b,0,none⟩) (a.pairs.length+1) cap);have hbe:=hb
 refine ⟨⟨heap_setCell_same _ ga 0 _ _ _ g1,?_,za6 (za6 h3 k1 (fun k e=>zbE h3 h2 (Ne.symm Tryz.pair_int) k e)) k2 (fun k e=>by have:=(h3.lt k e).1;omega),za6 (za6 h4 k1 (fun k e=>zbE h4 h2 (Ne.symm Tryz.pair_int) k e)) k2 (fun k e=>by have:=(h4.lt k e).1;omega),h5⟩,?_,fun k hk=> ?_,(za0 g1 0).1,(za0 g1 0).2⟩
 ·have ho:=za6 hown k2 (fun k e=>by have:=(hown.lt k e).1;omega)
  rw [zmF] at ho;rw [List.length_append,List.length_singleton];exact ho
 ·refine zbk (C:=AlF ga vp vg vd) (C':=fun k=>k=ga) ⟨k1.1,k1.2.1,k1.2.2.1,k1.2.2.2.1,fun k hk hn=>k1.2.2.2.2 k hk (fun e=>hn (Or.inr (Or.inl e)))⟩ k2 (fun j e=>Or.inl (Or.inl e))
 ·rcases hk with hk | hk | hk | hk
  ·exact Or.inl (Or.inl hk)
  ·injection hk with hk
   have hk:b=k:=hk;subst hk
   rcases hbe with e2 | e2
   ·exact Or.inl (Or.inr (Or.inl e2))
   ·exact Or.inr (by omega)
  ·exact Or.inl (Or.inr (Or.inr (Or.inl hk)))
  ·exact Or.inl (Or.inr (Or.inr (Or.inr hk)))
open Go.RowKit
theorem zmH (p:ByteArray×ByteArray) (l:List (ByteArray×ByteArray)):prs (p :: l)=Value.string p.1 :: .string p.2 :: prs l:=rfl
theorem prs_at (l:List (ByteArray×ByteArray)):∀k (h:k<l.length),(prs l)[k * 2]?=some (.string l[k].1)/\(prs l)[k * 2+1]?=some (.string l[k].2):=by
 induction l with
 | nil=>intro k h;simp at h
 | cons p l ih=>
  intro k h
  cases k with
  | zero=>exact ⟨rfl,rfl⟩
  | succ k=>
   rw [zmH,show (k+1) * 2=k * 2+1+1 from by omega]
   exact ih k (by simpa using h)
open Go.RowKit
structure Ast where
 F:Nat->Prop
 P:World->Prop
 loc:∀W W',P W->(∀k,F k->W'.heap[k]?=W.heap[k]?)->P W'
def cellA (g:Nat) (o:Obj):Ast:=⟨fun k=>k=g,fun W=>W.heap[g]?=some o,fun _ _ h hk=>(hk g rfl).trans h⟩
def rowA (B e sz:Nat) (v:Value) (n:Nat) (xs:List Value):Ast:=⟨fun k=>v.ownBlock=some k,fun W=>W.ownsRow B e sz v n xs,fun W W' h hk=>by
 refine ⟨h.1,?_⟩
 rcases h.2 with ⟨rfl,hn⟩ | ⟨g,cap,cur,rfl,hg,hh,rest⟩
 ·exact Or.inl ⟨rfl,hn⟩
 ·exact Or.inr ⟨g,cap,cur,rfl,hg,(hk g rfl).trans hh,rest⟩⟩
def Sep (B:Nat) (W:World) (l:List Ast):Prop:=(∀A∈l,A.P W/\∀k,A.F k->B<=k/\k<W.heap.size)/\l.Pairwise (fun A A'=>∀k,A.F k->¬A'.F k)
theorem zcV (B:Nat) (W:World):Sep B W []:=⟨fun _ h=>(by cases h),List.Pairwise.nil⟩
theorem za2 {B:Nat} {W:World} {l:List Ast} (h:Sep B W l) (i:Nat) {A:Ast} (hi:l[i]?=some A):A.P W:=(h.1 A (List.mem_of_getElem? hi)).1
theorem zcv {B:Nat} {W:World} {l:List Ast} (h:Sep B W l) (i:Nat) {A:Ast} (hi:l[i]?=some A):∀k,A.F k->B<=k/\k<W.heap.size:=(h.1 A (List.mem_of_getElem? hi)).2
theorem zaw {B:Nat} {W:World} {l:List Ast} (h:Sep B W l) (i j:Nat) {A A':Ast} (hi:l[i]?=some A) (hj:l[j]?=some A') (hne:i≠j):∀k,A.F k->¬A'.F k:=by
 obtain ⟨hi1,rfl⟩:=List.getElem?_eq_some_iff.1 hi;obtain ⟨hj1,rfl⟩:=List.getElem?_eq_some_iff.1 hj
 rcases Nat.lt_or_gt_of_ne hne with h1 | h1
 ·exact List.pairwise_iff_getElem.1 h.2 i j hi1 hj1 h1
 ·exact fun k ha hb=>List.pairwise_iff_getElem.1 h.2 j i hj1 hi1 h1 k hb ha
theorem zim {B:Nat} {W W':World} {l:List Ast} (h:Sep B W l) (hs:W.heap.size<=W'.heap.size) (hk:∀A∈l,∀k,A.F k->W'.heap[k]?=W.heap[k]?):Sep B W' l:=
 ⟨fun A hA=>⟨A.loc W W' (h.1 A hA).1 (hk A hA),fun k hF=>⟨((h.1 A hA).2 k hF).1,Nat.lt_of_lt_of_le ((h.1 A hA).2 k hF).2 hs⟩⟩,h.2⟩
theorem zb5 {B:Nat} {W W':World} {l:List Ast} (h:Sep B W l) (hb:Below W.heap.size W W'):Sep B W' l:=
 zim h hb.size (fun A hA k hF=>hb.block k ((h.1 A hA).2 k hF).2)
theorem zcw {B:Nat} {W:World} {l:List Ast} (h:Sep B W l):Sep B W.drew l:=zb5 h (Below.refl _ _).drew
theorem zgk {B:Nat} {W:World} {l:List Ast} (h:Sep B W l) (o:Obj):Sep B (W.alloc o) l:=zb5 h ((Below.refl _ _).alloc (Nat.le_refl _) o)
theorem zmI {B:Nat} {W W':World} {l:List Ast} {S:Nat->Prop} (h:Sep B W l) (hk:Kept W W' S) (hS:∀A∈l,∀k,A.F k->¬S k):Sep B W' l:=
 zim h hk.2.2.2.1 (fun A hA k hF=>hk.2.2.2.2 k ((h.1 A hA).2 k hF).2 (hS A hA k hF))
theorem zaY {B:Nat} {W:World} {A:Ast} {l:List Ast}:Sep B W (A :: l)↔(A.P W/\∀k,A.F k->B<=k/\k<W.heap.size)/\(∀A'∈l,∀k,A.F k->¬A'.F k)/\Sep B W l:=by
 constructor
 ·rintro ⟨h1,h2⟩
  obtain ⟨h3,h4⟩:=List.pairwise_cons.1 h2
  exact ⟨h1 A List.mem_cons_self,h3,fun A' h=>h1 A' (List.mem_cons_of_mem _ h),h4⟩
 ·rintro ⟨h1,h2,h3,h4⟩
  refine ⟨fun A' h=> ?_,List.pairwise_cons.2 ⟨h2,h4⟩⟩
  rcases List.mem_cons.1 h with rfl | h
  ·exact h1
  ·exact h3 A' h
theorem zlu {B:Nat} {W:World} {A:Ast} {l:List Ast} (h:Sep B W (A :: l)):Sep B W l:=(zaY.1 h).2.2
theorem zdf {B:Nat} {W W':World} {l:List Ast} (h:Sep B W l) (hb:Below W.heap.size W W') (A:Ast) (hP:A.P W') (hF:∀k,A.F k->W.heap.size<=k/\k<W'.heap.size) (hB:B<=W.heap.size):Sep B W' (A :: l):=
 zaY.2 ⟨⟨hP,fun k hk=>⟨Nat.le_trans hB (hF k hk).1,(hF k hk).2⟩⟩,fun A' hA' k hk hk'=>by have:=((h.1 A' hA').2 k hk').2;have:=(hF k hk).1;omega,zb5 h hb⟩
theorem zaB {B:Nat} {W:World} {l:List Ast} (h:Sep B W l) (o:Obj) (hB:B<=W.heap.size):Sep B (W.alloc o) (cellA W.heap.size o :: l):=
 zdf h ((Below.refl _ _).alloc (Nat.le_refl _) o) (cellA W.heap.size o) (heap_alloc_new W o) (fun k hk=>by have hk:k=W.heap.size:=hk;subst hk;exact ⟨Nat.le_refl _,by simp⟩) hB
theorem ze5 {B:Nat} {W W':World} {l:List Ast} (h:Sep B W l) (i:Nat) {A:Ast} (hi:l[i]?=some A) (hk:Kept W W' A.F) (A':Ast) (hP:A'.P W') (hF:∀k,A'.F k->(A.F k\/W.heap.size<=k)/\k<W'.heap.size) (hB:B<=W.heap.size):Sep B W' (l.set i A'):=by
 obtain ⟨hi1,hie⟩:=List.getElem?_eq_some_iff.1 hi
 have hap:∀(j:Nat) (hj:j<l.length),j≠i->∀k,A'.F k->¬l[j].F k:=fun j hj hne k ha hb=>by
  rcases (hF k ha).1 with h1 | h1
  ·exact zaw h i j hi (List.getElem?_eq_getElem hj) (fun e=>hne e.symm) k h1 hb
  ·have:=(zcv h j (List.getElem?_eq_getElem hj) k hb).2;omega
 refine ⟨fun X hX=> ?_,?_⟩
 ·obtain ⟨j,hj,rfl⟩:=List.getElem_of_mem hX
  rw [List.length_set] at hj;rw [List.getElem_set]
  split
  ·refine ⟨hP,fun k hk'=>⟨?_,(hF k hk').2⟩⟩
   rcases (hF k hk').1 with h1 | h1
   ·exact (zcv h i hi k h1).1
   ·omega
  ·rename_i hne
   have h1:=h.1 l[j] (List.getElem_mem hj)
   have h2:∀k,l[j].F k->¬A.F k:=zaw h j i (List.getElem?_eq_getElem hj) hi (fun e=>hne e.symm)
   exact ⟨l[j].loc W W' h1.1 (fun k hF'=>hk.2.2.2.2 k (h1.2 k hF').2 (h2 k hF')),fun k hF'=>⟨(h1.2 k hF').1,Nat.lt_of_lt_of_le (h1.2 k hF').2 hk.2.2.2.1⟩⟩
 ·refine List.pairwise_iff_getElem.2 fun p q hp hq hpq=> ?_
  rw [List.length_set] at hp hq;rw [List.getElem_set,List.getElem_set]
  split
  ·rename_i e
   subst e
   rw [if_neg (by omega)]
   exact hap q hq (by omega)
  ·rename_i e
   split
   ·rename_i e2
    subst e2
    exact fun k ha hb=>hap p hp (by omega) k hb ha
   ·exact List.pairwise_iff_getElem.1 h.2 p q hp hq hpq
theorem zb6 {B:Nat} {W:World} {l:List Ast} (h:Sep B W l) (i:Nat) {g:Nat} {cs:Array Value} {T:TypeId} (hi:l[i]?=some (cellA g (.cells cs T (0,0)))) (off:Nat) (v:Value):Sep B (W.setCell ⟨g,off,none⟩ v) (l.set i (cellA g (.cells (cs.setIfInBounds off v) T (0,0)))):=by
 have h1:W.heap[g]?=some (.cells cs T (0,0)):=za2 h i hi;have h2:=zcv h i hi g rfl
 refine ze5 h i hi (za9 W g off v) _ (heap_setCell_same W g off cs T v h1) (fun k hk=>⟨Or.inl hk,?_⟩) (Nat.le_of_lt (Nat.lt_of_le_of_lt h2.1 h2.2))
 have hk:k=g:=hk;subst hk
 simpa using h2.2
theorem zmJ {B:Nat} {W W0 W':World} {l:List Ast} (h:Sep B W l) (hb:Below W.heap.size W W0) (i:Nat) {B' e sz n n':Nat} {v:Value} {xs xs':List Value} (hi:l[i]?=some (rowA B' e sz v n xs)) (hgr:W0.grownBy W' v.ownBlock) {b c:Nat} (hown:W'.ownsRow B' e sz (.slice (some ⟨b,0,none⟩) n' c) n' xs') (hbb:v.ownBlock=some b\/W.heap.size<=b) (hB:B<=W.heap.size):Sep B W' (l.set i (rowA B' e sz (.slice (some ⟨b,0,none⟩) n' c) n' xs')):=by
 refine ze5 h i hi ⟨hgr.os.trans hb.os,hgr.tape.trans hb.tape,hgr.output.trans hb.output,Nat.le_trans hb.size hgr.size,fun j hj hn=>(hgr.block j (Nat.lt_of_lt_of_le hj hb.size) (fun e=>hn e.symm)).trans (hb.block j hj)⟩ _ hown (fun k hk=>⟨?_,(hown.lt k hk).2⟩) hB
 injection hk with hk
 have hk:b=k:=hk;subst hk;exact hbb
theorem zgl {B:Nat} {W W0 W':World} {v:Value} {B' e sz n:Nat} {xs:List Value} (hb:Below W.heap.size W W0) (hgr:W0.grownBy W' v.ownBlock) (ho:W.ownsRow B' e sz v n xs) (hB:B<=B') (hBW:B<=W.heap.size):Below B W W':=
 ⟨hgr.os.trans hb.os,hgr.tape.trans hb.tape,hgr.output.trans hb.output,Nat.le_trans hb.size hgr.size,fun k hk=>(hgr.block k (Nat.lt_of_lt_of_le (Nat.lt_of_lt_of_le hk hBW) hb.size) (fun e=>by have:=(ho.lt k e.symm).1;omega)).trans (hb.block k (Nat.lt_of_lt_of_le hk hBW))⟩
theorem zfS {B:Nat} {W:World} {l:List Ast} (h:Sep B W l) (l':List Ast) (hs:l'.Sublist l):Sep B W l':=⟨fun A hA=>h.1 A (hs.subset hA),h.2.sublist hs⟩
theorem zmK {B:Nat} {W:World} {l l':List Ast} (h:Sep B W l) (hp:l.Perm l'):Sep B W l':=
 ⟨fun A hA=>h.1 A (hp.mem_iff.2 hA),(hp.pairwise_iff (fun hd k ha hb=>hd k hb ha)).1 h.2⟩
open Go.RowKit
theorem zin (W:World) (cs:Array Value) (T:TypeId):∀(j:Nat) (u:Value),cs.toList[j]?=some u->(W.alloc (Obj.cells cs T)).cell? ((⟨W.heap.size,0,none⟩:Addr).add j)=some u:=by
 intro j u hj;have h:=(za0 (heap_alloc_new W (Obj.cells cs T)) j).1;rw [Addr.add_lit,Nat.zero_add,h,<-Array.getElem?_toList];exact hj
theorem zlv {B:Nat} {W W':World} {l:List Ast} (h:Sep B W l) (i:Nat) {B' e sz n n':Nat} {v:Value} {xs xs':List Value} (hi:l[i]?=some (rowA B' e sz v n xs)) (hBB:B<=B') (hBW:B<=W.heap.size) {o:Obj} (hgr:(W.alloc o).grownBy W' v.ownBlock) {b c:Nat} (hown:W'.ownsRow B' e sz (.slice (some ⟨b,0,none⟩) n' c) n' xs') (hb:v.ownBlock=some b\/b=W.heap.size+1):
  Sep B W' (l.set i (rowA B' e sz (.slice (some ⟨b,0,none⟩) n' c) n' xs'))/\Below B W W':=by
 have hb0:Below W.heap.size W (W.alloc o):=(Below.refl _ _).alloc (Nat.le_refl _) o
 exact ⟨zmJ h hb0 i hi hgr hown (hb.imp id (fun e=>by omega)) hBW,zgl hb0 hgr (za2 h i hi) hBB hBW⟩
theorem ze6 {P:Program} {ops:Array Oper} {rest:List Oper} {o:Oper} {a:Act} {Q:Exit->Act->World->Prop} {B:Nat} {W:World} {l:List Ast} (h:Sep B W l) (i:Nat) {B' e sz n:Nat} {v:Value} {xs:List Value} (hi:l[i]?=some (rowA B' e sz v n xs)) (hBB:B<=B') (hBW:B<=W.heap.size) (hBW':B'<=W.heap.size)
  (hgd:o.guard=none) (s x:Operand) (t:TypeId) (ho:o.op= .call {callee:= .builtin .append,args:= #[s,x],argTypes:= #[t,t]}) (inf:TypeInfo) (z:Value) (bytes:Nat) (ht:P.underlying t=some (.slice e)) (hinf:P.info? e=some inf) (hz:inf.zero=some z)
  (hsize:inf.size=sz) (hby:inf.bytes=bytes) (hzs:z.cells.size=sz) (hsz:0<sz) (hs:a.eval s=v) (news:Array Value) {H:Nat} (hH:H=W.heap.size) (hx:a.eval x= .slice (some ⟨H,0,none⟩) 1 1) (hl:news.size=sz) (h1:∀u∈news.toList,u.oneCell'=true) (h63:n+1<=maxLen) (hbytes:(n+1) * bytes<=140737488355328)
  (hK:∀b c w',Sep B w' (l.set i (rowA B' e sz (.slice (some ⟨b,0,none⟩) (n+1) c) (n+1) (xs++news.toList)))->Below B W w'->wpList P ops Q rest (a.put o.dst (.slice (some ⟨b,0,none⟩) (n+1) c)) w'):
  wpList P ops Q (o :: rest) a (W.alloc (Obj.cells news e)):=
 wpList_append_lies _ hgd s x t ho B' e inf z sz bytes ht hinf hz hsize hby hzs hsz v n xs hs ((za2 h i hi:W.ownsRow B' e sz v n xs).alloc _) ⟨H,0,none⟩ 1 1 news.toList hx (by rw [Array.length_toList,hl,Nat.one_mul]) (by rw [hH];exact zin W news e) h1 (by decide) h63 hbytes (by simp;omega) (W.heap.size+1) (by simp)
  (fun b c w' q1 q2 q3 _=>by
   obtain ⟨k1,k2⟩:=zlv h i hi hBB hBW q2 q1 q3
   exact hK b c w' k1 k2)
theorem zio {P:Program} {ops:Array Oper} {o:Oper} {a:Act} {K:Act->World->Prop} {Q:Exit->Act->World->Prop} {E:Prop} {B:Nat} {W:World} {l:List Ast} (h:Sep B W l) (i:Nat) {B' e sz n:Nat} {v:Value} {xs:List Value} (hi:l[i]?=some (rowA B' e sz v n xs)) (hBB:B<=B') (hBW:B<=W.heap.size) (hBW':B'<=W.heap.size)
  (hgd:o.guard=none) (s x:Operand) (t:TypeId) (ho:o.op= .call {callee:= .builtin .append,args:= #[s,x],argTypes:= #[t,t]}) (inf:TypeInfo) (z:Value) (bytes:Nat) (ht:P.underlying t=some (.slice e)) (hinf:P.info? e=some inf) (hz:inf.zero=some z)
  (hsize:inf.size=sz) (hby:inf.bytes=bytes) (hzs:z.cells.size=sz) (hsz:0<sz) (hs:a.eval s=v) (news:Array Value) {H:Nat} (hH:H=W.heap.size) (hx:a.eval x= .slice (some ⟨H,0,none⟩) 1 1) (hl:news.size=sz) (h1:∀u∈news.toList,u.oneCell'=true) (h63:n+1<=maxLen) (hbytes:(n+1) * bytes<=140737488355328)
  (hK:∀b c w',Sep B w' (l.set i (rowA B' e sz (.slice (some ⟨b,0,none⟩) (n+1) c) (n+1) (xs++news.toList)))->Below B W w'->K (a.put o.dst (.slice (some ⟨b,0,none⟩) (n+1) c)) w'):
  if Region.wanted o (yielded ops a.tmps)=true then Oper.wp P o a (W.alloc (Obj.cells news e)) K Q else E:=
 step_append_lies _ hgd s x t ho B' e inf z sz bytes ht hinf hz hsize hby hzs hsz v n xs hs ((za2 h i hi:W.ownsRow B' e sz v n xs).alloc _) ⟨H,0,none⟩ 1 1 news.toList hx (by rw [Array.length_toList,hl,Nat.one_mul]) (by rw [hH];exact zin W news e) h1 (by decide) h63 hbytes (by simp;omega) (W.heap.size+1) (by simp)
  (fun b c w' q1 q2 q3 _=>by
   obtain ⟨k1,k2⟩:=zlv h i hi hBB hBW q2 q1 q3
   exact hK b c w' k1 k2)
theorem zjY {B:Nat} {W W':World} {l:List Ast} (h:Sep B W l) (hb:Below W.heap.size W W') (i:Nat) {A:Ast} (hi:l[i]?=some A) (A':Ast) (hP:A'.P W') (hF:∀k,A'.F k->W.heap.size<=k/\k<W'.heap.size) (hB:B<=W.heap.size):Sep B W' (l.set i A'):=
 ze5 h i hi ⟨hb.os,hb.tape,hb.output,hb.size,fun k hk _=>hb.block k hk⟩ A' hP (fun k hk=>⟨Or.inr (hF k hk).1,(hF k hk).2⟩) hB
theorem zb3 {B:Nat} {W:World} {pre rest:List Ast} (h:Sep B W (pre++rest)) (js:List Nat) (hnd:js.Nodup) (pre':List Ast) (he:pre'.map some=js.map (fun i=>pre[i]?)):Sep B W (pre'++rest):=by
 obtain ⟨h1,h2⟩:=h;obtain ⟨p1,p2,p3⟩:=List.pairwise_append.1 h2
 have hl:pre'.length=js.length:=by have:=congrArg List.length he;simpa using this
 have hat:∀(j:Nat) (hj:j<pre'.length),∃hp:js[j]'(by omega)<pre.length,pre[js[j]'(by omega)]=pre'[j]:=fun j hj=>by
  have e:=congrArg (fun l=>l[j]?) he
  simp only [List.getElem?_map,List.getElem?_eq_getElem hj,List.getElem?_eq_getElem (show j<js.length by omega),Option.map_some] at e
  have e:=Option.some.inj e;obtain ⟨q1,q2⟩:=List.getElem?_eq_some_iff.1 e.symm;exact ⟨q1,q2⟩
 have hmem:∀A∈pre',A∈pre:=fun A hA=>by
  obtain ⟨j,hj,rfl⟩:=List.getElem_of_mem hA;obtain ⟨q1,q2⟩:=hat j hj;rw [<-q2];exact List.getElem_mem q1
 have hs:∀(i j:Nat) (hi:i<pre.length) (hj:j<pre.length),i≠j->∀k,pre[i].F k->¬pre[j].F k:=fun i j hi hj hne=>by
  rcases Nat.lt_or_gt_of_ne hne with h | h
  ·exact List.pairwise_iff_getElem.1 p1 i j hi hj h
  ·exact fun k ha hb=>List.pairwise_iff_getElem.1 p1 j i hj hi h k hb ha
 refine ⟨fun A hA=> ?_,List.pairwise_append.2 ⟨List.pairwise_iff_getElem.2 fun i j hi hj hij=> ?_,p2,fun A hA A' hA'=>p3 A (hmem A hA) A' hA'⟩⟩
 ·rcases List.mem_append.1 hA with hA | hA
  ·exact h1 A (List.mem_append_left _ (hmem A hA))
  ·exact h1 A (List.mem_append_right _ hA)
 ·obtain ⟨q1,q2⟩:=hat i hi
  obtain ⟨r1,r2⟩:=hat j hj;rw [<-q2,<-r2]
  refine hs _ _ q1 r1 (fun e=> ?_)
  have:=List.pairwise_iff_getElem.1 hnd i j (by omega) (by omega) hij
  exact this e
theorem zex {B:Nat} {W:World} {g e:Nat} {l:List Ast} (h:Sep B W (cellA g (Obj.cells #[] e) :: l)):Sep B W (rowA B e 1 (.slice (some ⟨g,0,none⟩) 0 0) 0 [] :: l):=by
 obtain ⟨⟨h1,h2⟩,h3,h4⟩:=zaY.1 h
 refine zaY.2 ⟨⟨⟨rfl,Or.inr ⟨g,0,#[],rfl,(h2 g rfl).1,h1,Nat.le_refl _,Nat.zero_le _,rfl,rfl⟩⟩,fun k hk=> ?_⟩,fun A' hA' k hk=> ?_,h4⟩
 ·injection hk with hk
  have hk:g=k:=hk;subst hk;exact h2 g rfl
 ·injection hk with hk
  have hk:g=k:=hk;subst hk;exact h3 A' hA' g rfl
open Go.RowKit
def diskA (B:Nat) (v:Value) (ps:List ByteArray) (ls:List (Int×ByteArray)):Ast:=⟨diskBlocks v,fun W=>DiskOwn W B v ps ls,fun W W' h hk=>by
 obtain ⟨vp,vl,rfl,h1,h2⟩:=h
 exact ⟨vp,vl,rfl,(rowA B 9 1 vp ps.length (strs ps)).loc W W' h1 (fun k e=>hk k ⟨_,_,rfl,Or.inl e⟩),(rowA B 90 2 vl ls.length (puts ls)).loc W W' h2 (fun k e=>hk k ⟨_,_,rfl,Or.inr e⟩)⟩⟩
def workL (B:Nat) (u0 u1 u3 u4 u5:Value) (k:Wk):List Ast:= [diskA B (.agg #[u0,u1]) k.ps k.ls,rowA B 3 1 u3 k.us.length (ints k.us),rowA B 3 1 u4 k.gs.length (ints k.gs),rowA B 3 1 u5 k.fs.length (ints k.fs)]
theorem nw_sep {W:World} {B:Nat} {u0 u1 u2 u3 u4 u5:Value} {k:Wk} (h:WorkNw W B (.agg #[u0,u1,u2,u3,u4,u5]) k):u2= .int .i64 k.next/\Sep B W (workL B u0 u1 u3 u4 u5 k):=by
 have hlt:=zal (zaJ h);obtain ⟨vp,vl,vu,vg,vf,e,h1,h2,h3,h4,n1,n2,n3⟩:=h;obtain ⟨rfl,rfl,rfl,rfl,rfl,rfl⟩:=agg6 e;refine ⟨rfl,?_⟩
 refine zaY.2 ⟨⟨h1,fun j hj=>hlt j ⟨_,_,_,_,_,_,rfl,Or.inl hj⟩⟩,fun A hA j hj hj'=> ?_,?_⟩
 ·rcases List.mem_cons.1 hA with rfl | hA
  ·exact zbc h1 (zan h2) j hj hj'
  rcases List.mem_cons.1 hA with rfl | hA
  ·exact zbc h1 (zan h3) j hj hj'
  rcases List.mem_cons.1 hA with rfl | hA
  ·exact zbc h1 (zan h4) j hj hj'
  ·cases hA
 refine zaY.2 ⟨⟨h2,fun j hj=>hlt j ⟨_,_,_,_,_,_,rfl,Or.inr (Or.inl hj)⟩⟩,fun A hA j hj hj'=> ?_,?_⟩
 ·rcases List.mem_cons.1 hA with rfl | hA
  ·exact n1 j hj hj'
  rcases List.mem_cons.1 hA with rfl | hA
  ·exact n2 j hj hj'
  ·cases hA
 refine zaY.2 ⟨⟨h3,fun j hj=>hlt j ⟨_,_,_,_,_,_,rfl,Or.inr (Or.inr (Or.inl hj))⟩⟩,fun A hA j hj hj'=> ?_,?_⟩
 ·rcases List.mem_cons.1 hA with rfl | hA
  ·exact n3 j hj hj'
  ·cases hA
 exact zaY.2 ⟨⟨h4,fun j hj=>hlt j ⟨_,_,_,_,_,_,rfl,Or.inr (Or.inr (Or.inr hj))⟩⟩,fun A hA=>(by cases hA),zcV _ _⟩
abbrev workN (B:Nat) (u0 u1 u3 u4 u5:Value) (k:Wk) (nu ng nf:Nat):List Ast:= [diskA B (.agg #[u0,u1]) k.ps k.ls,rowA B 3 1 u3 nu (ints k.us),rowA B 3 1 u4 ng (ints k.gs),rowA B 3 1 u5 nf (ints k.fs)]
theorem row_n {W:World} {B e n:Nat} {v:Value} {l:List Int} (h:W.ownsRow B e 1 v n (ints l)):n=l.length:=by
 have:=h.1;rw [zcO] at this
 omega
theorem zhJ {W:World} {B B':Nat} {u0 u1 u3 u4 u5:Value} {k:Wk} {nu ng nf:Nat} (h:Sep B W (workN B' u0 u1 u3 u4 u5 k nu ng nf)):WorkNw W B' (.agg #[u0,u1,.int .i64 k.next,u3,u4,u5]) k:=by
 have h1:W.ownsRow B' 3 1 u3 nu (ints k.us):=za2 h 1 rfl;have h2:W.ownsRow B' 3 1 u4 ng (ints k.gs):=za2 h 2 rfl;have h3:W.ownsRow B' 3 1 u5 nf (ints k.fs):=za2 h 3 rfl
 exact ⟨u0,u1,u3,u4,u5,rfl,za2 h 0 rfl,by rw [<-row_n h1];exact h1,by rw [<-row_n h2];exact h2,by rw [<-row_n h3];exact h3,fun j=>zaw h 1 2 rfl rfl (by decide) j,fun j=>zaw h 1 3 rfl rfl (by decide) j,fun j=>zaw h 2 3 rfl rfl (by decide) j⟩
theorem zkG {w:World} {n c:Nat} {a:Option Addr} {xs:List Value} (h:RowAt w 1 (.slice a n c) n xs) (hn:0<n):∃b off,a=some ⟨b,off,none⟩:=by
 obtain ⟨-,a',cap,e,h⟩:=h
 injection e with e1
 rcases h with h0 | ⟨b,off,e,-⟩
 ·omega
 ·exact ⟨b,off,by rw [e1,e]⟩
theorem zkH {w wx:World} {n c b off:Nat} {l:List Int} (h:RowAt w 1 (.slice (some ⟨b,off,none⟩) n c) n (ints l)) (hb:Below w.heap.size w wx) (i:Nat) (hi:i<n) (hn:n=l.length):wx.cell? ⟨b,off+i,none⟩=some (.int .i64 (l.getD i 0)):=by
 obtain ⟨-,a',cap,e,h⟩:=h
 injection e with e1 e2 e3
 subst e1
 rcases h with h0 | ⟨b',off',e,hlt,hc⟩
 ·omega
 ·injection e with e
  injection e with e e'
  subst e e'
  rw [hb.cell (by exact hlt),hc i (by omega),ints_at l i (by omega)]
  simp [List.getD_eq_getElem?_getD,show i<l.length by omega]
theorem zf7 (l:List Int) (x:Int):ints l++ [.int .i64 x]=ints (l++ [x]):=by simp [ints]
theorem zcl {ops:Array Oper} {rest:List Oper} {o:Oper} {a:Act} {Q:Exit->Act->World->Prop} {B:Nat} {W:World} {l:List Ast} (h:Sep B W l) (i:Nat) {B' n:Nat} {v:Value} {xs:List Int} (hi:l[i]?=some (rowA B' 3 1 v n (ints xs))) (hBB:B<=B') (hBW:B<=W.heap.size) (hBW':B'<=W.heap.size)
  (hgd:o.guard=none) (s x:Operand) (ho:o.op= .call {callee:= .builtin .append,args:= #[s,x],argTypes:= #[32,32]}) (hs:a.eval s=v) (p:Int) {H:Nat} (hH:H=W.heap.size) (hx:a.eval x= .slice (some ⟨H,0,none⟩) 1 1) (hn:n<=3000000)
  (hK:∀b c w',Sep B w' (l.set i (rowA B' 3 1 (.slice (some ⟨b,0,none⟩) (n+1) c) (n+1) (ints (xs++ [p]))))->Below B W w'->wpList Tryz.prog ops Q rest (a.put o.dst (.slice (some ⟨b,0,none⟩) (n+1) c)) w'):
  wpList Tryz.prog ops Q (o :: rest) a (W.alloc (Obj.cells #[.int .i64 p] 3)):=by
 obtain ⟨i0,hinf,hz0,hz1,hz2⟩:=info_parts Tryz.infoIntC
 refine ze6 h i hi hBB hBW hBW' hgd s x 32 ho i0 (.int .i64 0) 8 Tryz.underlying32 hinf hz0 hz1 hz2 rfl (by decide) hs #[.int .i64 p] hH hx rfl (fun u hu=>by simp at hu;subst hu;rfl) (by unfold maxLen;omega) (by omega) (fun b c w' k1 k2=>hK b c w' ?_ k2)
 rw [<-zf7];exact k1
open Go.RowKit
def CodeIn (w:World) (B:Nat) (a:Option Addr) (len:Nat):Prop:=
 len<=1048576/\(len=0\/∃b off,a=some ⟨b,off,none⟩/\b<B/\∀j,j<len->∃z:Nat,z<256/\w.cell? ⟨b,off+j,none⟩=some (.int .u8 (z:Int)))
def CurAt (w:World) (g:Nat) (a:Option Addr) (len cap:Nat):Prop:=
 ∃(i:Nat) (h:Int),i<=len/\w.heap[g]?=some (.cells #[.slice a len cap,.int .i64 (i:Int),.int .i64 h] 78 (0,0))
theorem codeIn_of {W:World} {x:Addr} {len cap:Nat} {zs:List Int} (hl:len<=cap) (hz:zs.length=cap) (hcell:∀i,i<zs.length->W.cell? (x.add i)=some (.int .u8 (zs.getD i 0))) (hwz:∀n∈zs,(Lit.int .u8 n).wf=true):
  1048576<len\/CodeIn W W.heap.size (some x) len:=by
 by_cases hbig:1048576<len
 ·exact Or.inl hbig
 ·refine Or.inr ⟨by omega,?_⟩
  by_cases h0:len=0
  ·exact Or.inl h0
  ·obtain ⟨b,off,spot⟩:=x
   have hc:=hcell 0 (by omega)
   obtain rfl:spot=none:=by simpa [Addr.add] using World.cell?_spot hc
   have hb:b<W.heap.size:=World.block_lt_of_cell? W _ (by simpa [Addr.add] using hc:W.cell? ⟨b,off,none⟩=_)
   refine Or.inr ⟨b,off,rfl,hb,fun j hj=> ?_⟩
   have hj':j<zs.length:=by omega
   have hm:zs.getD j 0∈zs:=by rw [List.getD,List.getElem?_eq_getElem hj'];exact List.getElem_mem hj'
   have hw:=hwz _ hm
   have hbd:0<=zs.getD j 0/\zs.getD j 0<=255:=by simpa [Lit.wf,IntKind.min,IntKind.max,IntKind.signed,IntKind.bits] using hw
   refine ⟨(zs.getD j 0).toNat,by omega,?_⟩
   have hcj:=hcell j hj';rw [Addr.add_lit] at hcj;rw [Int.toNat_of_nonneg hbd.1];exact hcj
theorem and255 (z:Int):0<=bits BinOp.and IntKind.i64 z 255/\bits BinOp.and IntKind.i64 z 255<=255:=by
 have e:bits BinOp.and IntKind.i64 z 255=IntKind.i64.wrap ((BitVec.ofInt 64 z &&& BitVec.ofInt 64 255).toNat:Int):=rfl
 have h:(BitVec.ofInt 64 z &&& BitVec.ofInt 64 255).toNat<=255:=by
  rw [BitVec.toNat_and]
  exact Nat.le_trans Nat.and_le_right (by decide)
 rw [e,IntWalk.i64_in _ ⟨by omega,by omega⟩]
 omega
theorem zh9 (z:Int):∃x:Nat,x<256/\bits BinOp.and IntKind.i64 z 255=(x:Int):=by
 have:=and255 z
 exact ⟨(bits BinOp.and IntKind.i64 z 255).toNat,by omega,by omega⟩
theorem zdg {w:World} {g:Nat} {cs:Array Value} (h:w.heap[g]?=some (.cells cs 78 (0,0))) (j:Nat):w.cell? ⟨g,j,none⟩=cs[j]?/\w.frozen? ⟨g,j,none⟩=false:=
 ⟨cell_of_row w g j cs 78 (0,0) h,frozen_of_row w g j cs 78 h⟩
theorem za7 (w:World) (g j:Nat) (u:Value):w.grownBy (w.setCell ⟨g,j,none⟩ u) (some g):=
 ⟨rfl,rfl,rfl,by simp,fun k _ hk=>heap_setCell_other w ⟨g,j,none⟩ k u (fun e=>hk (by simp [e]))⟩
theorem za3 {a b c:World} {r:Option Nat} (h:a.grownBy b r) (k:b.grownBy c r):a.grownBy c r:=
 ⟨k.os.trans h.os,k.tape.trans h.tape,k.output.trans h.output,Nat.le_trans h.size k.size,fun j hj hne=>(k.block j (Nat.lt_of_lt_of_le hj h.size) hne).trans (h.block j hj hne)⟩
theorem ze7 {a b:World} {r:Option Nat} (h:a.grownBy b r) (n:Nat):a.grownBy (b.drewN n) r:=za3 h ⟨rfl,rfl,rfl,Nat.le_refl _,fun _ _ _=>rfl⟩
theorem zjb (g B:Nat) (a:Option Addr) (len cap:Nat) (w:World) (hc:CurAt w g a len cap) (hd:CodeIn w B a len) (hB:B<=g):
  Calls Tryz.prog 23 #[.pointer (some ⟨g,0,none⟩)] w fun e w'=>∃x:Nat,x<256/\e= .returned (.int .i64 (x:Int))/\CurAt w' g a len cap/\w.grownBy w' (some g):=by
 obtain ⟨i,h,hi,hblk⟩:=hc;have c0:w.cell? ⟨g,0,none⟩=some (.slice a len cap):=(zdg hblk 0).1;have c1:w.cell? ⟨g,1,none⟩=some (.int .i64 (i:Int)):=(zdg hblk 1).1;have c2:w.cell? ⟨g,2,none⟩=some (.int .i64 h):=(zdg hblk 2).1;have f1:=(zdg hblk 1).2;have f2:=(zdg hblk 2).2;have HBlk:=hide hblk;have HD:=hide hd;clear hblk hd;have hlen:len<=1048576:=HD.out.1
 by_cases hlt:i<len
 ·rcases HD.out.2 with h0 | ⟨b,off,rfl,hb,hz⟩
  ·omega
  ·obtain ⟨z,hz256,hzc⟩:=hz i hlt
   have hne:b≠g:=by omega
   have hcode:∀u,(w.setCell ⟨g,2,none⟩ u).cell? ⟨b,off+i,none⟩=some (.int .u8 (z:Int)):=fun u=>by
    rw [World.cell?_of_block (heap_setCell_other w ⟨g,2,none⟩ b u hne)];exact hzc
   have HN:=hide hne;clear hz hzc hne
   have hi0:(0:Int)<=(i:Int):=by omega
   have hi1:(i:Int)<(len:Int):=by omega
   have hw1:=(zaC ((z:Int)) (by omega) (by omega))
   go_enter Tryz.func23,Tryz.ntmps23
   go_wp2
   go_quiet (fail)
   go_wp2
   go_quiet (fail)
   go_wp2
   go_quiet (fail)
   go_wp2
   go_ret;obtain ⟨x,hx,e⟩:=zh9 (wrap64 (bits BinOp.and IntKind.i64 (bits BinOp.xor IntKind.i64 (wrap64 (wrap64 (h * 6364136223846793005)+1442695040888963407) / 8589934592) (wrap64 (wrap64 (h * 6364136223846793005)+1442695040888963407) / 35184372088832)) 255+(z:Int)))
   refine ⟨x,hx,by rw [<-e];rfl,⟨i+1,wrap64 (wrap64 (h * 6364136223846793005)+1442695040888963407),by omega,?_⟩,?_⟩
   ·exact heap_setCell_same (w.setCell ⟨g,2,none⟩ _) g 1 _ _ _ (heap_setCell_same w g 2 _ _ _ HBlk.out)
   ·exact za3 (ze7 (za7 w g 2 _) _) (za7 _ g 1 _)
 ·have hnl:decide ((i:Int)<(len:Int))=false:=by simp;omega
  go_enter Tryz.func23,Tryz.ntmps23
  go_wp2
  go_quiet (fail)
  go_wp2
  go_quiet (fail)
  go_wp2
  go_ret;obtain ⟨x,hx,e⟩:=zh9 (bits BinOp.xor IntKind.i64 (wrap64 (wrap64 (h * 6364136223846793005)+1442695040888963407) / 8589934592) (wrap64 (wrap64 (h * 6364136223846793005)+1442695040888963407) / 35184372088832))
  refine ⟨x,hx,by rw [<-e];rfl,⟨i,wrap64 (wrap64 (h * 6364136223846793005)+1442695040888963407),hi,?_⟩,?_⟩
  ·exact heap_setCell_same w g 2 _ _ _ HBlk.out
  ·exact ze7 (ze7 (za7 w g 2 _) _) _
def Drawn (w w':World) (g B:Nat) (a:Option Addr) (len cap:Nat):Prop:=CurAt w' g a len cap/\w.grownBy w' (some g)/\CodeIn w' B a len
theorem zdJ {w w':World} {g B:Nat} {a:Option Addr} {len:Nat} (h:CodeIn w B a len) (hg:w.grownBy w' (some g)) (hB:B<=g) (hs:g<w.heap.size):CodeIn w' B a len:=by
 refine ⟨h.1,?_⟩
 rcases h.2 with h0 | ⟨b,off,e,hb,hz⟩
 ·exact Or.inl h0
 ·refine Or.inr ⟨b,off,e,hb,fun j hj=> ?_⟩
  obtain ⟨z,h1,h2⟩:=hz j hj
  exact ⟨z,h1,by rw [World.cell?_of_block (hg.block b (by omega) (by simp;omega))];exact h2⟩
theorem zha {w:World} {g:Nat} {a:Option Addr} {len cap:Nat} (h:CurAt w g a len cap):g<w.heap.size:=by
 obtain ⟨i,x,_,hb⟩:=h;exact (Array.getElem?_eq_some_iff.1 hb).1
theorem zca (g B:Nat) (a:Option Addr) (len cap:Nat) (w:World) (hc:CurAt w g a len cap) (hd:CodeIn w B a len) (hB:B<=g):
  Calls Tryz.prog 23 #[.pointer (some ⟨g,0,none⟩)] w fun e w'=>∃x:Nat,x<256/\e= .returned (.int .i64 (x:Int))/\Drawn w w' g B a len cap:=by
 refine (zjb g B a len cap w hc hd hB).mono ?_;rintro e w1 ⟨x,hx,rfl,h1,h2⟩;exact ⟨x,hx,rfl,h1,h2,zdJ hd h2 hB (zha hc)⟩
theorem zbl {a b c:World} {g B:Nat} {ad:Option Addr} {len cap:Nat} (h:Drawn a b g B ad len cap) (k:Drawn b c g B ad len cap):Drawn a c g B ad len cap:=⟨k.1,za3 h.2.1 k.2.1,k.2.2⟩
theorem zdh (g B:Nat) (a:Option Addr) (len cap n:Nat) (hn:0<n) (hn1:n<=4294967296) (w:World) (hc:CurAt w g a len cap) (hd:CodeIn w B a len) (hB:B<=g):
  Calls Tryz.prog 24 #[.pointer (some ⟨g,0,none⟩),.int .i64 (n:Int)] w fun e w'=>∃x:Nat,x<n/\e= .returned (.int .i64 (x:Int))/\Drawn w w' g B a len cap:=by
 have HD:=hide hd;have HC:=hide hc;clear hd hc
 by_cases h256:n<=256
 ·go_enter Tryz.func24,Tryz.ntmps24
  go_wp2_with fail;refine (zca g B a len cap _ HC.out HD.out hB).mono ?_;rintro e w1 ⟨x,hx,rfl,h1⟩;have H1:=hide h1
  have hnz:((n:Int) ==0)=false:=by rw [beq_eq_false_iff_ne];omega
  clear h1;go_wp2_with fail;go_ret
  exact ⟨x % n,Nat.mod_lt _ hn,by simp,H1.out⟩
 ·go_enter Tryz.func24,Tryz.ntmps24
  go_wp2_with fail;refine (zca g B a len cap _ HC.out HD.out hB).mono ?_;rintro e w1 ⟨x1,hx1,rfl,h1⟩;have H1:=hide h1;clear h1;go_wp2_with fail;refine (zca g B a len cap _ H1.out.1 H1.out.2.2 hB).mono ?_;rintro e w2 ⟨x2,hx2,rfl,h2⟩;have H2:=hide h2;clear h2;go_wp2_with fail;refine (zca g B a len cap _ H2.out.1 H2.out.2.2 hB).mono ?_;rintro e w3 ⟨x3,hx3,rfl,h3⟩;have H3:=hide h3;clear h3;go_wp2_with fail;refine (zca g B a len cap _ H3.out.1 H3.out.2.2 hB).mono ?_;rintro e w4 ⟨x4,hx4,rfl,h4⟩;have H4:=hide h4;clear h4
  have hnz:((n:Int) ==0)=false:=by rw [beq_eq_false_iff_ne];omega
  go_wp2_with fail;go_ret
  exact ⟨(x1 * 16777216+x2 * 65536+x3 * 256+x4) % n,Nat.mod_lt _ hn,by simp,zbl H1.out (zbl H2.out (zbl H3.out H4.out))⟩
open Go.RowKit
theorem zhb (a:Option Addr) (len cap:Nat) (w:World) (hd:CodeIn w w.heap.size a len):
  Calls Tryz.prog 19 #[.slice a len cap] w fun e w'=>e= .returned (.pointer (some ⟨w.heap.size,0,none⟩))/\CurAt w' w.heap.size a len cap/\CodeIn w' w.heap.size a len/\Below w.heap.size w w':=by
 have hlen:=hd.1;have HD:=hide hd;clear hd;go_enter Tryz.func19,Tryz.ntmps19
 go_wp2
 go_loopg [3,4] len (fun q hv iv wr=>∃(k:Nat) (h:Int),k<=len/\hv= .int .i64 h/\iv= .int .i64 (k:Int)/\q+k=len/\w=wr)
 case atStart=>exact ⟨0,_,Nat.zero_le _,rfl,rfl,rfl,rfl⟩
 case round=>
  obtain ⟨k,h,hk,rfl,rfl,hg,rfl⟩:=hrel;have HG:=hide hg;clear hg
  by_cases hlt:k<len
  ·by_cases h4:k<4000
   ·rcases HD.out.2 with h0 | ⟨b,off,rfl,hb,hz⟩
    ·omega
    ·obtain ⟨z,hz256,hzc⟩:=hz k hlt
     clear hz
     have hi0:(0:Int)<=(k:Int):=by omega
     have hi1:(k:Int)<(len:Int):=by omega
     go_wp2
     go_roundg (gk - 1)
     case measure=>have:=HG.out;omega
     case rel=>exact ⟨k+1,_,by omega,rfl,by go_num,by have:=HG.out;omega,rfl⟩
   ·have hn4:decide ((k:Int)<4000)=false:=by simp;omega
    go_wp2
    go_ret
    exact ⟨rfl,⟨0,h,Nat.zero_le _,heap_alloc_new w _⟩,⟨HD.out.1,HD.out.2.imp id (fun ⟨b,off,e,hb,hz⟩=>⟨b,off,e,hb,fun j hj=>by obtain ⟨z,h1,h2⟩:=hz j hj;exact ⟨z,h1,by rw [World.cell?_of_block (Below.heap_alloc w _ b hb)];exact h2⟩⟩)⟩,(Below.refl _ _).alloc (Nat.le_refl _) _⟩
  ·have hnl:decide ((k:Int)<(len:Int))=false:=by simp;omega
   go_wp2
   go_ret
   exact ⟨rfl,⟨0,h,Nat.zero_le _,heap_alloc_new w _⟩,⟨HD.out.1,HD.out.2.imp id (fun ⟨b,off,e,hb,hz⟩=>⟨b,off,e,hb,fun j hj=>by obtain ⟨z,h1,h2⟩:=hz j hj;exact ⟨z,h1,by rw [World.cell?_of_block (Below.heap_alloc w _ b hb)];exact h2⟩⟩)⟩,(Below.refl _ _).alloc (Nat.le_refl _) _⟩
theorem ze8 {a b:World} {r:Option Nat} (h:a.grownBy b r) (o:Obj):a.grownBy (b.alloc o) r:=za3 h (World.grownBy_alloc b o r)
theorem zlw {w wr w1:World} {g:Nat} {row:Option Nat} {o:Obj} (h:w.grownBy wr (some g)) (ha:(wr.alloc o).grownBy w1 row) (hr:∀k,row=some k->w.heap.size<=k):w.grownBy w1 (some g):=by
 have h2:=ze8 h o
 exact ⟨ha.os.trans h2.os,ha.tape.trans h2.tape,ha.output.trans h2.output,Nat.le_trans h2.size ha.size,fun k hk hne=>
  (ha.block k (Nat.lt_of_lt_of_le hk h2.size) (fun e=>by have:=hr k e.symm;omega)).trans (h2.block k hk hne)⟩
theorem zdi {w w':World} {g:Nat} {row:Option Nat} {a:Option Addr} {len cap:Nat} (h:CurAt w g a len cap) (hg:w.grownBy w' row) (hne:some g≠row):CurAt w' g a len cap:=by
 have hlt:=zha h;obtain ⟨i,x,hi,hb⟩:=h;exact ⟨i,x,hi,(hg.block g hlt hne).trans hb⟩
open Go.RowKit
def NSt (w:World) (gn:Nat) (n:Nd) (v1 v2 v3:Value):Prop:=
 w.heap[gn]?=some (.cells #[.bool n.lf,v1,v2,v3] 71 (0,0))/\w.ownsRow (gn+1) 9 1 v1 n.ks.length (strs n.ks)/\w.ownsRow (gn+1) 9 1 v2 n.vs.length (strs n.vs)/\w.ownsRow (gn+1) 3 1 v3 n.cs.length (ints n.cs)/\∀k,v1.ownBlock=some k->v2.ownBlock≠some k
theorem zb9 {w:World} {gn:Nat} {n:Nd} {v1 v2 v3:Value} (h:NSt w gn n v1 v2 v3):gn<w.heap.size:=(Array.getElem?_eq_some_iff.1 h.1).1
theorem zb1 {w w':World} {g gn:Nat} {n:Nd} {v1 v2 v3:Value} (h:NSt w gn n v1 v2 v3) (hg:w.grownBy w' (some g)) (hlt:g<gn):NSt w' gn n v1 v2 v3:=by
 have hl:=zb9 h;obtain ⟨h0,h1,h2,h3,h4⟩:=h
 refine ⟨(hg.block gn hl (fun e=>by injection e with e;omega)).trans h0,h1.kept hg (Or.inr (fun e=>by have:=(h1.lt _ e).1;omega)),h2.kept hg (Or.inr (fun e=>by have:=(h2.lt _ e).1;omega)),h3.kept hg (Or.inr (fun e=>by have:=(h3.lt _ e).1;omega)),h4⟩
theorem zas {w w':World} {gn:Nat} {n:Nd} {v1 v2 v3:Value} (h:NSt w gn n v1 v2 v3) (hb:Below w.heap.size w w'):NSt w' gn n v1 v2 v3:=by
 have hl:=zb9 h;obtain ⟨h0,h1,h2,h3,h4⟩:=h;exact ⟨(hb.block gn hl).trans h0,zaf h1 hb,zaf h2 hb,zaf h3 hb,h4⟩
theorem zbg {w:World} {gn:Nat} {n:Nd} {v1 v2 v3:Value} (h:NSt w gn n v1 v2 v3):NodeOwn w (gn+1) (.agg #[.bool n.lf,v1,v2,v3]) n.lf n.ks n.vs n.cs:=⟨v1,v2,v3,rfl,h.2.1,h.2.2.1,h.2.2.2.1,h.2.2.2.2⟩
theorem zjZ (l:List ByteArray) (x:ByteArray):strs l++ [.string x]=strs (l++ [x]):=by simp [strs]
theorem zmL (l:List Int) (x:Int):ints l++ [.int .i64 x]=ints (l++ [x]):=by simp [ints]
theorem zdj (w:World) (n:Nat) (hn:n=w.heap.size) (x:Value) (T:TypeId):∀(j:Nat) (u:Value),[x][j]?=some u->(w.alloc (Obj.cells #[x] T)).cell? ((⟨n,0,none⟩:Addr).add j)=some u:=by
 subst hn;intro j u hj
 obtain rfl:j=0:=by have:=(List.getElem?_eq_some_iff.1 hj).1;simp at this;omega
 rw [Addr.add_lit,<-hj];exact (za0 (heap_alloc_new w _) 0).1
theorem apart {u v:Value} (h:∀k,u.ownBlock=some k->v.ownBlock≠some k):v.ownBlock=none\/v.ownBlock≠u.ownBlock:=by
 cases hv:v.ownBlock with
 | none=>exact Or.inl rfl
 | some k=>exact Or.inr (fun e=>h k e.symm hv)
theorem away {u:Value} {gn:Nat} (h:∀k,u.ownBlock=some k->gn<k):some gn≠u.ownBlock:=fun e=>by have:=h gn e.symm;omega
theorem nst_key {w w':World} {gn b cap:Nat} {n:Nd} {v1 v2 v3:Value} {x:ByteArray} (h:NSt w gn n v1 v2 v3) (hown:w'.ownsRow (gn+1) 9 1 (.slice (some ⟨b,0,none⟩) (n.ks.length+1) cap) (n.ks.length+1) (strs n.ks++ [.string x])) (hg:w.grownBy w' v1.ownBlock) (hb:v1.ownBlock=some b\/b=w.heap.size):
  NSt (w'.setCell ⟨gn,1,none⟩ (.slice (some ⟨b,0,none⟩) (n.ks.length+1) cap)) gn ⟨n.lf,n.ks++ [x],n.vs,n.cs⟩ (.slice (some ⟨b,0,none⟩) (n.ks.length+1) cap) v2 v3:=by
 have hl:=zb9 h;obtain ⟨h0,h1,h2,h3,h4⟩:=h
 have hgn:w'.heap[gn]?=_:=(hg.block gn hl (away (fun k e=>by have:=(h1.lt k e).1;omega))).trans h0
 have hs:=za7 w' gn 1 (.slice (some ⟨b,0,none⟩) (n.ks.length+1) cap);have k2:=h2.kept hg (apart h4)
 have k3:=h3.kept hg (apart (fun k e=>zbE h1 h3 Tryz.str_int k e))
 refine ⟨heap_setCell_same w' gn 1 _ _ _ hgn,?_,k2.kept hs (Or.inr (fun e=>by have:=(h2.lt _ e).1;omega)),k3.kept hs (Or.inr (fun e=>by have:=(h3.lt _ e).1;omega)),?_⟩
 ·rw [List.length_append,<-zjZ]
  exact hown.kept hs (Or.inr (fun e=>by have:=(hown.lt _ e).1;omega))
 ·intro k e1 e2
  have e1:b=k:=Option.some.inj e1;subst e1
  rcases hb with hb | hb
  ·exact h4 b hb e2
  ·have:=(h2.lt b e2).2;omega
theorem nst_val {w w':World} {gn b cap:Nat} {n:Nd} {v1 v2 v3:Value} {x:ByteArray} (h:NSt w gn n v1 v2 v3) (hown:w'.ownsRow (gn+1) 9 1 (.slice (some ⟨b,0,none⟩) (n.vs.length+1) cap) (n.vs.length+1) (strs n.vs++ [.string x])) (hg:w.grownBy w' v2.ownBlock) (hb:v2.ownBlock=some b\/b=w.heap.size):
  NSt (w'.setCell ⟨gn,2,none⟩ (.slice (some ⟨b,0,none⟩) (n.vs.length+1) cap)) gn ⟨n.lf,n.ks,n.vs++ [x],n.cs⟩ v1 (.slice (some ⟨b,0,none⟩) (n.vs.length+1) cap) v3:=by
 have hl:=zb9 h;obtain ⟨h0,h1,h2,h3,h4⟩:=h
 have hgn:w'.heap[gn]?=_:=(hg.block gn hl (away (fun k e=>by have:=(h2.lt k e).1;omega))).trans h0
 have hs:=za7 w' gn 2 (.slice (some ⟨b,0,none⟩) (n.vs.length+1) cap)
 have k1:=h1.kept hg (apart (fun k e e'=>h4 k e' e))
 have k3:=h3.kept hg (apart (fun k e=>zbE h2 h3 Tryz.str_int k e))
 refine ⟨heap_setCell_same w' gn 2 _ _ _ hgn,k1.kept hs (Or.inr (fun e=>by have:=(h1.lt _ e).1;omega)),?_,k3.kept hs (Or.inr (fun e=>by have:=(h3.lt _ e).1;omega)),?_⟩
 ·rw [List.length_append,<-zjZ]
  exact hown.kept hs (Or.inr (fun e=>by have:=(hown.lt _ e).1;omega))
 ·intro k e1 e2
  have e2:b=k:=Option.some.inj e2;subst e2
  rcases hb with hb | hb
  ·exact h4 b e1 hb
  ·have:=(h1.lt b e1).2;omega
theorem nst_kid {w w':World} {gn b cap:Nat} {n:Nd} {v1 v2 v3:Value} {x:Int} (h:NSt w gn n v1 v2 v3) (hown:w'.ownsRow (gn+1) 3 1 (.slice (some ⟨b,0,none⟩) (n.cs.length+1) cap) (n.cs.length+1) (ints n.cs++ [.int .i64 x])) (hg:w.grownBy w' v3.ownBlock):
  NSt (w'.setCell ⟨gn,3,none⟩ (.slice (some ⟨b,0,none⟩) (n.cs.length+1) cap)) gn ⟨n.lf,n.ks,n.vs,n.cs++ [x]⟩ v1 v2 (.slice (some ⟨b,0,none⟩) (n.cs.length+1) cap):=by
 have hl:=zb9 h;obtain ⟨h0,h1,h2,h3,h4⟩:=h
 have hgn:w'.heap[gn]?=_:=(hg.block gn hl (away (fun k e=>by have:=(h3.lt k e).1;omega))).trans h0
 have hs:=za7 w' gn 3 (.slice (some ⟨b,0,none⟩) (n.cs.length+1) cap)
 have k1:=h1.kept hg (apart (fun k e=>zbE h3 h1 Tryz.str_int.symm k e))
 have k2:=h2.kept hg (apart (fun k e=>zbE h3 h2 Tryz.str_int.symm k e))
 refine ⟨heap_setCell_same w' gn 3 _ _ _ hgn,k1.kept hs (Or.inr (fun e=>by have:=(h1.lt _ e).1;omega)),k2.kept hs (Or.inr (fun e=>by have:=(h2.lt _ e).1;omega)),?_,h4⟩
 rw [List.length_append,<-zmL]
 exact hown.kept hs (Or.inr (fun e=>by have:=(hown.lt _ e).1;omega))
theorem zfT {w w':World} {gn b cap:Nat} {n:Nd} {v1 v2 v3:Value} {x:ByteArray} {o:Obj} (h:NSt w gn n v1 v2 v3) (hown:w'.ownsRow (gn+1) 9 1 (.slice (some ⟨b,0,none⟩) (n.ks.length+1) cap) (n.ks.length+1) (strs n.ks++ [.string x])) (hg:(w.alloc o).grownBy w' v1.ownBlock) (hb:v1.ownBlock=some b\/b=(w.alloc o).heap.size):
  NSt (w'.setCell ⟨gn,1,none⟩ (.slice (some ⟨b,0,none⟩) (n.ks.length+1) cap)) gn ⟨n.lf,n.ks++ [x],n.vs,n.cs⟩ (.slice (some ⟨b,0,none⟩) (n.ks.length+1) cap) v2 v3/\Below gn w (w'.setCell ⟨gn,1,none⟩ (.slice (some ⟨b,0,none⟩) (n.ks.length+1) cap))/\w'.cell? ⟨gn,1,none⟩=some v1/\w'.frozen? ⟨gn,1,none⟩=false:=by
 have hl:=zb9 h;have hba:Below w.heap.size w (w.alloc o):=(Below.refl _ _).alloc (Nat.le_refl _) _;have hA:=zas h hba
 have hlt:=fun k e=>(h.2.1.lt k e).1
 have cg:w'.heap[gn]?=_:=(hg.block gn (zb9 hA) (away (fun k e=>by have:=hlt k e;omega))).trans hA.1
 refine ⟨nst_key hA hown hg hb,?_,(za0 cg 1).1,(za0 cg 1).2⟩
 have h1:Below gn w w':=((Below.refl gn w).alloc (by omega) o).grown hg (by have:=zb9 hA;omega) (fun k e=>by have:=hlt k e;omega)
 exact h1.grown (za7 w' gn 1 _) (by have:=h1.size;omega) (fun k e=>by injection e with e;omega)
theorem zk0 {w w':World} {gn b cap:Nat} {n:Nd} {v1 v2 v3:Value} {x:ByteArray} {o:Obj} (h:NSt w gn n v1 v2 v3) (hown:w'.ownsRow (gn+1) 9 1 (.slice (some ⟨b,0,none⟩) (n.vs.length+1) cap) (n.vs.length+1) (strs n.vs++ [.string x])) (hg:(w.alloc o).grownBy w' v2.ownBlock) (hb:v2.ownBlock=some b\/b=(w.alloc o).heap.size):
  NSt (w'.setCell ⟨gn,2,none⟩ (.slice (some ⟨b,0,none⟩) (n.vs.length+1) cap)) gn ⟨n.lf,n.ks,n.vs++ [x],n.cs⟩ v1 (.slice (some ⟨b,0,none⟩) (n.vs.length+1) cap) v3/\Below gn w (w'.setCell ⟨gn,2,none⟩ (.slice (some ⟨b,0,none⟩) (n.vs.length+1) cap))/\w'.cell? ⟨gn,2,none⟩=some v2/\w'.frozen? ⟨gn,2,none⟩=false:=by
 have hl:=zb9 h;have hba:Below w.heap.size w (w.alloc o):=(Below.refl _ _).alloc (Nat.le_refl _) _;have hA:=zas h hba
 have hlt:=fun k e=>(h.2.2.1.lt k e).1
 have cg:w'.heap[gn]?=_:=(hg.block gn (zb9 hA) (away (fun k e=>by have:=hlt k e;omega))).trans hA.1
 refine ⟨nst_val hA hown hg hb,?_,(za0 cg 2).1,(za0 cg 2).2⟩
 have h1:Below gn w w':=((Below.refl gn w).alloc (by omega) o).grown hg (by have:=zb9 hA;omega) (fun k e=>by have:=hlt k e;omega)
 exact h1.grown (za7 w' gn 2 _) (by have:=h1.size;omega) (fun k e=>by injection e with e;omega)
theorem zk1 {w w':World} {gn b cap:Nat} {n:Nd} {v1 v2 v3:Value} {x:Int} {o:Obj} (h:NSt w gn n v1 v2 v3) (hown:w'.ownsRow (gn+1) 3 1 (.slice (some ⟨b,0,none⟩) (n.cs.length+1) cap) (n.cs.length+1) (ints n.cs++ [.int .i64 x])) (hg:(w.alloc o).grownBy w' v3.ownBlock) (_hb:v3.ownBlock=some b\/b=(w.alloc o).heap.size):
  NSt (w'.setCell ⟨gn,3,none⟩ (.slice (some ⟨b,0,none⟩) (n.cs.length+1) cap)) gn ⟨n.lf,n.ks,n.vs,n.cs++ [x]⟩ v1 v2 (.slice (some ⟨b,0,none⟩) (n.cs.length+1) cap)/\Below gn w (w'.setCell ⟨gn,3,none⟩ (.slice (some ⟨b,0,none⟩) (n.cs.length+1) cap))/\w'.cell? ⟨gn,3,none⟩=some v3/\w'.frozen? ⟨gn,3,none⟩=false:=by
 have hl:=zb9 h;have hba:Below w.heap.size w (w.alloc o):=(Below.refl _ _).alloc (Nat.le_refl _) _;have hA:=zas h hba
 have hlt:=fun k e=>(h.2.2.2.1.lt k e).1
 have cg:w'.heap[gn]?=_:=(hg.block gn (zb9 hA) (away (fun k e=>by have:=hlt k e;omega))).trans hA.1
 refine ⟨nst_kid hA hown hg,?_,(za0 cg 3).1,(za0 cg 3).2⟩
 have h1:Below gn w w':=((Below.refl gn w).alloc (by omega) o).grown hg (by have:=zb9 hA;omega) (fun k e=>by have:=hlt k e;omega)
 exact h1.grown (za7 w' gn 3 _) (by have:=h1.size;omega) (fun k e=>by injection e with e;omega)
theorem zcE {a b c:World} {g gn:Nat} (h:a.grownBy b (some g)) (k:Below gn b c) (hle:a.heap.size<=gn):a.grownBy c (some g):=
 ⟨k.os.trans h.os,k.tape.trans h.tape,k.output.trans h.output,Nat.le_trans h.size k.size,fun j hj hne=>by
  rw [k.block j (by omega)]
  exact h.block j hj hne⟩
theorem zaO {w:World} {a B:Nat} {lf:Bool} {v1 v2 v3 c0 c1 c2 c3:Value} {ks vs:List ByteArray} {cs:List Int} (hq:w.heap[a]?=some (.cells #[c0,c1,c2,c3] 71 (0,0))) (hn:NodeOwn w B (.agg #[.bool lf,v1,v2,v3]) lf ks vs cs) (hlt:a<B):
  ((((w.setCell ⟨a,0,none⟩ (.bool lf)).setCell ⟨a,1,none⟩ v1).setCell ⟨a,2,none⟩ v2).setCell ⟨a,3,none⟩ v3).heap[a]?=some (.cells #[.bool lf,v1,v2,v3] 71 (0,0))/\
  NodeOwn ((((w.setCell ⟨a,0,none⟩ (.bool lf)).setCell ⟨a,1,none⟩ v1).setCell ⟨a,2,none⟩ v2).setCell ⟨a,3,none⟩ v3) B (.agg #[.bool lf,v1,v2,v3]) lf ks vs cs/\
  Below a w ((((w.setCell ⟨a,0,none⟩ (.bool lf)).setCell ⟨a,1,none⟩ v1).setCell ⟨a,2,none⟩ v2).setCell ⟨a,3,none⟩ v3):=by
 have hal:a<w.heap.size:=(Array.getElem?_eq_some_iff.1 hq).1;have g1:=za3 (za3 (za3 (za7 w a 0 (.bool lf)) (za7 _ a 1 v1)) (za7 _ a 2 v2)) (za7 _ a 3 v3)
 refine ⟨heap_setCell_same _ a 3 _ _ _ (heap_setCell_same _ a 2 _ _ _ (heap_setCell_same _ a 1 _ _ _ (heap_setCell_same w a 0 _ _ _ hq))),?_,(Below.refl a w).grown g1 (by omega) (fun k e=>by injection e with e;omega)⟩
 obtain ⟨u1,u2,u3,e,h1,h2,h3,h4⟩:=hn;obtain ⟨-,rfl,rfl,rfl⟩:=agg4 e
 exact ⟨_,_,_,rfl,h1.kept g1 (Or.inr (fun e=>by have:=(h1.lt _ e).1;omega)),h2.kept g1 (Or.inr (fun e=>by have:=(h2.lt _ e).1;omega)),h3.kept g1 (Or.inr (fun e=>by have:=(h3.lt _ e).1;omega)),h4⟩
theorem zax {w:World} {B B':Nat} {v:Value} {lf:Bool} {ks vs:List ByteArray} {cs:List Int} (h:NodeOwn w B v lf ks vs cs) (hb:B'<=B):NodeOwn w B' v lf ks vs cs:=by
 obtain ⟨u1,u2,u3,e,h1,h2,h3,h4⟩:=h;exact ⟨u1,u2,u3,e,zad h1 hb,zad h2 hb,zad h3 hb,h4⟩
open Go.RowKit
def workA (B:Nat) (v:Value) (k:Wk):Ast:=⟨workBlocks v,fun W=>WorkOwn W B v k,fun W W' h hk=>by
 obtain ⟨vp,vl,vu,vg,vf,rfl,h1,h2,h3,h4,h5⟩:=h
 have hi:∀{u:Value} {l:List Int},IntOwn W B u l->(∀j,u.ownBlock=some j->W'.heap[j]?=W.heap[j]?)->IntOwn W' B u l:=fun {u l} h hk=>by
  obtain ⟨a,cap,e,hc,h⟩:=h;refine ⟨a,cap,e,hc,?_⟩
  rcases h with h | ⟨g,off,cs,e2,hB,hh,hr⟩
  ·exact Or.inl h
  ·subst e e2
   exact Or.inr ⟨g,off,cs,rfl,hB,(hk g rfl).trans hh,hr⟩
 exact ⟨vp,vl,vu,vg,vf,rfl,(diskA B (.agg #[vp,vl]) k.ps k.ls).loc W W' h1 (fun j e=>hk j ⟨_,_,_,_,_,_,rfl,Or.inl e⟩),hi h2 (fun j e=>hk j ⟨_,_,_,_,_,_,rfl,Or.inr (Or.inl e)⟩),hi h3 (fun j e=>hk j ⟨_,_,_,_,_,_,rfl,Or.inr (Or.inr (Or.inl e))⟩),hi h4 (fun j e=>hk j ⟨_,_,_,_,_,_,rfl,Or.inr (Or.inr (Or.inr e))⟩),h5⟩⟩
theorem zhc (l:List ByteArray) (x:ByteArray):strs l++ [.string x]=strs (l++ [x]):=by simp [strs]
theorem zlx (l:List ByteArray):(strs l).length=l.length:=by simp [strs]
theorem row_nS {W:World} {B e n:Nat} {v:Value} {l:List ByteArray} (h:W.ownsRow B e 1 v n (strs l)):n=l.length:=by
 have:=h.1;rw [zlx] at this
 omega
abbrev nodeN (B:Nat) (v1 v2 v3:Value) (ks vs:List ByteArray) (cs:List Int) (nk nv nc:Nat):List Ast:= [rowA B 9 1 v1 nk (strs ks),rowA B 9 1 v2 nv (strs vs),rowA B 3 1 v3 nc (ints cs)]
theorem zmM {W:World} {B B':Nat} {v1 v2 v3:Value} {lf:Bool} {ks vs:List ByteArray} {cs:List Int} {nk nv nc:Nat} (h:Sep B W (nodeN B' v1 v2 v3 ks vs cs nk nv nc)):NodeOwn W B' (.agg #[.bool lf,v1,v2,v3]) lf ks vs cs:=by
 have h1:W.ownsRow B' 9 1 v1 nk (strs ks):=za2 h 0 rfl;have h2:W.ownsRow B' 9 1 v2 nv (strs vs):=za2 h 1 rfl;have h3:W.ownsRow B' 3 1 v3 nc (ints cs):=za2 h 2 rfl
 exact ⟨v1,v2,v3,rfl,by rw [<-row_nS h1];exact h1,by rw [<-row_nS h2];exact h2,by rw [<-row_n h3];exact h3,fun j=>zaw h 0 1 rfl rfl (by decide) j⟩
theorem zgm {ops:Array Oper} {rest:List Oper} {o:Oper} {a:Act} {Q:Exit->Act->World->Prop} {B:Nat} {W:World} {l:List Ast} (h:Sep B W l) (i:Nat) {B' n:Nat} {v:Value} {xs:List ByteArray} (hi:l[i]?=some (rowA B' 9 1 v n (strs xs))) (hBB:B<=B') (hBW:B<=W.heap.size) (hBW':B'<=W.heap.size)
  (hgd:o.guard=none) (s x:Operand) (ho:o.op= .call {callee:= .builtin .append,args:= #[s,x],argTypes:= #[26,26]}) (hs:a.eval s=v) (p:ByteArray) {H:Nat} (hH:H=W.heap.size) (hx:a.eval x= .slice (some ⟨H,0,none⟩) 1 1) (hn:n<=3000000)
  (hK:∀b c w',Sep B w' (l.set i (rowA B' 9 1 (.slice (some ⟨b,0,none⟩) (n+1) c) (n+1) (strs (xs++ [p]))))->Below B W w'->wpList Tryz.prog ops Q rest (a.put o.dst (.slice (some ⟨b,0,none⟩) (n+1) c)) w'):
  wpList Tryz.prog ops Q (o :: rest) a (W.alloc (Obj.cells #[.string p] 9)):=by
 obtain ⟨i0,hinf,hz0,hz1,hz2⟩:=info_parts Tryz.infoStrR
 refine ze6 h i hi hBB hBW hBW' hgd s x 26 ho i0 (.string ⟨#[]⟩) 16 Tryz.underlying26 hinf hz0 hz1 hz2 rfl (by decide) hs #[.string p] hH hx rfl (fun u hu=>by simp at hu;subst hu;rfl) (by unfold maxLen;omega) (by omega) (fun b c w' k1 k2=>hK b c w' ?_ k2)
 rw [<-zhc];exact k1
theorem ziq {ops:Array Oper} {o:Oper} {a:Act} {K:Act->World->Prop} {Q:Exit->Act->World->Prop} {E:Prop} {B:Nat} {W:World} {l:List Ast} (h:Sep B W l) (i:Nat) {B' n:Nat} {v:Value} {xs:List ByteArray} (hi:l[i]?=some (rowA B' 9 1 v n (strs xs))) (hBB:B<=B') (hBW:B<=W.heap.size) (hBW':B'<=W.heap.size)
  (hgd:o.guard=none) (s x:Operand) (ho:o.op= .call {callee:= .builtin .append,args:= #[s,x],argTypes:= #[26,26]}) (hs:a.eval s=v) (p:ByteArray) {H:Nat} (hH:H=W.heap.size) (hx:a.eval x= .slice (some ⟨H,0,none⟩) 1 1) (hn:n<=3000000)
  (hK:∀b c w',Sep B w' (l.set i (rowA B' 9 1 (.slice (some ⟨b,0,none⟩) (n+1) c) (n+1) (strs (xs++ [p]))))->Below B W w'->K (a.put o.dst (.slice (some ⟨b,0,none⟩) (n+1) c)) w'):
  if Region.wanted o (yielded ops a.tmps)=true then Oper.wp Tryz.prog o a (W.alloc (Obj.cells #[.string p] 9)) K Q else E:=by
 obtain ⟨i0,hinf,hz0,hz1,hz2⟩:=info_parts Tryz.infoStrR
 refine zio h i hi hBB hBW hBW' hgd s x 26 ho i0 (.string ⟨#[]⟩) 16 Tryz.underlying26 hinf hz0 hz1 hz2 rfl (by decide) hs #[.string p] hH hx rfl (fun u hu=>by simp at hu;subst hu;rfl) (by unfold maxLen;omega) (by omega) (fun b c w' k1 k2=>hK b c w' ?_ k2)
 rw [<-zhc];exact k1
theorem zgn {w wx:World} {n c b off:Nat} {l:List ByteArray} (h:RowAt w 1 (.slice (some ⟨b,off,none⟩) n c) n (strs l)) (hb:Below w.heap.size w wx) (i:Nat) (hi:i<n) (hn:n=l.length):wx.cell? ⟨b,off+i,none⟩=some (.string (l.getD i ⟨#[]⟩)):=by
 obtain ⟨-,a',cap,e,h⟩:=h
 injection e with e1 e2 e3
 subst e1
 rcases h with h0 | ⟨b',off',e,hlt,hc⟩
 ·omega
 ·injection e with e
  injection e with e e'
  subst e e'
  rw [hb.cell (by exact hlt),hc i (by omega)]
  simp [strs,List.getD_eq_getElem?_getD,show i<l.length by omega]
theorem blk4c {W:World} {g:Nat} {c0 c1 c2 c3:Value} {t:TypeId} (h:W.heap[g]?=some (Obj.cells #[c0,c1,c2,c3] t)):
  W.cell? ⟨g,0,none⟩=some c0/\W.cell? ⟨g,1,none⟩=some c1/\W.cell? ⟨g,2,none⟩=some c2/\W.cell? ⟨g,3,none⟩=some c3:=
 ⟨(za0 h 0).1,(za0 h 1).1,(za0 h 2).1,(za0 h 3).1⟩
theorem zk2 {B:Nat} {W:World} {A A':Ast} {l:List Ast} (h:Sep B W (A :: A' :: l)):Sep B W (A' :: A :: l):=zmK h (List.Perm.swap _ _ _)
theorem zhd {B:Nat} {W:World} {l:List Ast} (h:Sep B W l) (i:Nat) {g:Nat} {r0 r1 r2 r3 r4 r5:Value} {T:TypeId} (hi:l[i]?=some (cellA g (Obj.cells #[r0,r1,r2,r3,r4,r5] T))) (u0 u1 u2 u3 u4 u5:Value):Sep B (set6 W g u0 u1 u2 u3 u4 u5) (l.set i (cellA g (Obj.cells #[u0,u1,u2,u3,u4,u5] T))):=by
 have h1:W.heap[g]?=some (Obj.cells #[r0,r1,r2,r3,r4,r5] T):=za2 h i hi;have h2:=zcv h i hi g rfl
 refine ze5 h i hi (zaQ W g u0 u1 u2 u3 u4 u5) _ (zcq h1) (fun k hk=>⟨Or.inl hk,?_⟩) (Nat.le_of_lt (Nat.lt_of_le_of_lt h2.1 h2.2))
 have hk:k=g:=hk;subst hk
 simpa using h2.2
theorem blk6z {W:World} {g:Nat} {c0 c1 c2 c3 c4 c5:Value} {t:TypeId} (h:W.heap[g]?=some (Obj.cells #[c0,c1,c2,c3,c4,c5] t)):
  W.frozen? ⟨g,0,none⟩=false/\W.frozen? ⟨g,1,none⟩=false/\W.frozen? ⟨g,2,none⟩=false/\W.frozen? ⟨g,3,none⟩=false/\W.frozen? ⟨g,4,none⟩=false/\W.frozen? ⟨g,5,none⟩=false:=
 ⟨(za0 h 0).2,(za0 h 1).2,(za0 h 2).2,(za0 h 3).2,(za0 h 4).2,(za0 h 5).2⟩
theorem zhe {w:World} {a:Option Addr} {n c c':Nat} {xs:List Value} (h:RowAt w 1 (.slice a n c) n xs) (m:Nat) (hm:m<=n):RowAt w 1 (.slice a m c') m (xs.take m):=by
 obtain ⟨hl,a',cap,e,h⟩:=h
 injection e with e1
 subst e1
 refine ⟨by rw [List.length_take];omega,_,_,rfl,?_⟩
 rcases h with h0 | ⟨b,off,rfl,hlt,hc⟩
 ·exact Or.inl (by omega)
 ·exact Or.inr ⟨b,off,rfl,hlt,fun j hj=>by rw [hc j (by omega),List.getElem?_take,if_pos (by omega)]⟩
theorem zhf {w:World} {b off n c c':Nat} {xs:List Value} (h:RowAt w 1 (.slice (some ⟨b,off,none⟩) n c) n xs) (m:Nat) (hm:m<=n):RowAt w 1 (.slice (some ⟨b,off+m,none⟩) (n - m) c') (n - m) (xs.drop m):=by
 obtain ⟨hl,a',cap,e,h⟩:=h
 injection e with e1
 subst e1
 refine ⟨by rw [List.length_drop];omega,_,_,rfl,?_⟩
 rcases h with h0 | ⟨b',off',e,hlt,hc⟩
 ·exact Or.inl (by omega)
 ·injection e with e
  injection e with e e'
  subst e e'
  exact Or.inr ⟨b,off+m,rfl,hlt,fun j hj=>by rw [Nat.add_assoc,hc (m+j) (by omega),List.getElem?_drop]⟩
theorem zly (l:List ByteArray) (m:Nat):(strs l).take m=strs (l.take m):=by simp [strs,List.map_take]
theorem zlz (l:List ByteArray) (m:Nat):(strs l).drop m=strs (l.drop m):=by simp [strs,List.map_drop]
theorem zlA (l:List Int) (m:Nat):(ints l).take m=ints (l.take m):=by simp [ints,List.map_take]
theorem zlB (l:List Int) (m:Nat):(ints l).drop m=ints (l.drop m):=by simp [ints,List.map_drop]
open Go.RowKit
theorem branch2 {G A B:Prop} (hA:G->A) (hB:G->B) (h:G):A/\B:=⟨hA h,hB h⟩
theorem ready2 {P:Program} {md:Region.Mode} {ops:Array Oper} {Q:Exit->Act->World->Prop} {S:World->Prop} {fuel:Nat} {listed:Array Bool} {a:Act} {w:World} {i j:Nat} {oi oj:Oper} (hi:ops[i]?=some oi) (hj:ops[j]?=some oj)
  (h:(∀K':Act->World->Prop,Shut (∀a w,S w->(S w->wpAnyH P md ops Q S fuel (listed.setIfInBounds i true) a w)->K' a w)->if Region.wanted oi (yielded ops a.tmps)=true then Oper.wp P oi a w K' Q else K' (a.put oi.dst undef) w)/\
   (∀K':Act->World->Prop,Shut (∀a w,S w->(S w->wpAnyH P md ops Q S fuel (listed.setIfInBounds j true) a w)->K' a w)->if Region.wanted oj (yielded ops a.tmps)=true then Oper.wp P oj a w K' Q else K' (a.put oj.dst undef) w)):
  AllReadyH P md ops Q S fuel listed a w [i,j]:=AllReadyH.cons hi h.1 (AllReadyH.cons hj h.2 AllReadyH.nil)
theorem takeW {P:Program} {md:Region.Mode} {ops:Array Oper} {Q:Exit->Act->World->Prop} {S:World->Prop} (i d:Nat) {oi:Oper} (v:Value) {fuel:Nat} {listed:Array Bool} {a:Act} {w:World} (hi:ops[i]?=some oi) (hd:oi.dst=some d)
  (hs:Region.noSelect ops=true) (hf:Region.free md ops listed i=true) (hr:(Region.ready md ops listed).contains i=true)
  (hQ:∀c a w,Q (.panic c) (a.put oi.dst v) w->Q (.panic c) a w) (hy:YieldsIf P ops S oi v a) (hS:S w)
  (h:wpAnyH P md ops Q S fuel (listed.setIfInBounds i true) ⟨a.tmps.setIfInBounds d v,a.defers⟩ w):wpAnyH P md ops Q S (fuel+1) listed a w:=
 wpAnyH_take hi hs hf hr hQ hy hS (by rw [hd];exact h)
theorem zaL {P : Program} (w : World) {ops : Array Oper} {o : Oper} {a : Act} {K : Act → World → Prop} {Q : Exit → Act → World → Prop} {E : Prop} (hgd : o.guard = none) (f : FuncId) (fn : Func) (hfn : P.funcs[f]? = some fn) (hname : ¬ fn.name = "runtime.NumGoroutine") (hbody : ¬ fn.body = none) (s x y p q r t : Operand) (ts : Array TypeId)
  (ho:o.op= .call {callee:= .value (.func f),args:= #[s,x,y,p,q,r,t],argTypes:=ts}) (u v z z1 z2 z3 z4:Value) (hs:a.eval s=u) (hx:a.eval x=v) (hy:a.eval y=z) (hp:a.eval p=z1) (hq:a.eval q=z2) (hr:a.eval r=z3) (ht:a.eval t=z4)
  (R:Ending→World→Prop) (hc:Calls P f #[u,v,z,z1,z2,z3,z4] w R) (hR:∀e w',R e w'→∃r',e= .returned r'∧K (a.put o.dst r') w'):
  if Region.wanted o (yielded ops a.tmps)=true then Oper.wp P o a w K Q else E:=by
 have hw:Region.wanted o (yielded ops a.tmps)=true:=by simp [Region.wanted,hgd]
 rw [if_pos hw];unfold Oper.wp execOp;have hf:a.eval (.func f)= .func (.func f) #[] #[]:=rfl
 simp only [ho,resolve,invoke,hf,Deferred.ofValue,callFunc,Sem.run_bind,Sem.run_pure,Result.andThen_ok,List.map_toArray,List.map_cons,List.map_nil,hs,hx,hy,hp,hq,hr,ht]
 simp [go_sem,hfn,hname,hbody]
 refine hc.mono ?_;intro e w' h;obtain ⟨r,rfl,hk⟩:=hR e w' h;exact hk
theorem tK {P : Program} {md : Region.Mode} {ops : Array Oper} {Q : Exit -> Act -> World -> Prop} {S : World -> Prop} (i d : Nat) {oi : Oper} (v : Value) {fuel : Nat} {listed : Array Bool} {a : Act} {w : World} (hi : ops[i]? = some oi) (hd : oi.dst = some d) (hk : (Region.noSelect ops && Region.free md ops listed i && (Region.ready md ops listed).contains i) = true) (hQ : ∀ c a w, Q (.panic c) (a.put oi.dst v) w -> Q (.panic c) a w) (hy : Region.wanted oi (yielded ops a.tmps) = true ∧ ∀ w, S w -> (execOp a.eval oi).run P w = .ok (.value v) w) (hS : S w) (h : wpAnyH P md ops Q S fuel (listed.setIfInBounds i true) ⟨a.tmps.setIfInBounds d v, a.defers⟩ w) : wpAnyH P md ops Q S (fuel + 1) listed a w := by
 rw [Bool.and_eq_true, Bool.and_eq_true] at hk
 exact takeW i d v hi hd hk.1.1 hk.1.2 hk.2 hQ (Or.inl hy) hS h
end Go.Proofs.YtcbogiebfbbmbaaGreatDoor
