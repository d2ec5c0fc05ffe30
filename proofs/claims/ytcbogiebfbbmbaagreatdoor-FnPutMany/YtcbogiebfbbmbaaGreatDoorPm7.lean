/-
  Facts and contracts that the law's own text rests on, by their texts' names: Sum, ShelfClone, Clone, Seal, SumS, NodeSpec2, PutPlain, HalfPlain, Sep, SepApp, SepWork, DiskRetN, TwoWays.
-/
import Derived.Below
import Derived.BigQuiet
import Derived.Deep.LoopGhost
import Derived.Deep.QuietTactic
import Derived.Laws.BitsAllLaws
import Derived.Laws.Shifts
import Derived.Outline
import Derived.WalkSmall
import Derived.WalkSpells
import Derived.Test.YtcbogiebfbbmbaaGreatDoorPm1
import Derived.Test.YtcbogiebfbbmbaaGreatDoorPm3
import Derived.Shelf.LaysM
import Derived.Shelf.Strconv.Clone
import Derived.Test.YtcbogiebfbbmbaaGreatDoorProg
import Derived.WalkKit
import Derived.Deep.RegionHeld3
import Derived.Laws.Concat
import Derived.Test.YtcbogiebfbbmbaaGreatDoorPm6
import Derived.Test.YtcbogiebfbbmbaaGreatDoorPm5
import Derived.Deep.RegionHeld
import Derived.Deep.AppendLies
import Derived.Test.YtcbogiebfbbmbaaGreatDoorPm2
set_option maxHeartbeats 16000000
set_option maxRecDepth 100000
namespace Go.Proofs.YtcbogiebfbbmbaaGreatDoor
open Go.RowKit
def SumTab (w:World):Prop:=∀i:Nat,i<16->w.cell? ⟨0,i,none⟩=some (.int .u32 ((tab16.getD i 0:Nat):Int))
theorem zah {w w':World} (h:SumTab w) (hb:Below w.heap.size w w'):SumTab w':=by
 intro i hi;have hc:=h i hi;have hlt:0<w.heap.size:=World.block_lt_of_cell? w _ hc;rw [World.cell?_of_block (hb.block _ hlt)];exact hc
theorem wrap32 (x:Int) (h0:0<=x) (h1:x<4294967296):IntKind.u32.wrap x=x:=by
 simp [IntKind.wrap,IntKind.signed,IntKind.bits];omega
theorem xor32 (a b:Nat) (ha:a<4294967296) (hb:b<4294967296):bits BinOp.xor IntKind.u32 (a:Int) (b:Int)=((a ^^^ b:Nat):Int):=by
 have e:bits BinOp.xor IntKind.u32 (a:Int) (b:Int)=IntKind.u32.wrap ((BitVec.ofInt 32 (a:Int) ^^^ BitVec.ofInt 32 (b:Int)).toNat:Int):=rfl;have hl:=ze9 a b ha hb
 have h:(BitVec.ofInt 32 (a:Int) ^^^ BitVec.ofInt 32 (b:Int)).toNat=a ^^^ b:=by
  rw [BitVec.toNat_xor,BitVec.ofInt_natCast,BitVec.ofInt_natCast,BitVec.toNat_ofNat,BitVec.toNat_ofNat,Nat.mod_eq_of_lt (by omega),Nat.mod_eq_of_lt (by omega)]
 rw [e,h,wrap32 _ (by omega) (by omega)]
theorem zjY (a:Nat) (ha:a<4294967296):bits BinOp.and IntKind.u32 (a:Int) 15=((a % 16:Nat):Int):=by
 have e:bits BinOp.and IntKind.u32 (a:Int) 15=IntKind.u32.wrap ((BitVec.ofInt 32 (a:Int) &&& BitVec.ofInt 32 15).toNat:Int):=rfl
 have h:(BitVec.ofInt 32 (a:Int) &&& BitVec.ofInt 32 15).toNat=a % 16:=by
  rw [BitVec.toNat_and,BitVec.ofInt_natCast,BitVec.toNat_ofNat,Nat.mod_eq_of_lt (by omega)]
  exact Nat.and_two_pow_sub_one_eq_mod a 4
 rw [e,h,wrap32 _ (by omega) (by omega)]
theorem zjZ (r:Nat) (h:r<16):tab16.getD r 0<4294967296:=by
 revert r
 decide
theorem zlH (c b:Nat) (hc:c<4294967296) (hb:b<256) (w:World) (hT:SumTab w):
  Calls Tryz.prog 144 #[.int .u32 (c:Int),.int .u8 (b:Int)] w fun e w'=>e= .returned (.int .u32 (sumB c b:Int))/\w=w':=by
 obtain ⟨x,hx⟩:∃x,x=c ^^^ b:=⟨_,rfl⟩
 have hxl:x<4294967296:=by rw [hx];exact ze9 _ _ hc (by omega)
 obtain ⟨r,hr⟩:∃r,r=x % 16:=⟨_,rfl⟩;obtain ⟨t,ht⟩:∃t,t=tab16.getD r 0:=⟨_,rfl⟩
 have htl:t<4294967296:=by rw [ht];exact zjZ r (by omega)
 obtain ⟨y,hy⟩:∃y,y=half4 x:=⟨_,rfl⟩
 have hyl:y<4294967296:=by rw [hy];exact zhk x hxl
 obtain ⟨r2,hr2⟩:∃r,r=y % 16:=⟨_,rfl⟩;obtain ⟨t2,ht2⟩:∃t,t=tab16.getD r2 0:=⟨_,rfl⟩
 have ht2l:t2<4294967296:=by rw [ht2];exact zjZ r2 (by omega)
 have q1:IntKind.u32.wrap (b:Int)=(b:Int):=wrap32 _ (by omega) (by omega)
 have q2:bits BinOp.xor IntKind.u32 (c:Int) (b:Int)=(x:Int):=by rw [hx];exact xor32 c b hc (by omega)
 have q3:bits BinOp.and IntKind.u32 (x:Int) 15=(r:Int):=by rw [hr];exact zjY x hxl
 have q4:w.cell? ⟨0,r,none⟩=some (.int .u32 (t:Int)):=by rw [ht];exact hT r (by omega)
 have q5:bits BinOp.xor IntKind.u32 ((x:Int) / 16) (t:Int)=(y:Int):=by
  rw [show (x:Int) / 16=((x / 16:Nat):Int) by omega,xor32 _ _ (by omega) htl,hy,zjR,ht,hr]
 have q6:bits BinOp.and IntKind.u32 (y:Int) 15=(r2:Int):=by rw [hr2];exact zjY y hyl
 have q7:w.cell? ⟨0,r2,none⟩=some (.int .u32 (t2:Int)):=by rw [ht2];exact hT r2 (by omega)
 have q8:bits BinOp.xor IntKind.u32 ((y:Int) / 16) (t2:Int)=(sumB c b:Int):=by
  rw [show (y:Int) / 16=((y / 16:Nat):Int) by omega,xor32 _ _ (by omega) ht2l,ht2,hr2,<-zjR,hy,hx];rfl
 have l1:(0:Int)<=(r:Int):=by omega
 have l2:(r:Int)<16:=by omega
 have l3:(0:Int)<=(r2:Int):=by omega
 have l4:(r2:Int)<16:=by omega
 obtain ⟨z,hz⟩:∃z,z=sumB c b:=⟨_,rfl⟩;rw [<-hz] at q8⊢;clear hx hr ht hy hr2 ht2 hz hT;go_enter Tryz.func144,Tryz.ntmps144
 go_wp2
 go_ret;exact ⟨rfl,rfl⟩
theorem zfP (c:Nat) (s:ByteArray) (hc:c<4294967296) (hs:s.size<=9223372036854775807) (w:World) (hT:SumTab w):
  Calls Tryz.prog 135 #[.int .u32 (c:Int),.string s] w fun e w'=>e= .returned (.int .u32 (sumL c s.data.toList:Int))/\w=w':=by
 have HT:=hide hT;clear hT;go_enter Tryz.func135,Tryz.ntmps135
 go_wp2
 go_loopg [5,6] s.size (fun g cv iv wr=>∃k x:Nat,k<=s.size/\iv= .int .i64 (k:Int)/\g+k=s.size/\cv= .int .u32 (x:Int)/\x<4294967296/\Hid (x=sumL c (s.data.toList.take k))/\w=wr)
 case atStart=>exact ⟨0,c,Nat.zero_le _,rfl,rfl,rfl,hc,hide rfl,rfl⟩
 case round=>
  obtain ⟨k,x,hk,rfl,hg,rfl,hx,HX,rfl⟩:=hrel;have HG:=hide hg;clear hg
  by_cases hlt:k<s.size
  ·obtain ⟨y,hy⟩:∃y,y=byt s k:=⟨_,rfl⟩
   have hyb:y<256:=by rw [hy];exact ze3 s k
   have hsj:s[k].toNat=y:=by rw [hy];exact zd2 s k hlt
   have HY:=hide hy;clear hy
   have hk0:(0:Int)<=(k:Int):=by omega
   have hk1:(k:Int)<(s.size:Int):=by omega
   go_wp2_with fail;refine (zlH x y hx hyb _ HT.out).mono ?_;rintro e w1 ⟨rfl,rfl⟩;have hl:=sumB_lt x y hx hyb
   have HN:Hid (sumB x y=sumL c (s.data.toList.take (k+1))):=hide (by rw [zjO s k hlt,zfJ,<-HX.out,HY.out,sumL];simp [zbK _ (ze3 s k)])
   go_wp2
   go_roundg (gk - 1)
   case measure=>have:=HG.out;omega
   case rel=>exact ⟨k+1,sumB x y,by omega,by go_num,by have:=HG.out;omega,rfl,hl,HN,rfl⟩
  ·have hk':s.data.toList.take k=s.data.toList:=List.take_of_length_le (by rw [Array.length_toList];have:s.data.size=s.size:=rfl;omega)
   rw [hk'] at HX
   go_wp2
   go_ret;rw [<-HX.out];exact ⟨rfl,rfl⟩
theorem zeb (s:ByteArray) (hs:s.size<=9223372036854775807) (w:World) (hT:SumTab w):
  Calls Tryz.prog 107 #[.string s] w fun e w'=>e= .returned (.int .u32 (sumL 4294967295 s.data.toList:Int))/\w=w':=by
 have HT:=hide hT;clear hT;go_enter Tryz.func107,Tryz.ntmps107;go_wp2_with fail
 refine (zfP 4294967295 s (by omega) hs _ HT.out).mono ?_
 rintro e w1 ⟨rfl,rfl⟩
 go_wp2
 go_ret;exact ⟨rfl,rfl⟩
theorem zlI (x:Nat): [Value.int .u8 ((x / 16777216 % 256:Nat):Int),.int .u8 ((x / 65536 % 256:Nat):Int),.int .u8 ((x / 256 % 256:Nat):Int),.int .u8 ((x % 256:Nat):Int)]=Lib.byteCells (fourL x):=by
 simp [Lib.byteCells,fourL]
theorem wrap8 (a b:Nat) (h:b=a % 256):IntKind.u8.wrap (a:Int)=(b:Int):=by
 subst h
 simp [IntKind.wrap,IntKind.signed,IntKind.bits]
theorem zk0 (x:Nat) (w:World):
  Calls Tryz.prog 108 #[.int .u32 (x:Int)] w fun e w'=>e= .returned (.string ⟨(fourL x).toArray⟩)/\Below w.heap.size w w':=by
 obtain ⟨a,ha⟩:∃a,a=x / 16777216 % 256:=⟨_,rfl⟩;obtain ⟨b,hb⟩:∃b,b=x / 65536 % 256:=⟨_,rfl⟩;obtain ⟨c,hc⟩:∃c,c=x / 256 % 256:=⟨_,rfl⟩;obtain ⟨d,hd⟩:∃d,d=x % 256:=⟨_,rfl⟩;have q1:IntKind.u8.wrap ((x:Int) / 16777216)=(a:Int):=wrap8 (x / 16777216) a ha;have q2:IntKind.u8.wrap ((x:Int) / 65536)=(b:Int):=wrap8 (x / 65536) b hb;have q3:IntKind.u8.wrap ((x:Int) / 256)=(c:Int):=wrap8 (x / 256) c hc;have q4:IntKind.u8.wrap (x:Int)=(d:Int):=wrap8 x d hd
 have HC:Hid ([Value.int .u8 (a:Int),.int .u8 (b:Int),.int .u8 (c:Int),.int .u8 (d:Int)]=Lib.byteCells (fourL x)):=hide (by rw [ha,hb,hc,hd];exact zlI x)
 clear ha hb hc hd
 have hown:(w.alloc (Obj.cells #[.int .u8 (a:Int),.int .u8 (b:Int),.int .u8 (c:Int),.int .u8 (d:Int)] 5)).ownsRow w.heap.size 5 1 (.slice (some ⟨w.heap.size,0,none⟩) 4 4) (fourL x).length (Lib.byteCells (fourL x)):=by
  rw [<-HC.out]
  exact World.ownsRow_lit (base:=w.heap.size) (e:=5) (size:=1) w #[.int .u8 (a:Int),.int .u8 (b:Int),.int .u8 (c:Int),.int .u8 (d:Int)] 4 (Nat.le_refl _) (by unfold maxLen;omega) (by simp)
 have hcv:(convert 22 9 (.slice (some ⟨w.heap.size,0,none⟩) 4 4)).run Tryz.prog (w.alloc (Obj.cells #[.int .u8 (a:Int),.int .u8 (b:Int),.int .u8 (c:Int),.int .u8 (d:Int)] 5))= .ok (.string ⟨(fourL x).toArray⟩) (w.alloc (Obj.cells #[.int .u8 (a:Int),.int .u8 (b:Int),.int .u8 (c:Int),.int .u8 (d:Int)] 5)):=
  zdp (l:=fourL x) Tryz.underlying22 Tryz.underlying5 Tryz.underlying9 hown
 clear hown;go_enter Tryz.func108,Tryz.ntmps108
 go_wp2
 go_ret;exact ⟨rfl,(Below.refl _ _).alloc (Nat.le_refl _) _⟩
end Go.Proofs.YtcbogiebfbbmbaaGreatDoor
namespace Go.Proofs
open Go.Shelf
def Tryz.laysM316_ren:Go.Shelf.Ren:=⟨fun | 316=>89 | n=>n,fun | 9=>9 | 3=>3 | 4=>4 | 37=>22 | 0=>0 | 127=>174 | 5=>5 | n=>n,fun | n=>n⟩
theorem Tryz.laysM316:Go.Proofs.LaysM.n316 Tryz.prog Tryz.laysM316_ren:={
 mixed:=by kernel_rfl
 f316:=Tryz.func89.trans (congrArg some (by kernel_rfl))
 t0:=Tryz.underlying0
 a0:=Tryz.isAgg0
 z0:=Tryz.sizeOf0
 v0:=Tryz.zeroValue0
 t3:=Tryz.underlying3
 a3:=Tryz.isAgg3
 z3:=Tryz.sizeOf3
 v3:=Tryz.zeroValue3
 t4:=Tryz.underlying4
 a4:=Tryz.isAgg4
 z4:=Tryz.sizeOf4
 v4:=Tryz.zeroValue4
 t9:=Tryz.underlying9
 a9:=Tryz.isAgg9
 z9:=Tryz.sizeOf9
 v9:=Tryz.zeroValue9
 t37:=Tryz.underlying22
 a37:=Tryz.isAgg22
 z37:=Tryz.sizeOf22
 v37:=Tryz.zeroValue22
 t127:=Tryz.underlying174
 a127:=Tryz.isAgg174
 z127:=Tryz.sizeOf174
 v127:=Tryz.zeroValue174
 t5:=Tryz.underlying5
 a5:=Tryz.isAgg5
 z5:=Tryz.sizeOf5
 v5:=Tryz.zeroValue5
 i0:=by kernel_rfl
 i3:=by kernel_rfl
 i4:=by kernel_rfl
 i5:=by kernel_rfl
 i9:=by kernel_rfl
 i37:=by kernel_rfl
 i127:=by kernel_rfl}
open Go.RowKit in
theorem Tryz.stringslite_Clone (s:ByteArray) (w:World) (hlim:s.size<=281474976710656):
  Calls Tryz.prog 89 #[.string s] w fun e w'=>e= .returned (.string s)/\Below w.heap.size w w':=Any.stringslite_Clone Tryz.laysM316 s w hlim
end Go.Proofs
namespace Go.Proofs.YtcbogiebfbbmbaaGreatDoor
open Go.RowKit
theorem zcc (s:ByteArray) (hs:s.size<=140737488351232) (w:World):
  Calls Tryz.prog 64 #[.string s] w fun e w'=>e= .returned (.string s)/\Below w.heap.size w w':=by
 go_enter Tryz.func64,Tryz.ntmps64;go_wp2_with fail
 refine (Tryz.stringslite_Clone s _ (by omega)).mono ?_
 rintro e w1 ⟨rfl,hb⟩
 go_wp2
 go_ret;exact ⟨rfl,hb⟩
open Go.RowKit
theorem zgT (s:ByteArray):s++⟨(fourL (sumL 4294967295 s.data.toList)).toArray⟩=(⟨(sealL s.data.toList).toArray⟩:ByteArray):=by
 apply ByteArray.ext
 simp [sealL]
def unOut (s:ByteArray):Value:=if isSealed s.data.toList=true then .tuple #[.string (s.extract 0 (s.size - 4)),.bool true] else .tuple #[.string ⟨#[]⟩,.bool false]
theorem zgz (s:ByteArray) (h:s.size<=20000) (w:World) (hT:SumTab w):
  Calls Tryz.prog 77 #[.string s] w fun e w'=>e= .returned (.tuple #[.string ⟨(sealL s.data.toList).toArray⟩,.bool true])/\Below w.heap.size w w':=by
 have HT:=hide hT;clear hT;have hf:(⟨(fourL (sumL 4294967295 s.data.toList)).toArray⟩:ByteArray).size=4:=rfl;go_enter Tryz.func77,Tryz.ntmps77;go_wp2_with fail
 refine (zeb s (by omega) _ HT.out).mono ?_
 rintro e w1 ⟨rfl,rfl⟩;go_wp2_with fail;refine (zk0 (sumL 4294967295 s.data.toList) _).mono ?_;rintro e w1 ⟨rfl,hb⟩
 go_wp2
 go_ret2;rw [<-zgT];exact ⟨rfl,hb⟩
theorem zaH (t:ByteArray):t.toList=t.data.toList:=ByteArray.toList_eq t
theorem zcL (s:ByteArray):s.data.toList.length=s.size:=by rw [Array.length_toList];rfl
theorem zfm (s:ByteArray) (n:Nat) (hn:s.size=n+4):(s.extract 0 n).data.toList=s.data.toList.take n/\(s.extract n s.size).data.toList=s.data.toList.drop n:=by
 constructor
 ·simp [ByteArray.data_extract]
 ·simp [ByteArray.data_extract,hn];rw [List.take_of_length_le];rw [List.length_drop,zcL];omega
theorem zf6 (s:ByteArray) (hs:s.size<=1048576) (w:World) (hT:SumTab w):
  Calls Tryz.prog 81 #[.string s] w fun e w'=>e= .returned (unOut s)/\Below w.heap.size w w':=by
 have HT:=hide hT;clear hT
 by_cases h4:s.size<4
 ·have HO:Hid (unOut s= .tuple #[.string ⟨#[]⟩,.bool false]):=hide (by rw [unOut,if_neg];rw [isSealed,decide_eq_true_eq,zcL];omega)
  have hd:decide ((s.size:Int)<4)=true:=by simp;omega
  go_enter Tryz.func81,Tryz.ntmps81
  go_wp2
  go_ret2;rw [HO.out];exact ⟨rfl,Below.refl _ _⟩
 ·have hd:decide ((s.size:Int)<4)=false:=by simp;omega
  by_cases hbig:20004<s.size
  ·have HO:Hid (unOut s= .tuple #[.string ⟨#[]⟩,.bool false]):=hide (by rw [unOut,if_neg];rw [isSealed,decide_eq_true_eq,zcL];omega)
   have hd2:decide ((20004:Int)<(s.size:Int))=true:=by simp;omega
   go_enter Tryz.func81,Tryz.ntmps81
   go_wp2
   go_ret2;rw [HO.out];exact ⟨rfl,Below.refl _ _⟩
  ·have hd2:decide ((20004:Int)<(s.size:Int))=false:=by simp;omega
   obtain ⟨n,hn⟩:∃n,s.size=n+4:=⟨s.size - 4,by omega⟩
   obtain ⟨t,ht⟩:∃t,t=s.extract n s.size:=⟨_,rfl⟩;obtain ⟨x,hx⟩:∃x,x=sumL 4294967295 (s.data.toList.take n):=⟨_,rfl⟩
   have hil:(s.extract 0 n).size=n:=by rw [ByteArray.size_extract];omega
   have HC:Hid (∀wx,SumTab wx->Calls Tryz.prog 107 #[.string (s.extract 0 n)] wx fun e w'=>e= .returned (.int .u32 (x:Int))/\wx=w'):=hide (fun wx h=>by
    have:=zeb (s.extract 0 n) (by omega) wx h
    rw [(zfm s n hn).1,<-hx] at this
    exact this)
   have HTl:Hid (t.data.toList=s.data.toList.drop n):=hide (by rw [ht];exact (zfm s n hn).2)
   have HO:Hid (isSealed s.data.toList=decide (t.data.toList=fourL x)):=hide (by rw [isSealed,zcL,hn,Nat.add_sub_cancel,HTl.out,hx];congr 1;simp;omega)
   have hs2:∀wx:World,(Instr.slice 9 (.string s) (some (.int .i64 (n:Int))) none none).run Tryz.prog wx= .ok (.string t) wx:=fun wx=>by
    rw [run_slice_string_l (P:=Tryz.prog) wx 9 s Tryz.underlying9 .i64 (n:Int) (by omega) (by omega),ht,Int.toNat_natCast]
   have HS:Hid (s.size - 4=n):=hide (by omega)
   clear ht hx;go_enter Tryz.func81,Tryz.ntmps81;go_wp2_with fail
   go_region_held3 (fun _=>True) (trivial) (first | (go_at_call 107;refine (HC.out _ ?_).mono ?_;exact HT.out;rintro e wx ⟨rfl,rfl⟩) | (go_at_call 108;refine (zk0 x _).mono ?_;rintro e wx ⟨rfl,hbw⟩))
   by_cases he:t.data.toList=fourL x
   ·have hq:(fourL x ==t.toList)=true:=by rw [zaH,he];exact beq_self_eq_true _
    rw [hq];go_wp2_with fail
    refine (zcc _ (by omega) _).mono ?_
    rintro e w2 ⟨rfl,hb2⟩
    go_wp2
    go_ret2
    rw [unOut,HO.out,if_pos (by simpa using he),HS.out]
    exact ⟨rfl,(((Below.refl _ _).drew).trans hbw).trans (hb2.mono hbw.size)⟩
   ·have hq:(fourL x ==t.toList)=false:=by rw [zaH];exact beq_eq_false_iff_ne.2 (fun e=>he e.symm)
    rw [hq];go_wp2_with fail;go_ret2
    rw [unOut,HO.out,if_neg (by simpa using he)]
    exact ⟨rfl,((Below.refl _ _).drew).trans hbw⟩
open Go.RowKit
def halfK:Nat->Nat->Nat
 | 0,x=>x
 | k+1,x=>half (halfK k x)
theorem zfQ (c:Nat) (s:ByteArray) (hc:c<4294967296) (hs:s.size<=9223372036854775807) (w:World):
  Calls Tryz.prog 127 #[.int .u32 (c:Int),.string s] w fun e w'=>e= .returned (.int .u32 (sumL c s.data.toList:Int))/\w=w':=by
 go_enter Tryz.func127,Tryz.ntmps127
 go_wp2
 go_loopg [0,5] s.size (fun g cv iv wr=>∃k x:Nat,k<=s.size/\iv= .int .i64 (k:Int)/\g+k=s.size/\cv= .int .u32 (x:Int)/\x<4294967296/\Hid (x=sumL c (s.data.toList.take k))/\w=wr)
 case atStart=>exact ⟨0,c,Nat.zero_le _,rfl,rfl,rfl,hc,hide rfl,rfl⟩
 case round=>
  obtain ⟨k,x,hk,rfl,hg,rfl,hx,HX,rfl⟩:=hrel;have HG:=hide hg;clear hg
  by_cases hlt:k<s.size
  ·obtain ⟨y,hy⟩:∃y,y=byt s k:=⟨_,rfl⟩
   have hyb:y<256:=by rw [hy];exact ze3 s k
   have hsj:s[k].toNat=y:=by rw [hy];exact zd2 s k hlt
   have HY:=hide hy;clear hy
   have hk0:(0:Int)<=(k:Int):=by omega
   have hk1:(k:Int)<(s.size:Int):=by omega
   obtain ⟨z,hz⟩:∃z,z=x ^^^ y:=⟨_,rfl⟩
   have hzl:z<4294967296:=by rw [hz];exact ze9 _ _ hx (by omega)
   have q1:IntKind.u32.wrap (y:Int)=(y:Int):=wrap32 _ (by omega) (by omega)
   have q2:bits BinOp.xor IntKind.u32 (x:Int) (y:Int)=(z:Int):=by rw [hz];exact xor32 x y hx (by omega)
   have HZ:=hide hz;clear hz;obtain ⟨go,hgo⟩:∃go,go=gk:=⟨_,rfl⟩;rw [<-hgo] at HG
   go_wp2
   go_loopg [0,6] 8 (fun g cv kv wr=>∃j m:Nat,j<=8/\kv= .int .i64 (j:Int)/\g+j=8/\cv= .int .u32 (m:Int)/\m<4294967296/\Hid (m=halfK j z)/\w=wr)
   case atStart=>exact ⟨0,z,Nat.zero_le _,rfl,rfl,rfl,hzl,hide rfl,rfl⟩
   case round=>
    obtain ⟨j,m,hj,rfl,hg,rfl,hm,HM,rfl⟩:=hrel;have HG2:=hide hg;clear hg
    by_cases hj8:j<8
    ·by_cases hodd:m % 2=1
     ·have hq:decide ((m:Int) % 2=1)=true:=by simp;omega
      obtain ⟨v,hv⟩:∃v,v=half m:=⟨_,rfl⟩
      have hvl:v<4294967296:=by rw [hv];exact zfI m hm
      have q3:bits BinOp.xor IntKind.u32 ((m:Int) / 2) 3558460437=(v:Int):=by
       rw [hv,half,if_pos hodd]
       exact xor32 (m / 2) 3558460437 (by omega) (by omega)
      have HV:Hid (v=halfK (j+1) z):=hide (by rw [hv,halfK,<-HM.out])
      clear hv
      go_wp2
      go_roundg (gk - 1)
      case measure=>have:=HG2.out;omega
      case rel=>exact ⟨j+1,v,by omega,by go_num,by have:=HG2.out;omega,rfl,hvl,HV,rfl⟩
     ·have hq:decide ((m:Int) % 2=1)=false:=by simp;omega
      have hqn:¬((m:Int) % 2=1):=by omega
      have HV:Hid (m / 2=halfK (j+1) z):=hide (by rw [halfK,<-HM.out,half,if_neg hodd])
      clear hodd
      go_wp2
      go_roundg (gk - 1)
      case measure=>have:=HG2.out;omega
      case rel=>exact ⟨j+1,m / 2,by omega,by go_num,by have:=HG2.out;omega,by go_num,by omega,HV,rfl⟩
    ·obtain rfl:j=8:=by omega
     have HN:Hid (m=sumL c (s.data.toList.take (k+1))):=hide (by rw [zjO s k hlt,zfJ,<-HX.out,<-HY.out,sumL];simp only [List.foldl_cons,List.foldl_nil];rw [zbK _ hyb,HM.out,HZ.out];rfl)
     go_wp2
     go_roundg (go - 1)
     case measure=>have:=HG.out;omega
     case rel=>exact ⟨k+1,m,by omega,by go_num,by have:=HG.out;omega,rfl,hm,HN,rfl⟩
  ·have hk':s.data.toList.take k=s.data.toList:=List.take_of_length_le (by rw [Array.length_toList];have:s.data.size=s.size:=rfl;omega)
   rw [hk'] at HX
   go_wp2
   go_ret;rw [<-HX.out];exact ⟨rfl,rfl⟩
theorem zec (s:ByteArray) (hs:s.size<=9223372036854775807) (w:World):
  Calls Tryz.prog 94 #[.string s] w fun e w'=>e= .returned (.int .u32 (sumL 4294967295 s.data.toList:Int))/\w=w':=by
 go_enter Tryz.func94,Tryz.ntmps94;go_wp2_with fail
 refine (zfQ 4294967295 s (by omega) hs _).mono ?_
 rintro e w1 ⟨rfl,rfl⟩
 go_wp2
 go_ret;exact ⟨rfl,rfl⟩
theorem zeY (x:Nat) (w:World):
  Calls Tryz.prog 93 #[.int .u32 (x:Int)] w fun e w'=>e= .returned (.string ⟨(fourL x).toArray⟩)/\Below w.heap.size w w':=by
 obtain ⟨a,ha⟩:∃a,a=x / 16777216 % 256:=⟨_,rfl⟩;obtain ⟨b,hb⟩:∃b,b=x / 65536 % 256:=⟨_,rfl⟩;obtain ⟨c,hc⟩:∃c,c=x / 256 % 256:=⟨_,rfl⟩;obtain ⟨d,hd⟩:∃d,d=x % 256:=⟨_,rfl⟩;have q1:IntKind.u8.wrap ((x:Int) / 16777216)=(a:Int):=wrap8 (x / 16777216) a ha;have q2:IntKind.u8.wrap ((x:Int) / 65536)=(b:Int):=wrap8 (x / 65536) b hb;have q3:IntKind.u8.wrap ((x:Int) / 256)=(c:Int):=wrap8 (x / 256) c hc;have q4:IntKind.u8.wrap (x:Int)=(d:Int):=wrap8 x d hd
 have HC:Hid ([Value.int .u8 (a:Int),.int .u8 (b:Int),.int .u8 (c:Int),.int .u8 (d:Int)]=Lib.byteCells (fourL x)):=hide (by rw [ha,hb,hc,hd];exact zlI x)
 clear ha hb hc hd
 have hown:(w.alloc (Obj.cells #[.int .u8 (a:Int),.int .u8 (b:Int),.int .u8 (c:Int),.int .u8 (d:Int)] 5)).ownsRow w.heap.size 5 1 (.slice (some ⟨w.heap.size,0,none⟩) 4 4) (fourL x).length (Lib.byteCells (fourL x)):=by
  rw [<-HC.out]
  exact World.ownsRow_lit (base:=w.heap.size) (e:=5) (size:=1) w #[.int .u8 (a:Int),.int .u8 (b:Int),.int .u8 (c:Int),.int .u8 (d:Int)] 4 (Nat.le_refl _) (by unfold maxLen;omega) (by simp)
 have hcv:(convert 22 9 (.slice (some ⟨w.heap.size,0,none⟩) 4 4)).run Tryz.prog (w.alloc (Obj.cells #[.int .u8 (a:Int),.int .u8 (b:Int),.int .u8 (c:Int),.int .u8 (d:Int)] 5))= .ok (.string ⟨(fourL x).toArray⟩) (w.alloc (Obj.cells #[.int .u8 (a:Int),.int .u8 (b:Int),.int .u8 (c:Int),.int .u8 (d:Int)] 5)):=
  zdp (l:=fourL x) Tryz.underlying22 Tryz.underlying5 Tryz.underlying9 hown
 clear hown;go_enter Tryz.func93,Tryz.ntmps93
 go_wp2
 go_ret;exact ⟨rfl,(Below.refl _ _).alloc (Nat.le_refl _) _⟩
theorem zgA (s:ByteArray) (h:s.size<=20000) (w:World):
  Calls Tryz.prog 69 #[.string s] w fun e w'=>e= .returned (.tuple #[.string ⟨(sealL s.data.toList).toArray⟩,.bool true])/\Below w.heap.size w w':=by
 have hf:(⟨(fourL (sumL 4294967295 s.data.toList)).toArray⟩:ByteArray).size=4:=rfl;go_enter Tryz.func69,Tryz.ntmps69;go_wp2_with fail
 refine (zec s (by omega) _).mono ?_
 rintro e w1 ⟨rfl,rfl⟩;go_wp2_with fail;refine (zeY (sumL 4294967295 s.data.toList) _).mono ?_;rintro e w1 ⟨rfl,hb⟩
 go_wp2
 go_ret2;rw [<-zgT];exact ⟨rfl,hb⟩
theorem zbT (s:ByteArray) (hs:s.size<=1048576) (w:World):
  Calls Tryz.prog 90 #[.string s] w fun e w'=>e= .returned (unOut s)/\Below w.heap.size w w':=by
 by_cases h4:s.size<4
 ·have HO:Hid (unOut s= .tuple #[.string ⟨#[]⟩,.bool false]):=hide (by rw [unOut,if_neg];rw [isSealed,decide_eq_true_eq,zcL];omega)
  have hd:decide ((s.size:Int) - 4<0)=true:=by simp;omega
  go_enter Tryz.func90,Tryz.ntmps90;go_wp2_with fail
  go_quiet (fail)
  go_wp2
  go_ret2;rw [HO.out];exact ⟨rfl,below_drewN (Below.refl _ _) _⟩
 ·by_cases hbig:20004<s.size
  ·have HO:Hid (unOut s= .tuple #[.string ⟨#[]⟩,.bool false]):=hide (by rw [unOut,if_neg];rw [isSealed,decide_eq_true_eq,zcL];omega)
   have hd:decide ((s.size:Int) - 4<0)=false:=by simp;omega
   have hd2:decide ((20000:Int)<(s.size:Int) - 4)=true:=by simp;omega
   go_enter Tryz.func90,Tryz.ntmps90;go_wp2_with fail
   go_quiet (fail)
   go_wp2
   go_ret2;rw [HO.out];exact ⟨rfl,below_drewN (Below.refl _ _) _⟩
  ·obtain ⟨n,hn⟩:∃n,s.size=n+4:=⟨s.size - 4,by omega⟩
   obtain ⟨t,ht⟩:∃t,t=s.extract n s.size:=⟨_,rfl⟩;obtain ⟨x,hx⟩:∃x,x=sumL 4294967295 (s.data.toList.take n):=⟨_,rfl⟩
   have hil:(s.extract 0 n).size=n:=by rw [ByteArray.size_extract];omega
   have HC:Hid (∀wx,Calls Tryz.prog 94 #[.string (s.extract 0 n)] wx fun e w'=>e= .returned (.int .u32 (x:Int))/\wx=w'):=hide (fun wx=>by
    have:=zec (s.extract 0 n) (by omega) wx
    rw [(zfm s n hn).1,<-hx] at this
    exact this)
   have HTl:Hid (t.data.toList=s.data.toList.drop n):=hide (by rw [ht];exact (zfm s n hn).2)
   have HO:Hid (isSealed s.data.toList=decide (t.data.toList=fourL x)):=hide (by rw [isSealed,zcL,hn,Nat.add_sub_cancel,HTl.out,hx];congr 1;simp;omega)
   have hs1:∀wx:World,(Instr.slice 9 (.string s) none (some (.int .i64 (n:Int))) none).run Tryz.prog wx= .ok (.string (s.extract 0 n)) wx:=fun wx=>by
    rw [run_slice_string_h (P:=Tryz.prog) wx 9 s Tryz.underlying9 .i64 (n:Int) (by omega) (by omega),Int.toNat_natCast]
   have hs2:∀wx:World,(Instr.slice 9 (.string s) (some (.int .i64 (n:Int))) none none).run Tryz.prog wx= .ok (.string t) wx:=fun wx=>by
    rw [run_slice_string_l (P:=Tryz.prog) wx 9 s Tryz.underlying9 .i64 (n:Int) (by omega) (by omega),ht,Int.toNat_natCast]
   have hd:decide ((n:Int)<0)=false:=by simp
   have hd2:decide ((20000:Int)<(n:Int))=false:=by simp;omega
   have HS:Hid (s.size - 4=n):=hide (by omega)
   clear ht hx;go_enter Tryz.func90,Tryz.ntmps90;go_wp2_with fail
   go_region_held3 (fun _=>True) (trivial) (first | (go_at_call 94;refine (HC.out _).mono ?_;rintro e wx ⟨rfl,rfl⟩) | (go_at_call 93;refine (zeY x _).mono ?_;rintro e wx ⟨rfl,hbw⟩))
   by_cases he:t.data.toList=fourL x
   ·have hq:(t.toList ==fourL x)=true:=by rw [zaH,he];exact beq_self_eq_true _
    rw [hq];go_wp2_with fail;go_ret2
    rw [unOut,HO.out,if_pos (by simpa using he),HS.out]
    exact ⟨rfl,((Below.refl _ _).drew).trans hbw⟩
   ·have hq:(t.toList ==fourL x)=false:=by rw [zaH];exact beq_eq_false_iff_ne.2 he
    rw [hq];go_wp2_with fail;go_ret2
    rw [unOut,HO.out,if_neg (by simpa using he)]
    exact ⟨rfl,((Below.refl _ _).drew).trans hbw⟩
open Go.RowKit
theorem zeI (s:ByteArray) (h:s.size<=20000) (w:World):
  Calls Tryz.prog 96 #[.string s] w fun e w'=>e= .returned (.string (shortB s))/\Below w.heap.size w w':=by
 have hlen:=(zay s.size).2;have HO:Hid (shortB s=⟨(vtext s.size).toArray⟩++s):=hide rfl;go_enter Tryz.func96,Tryz.ntmps96;go_wp2_with fail
 refine (zdq s.size (by omega) (by omega) _).mono ?_
 rintro e w2 ⟨rfl,hb⟩;rw [Int.toNat_natCast]
 go_wp2
 go_ret;rw [HO.out];exact ⟨rfl,hb⟩
theorem zig (v:Value) (lf:Bool) (ks vs:List ByteArray) (cs:List Int) (hok:nodeOkB lf ks vs cs=true) (w:World) (hd:NodeAt w v lf ks vs cs):
  Calls Tryz.prog 70 #[v] w fun e w'=>e= .returned (.string (nodeB lf ks vs cs))/\Below w.heap.size w w':=by
 obtain ⟨vk,vv,vc,rfl,h1,h2,h3⟩:=hd
 obtain ⟨xk,ck,rfl⟩:∃a cap,vk= .slice a ks.length cap:=by obtain ⟨-,a,cap,e,-⟩:=h1;exact ⟨a,cap,e⟩
 obtain ⟨xv,cv,rfl⟩:∃a cap,vv= .slice a vs.length cap:=by obtain ⟨-,a,cap,e,-⟩:=h2;exact ⟨a,cap,e⟩
 obtain ⟨xc,cc,rfl⟩:∃a cap,vc= .slice a cs.length cap:=by obtain ⟨-,a,cap,e,-⟩:=h3;exact ⟨a,cap,e⟩
 obtain ⟨w0,hw0⟩:∃w0,w0=w.alloc (Obj.cells #[.bool lf,.slice xk ks.length ck,.slice xv vs.length cv,.slice xc cs.length cc] 71):=⟨_,rfl⟩
 have hb0:Below w.heap.size w w0:=by rw [hw0];exact (Below.refl w.heap.size w).alloc (Nat.le_refl _) _
 have hblk:w0.heap[w.heap.size]?=some (Obj.cells #[.bool lf,.slice xk ks.length ck,.slice xv vs.length cv,.slice xc cs.length cc] 71):=by rw [hw0];exact heap_alloc_new w _
 have HB0:=hide hb0;have HR:=hide (⟨za1 h1 hb0,za1 h2 hb0,za1 h3 hb0⟩:_/\_/\_)
 have HPb:Hid (∀wx,Below w0.heap.size w0 wx->wx.cell? ⟨w.heap.size,0,none⟩=some (.bool lf)/\wx.cell? ⟨w.heap.size,1,none⟩=some (.slice xk ks.length ck)/\wx.cell? ⟨w.heap.size,2,none⟩=some (.slice xv vs.length cv)/\wx.cell? ⟨w.heap.size,3,none⟩=some (.slice xc cs.length cc)):=hide (fun wx hb=>by
  have hq:=(hb.block _ (Array.getElem?_eq_some_iff.1 hblk).1).trans hblk
  exact ⟨(za0 hq 0).1,(za0 hq 1).1,(za0 hq 2).1,(za0 hq 3).1⟩)
 obtain ⟨c0,c1,-,-⟩:=HPb.out w0 (Below.refl _ _);have HOk:=hide hok;have HY:=hide (zan hok);have HCn:=hide (zaP (zan hok).1);have hk4:=HCn.out.2.1
 have HVk:=hide (zdq (ks.length:Int) (by omega) (by omega))
 rw [Int.toNat_natCast] at HVk;obtain ⟨z0,hz0⟩:∃z:ByteArray,z=⟨(vtext ks.length).toArray⟩:=⟨_,rfl⟩;rw [<-hz0] at HVk
 have hzs:z0.size<=5:=by rw [hz0,zbg];exact (zay _).2
 have HS0:Hid (nodeP lf ks.length ks vs cs 0=headB lf++z0):=hide (by rw [nodeP,hz0])
 clear h1 h2 h3 hb0 hblk hok hz0
 cases lf with
 | true=>
  have HLn:Hid (vs.length=ks.length):=hide (HCn.out.2.2.1 rfl).1;go_enter Tryz.func70,Tryz.ntmps70;go_wp2_with fail;rw [<-hw0];clear hw0;refine (HVk.out _).mono ?_;rintro e w1 ⟨rfl,hb1⟩;have HB1:=hide hb1;have HP0:Hid (headB true++z0=nodeP true ks.length ks vs cs 0):=hide HS0.out.symm;clear hb1 c0 c1;go_wp2_with fail
  go_loopg [3,4] ks.length (fun q sv iv wr=>∃i:Nat,i<=ks.length/\sv= .string (nodeP true ks.length ks vs cs i)/\iv= .int .i64 (i:Int)/\q+i=ks.length/\Hid (Below w0.heap.size w0 wr))
  case atStart=>exact ⟨0,Nat.zero_le _,by rw [<-HP0.out];rfl,rfl,rfl,HB1⟩
  case round=>
   obtain ⟨i,hi,rfl,rfl,hg,HB⟩:=hrel;have HG:=hide hg;have hsz:=zc1 HOk.out i hi;clear hg;obtain ⟨p0,p1,p2,p3⟩:=HPb.out wr HB.out
   by_cases hlt:i<ks.length
   ·obtain ⟨-,a1,cp1,e1,h0 | ⟨bk,ok,e0,hbk,hck⟩⟩:=HR.out.1
    ·omega
    injection e1 with e11 _ e12
    subst e11 e12;subst e0;obtain ⟨x,hx⟩:∃x,x=ks.getD i ⟨#[]⟩:=⟨_,rfl⟩
    have hxc:wr.cell? ⟨bk,ok+i,none⟩=some (.string x):=by rw [HB.out.cell (by exact hbk),hck i (by omega),zaU ks i hlt,hx];simp [List.getD,hlt]
    have hx24:x.size<=24:=by rw [hx];exact zbO (HY.out.2.1 i hlt)
    have hi0:(0:Int)<=(i:Int):=by omega
    have hi1:(i:Int)<(ks.length:Int):=by omega
    have HV1:=hide (zeI x (by omega))
    have hs1:=zaS x;obtain ⟨b1,hb1⟩:∃b,b=shortB x:=⟨_,rfl⟩;rw [<-hb1] at HV1 hs1
    have hlv:i<vs.length:=by have:=HLn.out;omega
    obtain ⟨-,a2,cp2,e2,h0 | ⟨bv,ov,e3,hbv,hcv⟩⟩:=HR.out.2.1
    ·omega
    injection e2 with e21 _ e22
    subst e21 e22;subst e3;obtain ⟨z,hz⟩:∃z,z=vs.getD i ⟨#[]⟩:=⟨_,rfl⟩
    have HZc:Hid (∀wx,Below w0.heap.size w0 wx->wx.cell? ⟨bv,ov+i,none⟩=some (.string z)):=hide (fun wx hb=>by rw [hb.cell (by exact hbv),hcv i (by omega),zaU vs i hlv,hz];simp [List.getD,hlv])
    have hz24:z.size<=24:=by rw [hz];exact HY.out.2.2.1 i hlv
    have hiv:(i:Int)<(vs.length:Int):=by omega
    have HV2:=hide (zeI z (by omega))
    have hSd:sideT true vs cs i=shortB z:=by rw [sideT,if_pos rfl,hz]
    have hs2:=zaS z;obtain ⟨b2,hb2⟩:∃b,b=shortB z:=⟨_,rfl⟩;rw [<-hb2] at HV2 hSd hs2;clear hcv hz hb2
    have HK:Hid (nodeP true ks.length ks vs cs (i+1)=nodeP true ks.length ks vs cs i++b1++b2):=hide (by rw [nodeP,<-hx,<-hb1,hSd])
    obtain ⟨s,hs⟩:∃s,s=nodeP true ks.length ks vs cs i:=⟨_,rfl⟩;rw [<-hs] at HK hsz⊢;clear hck hx hb1 hSd hs;go_wp2_with fail;refine (HV1.out _).mono ?_;rintro e w2 ⟨rfl,hb2⟩;have HB2:Hid (Below w0.heap.size w0 w2):=hide (HB.out.trans (hb2.mono HB.out.size));obtain ⟨r0,r1,r2,r3⟩:=HPb.out w2 HB2.out;have hzc:=HZc.out w2 HB2.out;clear hb2 p0 p1 p2 p3 hxc;go_wp2_with fail;refine (HV2.out _).mono ?_;rintro e w3 ⟨rfl,hb3⟩;have HB3:Hid (Below w0.heap.size w0 w3):=hide (HB2.out.trans (hb3.mono HB2.out.size));clear hb3 r0 r1 r2 r3 hzc;go_wp2_with fail
    go_roundg (gk - 1)
    case measure=>have:=HG.out;omega
    case rel=>exact ⟨i+1,by omega,by rw [HK.out],by go_num,by have:=HG.out;omega,HB3⟩
   ·obtain rfl:i=ks.length:=by omega
    have HO:Hid (nodeB true ks vs cs=nodeP true ks.length ks vs cs ks.length):=hide rfl;go_wp2_with fail;go_ret;rw [HO.out];exact ⟨rfl,HB0.out.trans (HB.out.mono HB0.out.size)⟩
 | false=>
  have HLn:Hid (cs.length=ks.length):=hide (HCn.out.2.2.2 rfl).1;go_enter Tryz.func70,Tryz.ntmps70;go_wp2_with fail;rw [<-hw0];clear hw0;refine (HVk.out _).mono ?_;rintro e w1 ⟨rfl,hb1⟩;have HB1:=hide hb1;have HP0:Hid (headB false++z0=nodeP false ks.length ks vs cs 0):=hide HS0.out.symm;clear hb1 c0 c1;go_wp2_with fail
  go_loopg [3,4] ks.length (fun q sv iv wr=>∃i:Nat,i<=ks.length/\sv= .string (nodeP false ks.length ks vs cs i)/\iv= .int .i64 (i:Int)/\q+i=ks.length/\Hid (Below w0.heap.size w0 wr))
  case atStart=>exact ⟨0,Nat.zero_le _,by rw [<-HP0.out];rfl,rfl,rfl,HB1⟩
  case round=>
   obtain ⟨i,hi,rfl,rfl,hg,HB⟩:=hrel;have HG:=hide hg;have hsz:=zc1 HOk.out i hi;clear hg;obtain ⟨p0,p1,p2,p3⟩:=HPb.out wr HB.out
   by_cases hlt:i<ks.length
   ·obtain ⟨-,a1,cp1,e1,h0 | ⟨bk,ok,e0,hbk,hck⟩⟩:=HR.out.1
    ·omega
    injection e1 with e11 _ e12
    subst e11 e12;subst e0;obtain ⟨x,hx⟩:∃x,x=ks.getD i ⟨#[]⟩:=⟨_,rfl⟩
    have hxc:wr.cell? ⟨bk,ok+i,none⟩=some (.string x):=by rw [HB.out.cell (by exact hbk),hck i (by omega),zaU ks i hlt,hx];simp [List.getD,hlt]
    have hx24:x.size<=24:=by rw [hx];exact zbO (HY.out.2.1 i hlt)
    have hi0:(0:Int)<=(i:Int):=by omega
    have hi1:(i:Int)<(ks.length:Int):=by omega
    have HV1:=hide (zeI x (by omega))
    have hs1:=zaS x;obtain ⟨b1,hb1⟩:∃b,b=shortB x:=⟨_,rfl⟩;rw [<-hb1] at HV1 hs1
    have hlv:i<cs.length:=by have:=HLn.out;omega
    obtain ⟨-,a2,cp2,e2,h0 | ⟨bv,ov,e3,hbv,hcv⟩⟩:=HR.out.2.2
    ·omega
    injection e2 with e21 _ e22
    subst e21 e22;subst e3;obtain ⟨z,hz⟩:∃z,z=cs.getD i 0:=⟨_,rfl⟩
    have HZc:Hid (∀wx,Below w0.heap.size w0 wx->wx.cell? ⟨bv,ov+i,none⟩=some (.int .i64 z)):=hide (fun wx hb=>by rw [hb.cell (by exact hbv),hcv i (by omega),ints_at cs i hlv,hz];simp [List.getD,hlv])
    have hz24:2<=z/\z<=39:=by rw [hz];exact zds (HY.out.2.2.2 i hlv)
    have hiv:(i:Int)<(cs.length:Int):=by omega
    have HV2:=hide (zdq z (by omega) (by omega))
    have hSd:sideT false vs cs i=⟨(vtext z.toNat).toArray⟩:=by rw [sideT,if_neg (by decide),hz]
    have hs2:(⟨(vtext z.toNat).toArray⟩:ByteArray).size<=29:=by rw [zbg];have:=(zay z.toNat).2;omega
    obtain ⟨b2,hb2⟩:∃b:ByteArray,b=⟨(vtext z.toNat).toArray⟩:=⟨_,rfl⟩;rw [<-hb2] at HV2 hSd hs2;clear hcv hz hb2
    have HK:Hid (nodeP false ks.length ks vs cs (i+1)=nodeP false ks.length ks vs cs i++b1++b2):=hide (by rw [nodeP,<-hx,<-hb1,hSd])
    obtain ⟨s,hs⟩:∃s,s=nodeP false ks.length ks vs cs i:=⟨_,rfl⟩;rw [<-hs] at HK hsz⊢;clear hck hx hb1 hSd hs;go_wp2_with fail;refine (HV1.out _).mono ?_;rintro e w2 ⟨rfl,hb2⟩;have HB2:Hid (Below w0.heap.size w0 w2):=hide (HB.out.trans (hb2.mono HB.out.size));obtain ⟨r0,r1,r2,r3⟩:=HPb.out w2 HB2.out;have hzc:=HZc.out w2 HB2.out;clear hb2 p0 p1 p2 p3 hxc;go_wp2_with fail;refine (HV2.out _).mono ?_;rintro e w3 ⟨rfl,hb3⟩;have HB3:Hid (Below w0.heap.size w0 w3):=hide (HB2.out.trans (hb3.mono HB2.out.size));clear hb3 r0 r1 r2 r3 hzc;go_wp2_with fail
    go_roundg (gk - 1)
    case measure=>have:=HG.out;omega
    case rel=>exact ⟨i+1,by omega,by rw [HK.out],by go_num,by have:=HG.out;omega,HB3⟩
   ·obtain rfl:i=ks.length:=by omega
    have HO:Hid (nodeB false ks vs cs=nodeP false ks.length ks vs cs ks.length):=hide rfl;go_wp2_with fail;go_ret;rw [HO.out];exact ⟨rfl,HB0.out.trans (HB.out.mono HB0.out.size)⟩
theorem zkR (s:ByteArray) (h:s.size<=20000) (w:World):Calls Tryz.prog 69 #[.string s] w fun e w'=>e= .returned (.tuple #[.string ⟨(sealL s.data.toList).toArray⟩,.bool true])/\Below w.heap.size w w':=zgA s h w
theorem zcX (v:Value) (lf:Bool) (ks vs:List ByteArray) (cs:List Int) (hk:ks.length<=1048576) (hv:vs.length<=1048576) (hc:cs.length<=1048576) (hks:∀s∈ks,s.size<=1048576) (hvs:∀s∈vs,s.size<=1048576) (w:World) (hd:NodeAt w v lf ks vs cs):
  Calls Tryz.prog 45 #[v] w fun e w'=>e= .returned (.tuple #[.string (nodeO lf ks vs cs),.bool (nodeOkB lf ks vs cs)])/\Below w.heap.size w w':=by
 have HS:=hide (fun wx h=>zgy v lf ks vs cs hk hv hc hks hvs wx h)
 have HD:=hide hd;obtain ⟨vk,vv,vc,rfl,-,-,-⟩:=hd;obtain ⟨w0,hw0⟩:∃w0,w0=w.alloc (Obj.cells #[.bool lf,vk,vv,vc] 71):=⟨_,rfl⟩
 have HB0:Hid (Below w.heap.size w w0):=hide (by rw [hw0];exact (Below.refl w.heap.size w).alloc (Nat.le_refl _) _)
 have HQ0:Hid (w0.heap[w.heap.size]?=some (Obj.cells #[.bool lf,vk,vv,vc] 71)):=hide (by rw [hw0];exact heap_alloc_new w _)
 clear hk hv hc hks hvs
 cases hok:nodeOkB lf ks vs cs with
 | false=>
  rw [hok] at HS
  have HO:Hid (nodeO lf ks vs cs=⟨#[]⟩):=hide (by rw [nodeO,hok];rfl)
  clear hok;go_enter Tryz.func45,Tryz.ntmps45;go_wp2_with fail;rw [<-hw0];clear hw0;refine (HS.out _ (zaK HD.out HB0.out)).mono ?_;rintro e w1 ⟨rfl,hb⟩;go_wp2_with fail;go_ret2;rw [HO.out];exact ⟨rfl,HB0.out.trans (hb.mono HB0.out.size)⟩
 | true=>
  rw [hok] at HS
  have HBy:=hide (fun wx h=>zig (.agg #[.bool lf,vk,vv,vc]) lf ks vs cs hok wx h)
  have HO:Hid (nodeO lf ks vs cs=nodeT lf ks vs cs):=hide (by rw [nodeO,hok];rfl)
  have HSe:=hide (zkR (nodeB lf ks vs cs) (by have:=(zdt hok).1;omega))
  have HTt:Hid (nodeT lf ks vs cs=⟨(sealL (nodeB lf ks vs cs).data.toList).toArray⟩):=hide rfl;obtain ⟨bs,hbs⟩:∃b,b=nodeB lf ks vs cs:=⟨_,rfl⟩;rw [<-hbs] at HBy HSe HTt;clear hok hbs;go_enter Tryz.func45,Tryz.ntmps45;go_wp2_with fail;rw [<-hw0];clear hw0;refine (HS.out _ (zaK HD.out HB0.out)).mono ?_;rintro e w1 ⟨rfl,hb⟩;have HB1:Hid (Below w.heap.size w w1):=hide (HB0.out.trans (hb.mono HB0.out.size));have hq:=(hb.block _ (Array.getElem?_eq_some_iff.1 HQ0.out).1).trans HQ0.out;have c0:w1.cell? ⟨w.heap.size,0,none⟩=some (.bool lf):=(za0 hq 0).1;have c1:w1.cell? ⟨w.heap.size,1,none⟩=some vk:=(za0 hq 1).1;have c2:w1.cell? ⟨w.heap.size,2,none⟩=some vv:=(za0 hq 2).1;have c3:w1.cell? ⟨w.heap.size,3,none⟩=some vc:=(za0 hq 3).1;clear hb hq;go_wp2_with fail;refine (HBy.out _ (zaK HD.out HB1.out)).mono ?_;rintro e w2 ⟨rfl,hb2⟩;have HB2:Hid (Below w.heap.size w w2):=hide (HB1.out.trans (hb2.mono HB1.out.size));clear hb2 c0 c1 c2 c3;go_wp2_with fail;refine (HSe.out _).mono ?_;rintro e w3 ⟨rfl,hb3⟩;have HB3:Hid (Below w.heap.size w w3):=hide (HB2.out.trans (hb3.mono HB2.out.size));clear hb3;go_wp2_with fail;go_ret2;rw [HO.out,HTt.out];exact ⟨rfl,HB3.out⟩
open Go.RowKit
def putB (k:Wk) (lf:Bool) (ks vs:List ByteArray) (cs:List Int):Bool:=nodeOkB lf ks vs cs && decide (giveP k≠0) && writeOk k.ps k.ls (giveP k) (nodeO lf ks vs cs)
def putK (k:Wk) (lf:Bool) (ks vs:List ByteArray) (cs:List Int):Wk:=if putB k lf ks vs cs=true then {giveK k with ls:=writeL k.ps k.ls (giveP k) (nodeO lf ks vs cs)} else k
def putP (k:Wk) (lf:Bool) (ks vs:List ByteArray) (cs:List Int):Int:=if putB k lf ks vs cs=true then giveP k else 0
theorem zgU {k:Wk} {lf:Bool} {ks vs:List ByteArray} {cs:List Int} (h:putB k lf ks vs cs=false):putK k lf ks vs cs=k/\putP k lf ks vs cs=0:=by
 unfold putK putP;rw [h];exact ⟨rfl,rfl⟩
theorem zhq {k:Wk} {lf:Bool} {ks vs:List ByteArray} {cs:List Int} (h:putB k lf ks vs cs=true):putK k lf ks vs cs={giveK k with ls:=writeL k.ps k.ls (giveP k) (nodeO lf ks vs cs)}/\putP k lf ks vs cs=giveP k:=by
 unfold putK putP;rw [h];exact ⟨rfl,rfl⟩
theorem zd8 (k:Wk):(giveK k).ps=k.ps/\(giveK k).ls=k.ls:=by
 unfold giveK
 split
 ·exact ⟨rfl,rfl⟩
 ·split <;> exact ⟨rfl,rfl⟩
theorem zdS (lf:Bool) (ks vs:List ByteArray) (cs:List Int):(nodeO lf ks vs cs).size<=206:=by
 unfold nodeO
 split
 ·next h=>exact zkQ h
 ·exact Nat.zero_le _
theorem put_fin {w w5:World} {kg:Wk} {ls':List (Int×ByteArray)} {a1 g B U:Nat} {rs:Obj} {u0 u1 u3 u4 u5 d0 d1:Value} {t:TypeId} (hv:w5.heap[g]?=some (Obj.cells #[u0,u1,.int .i64 kg.next,u3,u4,u5] t)) (hres:w5.heap[a1]?=some rs) (hw:WorkOwn w5 B (.agg #[u0,u1,.int .i64 kg.next,u3,u4,u5]) kg) (hu:∀j,workBlocks (.agg #[u0,u1,.int .i64 kg.next,u3,u4,u5]) j->j<U) (hg:U<=g) (hd:DiskOwn w5 (g+1) (.agg #[d0,d1]) kg.ps ls') (ha:a1<B) (hB:B<=g) (hwa:w.heap.size<=a1) (hlow:Below w.heap.size w w5):
  ((w5.setCell ⟨g,0,none⟩ d0).setCell ⟨g,1,none⟩ d1).heap[g]?=some (Obj.cells #[d0,d1,.int .i64 kg.next,u3,u4,u5] t)/\((w5.setCell ⟨g,0,none⟩ d0).setCell ⟨g,1,none⟩ d1).heap[a1]?=some rs/\
  WorkOwn ((w5.setCell ⟨g,0,none⟩ d0).setCell ⟨g,1,none⟩ d1) B (.agg #[d0,d1,.int .i64 kg.next,u3,u4,u5]) {kg with ls:=ls'}/\Below w.heap.size w ((w5.setCell ⟨g,0,none⟩ d0).setCell ⟨g,1,none⟩ d1):=by
 have hk:Kept w5 ((w5.setCell ⟨g,0,none⟩ d0).setCell ⟨g,1,none⟩ d1) (fun j=>j=g):=kept_trans (zab _ _ _ _) (zab _ _ _ _) (fun _ _ h=>h)
 obtain ⟨vp,vl,vu,vg,vf,e,h1,h2,h3,h4,h5⟩:=hw;obtain ⟨rfl,rfl,-,rfl,rfl,rfl⟩:=agg6 e
 refine ⟨heap_setCell_same _ g 1 _ _ _ (heap_setCell_same w5 g 0 _ _ _ hv),(hk.2.2.2.2 a1 (Array.getElem?_eq_some_iff.1 hres).1 (by omega)).trans hres,⟨d0,d1,_,_,_,rfl,?_,?_,?_,?_,h5⟩,hlow.trans (zae hk hlow.size (fun j e=>by omega))⟩
 ·obtain ⟨vp',vl',e,k1,k2⟩:=zci hd hk (fun j e h=>by have:=(zbz hd j e).1;omega)
  exact ⟨vp',vl',e,zaa k1 (by omega),zaa k2 (by omega)⟩
 ·exact zb2 h2 hk (fun j e h=>by have:=hu j ⟨_,_,_,_,_,_,rfl,Or.inr (Or.inl e)⟩;omega)
 ·exact zb2 h3 hk (fun j e h=>by have:=hu j ⟨_,_,_,_,_,_,rfl,Or.inr (Or.inr (Or.inl e))⟩;omega)
 ·exact zb2 h4 hk (fun j e h=>by have:=hu j ⟨_,_,_,_,_,_,rfl,Or.inr (Or.inr (Or.inr e))⟩;omega)
abbrev Part:=List ByteArray×List ByteArray×List Int
def halfParts (lf:Bool) (ks vs:List ByteArray) (cs:List Int):List Part:=
 if 4<ks.length then (if lf=true then [(ks.take 3,vs.take 3,[]),(ks.drop 3,vs.drop 3,[])] else [(ks.take 3,[],cs.take 3),(ks.drop 3,[],cs.drop 3)]) else [(ks,vs,cs)]
noncomputable def halfL (lf:Bool):Wk->List Part->Wk×List ByteArray×List Int×Bool
 | k,[]=>(k,[],[],true)
 | k,p :: r=>if putP k lf p.1 p.2.1 p.2.2=0 then (k,[],[],false) else
   ((halfL lf (putK k lf p.1 p.2.1 p.2.2) r).1,p.1.getD 0 ⟨#[]⟩ :: (halfL lf (putK k lf p.1 p.2.1 p.2.2) r).2.1,putP k lf p.1 p.2.1 p.2.2 :: (halfL lf (putK k lf p.1 p.2.1 p.2.2) r).2.2.1,(halfL lf (putK k lf p.1 p.2.1 p.2.2) r).2.2.2)
noncomputable def halfS (k:Wk) (lf:Bool) (ks vs:List ByteArray) (cs:List Int):Wk×List ByteArray×List Int×Bool:=halfL lf k (halfParts lf ks vs cs)
def HalfAt (R:Wk×List ByteArray×List Int×Bool) (lf:Bool) (k:Wk) (K:List ByteArray) (P:List Int) (r:List Part):Prop:=R=((halfL lf k r).1,K++(halfL lf k r).2.1,P++(halfL lf k r).2.2.1,(halfL lf k r).2.2.2)
theorem zih (k:Wk) (lf:Bool) (r:List Part):HalfAt (halfL lf k r) lf k [] [] r:=by unfold HalfAt;simp
theorem zlJ {R:Wk×List ByteArray×List Int×Bool} {lf:Bool} {k:Wk} {K:List ByteArray} {P:List Int} {p:Part} {r:List Part} (h:HalfAt R lf k K P (p :: r)) (h0:putP k lf p.1 p.2.1 p.2.2=0):R=(k,K,P,false):=by
 unfold HalfAt at h;rw [halfL,if_pos h0] at h
 simpa using h
theorem zkS {R:Wk×List ByteArray×List Int×Bool} {lf:Bool} {k:Wk} {K:List ByteArray} {P:List Int} {p:Part} {r:List Part} (h:HalfAt R lf k K P (p :: r)) (h0:putP k lf p.1 p.2.1 p.2.2≠0):HalfAt R lf (putK k lf p.1 p.2.1 p.2.2) (K++ [p.1.getD 0 ⟨#[]⟩]) (P++ [putP k lf p.1 p.2.1 p.2.2]) r:=by
 unfold HalfAt at h⊢;rw [halfL,if_neg h0] at h
 simpa using h
theorem zjg {R:Wk×List ByteArray×List Int×Bool} {lf:Bool} {k:Wk} {K:List ByteArray} {P:List Int} (h:HalfAt R lf k K P []):R=(k,K,P,true):=by
 unfold HalfAt at h;rw [halfL] at h
 simpa using h
def Wk.sm (k:Wk) (m:Nat):Prop:=k.ps.length<=1048576/\(∀s∈k.ps,s.size<=1048576)/\k.ls.length+m<=1048576/\(∀p∈k.ls,p.2.size<=1048576)/\k.us.length+m<=1048576/\k.gs.length+m<=1048576/\k.fs.length+m<=1048576
theorem zbW {k:Wk} {m:Nat} (h:k.sm m):k.small:=by
 obtain ⟨h1,h2,h3,h4,h5,h6,h7⟩:=h
 exact ⟨h1,h2,by omega,h4,by omega,by omega,by omega⟩
theorem zaD {k:Wk} {m m':Nat} (h:k.sm m) (hm:m'<=m):k.sm m':=by
 obtain ⟨h1,h2,h3,h4,h5,h6,h7⟩:=h
 exact ⟨h1,h2,by omega,h4,by omega,by omega,by omega⟩
theorem sm_give {k:Wk} {m:Nat} (h:k.sm (m+1)):(giveK k).sm m:=by
 obtain ⟨h1,h2,h3,h4,h5,h6,h7⟩:=h
 cases hu:k.us with
 | cons x t=>
  rw [(zcu hu).1];rw [hu] at h5
  simp at h5
  exact ⟨h1,h2,by show k.ls.length+m<=_;omega,h4,by show t.length+m<=_;omega,by show k.gs.length+m<=_;omega,by show (k.fs++ [x]).length+m<=_;simp;omega⟩
 | nil=>
  by_cases hn:k.next<(k.ps.length:Int)
  ·rw [(zcv hu hn).1]
   exact ⟨h1,h2,by show k.ls.length+m<=_;omega,h4,by show k.us.length+m<=_;omega,by show k.gs.length+m<=_;omega,by show (k.fs++ [k.next]).length+m<=_;simp;omega⟩
  ·rw [(zd5 hu hn).1]
   exact ⟨h1,h2,by omega,h4,by omega,by omega,by omega⟩
theorem zii {k:Wk} {m:Nat} (h:k.sm (m+1)) (lf:Bool) (ks vs:List ByteArray) (cs:List Int):(putK k lf ks vs cs).sm m:=by
 unfold putK
 split
 ·obtain ⟨g1,g2,g3,g4,g5,g6,g7⟩:=sm_give h
  obtain ⟨h1,h2,h3,h4,-⟩:=h
  refine ⟨g1,g2,?_,fun p hp=> ?_,g5,g6,g7⟩
  ·show (writeL k.ps k.ls (giveP k) (nodeO lf ks vs cs)).length+m<=_
   unfold writeL
   split
   ·simp;omega
   ·omega
  have hp:p∈writeL k.ps k.ls (giveP k) (nodeO lf ks vs cs):=hp;unfold writeL at hp
  split at hp
  ·rcases List.mem_append.1 hp with hp | hp
   ·exact h4 p hp
   ·obtain rfl:=List.mem_singleton.1 hp
    exact Nat.le_trans (zdS lf ks vs cs) (by omega)
  ·exact h4 p hp
 ·exact zaD h (by omega)
theorem zlK {k:Wk} {lf:Bool} {ks vs:List ByteArray} {cs:List Int} (h:putP k lf ks vs cs≠0):nodeOkB lf ks vs cs=true:=by
 cases hb:putB k lf ks vs cs with
 | false=>exact absurd (zgU hb).2 h
 | true=>
  unfold putB at hb;rw [Bool.and_eq_true,Bool.and_eq_true] at hb;exact hb.1.1
open Go.RowKit
structure Ast where
 F:Nat->Prop
 P:World->Prop
 loc:∀W W',P W->(∀k,F k->W'.heap[k]?=W.heap[k]?)->P W'
def cellA (g:Nat) (o:Obj):Ast:=⟨fun k=>k=g,fun W=>W.heap[g]?=some o,fun _ _ h hk=>(hk g rfl).trans h⟩
def rowA (B e sz:Nat) (v:Value) (n:Nat) (xs:List Value):Ast:=⟨fun k=>v.ownBlock=some k,fun W=>W.ownsRow B e sz v n xs,fun W W' h hk=>by
 refine ⟨h.1,?_⟩
 rcases h.2 with ⟨rfl,hn⟩ | ⟨g,cap,cur,rfl,hg,hh,rest⟩
 ·exact Or.inl ⟨rfl,hn⟩
 ·exact Or.inr ⟨g,cap,cur,rfl,hg,(hk g rfl).trans hh,rest⟩⟩
def Sep (B:Nat) (W:World) (l:List Ast):Prop:=(∀A∈l,A.P W/\∀k,A.F k->B<=k/\k<W.heap.size)/\l.Pairwise (fun A A'=>∀k,A.F k->¬A'.F k)
theorem zeJ (B:Nat) (W:World):Sep B W []:=⟨fun _ h=>(by cases h),List.Pairwise.nil⟩
theorem za5 {B:Nat} {W:World} {l:List Ast} (h:Sep B W l) (i:Nat) {A:Ast} (hi:l[i]?=some A):A.P W:=(h.1 A (List.mem_of_getElem? hi)).1
theorem zed {B:Nat} {W:World} {l:List Ast} (h:Sep B W l) (i:Nat) {A:Ast} (hi:l[i]?=some A):∀k,A.F k->B<=k/\k<W.heap.size:=(h.1 A (List.mem_of_getElem? hi)).2
theorem zaI {B:Nat} {W:World} {l:List Ast} (h:Sep B W l) (i j:Nat) {A A':Ast} (hi:l[i]?=some A) (hj:l[j]?=some A') (hne:i≠j):∀k,A.F k->¬A'.F k:=by
 obtain ⟨hi1,rfl⟩:=List.getElem?_eq_some_iff.1 hi;obtain ⟨hj1,rfl⟩:=List.getElem?_eq_some_iff.1 hj
 rcases Nat.lt_or_gt_of_ne hne with h1 | h1
 ·exact List.pairwise_iff_getElem.1 h.2 i j hi1 hj1 h1
 ·exact fun k ha hb=>List.pairwise_iff_getElem.1 h.2 j i hj1 hi1 h1 k hb ha
theorem zij {B:Nat} {W W':World} {l:List Ast} (h:Sep B W l) (hs:W.heap.size<=W'.heap.size) (hk:∀A∈l,∀k,A.F k->W'.heap[k]?=W.heap[k]?):Sep B W' l:=
 ⟨fun A hA=>⟨A.loc W W' (h.1 A hA).1 (hk A hA),fun k hF=>⟨((h.1 A hA).2 k hF).1,Nat.lt_of_lt_of_le ((h.1 A hA).2 k hF).2 hs⟩⟩,h.2⟩
theorem zbr {B:Nat} {W W':World} {l:List Ast} (h:Sep B W l) (hb:Below W.heap.size W W'):Sep B W' l:=
 zij h hb.size (fun A hA k hF=>hb.block k ((h.1 A hA).2 k hF).2)
theorem zfn {B:Nat} {W:World} {l:List Ast} (h:Sep B W l):Sep B W.drew l:=zbr h (Below.refl _ _).drew
theorem zlL {B:Nat} {W:World} {l:List Ast} (h:Sep B W l) (o:Obj):Sep B (W.alloc o) l:=zbr h ((Below.refl _ _).alloc (Nat.le_refl _) o)
theorem zn1 {B:Nat} {W W':World} {l:List Ast} {S:Nat->Prop} (h:Sep B W l) (hk:Kept W W' S) (hS:∀A∈l,∀k,A.F k->¬S k):Sep B W' l:=
 zij h hk.2.2.2.1 (fun A hA k hF=>hk.2.2.2.2 k ((h.1 A hA).2 k hF).2 (hS A hA k hF))
theorem zb5 {B:Nat} {W:World} {A:Ast} {l:List Ast}:Sep B W (A :: l)↔(A.P W/\∀k,A.F k->B<=k/\k<W.heap.size)/\(∀A'∈l,∀k,A.F k->¬A'.F k)/\Sep B W l:=by
 constructor
 ·rintro ⟨h1,h2⟩
  obtain ⟨h3,h4⟩:=List.pairwise_cons.1 h2
  exact ⟨h1 A List.mem_cons_self,h3,fun A' h=>h1 A' (List.mem_cons_of_mem _ h),h4⟩
 ·rintro ⟨h1,h2,h3,h4⟩
  refine ⟨fun A' h=> ?_,List.pairwise_cons.2 ⟨h2,h4⟩⟩
  rcases List.mem_cons.1 h with rfl | h
  ·exact h1
  ·exact h3 A' h
theorem sep_del {B:Nat} {W:World} {A:Ast} {l:List Ast} (h:Sep B W (A :: l)):Sep B W l:=(zb5.1 h).2.2
theorem zjh {B:Nat} {W W':World} {l:List Ast} (h:Sep B W l) (hb:Below W.heap.size W W') (A:Ast) (hP:A.P W') (hF:∀k,A.F k->W.heap.size<=k/\k<W'.heap.size) (hB:B<=W.heap.size):Sep B W' (A :: l):=
 zb5.2 ⟨⟨hP,fun k hk=>⟨Nat.le_trans hB (hF k hk).1,(hF k hk).2⟩⟩,fun A' hA' k hk hk'=>by have:=((h.1 A' hA').2 k hk').2;have:=(hF k hk).1;omega,zbr h hb⟩
theorem zbC {B:Nat} {W:World} {l:List Ast} (h:Sep B W l) (o:Obj) (hB:B<=W.heap.size):Sep B (W.alloc o) (cellA W.heap.size o :: l):=
 zjh h ((Below.refl _ _).alloc (Nat.le_refl _) o) (cellA W.heap.size o) (heap_alloc_new W o) (fun k hk=>by have hk:k=W.heap.size:=hk;subst hk;exact ⟨Nat.le_refl _,by simp⟩) hB
theorem zdT {B:Nat} {W W':World} {l:List Ast} (h:Sep B W l) (i:Nat) {A:Ast} (hi:l[i]?=some A) (hk:Kept W W' A.F) (A':Ast) (hP:A'.P W') (hF:∀k,A'.F k->(A.F k\/W.heap.size<=k)/\k<W'.heap.size) (hB:B<=W.heap.size):Sep B W' (l.set i A'):=by
 obtain ⟨hi1,hie⟩:=List.getElem?_eq_some_iff.1 hi
 have hap:∀(j:Nat) (hj:j<l.length),j≠i->∀k,A'.F k->¬l[j].F k:=fun j hj hne k ha hb=>by
  rcases (hF k ha).1 with h1 | h1
  ·exact zaI h i j hi (List.getElem?_eq_getElem hj) (fun e=>hne e.symm) k h1 hb
  ·have:=(zed h j (List.getElem?_eq_getElem hj) k hb).2;omega
 refine ⟨fun X hX=> ?_,?_⟩
 ·obtain ⟨j,hj,rfl⟩:=List.getElem_of_mem hX
  rw [List.length_set] at hj;rw [List.getElem_set]
  split
  ·refine ⟨hP,fun k hk'=>⟨?_,(hF k hk').2⟩⟩
   rcases (hF k hk').1 with h1 | h1
   ·exact (zed h i hi k h1).1
   ·omega
  ·rename_i hne
   have h1:=h.1 l[j] (List.getElem_mem hj)
   have h2:∀k,l[j].F k->¬A.F k:=zaI h j i (List.getElem?_eq_getElem hj) hi (fun e=>hne e.symm)
   exact ⟨l[j].loc W W' h1.1 (fun k hF'=>hk.2.2.2.2 k (h1.2 k hF').2 (h2 k hF')),fun k hF'=>⟨(h1.2 k hF').1,Nat.lt_of_lt_of_le (h1.2 k hF').2 hk.2.2.2.1⟩⟩
 ·refine List.pairwise_iff_getElem.2 fun p q hp hq hpq=> ?_
  rw [List.length_set] at hp hq;rw [List.getElem_set,List.getElem_set]
  split
  ·rename_i e
   subst e
   rw [if_neg (by omega)]
   exact hap q hq (by omega)
  ·rename_i e
   split
   ·rename_i e2
    subst e2
    exact fun k ha hb=>hap p hp (by omega) k hb ha
   ·exact List.pairwise_iff_getElem.1 h.2 p q hp hq hpq
theorem zbs {B:Nat} {W:World} {l:List Ast} (h:Sep B W l) (i:Nat) {g:Nat} {cs:Array Value} {T:TypeId} (hi:l[i]?=some (cellA g (.cells cs T (0,0)))) (off:Nat) (v:Value):Sep B (W.setCell ⟨g,off,none⟩ v) (l.set i (cellA g (.cells (cs.setIfInBounds off v) T (0,0)))):=by
 have h1:W.heap[g]?=some (.cells cs T (0,0)):=za5 h i hi;have h2:=zed h i hi g rfl
 refine zdT h i hi (zab W g off v) _ (heap_setCell_same W g off cs T v h1) (fun k hk=>⟨Or.inl hk,?_⟩) (Nat.le_of_lt (Nat.lt_of_le_of_lt h2.1 h2.2))
 have hk:k=g:=hk;subst hk
 simpa using h2.2
theorem zn2 {B:Nat} {W W0 W':World} {l:List Ast} (h:Sep B W l) (hb:Below W.heap.size W W0) (i:Nat) {B' e sz n n':Nat} {v:Value} {xs xs':List Value} (hi:l[i]?=some (rowA B' e sz v n xs)) (hgr:W0.grownBy W' v.ownBlock) {b c:Nat} (hown:W'.ownsRow B' e sz (.slice (some ⟨b,0,none⟩) n' c) n' xs') (hbb:v.ownBlock=some b\/W.heap.size<=b) (hB:B<=W.heap.size):Sep B W' (l.set i (rowA B' e sz (.slice (some ⟨b,0,none⟩) n' c) n' xs')):=by
 refine zdT h i hi ⟨hgr.os.trans hb.os,hgr.tape.trans hb.tape,hgr.output.trans hb.output,Nat.le_trans hb.size hgr.size,fun j hj hn=>(hgr.block j (Nat.lt_of_lt_of_le hj hb.size) (fun e=>hn e.symm)).trans (hb.block j hj)⟩ _ hown (fun k hk=>⟨?_,(hown.lt k hk).2⟩) hB
 injection hk with hk
 have hk:b=k:=hk;subst hk;exact hbb
theorem zfR {B:Nat} {W W0 W':World} {v:Value} {B' e sz n:Nat} {xs:List Value} (hb:Below W.heap.size W W0) (hgr:W0.grownBy W' v.ownBlock) (ho:W.ownsRow B' e sz v n xs) (hB:B<=B') (hBW:B<=W.heap.size):Below B W W':=
 ⟨hgr.os.trans hb.os,hgr.tape.trans hb.tape,hgr.output.trans hb.output,Nat.le_trans hb.size hgr.size,fun k hk=>(hgr.block k (Nat.lt_of_lt_of_le (Nat.lt_of_lt_of_le hk hBW) hb.size) (fun e=>by have:=(ho.lt k e.symm).1;omega)).trans (hb.block k (Nat.lt_of_lt_of_le hk hBW))⟩
theorem zfo {B:Nat} {W:World} {l:List Ast} (h:Sep B W l) (l':List Ast) (hs:l'.Sublist l):Sep B W l':=⟨fun A hA=>h.1 A (hs.subset hA),h.2.sublist hs⟩
theorem zn3 {B:Nat} {W:World} {l l':List Ast} (h:Sep B W l) (hp:l.Perm l'):Sep B W l':=
 ⟨fun A hA=>h.1 A (hp.mem_iff.2 hA),(hp.pairwise_iff (fun hd k ha hb=>hd k hb ha)).1 h.2⟩
open Go.RowKit
theorem zee (W:World) (cs:Array Value) (T:TypeId):∀(j:Nat) (u:Value),cs.toList[j]?=some u->(W.alloc (Obj.cells cs T)).cell? ((⟨W.heap.size,0,none⟩:Addr).add j)=some u:=by
 intro j u hj;have h:=(za0 (heap_alloc_new W (Obj.cells cs T)) j).1;rw [Addr.add_lit,Nat.zero_add,h,<-Array.getElem?_toList];exact hj
theorem zlM {B:Nat} {W W':World} {l:List Ast} (h:Sep B W l) (i:Nat) {B' e sz n n':Nat} {v:Value} {xs xs':List Value} (hi:l[i]?=some (rowA B' e sz v n xs)) (hBB:B<=B') (hBW:B<=W.heap.size) {o:Obj} (hgr:(W.alloc o).grownBy W' v.ownBlock) {b c:Nat} (hown:W'.ownsRow B' e sz (.slice (some ⟨b,0,none⟩) n' c) n' xs') (hb:v.ownBlock=some b\/b=W.heap.size+1):
  Sep B W' (l.set i (rowA B' e sz (.slice (some ⟨b,0,none⟩) n' c) n' xs'))/\Below B W W':=by
 have hb0:Below W.heap.size W (W.alloc o):=(Below.refl _ _).alloc (Nat.le_refl _) o
 exact ⟨zn2 h hb0 i hi hgr hown (hb.imp id (fun e=>by omega)) hBW,zfR hb0 hgr (za5 h i hi) hBB hBW⟩
theorem zdU {P:Program} {ops:Array Oper} {rest:List Oper} {o:Oper} {a:Act} {Q:Exit->Act->World->Prop} {B:Nat} {W:World} {l:List Ast} (h:Sep B W l) (i:Nat) {B' e sz n:Nat} {v:Value} {xs:List Value} (hi:l[i]?=some (rowA B' e sz v n xs)) (hBB:B<=B') (hBW:B<=W.heap.size) (hBW':B'<=W.heap.size)
  (hgd:o.guard=none) (s x:Operand) (t:TypeId) (ho:o.op= .call {callee:= .builtin .append,args:= #[s,x],argTypes:= #[t,t]}) (inf:TypeInfo) (z:Value) (bytes:Nat) (ht:P.underlying t=some (.slice e)) (hinf:P.info? e=some inf) (hz:inf.zero=some z)
  (hsize:inf.size=sz) (hby:inf.bytes=bytes) (hzs:z.cells.size=sz) (hsz:0<sz) (hs:a.eval s=v) (news:Array Value) {H:Nat} (hH:H=W.heap.size) (hx:a.eval x= .slice (some ⟨H,0,none⟩) 1 1) (hl:news.size=sz) (h1:∀u∈news.toList,u.oneCell'=true) (h63:n+1<=maxLen) (hbytes:(n+1) * bytes<=140737488355328)
  (hK:∀b c w',Sep B w' (l.set i (rowA B' e sz (.slice (some ⟨b,0,none⟩) (n+1) c) (n+1) (xs++news.toList)))->Below B W w'->wpList P ops Q rest (a.put o.dst (.slice (some ⟨b,0,none⟩) (n+1) c)) w'):
  wpList P ops Q (o :: rest) a (W.alloc (Obj.cells news e)):=
 wpList_append_lies _ hgd s x t ho B' e inf z sz bytes ht hinf hz hsize hby hzs hsz v n xs hs ((za5 h i hi:W.ownsRow B' e sz v n xs).alloc _) ⟨H,0,none⟩ 1 1 news.toList hx (by rw [Array.length_toList,hl,Nat.one_mul]) (by rw [hH];exact zee W news e) h1 (by decide) h63 hbytes (by simp;omega) (W.heap.size+1) (by simp)
  (fun b c w' q1 q2 q3 _=>by
   obtain ⟨k1,k2⟩:=zlM h i hi hBB hBW q2 q1 q3
   exact hK b c w' k1 k2)
theorem zlN {P:Program} {ops:Array Oper} {o:Oper} {a:Act} {K:Act->World->Prop} {Q:Exit->Act->World->Prop} {E:Prop} {B:Nat} {W:World} {l:List Ast} (h:Sep B W l) (i:Nat) {B' e sz n:Nat} {v:Value} {xs:List Value} (hi:l[i]?=some (rowA B' e sz v n xs)) (hBB:B<=B') (hBW:B<=W.heap.size) (hBW':B'<=W.heap.size)
  (hgd:o.guard=none) (s x:Operand) (t:TypeId) (ho:o.op= .call {callee:= .builtin .append,args:= #[s,x],argTypes:= #[t,t]}) (inf:TypeInfo) (z:Value) (bytes:Nat) (ht:P.underlying t=some (.slice e)) (hinf:P.info? e=some inf) (hz:inf.zero=some z)
  (hsize:inf.size=sz) (hby:inf.bytes=bytes) (hzs:z.cells.size=sz) (hsz:0<sz) (hs:a.eval s=v) (news:Array Value) {H:Nat} (hH:H=W.heap.size) (hx:a.eval x= .slice (some ⟨H,0,none⟩) 1 1) (hl:news.size=sz) (h1:∀u∈news.toList,u.oneCell'=true) (h63:n+1<=maxLen) (hbytes:(n+1) * bytes<=140737488355328)
  (hK:∀b c w',Sep B w' (l.set i (rowA B' e sz (.slice (some ⟨b,0,none⟩) (n+1) c) (n+1) (xs++news.toList)))->Below B W w'->K (a.put o.dst (.slice (some ⟨b,0,none⟩) (n+1) c)) w'):
  if Region.wanted o (yielded ops a.tmps)=true then Oper.wp P o a (W.alloc (Obj.cells news e)) K Q else E:=
 step_append_lies _ hgd s x t ho B' e inf z sz bytes ht hinf hz hsize hby hzs hsz v n xs hs ((za5 h i hi:W.ownsRow B' e sz v n xs).alloc _) ⟨H,0,none⟩ 1 1 news.toList hx (by rw [Array.length_toList,hl,Nat.one_mul]) (by rw [hH];exact zee W news e) h1 (by decide) h63 hbytes (by simp;omega) (W.heap.size+1) (by simp)
  (fun b c w' q1 q2 q3 _=>by
   obtain ⟨k1,k2⟩:=zlM h i hi hBB hBW q2 q1 q3
   exact hK b c w' k1 k2)
theorem zk1 {B:Nat} {W W':World} {l:List Ast} (h:Sep B W l) (hb:Below W.heap.size W W') (i:Nat) {A:Ast} (hi:l[i]?=some A) (A':Ast) (hP:A'.P W') (hF:∀k,A'.F k->W.heap.size<=k/\k<W'.heap.size) (hB:B<=W.heap.size):Sep B W' (l.set i A'):=
 zdT h i hi ⟨hb.os,hb.tape,hb.output,hb.size,fun k hk _=>hb.block k hk⟩ A' hP (fun k hk=>⟨Or.inr (hF k hk).1,(hF k hk).2⟩) hB
theorem zcM {B:Nat} {W:World} {pre rest:List Ast} (h:Sep B W (pre++rest)) (js:List Nat) (hnd:js.Nodup) (pre':List Ast) (he:pre'.map some=js.map (fun i=>pre[i]?)):Sep B W (pre'++rest):=by
 obtain ⟨h1,h2⟩:=h;obtain ⟨p1,p2,p3⟩:=List.pairwise_append.1 h2
 have hl:pre'.length=js.length:=by have:=congrArg List.length he;simpa using this
 have hat:∀(j:Nat) (hj:j<pre'.length),∃hp:js[j]'(by omega)<pre.length,pre[js[j]'(by omega)]=pre'[j]:=fun j hj=>by
  have e:=congrArg (fun l=>l[j]?) he
  simp only [List.getElem?_map,List.getElem?_eq_getElem hj,List.getElem?_eq_getElem (show j<js.length by omega),Option.map_some] at e
  have e:=Option.some.inj e;obtain ⟨q1,q2⟩:=List.getElem?_eq_some_iff.1 e.symm;exact ⟨q1,q2⟩
 have hmem:∀A∈pre',A∈pre:=fun A hA=>by
  obtain ⟨j,hj,rfl⟩:=List.getElem_of_mem hA;obtain ⟨q1,q2⟩:=hat j hj;rw [<-q2];exact List.getElem_mem q1
 have hs:∀(i j:Nat) (hi:i<pre.length) (hj:j<pre.length),i≠j->∀k,pre[i].F k->¬pre[j].F k:=fun i j hi hj hne=>by
  rcases Nat.lt_or_gt_of_ne hne with h | h
  ·exact List.pairwise_iff_getElem.1 p1 i j hi hj h
  ·exact fun k ha hb=>List.pairwise_iff_getElem.1 p1 j i hj hi h k hb ha
 refine ⟨fun A hA=> ?_,List.pairwise_append.2 ⟨List.pairwise_iff_getElem.2 fun i j hi hj hij=> ?_,p2,fun A hA A' hA'=>p3 A (hmem A hA) A' hA'⟩⟩
 ·rcases List.mem_append.1 hA with hA | hA
  ·exact h1 A (List.mem_append_left _ (hmem A hA))
  ·exact h1 A (List.mem_append_right _ hA)
 ·obtain ⟨q1,q2⟩:=hat i hi
  obtain ⟨r1,r2⟩:=hat j hj;rw [<-q2,<-r2]
  refine hs _ _ q1 r1 (fun e=> ?_)
  have:=List.pairwise_iff_getElem.1 hnd i j (by omega) (by omega) hij
  exact this e
theorem zhr {B:Nat} {W:World} {g e:Nat} {l:List Ast} (h:Sep B W (cellA g (Obj.cells #[] e) :: l)):Sep B W (rowA B e 1 (.slice (some ⟨g,0,none⟩) 0 0) 0 [] :: l):=by
 obtain ⟨⟨h1,h2⟩,h3,h4⟩:=zb5.1 h
 refine zb5.2 ⟨⟨⟨rfl,Or.inr ⟨g,0,#[],rfl,(h2 g rfl).1,h1,Nat.le_refl _,Nat.zero_le _,rfl,rfl⟩⟩,fun k hk=> ?_⟩,fun A' hA' k hk=> ?_,h4⟩
 ·injection hk with hk
  have hk:g=k:=hk;subst hk;exact h2 g rfl
 ·injection hk with hk
  have hk:g=k:=hk;subst hk;exact h3 A' hA' g rfl
open Go.RowKit
def diskA (B:Nat) (v:Value) (ps:List ByteArray) (ls:List (Int×ByteArray)):Ast:=⟨diskBlocks v,fun W=>DiskOwn W B v ps ls,fun W W' h hk=>by
 obtain ⟨vp,vl,rfl,h1,h2⟩:=h
 exact ⟨vp,vl,rfl,(rowA B 9 1 vp ps.length (strs ps)).loc W W' h1 (fun k e=>hk k ⟨_,_,rfl,Or.inl e⟩),(rowA B 90 2 vl ls.length (puts ls)).loc W W' h2 (fun k e=>hk k ⟨_,_,rfl,Or.inr e⟩)⟩⟩
def workL (B:Nat) (u0 u1 u3 u4 u5:Value) (k:Wk):List Ast:= [diskA B (.agg #[u0,u1]) k.ps k.ls,rowA B 3 1 u3 k.us.length (ints k.us),rowA B 3 1 u4 k.gs.length (ints k.gs),rowA B 3 1 u5 k.fs.length (ints k.fs)]
theorem nw_sep {W:World} {B:Nat} {u0 u1 u2 u3 u4 u5:Value} {k:Wk} (h:WorkNw W B (.agg #[u0,u1,u2,u3,u4,u5]) k):u2= .int .i64 k.next/\Sep B W (workL B u0 u1 u3 u4 u5 k):=by
 have hlt:=zam (zbN h);obtain ⟨vp,vl,vu,vg,vf,e,h1,h2,h3,h4,n1,n2,n3⟩:=h;obtain ⟨rfl,rfl,rfl,rfl,rfl,rfl⟩:=agg6 e;refine ⟨rfl,?_⟩
 refine zb5.2 ⟨⟨h1,fun j hj=>hlt j ⟨_,_,_,_,_,_,rfl,Or.inl hj⟩⟩,fun A hA j hj hj'=> ?_,?_⟩
 ·rcases List.mem_cons.1 hA with rfl | hA
  ·exact zbF h1 (zav h2) j hj hj'
  rcases List.mem_cons.1 hA with rfl | hA
  ·exact zbF h1 (zav h3) j hj hj'
  rcases List.mem_cons.1 hA with rfl | hA
  ·exact zbF h1 (zav h4) j hj hj'
  ·cases hA
 refine zb5.2 ⟨⟨h2,fun j hj=>hlt j ⟨_,_,_,_,_,_,rfl,Or.inr (Or.inl hj)⟩⟩,fun A hA j hj hj'=> ?_,?_⟩
 ·rcases List.mem_cons.1 hA with rfl | hA
  ·exact n1 j hj hj'
  rcases List.mem_cons.1 hA with rfl | hA
  ·exact n2 j hj hj'
  ·cases hA
 refine zb5.2 ⟨⟨h3,fun j hj=>hlt j ⟨_,_,_,_,_,_,rfl,Or.inr (Or.inr (Or.inl hj))⟩⟩,fun A hA j hj hj'=> ?_,?_⟩
 ·rcases List.mem_cons.1 hA with rfl | hA
  ·exact n3 j hj hj'
  ·cases hA
 exact zb5.2 ⟨⟨h4,fun j hj=>hlt j ⟨_,_,_,_,_,_,rfl,Or.inr (Or.inr (Or.inr hj))⟩⟩,fun A hA=>(by cases hA),zeJ _ _⟩
abbrev workN (B:Nat) (u0 u1 u3 u4 u5:Value) (k:Wk) (nu ng nf:Nat):List Ast:= [diskA B (.agg #[u0,u1]) k.ps k.ls,rowA B 3 1 u3 nu (ints k.us),rowA B 3 1 u4 ng (ints k.gs),rowA B 3 1 u5 nf (ints k.fs)]
theorem row_n {W:World} {B e n:Nat} {v:Value} {l:List Int} (h:W.ownsRow B e 1 v n (ints l)):n=l.length:=by
 have:=h.1;rw [zdP] at this
 omega
theorem zhs {W:World} {B B':Nat} {u0 u1 u3 u4 u5:Value} {k:Wk} {nu ng nf:Nat} (h:Sep B W (workN B' u0 u1 u3 u4 u5 k nu ng nf)):WorkNw W B' (.agg #[u0,u1,.int .i64 k.next,u3,u4,u5]) k:=by
 have h1:W.ownsRow B' 3 1 u3 nu (ints k.us):=za5 h 1 rfl;have h2:W.ownsRow B' 3 1 u4 ng (ints k.gs):=za5 h 2 rfl;have h3:W.ownsRow B' 3 1 u5 nf (ints k.fs):=za5 h 3 rfl
 exact ⟨u0,u1,u3,u4,u5,rfl,za5 h 0 rfl,by rw [<-row_n h1];exact h1,by rw [<-row_n h2];exact h2,by rw [<-row_n h3];exact h3,fun j=>zaI h 1 2 rfl rfl (by decide) j,fun j=>zaI h 1 3 rfl rfl (by decide) j,fun j=>zaI h 2 3 rfl rfl (by decide) j⟩
theorem zeK (l:List Int) (x:Int):ints l++ [.int .i64 x]=ints (l++ [x]):=by simp [ints]
theorem zcN {ops:Array Oper} {rest:List Oper} {o:Oper} {a:Act} {Q:Exit->Act->World->Prop} {B:Nat} {W:World} {l:List Ast} (h:Sep B W l) (i:Nat) {B' n:Nat} {v:Value} {xs:List Int} (hi:l[i]?=some (rowA B' 3 1 v n (ints xs))) (hBB:B<=B') (hBW:B<=W.heap.size) (hBW':B'<=W.heap.size)
  (hgd:o.guard=none) (s x:Operand) (ho:o.op= .call {callee:= .builtin .append,args:= #[s,x],argTypes:= #[32,32]}) (hs:a.eval s=v) (p:Int) {H:Nat} (hH:H=W.heap.size) (hx:a.eval x= .slice (some ⟨H,0,none⟩) 1 1) (hn:n<=3000000)
  (hK:∀b c w',Sep B w' (l.set i (rowA B' 3 1 (.slice (some ⟨b,0,none⟩) (n+1) c) (n+1) (ints (xs++ [p]))))->Below B W w'->wpList Tryz.prog ops Q rest (a.put o.dst (.slice (some ⟨b,0,none⟩) (n+1) c)) w'):
  wpList Tryz.prog ops Q (o :: rest) a (W.alloc (Obj.cells #[.int .i64 p] 3)):=by
 obtain ⟨i0,hinf,hz0,hz1,hz2⟩:=info_parts Tryz.infoIntC
 refine zdU h i hi hBB hBW hBW' hgd s x 32 ho i0 (.int .i64 0) 8 Tryz.underlying32 hinf hz0 hz1 hz2 rfl (by decide) hs #[.int .i64 p] hH hx rfl (fun u hu=>by simp at hu;subst hu;rfl) (by unfold maxLen;omega) (by omega) (fun b c w' k1 k2=>hK b c w' ?_ k2)
 rw [<-zeK];exact k1
open Go.RowKit
theorem zef {w:World} {B:Nat} {u0 u1:Value} {ps:List ByteArray} {ls:List (Int×ByteArray)} (h:DiskOwn w B (.agg #[u0,u1]) ps ls):w.ownsRow B 9 1 u0 ps.length (strs ps)/\w.ownsRow B 90 2 u1 ls.length (puts ls):=by
 obtain ⟨vp,vl,e,h1,h2⟩:=h
 injection e with e
 injection e with e
 injection e with e1 e
 injection e with e2
 subst e1 e2;exact ⟨h1,h2⟩
theorem zdw {w wr:World} {a1 B:Nat} {r0 r1 u0 u1:Value} {t:TypeId} {ps:List ByteArray} {ls:List (Int×ByteArray)} (hres:wr.heap[a1]?=some (Obj.cells #[r0,r1] t)) (hd:DiskOwn wr B (.agg #[u0,u1]) ps ls) (hB:a1<B) (hw:w.heap.size<=a1) (hb:Below w.heap.size w wr):
  ((wr.setCell ⟨a1,0,none⟩ u0).setCell ⟨a1,1,none⟩ u1).cell? ⟨a1,0,none⟩=some u0/\((wr.setCell ⟨a1,0,none⟩ u0).setCell ⟨a1,1,none⟩ u1).cell? ⟨a1,1,none⟩=some u1/\
  DiskOwn ((wr.setCell ⟨a1,0,none⟩ u0).setCell ⟨a1,1,none⟩ u1) w.heap.size (.agg #[u0,u1]) ps ls/\Below w.heap.size w ((wr.setCell ⟨a1,0,none⟩ u0).setCell ⟨a1,1,none⟩ u1):=by
 have y1:(wr.setCell ⟨a1,0,none⟩ u0).heap[a1]?=some (Obj.cells #[u0,r1] t):=heap_setCell_same _ a1 0 _ _ _ hres;have y2:((wr.setCell ⟨a1,0,none⟩ u0).setCell ⟨a1,1,none⟩ u1).heap[a1]?=some (Obj.cells #[u0,u1] t):=heap_setCell_same _ a1 1 _ _ _ y1
 have k2:Kept wr ((wr.setCell ⟨a1,0,none⟩ u0).setCell ⟨a1,1,none⟩ u1) (fun k=>k=a1):=kept_trans (zab _ _ _ _) (zab _ _ _ _) (fun j _ h=>h)
 obtain ⟨o1,o2⟩:=zef hd;refine ⟨(za0 y2 0).1,(za0 y2 1).1,⟨_,_,rfl,?_,?_⟩,?_⟩
 ·exact zaa (za7 o1 k2 (fun k hk=>by have:=(o1.lt k hk).1;omega)) (by omega)
 ·exact zaa (za7 o2 k2 (fun k hk=>by have:=(o2.lt k hk).1;omega)) (by omega)
 ·exact (hb.setCell (by exact hw) _).setCell (by exact hw) _
theorem zfS {w:World} {B e sz n g:Nat} {v:Value} {xs:List Value} {cs:Array Value} {t:TypeId} {fr:Nat×Nat} (h:w.ownsRow B e sz v n xs) (hg:w.heap[g]?=some (.cells cs t fr)) (hne:e≠t):v.ownBlock≠some g:=by
 intro h1
 rcases h.2 with ⟨rfl,-⟩ | ⟨k,cap,cur,rfl,-,hh,-⟩
 ·cases h1
 ·injection h1 with h1
  have h1:k=g:=h1;subst h1;rw [hh] at hg
  injection hg with hg
  injection hg with _ he _
  exact hne he
theorem zlO {w w':World} {B B' e e' sz sz' n n':Nat} {v v':Value} {xs xs':List Value} (h:w.ownsRow B e sz v n xs) (h':w.ownsRow B' e' sz' v' n' xs') (hne:e≠e') (hg:w.grownBy w' v'.ownBlock):w'.ownsRow B e sz v n xs:=by
 cases hv:v.ownBlock with
 | none=>exact h.kept hg (Or.inl hv)
 | some k=>exact h.kept hg (Or.inr (by rw [hv];exact fun e1=>zbf h h' hne k hv e1.symm))
open Go.RowKit
theorem branch2 {G A B:Prop} (hA:G->A) (hB:G->B) (h:G):A/\B:=⟨hA h,hB h⟩
theorem ready2 {P:Program} {md:Region.Mode} {ops:Array Oper} {Q:Exit->Act->World->Prop} {S:World->Prop} {fuel:Nat} {listed:Array Bool} {a:Act} {w:World} {i j:Nat} {oi oj:Oper} (hi:ops[i]?=some oi) (hj:ops[j]?=some oj)
  (h:(∀K':Act->World->Prop,Shut (∀a w,S w->(S w->wpAnyH P md ops Q S fuel (listed.setIfInBounds i true) a w)->K' a w)->if Region.wanted oi (yielded ops a.tmps)=true then Oper.wp P oi a w K' Q else K' (a.put oi.dst undef) w)/\
   (∀K':Act->World->Prop,Shut (∀a w,S w->(S w->wpAnyH P md ops Q S fuel (listed.setIfInBounds j true) a w)->K' a w)->if Region.wanted oj (yielded ops a.tmps)=true then Oper.wp P oj a w K' Q else K' (a.put oj.dst undef) w)):
  AllReadyH P md ops Q S fuel listed a w [i,j]:=AllReadyH.cons hi h.1 (AllReadyH.cons hj h.2 AllReadyH.nil)
theorem zbD {P : Program} (w : World) {ops : Array Oper} {o : Oper} {a : Act} {K : Act → World → Prop} {Q : Exit → Act → World → Prop} {E : Prop} (hgd : o.guard = none) (f : FuncId) (fn : Func) (hfn : P.funcs[f]? = some fn) (hname : ¬ fn.name = "runtime.NumGoroutine") (hbody : ¬ fn.body = none) (s x y : Operand) (ts : Array TypeId)
  (ho:o.op= .call {callee:= .value (.func f),args:= #[s,x,y],argTypes:=ts}) (u v z:Value) (hs:a.eval s=u) (hx:a.eval x=v) (hy:a.eval y=z)
  (R:Ending→World→Prop) (hc:Calls P f #[u,v,z] w R) (hR:∀e w',R e w'→∃r,e= .returned r∧K (a.put o.dst r) w'):
  if Region.wanted o (yielded ops a.tmps)=true then Oper.wp P o a w K Q else E:=by
 have hw:Region.wanted o (yielded ops a.tmps)=true:=by simp [Region.wanted,hgd]
 rw [if_pos hw];unfold Oper.wp execOp;have hf:a.eval (.func f)= .func (.func f) #[] #[]:=rfl
 simp only [ho,resolve,invoke,hf,Deferred.ofValue,callFunc,Sem.run_bind,Sem.run_pure,Result.andThen_ok,List.map_toArray,List.map_cons,List.map_nil,hs,hx,hy]
 simp [go_sem,hfn,hname,hbody]
 refine hc.mono ?_;intro e w' h;obtain ⟨r,rfl,hk⟩:=hR e w' h;exact hk
theorem takeW {P:Program} {md:Region.Mode} {ops:Array Oper} {Q:Exit->Act->World->Prop} {S:World->Prop} (i d:Nat) {oi:Oper} (v:Value) {fuel:Nat} {listed:Array Bool} {a:Act} {w:World} (hi:ops[i]?=some oi) (hd:oi.dst=some d)
  (hs:Region.noSelect ops=true) (hf:Region.free md ops listed i=true) (hr:(Region.ready md ops listed).contains i=true)
  (hQ:∀c a w,Q (.panic c) (a.put oi.dst v) w->Q (.panic c) a w) (hy:YieldsIf P ops S oi v a) (hS:S w)
  (h:wpAnyH P md ops Q S fuel (listed.setIfInBounds i true) ⟨a.tmps.setIfInBounds d v,a.defers⟩ w):wpAnyH P md ops Q S (fuel+1) listed a w:=
 wpAnyH_take hi hs hf hr hQ hy hS (by rw [hd];exact h)
theorem zaR {P : Program} (w : World) {ops : Array Oper} {o : Oper} {a : Act} {K : Act → World → Prop} {Q : Exit → Act → World → Prop} {E : Prop} (hgd : o.guard = none) (f : FuncId) (fn : Func) (hfn : P.funcs[f]? = some fn) (hname : ¬ fn.name = "runtime.NumGoroutine") (hbody : ¬ fn.body = none) (s x y p q r t : Operand) (ts : Array TypeId)
  (ho:o.op= .call {callee:= .value (.func f),args:= #[s,x,y,p,q,r,t],argTypes:=ts}) (u v z z1 z2 z3 z4:Value) (hs:a.eval s=u) (hx:a.eval x=v) (hy:a.eval y=z) (hp:a.eval p=z1) (hq:a.eval q=z2) (hr:a.eval r=z3) (ht:a.eval t=z4)
  (R:Ending→World→Prop) (hc:Calls P f #[u,v,z,z1,z2,z3,z4] w R) (hR:∀e w',R e w'→∃r',e= .returned r'∧K (a.put o.dst r') w'):
  if Region.wanted o (yielded ops a.tmps)=true then Oper.wp P o a w K Q else E:=by
 have hw:Region.wanted o (yielded ops a.tmps)=true:=by simp [Region.wanted,hgd]
 rw [if_pos hw];unfold Oper.wp execOp;have hf:a.eval (.func f)= .func (.func f) #[] #[]:=rfl
 simp only [ho,resolve,invoke,hf,Deferred.ofValue,callFunc,Sem.run_bind,Sem.run_pure,Result.andThen_ok,List.map_toArray,List.map_cons,List.map_nil,hs,hx,hy,hp,hq,hr,ht]
 simp [go_sem,hfn,hname,hbody]
 refine hc.mono ?_;intro e w' h;obtain ⟨r,rfl,hk⟩:=hR e w' h;exact hk
theorem tK {P : Program} {md : Region.Mode} {ops : Array Oper} {Q : Exit -> Act -> World -> Prop} {S : World -> Prop} (i d : Nat) {oi : Oper} (v : Value) {fuel : Nat} {listed : Array Bool} {a : Act} {w : World} (hi : ops[i]? = some oi) (hd : oi.dst = some d) (hk : (Region.noSelect ops && Region.free md ops listed i && (Region.ready md ops listed).contains i) = true) (hQ : ∀ c a w, Q (.panic c) (a.put oi.dst v) w -> Q (.panic c) a w) (hy : Region.wanted oi (yielded ops a.tmps) = true ∧ ∀ w, S w -> (execOp a.eval oi).run P w = .ok (.value v) w) (hS : S w) (h : wpAnyH P md ops Q S fuel (listed.setIfInBounds i true) ⟨a.tmps.setIfInBounds d v, a.defers⟩ w) : wpAnyH P md ops Q S (fuel + 1) listed a w := by
 rw [Bool.and_eq_true, Bool.and_eq_true] at hk
 exact takeW i d v hi hd hk.1.1 hk.1.2 hk.2 hQ (Or.inl hy) hS h
end Go.Proofs.YtcbogiebfbbmbaaGreatDoor
