/-
  Facts and contracts that the law's own text rests on, by their texts' names: Sum, Seal, SumS, NodeSpec2, SpecRound, ImplReadNode, DownDef.
-/
import Derived.Below
import Derived.BigQuiet
import Derived.Deep.LoopGhost
import Derived.Deep.QuietTactic
import Derived.Laws.BitsAllLaws
import Derived.Laws.Shifts
import Derived.Outline
import Derived.WalkSmall
import Derived.WalkSpells
import Derived.Test.YtjmgdmdleamenaaGreatDoorSr1
import Derived.Test.YtjmgdmdleamenaaGreatDoorSr5
import Derived.Deep.RegionHeld3
import Derived.Laws.Concat
import Derived.Test.YtjmgdmdleamenaaGreatDoorSr16
import Derived.Test.YtjmgdmdleamenaaGreatDoorSr20
import Derived.Deep.RegionLaw
import Derived.Test.YtjmgdmdleamenaaGreatDoorSr7
import Derived.Test.YtjmgdmdleamenaaGreatDoorSr19
import Derived.Test.YtjmgdmdleamenaaGreatDoorSr14
set_option maxHeartbeats 16000000
set_option maxRecDepth 100000
namespace Go.Proofs.YtjmgdmdleamenaaGreatDoor
open Go.RowKit
def SumTab (w:World):Prop:=∀i:Nat,i<16->w.cell? ⟨1,i,none⟩=some (.int .u32 ((tab16.getD i 0:Nat):Int))
theorem sumTab_below {w w':World} (h:SumTab w) (hb:Below w.heap.size w w'):SumTab w':=by
 intro i hi;have hc:=h i hi;have hlt:1<w.heap.size:=World.block_lt_of_cell? w _ hc;rw [World.cell?_of_block (hb.block _ hlt)];exact hc
theorem wrap32 (x:Int) (h0:0<=x) (h1:x<4294967296):IntKind.u32.wrap x=x:=by
 simp [IntKind.wrap,IntKind.signed,IntKind.bits];omega
theorem xor32 (a b:Nat) (ha:a<4294967296) (hb:b<4294967296):bits BinOp.xor IntKind.u32 (a:Int) (b:Int)=((a ^^^ b:Nat):Int):=by
 have e:bits BinOp.xor IntKind.u32 (a:Int) (b:Int)=IntKind.u32.wrap ((BitVec.ofInt 32 (a:Int) ^^^ BitVec.ofInt 32 (b:Int)).toNat:Int):=rfl;have hl:=xor_lt32 a b ha hb
 have h:(BitVec.ofInt 32 (a:Int) ^^^ BitVec.ofInt 32 (b:Int)).toNat=a ^^^ b:=by
  rw [BitVec.toNat_xor,BitVec.ofInt_natCast,BitVec.ofInt_natCast,BitVec.toNat_ofNat,BitVec.toNat_ofNat,Nat.mod_eq_of_lt (by omega),Nat.mod_eq_of_lt (by omega)]
 rw [e,h,wrap32 _ (by omega) (by omega)]
theorem and32_15 (a:Nat) (ha:a<4294967296):bits BinOp.and IntKind.u32 (a:Int) 15=((a % 16:Nat):Int):=by
 have e:bits BinOp.and IntKind.u32 (a:Int) 15=IntKind.u32.wrap ((BitVec.ofInt 32 (a:Int) &&& BitVec.ofInt 32 15).toNat:Int):=rfl
 have h:(BitVec.ofInt 32 (a:Int) &&& BitVec.ofInt 32 15).toNat=a % 16:=by
  rw [BitVec.toNat_and,BitVec.ofInt_natCast,BitVec.toNat_ofNat,Nat.mod_eq_of_lt (by omega)]
  exact Nat.and_two_pow_sub_one_eq_mod a 4
 rw [e,h,wrap32 _ (by omega) (by omega)]
theorem tab16_lt (r:Nat) (h:r<16):tab16.getD r 0<4294967296:=by
 revert r
 decide
theorem after_any (c b:Nat) (hc:c<4294967296) (hb:b<256) (w:World) (hT:SumTab w):
  Calls Tryz.prog 199 #[.int .u32 (c:Int),.int .u8 (b:Int)] w fun e w'=>e= .returned (.int .u32 (sumB c b:Int))/\w=w':=by
 obtain ⟨x,hx⟩:∃x,x=c ^^^ b:=⟨_,rfl⟩
 have hxl:x<4294967296:=by rw [hx];exact xor_lt32 _ _ hc (by omega)
 obtain ⟨r,hr⟩:∃r,r=x % 16:=⟨_,rfl⟩;obtain ⟨t,ht⟩:∃t,t=tab16.getD r 0:=⟨_,rfl⟩
 have htl:t<4294967296:=by rw [ht];exact tab16_lt r (by omega)
 obtain ⟨y,hy⟩:∃y,y=half4 x:=⟨_,rfl⟩
 have hyl:y<4294967296:=by rw [hy];exact half4_lt x hxl
 obtain ⟨r2,hr2⟩:∃r,r=y % 16:=⟨_,rfl⟩;obtain ⟨t2,ht2⟩:∃t,t=tab16.getD r2 0:=⟨_,rfl⟩
 have ht2l:t2<4294967296:=by rw [ht2];exact tab16_lt r2 (by omega)
 have q1:IntKind.u32.wrap (b:Int)=(b:Int):=wrap32 _ (by omega) (by omega)
 have q2:bits BinOp.xor IntKind.u32 (c:Int) (b:Int)=(x:Int):=by rw [hx];exact xor32 c b hc (by omega)
 have q3:bits BinOp.and IntKind.u32 (x:Int) 15=(r:Int):=by rw [hr];exact and32_15 x hxl
 have q4:w.cell? ⟨1,r,none⟩=some (.int .u32 (t:Int)):=by rw [ht];exact hT r (by omega)
 have q5:bits BinOp.xor IntKind.u32 ((x:Int) / 16) (t:Int)=(y:Int):=by
  rw [show (x:Int) / 16=((x / 16:Nat):Int) by omega,xor32 _ _ (by omega) htl,hy,half4_eq,ht,hr]
 have q6:bits BinOp.and IntKind.u32 (y:Int) 15=(r2:Int):=by rw [hr2];exact and32_15 y hyl
 have q7:w.cell? ⟨1,r2,none⟩=some (.int .u32 (t2:Int)):=by rw [ht2];exact hT r2 (by omega)
 have q8:bits BinOp.xor IntKind.u32 ((y:Int) / 16) (t2:Int)=(sumB c b:Int):=by
  rw [show (y:Int) / 16=((y / 16:Nat):Int) by omega,xor32 _ _ (by omega) ht2l,ht2,hr2,<-half4_eq,hy,hx];rfl
 have l1:(0:Int)<=(r:Int):=by omega
 have l2:(r:Int)<16:=by omega
 have l3:(0:Int)<=(r2:Int):=by omega
 have l4:(r2:Int)<16:=by omega
 obtain ⟨z,hz⟩:∃z,z=sumB c b:=⟨_,rfl⟩;rw [<-hz] at q8⊢;clear hx hr ht hy hr2 ht2 hz hT;go_enter Tryz.func199,Tryz.ntmps199
 go_wp2
 go_ret;exact ⟨rfl,rfl⟩
theorem implSumMore_any (c:Nat) (s:ByteArray) (hc:c<4294967296) (hs:s.size<=9223372036854775807) (w:World) (hT:SumTab w):
  Calls Tryz.prog 189 #[.int .u32 (c:Int),.string s] w fun e w'=>e= .returned (.int .u32 (sumL c s.data.toList:Int))/\w=w':=by
 have HT:=hide hT;clear hT;go_enter Tryz.func189,Tryz.ntmps189
 go_wp2
 go_loopg [5,6] s.size (fun g cv iv wr=>∃k x:Nat,k<=s.size/\iv= .int .i64 (k:Int)/\g+k=s.size/\cv= .int .u32 (x:Int)/\x<4294967296/\Hid (x=sumL c (s.data.toList.take k))/\w=wr)
 case atStart=>exact ⟨0,c,Nat.zero_le _,rfl,rfl,rfl,hc,hide rfl,rfl⟩
 case round=>
  obtain ⟨k,x,hk,rfl,hg,rfl,hx,HX,rfl⟩:=hrel;have HG:=hide hg;clear hg
  by_cases hlt:k<s.size
  ·obtain ⟨y,hy⟩:∃y,y=byt s k:=⟨_,rfl⟩
   have hyb:y<256:=by rw [hy];exact byt_lt s k
   have hsj:s[k].toNat=y:=by rw [hy];exact byt_eq s k hlt
   have HY:=hide hy;clear hy
   have hk0:(0:Int)<=(k:Int):=by omega
   have hk1:(k:Int)<(s.size:Int):=by omega
   go_wp2_with fail;refine (after_any x y hx hyb _ HT.out).mono ?_;rintro e w1 ⟨rfl,rfl⟩;have hl:=sumB_lt x y hx hyb
   have HN:Hid (sumB x y=sumL c (s.data.toList.take (k+1))):=hide (by rw [take_byt s k hlt,sumL_append,<-HX.out,HY.out,sumL];simp [toNat_ofNat8 _ (byt_lt s k)])
   go_wp2
   go_roundg (gk - 1)
   case measure=>have:=HG.out;omega
   case rel=>exact ⟨k+1,sumB x y,by omega,by go_num,by have:=HG.out;omega,rfl,hl,HN,rfl⟩
  ·have hk':s.data.toList.take k=s.data.toList:=List.take_of_length_le (by rw [Array.length_toList];have:s.data.size=s.size:=rfl;omega)
   rw [hk'] at HX
   go_wp2
   go_ret;rw [<-HX.out];exact ⟨rfl,rfl⟩
theorem implSumOf_any (s:ByteArray) (hs:s.size<=9223372036854775807) (w:World) (hT:SumTab w):
  Calls Tryz.prog 168 #[.string s] w fun e w'=>e= .returned (.int .u32 (sumL 4294967295 s.data.toList:Int))/\w=w':=by
 have HT:=hide hT;clear hT;go_enter Tryz.func168,Tryz.ntmps168;go_wp2_with fail
 refine (implSumMore_any 4294967295 s (by omega) hs _ HT.out).mono ?_
 rintro e w1 ⟨rfl,rfl⟩
 go_wp2
 go_ret;exact ⟨rfl,rfl⟩
theorem four_at (x:Nat): [Value.int .u8 ((x / 16777216 % 256:Nat):Int),.int .u8 ((x / 65536 % 256:Nat):Int),.int .u8 ((x / 256 % 256:Nat):Int),.int .u8 ((x % 256:Nat):Int)]=Lib.byteCells (fourL x):=by
 simp [Lib.byteCells,fourL]
theorem wrap8 (a b:Nat) (h:b=a % 256):IntKind.u8.wrap (a:Int)=(b:Int):=by
 subst h
 simp [IntKind.wrap,IntKind.signed,IntKind.bits]
theorem text_any (x:Nat) (w:World):
  Calls Tryz.prog 169 #[.int .u32 (x:Int)] w fun e w'=>e= .returned (.string ⟨(fourL x).toArray⟩)/\Below w.heap.size w w':=by
 obtain ⟨a,ha⟩:∃a,a=x / 16777216 % 256:=⟨_,rfl⟩;obtain ⟨b,hb⟩:∃b,b=x / 65536 % 256:=⟨_,rfl⟩;obtain ⟨c,hc⟩:∃c,c=x / 256 % 256:=⟨_,rfl⟩;obtain ⟨d,hd⟩:∃d,d=x % 256:=⟨_,rfl⟩;have q1:IntKind.u8.wrap ((x:Int) / 16777216)=(a:Int):=wrap8 (x / 16777216) a ha;have q2:IntKind.u8.wrap ((x:Int) / 65536)=(b:Int):=wrap8 (x / 65536) b hb;have q3:IntKind.u8.wrap ((x:Int) / 256)=(c:Int):=wrap8 (x / 256) c hc;have q4:IntKind.u8.wrap (x:Int)=(d:Int):=wrap8 x d hd
 have HC:Hid ([Value.int .u8 (a:Int),.int .u8 (b:Int),.int .u8 (c:Int),.int .u8 (d:Int)]=Lib.byteCells (fourL x)):=hide (by rw [ha,hb,hc,hd];exact four_at x)
 clear ha hb hc hd
 have hown:(w.alloc (Obj.cells #[.int .u8 (a:Int),.int .u8 (b:Int),.int .u8 (c:Int),.int .u8 (d:Int)] 5)).ownsRow w.heap.size 5 1 (.slice (some ⟨w.heap.size,0,none⟩) 4 4) (fourL x).length (Lib.byteCells (fourL x)):=by
  rw [<-HC.out]
  exact World.ownsRow_lit (base:=w.heap.size) (e:=5) (size:=1) w #[.int .u8 (a:Int),.int .u8 (b:Int),.int .u8 (c:Int),.int .u8 (d:Int)] 4 (Nat.le_refl _) (by unfold maxLen;omega) (by simp)
 have hcv:(convert 183 9 (.slice (some ⟨w.heap.size,0,none⟩) 4 4)).run Tryz.prog (w.alloc (Obj.cells #[.int .u8 (a:Int),.int .u8 (b:Int),.int .u8 (c:Int),.int .u8 (d:Int)] 5))= .ok (.string ⟨(fourL x).toArray⟩) (w.alloc (Obj.cells #[.int .u8 (a:Int),.int .u8 (b:Int),.int .u8 (c:Int),.int .u8 (d:Int)] 5)):=
  string_own (l:=fourL x) Tryz.underlying183 Tryz.underlying5 Tryz.underlying9 hown
 clear hown;go_enter Tryz.func169,Tryz.ntmps169
 go_wp2
 go_ret;exact ⟨rfl,(Below.refl _ _).alloc (Nat.le_refl _) _⟩
open Go.RowKit
theorem seal_bytes (s:ByteArray):s++⟨(fourL (sumL 4294967295 s.data.toList)).toArray⟩=(⟨(sealL s.data.toList).toArray⟩:ByteArray):=by
 apply ByteArray.ext
 simp [sealL]
def unOut (s:ByteArray):Value:=if isSealed s.data.toList=true then .tuple #[.string (s.extract 0 (s.size - 4)),.bool true] else .tuple #[.string ⟨#[]⟩,.bool false]
theorem tolist_eq (t:ByteArray):t.toList=t.data.toList:=ByteArray.toList_eq t
theorem list_len (s:ByteArray):s.data.toList.length=s.size:=by rw [Array.length_toList];rfl
theorem seal_cut (s:ByteArray) (n:Nat) (hn:s.size=n+4):(s.extract 0 n).data.toList=s.data.toList.take n/\(s.extract n s.size).data.toList=s.data.toList.drop n:=by
 constructor
 ·simp [ByteArray.data_extract]
 ·simp [ByteArray.data_extract,hn];rw [List.take_of_length_le];rw [List.length_drop,list_len];omega
theorem implUnsealed_any (s:ByteArray) (hs:s.size<=1048576) (w:World) (hT:SumTab w):
  Calls Tryz.prog 133 #[.string s] w fun e w'=>e= .returned (unOut s)/\Below w.heap.size w w':=by
 have HT:=hide hT;clear hT
 by_cases h4:s.size<4
 ·have HO:Hid (unOut s= .tuple #[.string ⟨#[]⟩,.bool false]):=hide (by rw [unOut,if_neg];rw [isSealed,decide_eq_true_eq,list_len];omega)
  have hd:decide ((s.size:Int)<4)=true:=by simp;omega
  go_enter Tryz.func133,Tryz.ntmps133
  go_wp2
  go_ret2;rw [HO.out];exact ⟨rfl,Below.refl _ _⟩
 ·have hd:decide ((s.size:Int)<4)=false:=by simp;omega
  by_cases hbig:20004<s.size
  ·have HO:Hid (unOut s= .tuple #[.string ⟨#[]⟩,.bool false]):=hide (by rw [unOut,if_neg];rw [isSealed,decide_eq_true_eq,list_len];omega)
   have hd2:decide ((20004:Int)<(s.size:Int))=true:=by simp;omega
   go_enter Tryz.func133,Tryz.ntmps133
   go_wp2
   go_ret2;rw [HO.out];exact ⟨rfl,Below.refl _ _⟩
  ·have hd2:decide ((20004:Int)<(s.size:Int))=false:=by simp;omega
   obtain ⟨n,hn⟩:∃n,s.size=n+4:=⟨s.size - 4,by omega⟩
   obtain ⟨t,ht⟩:∃t,t=s.extract n s.size:=⟨_,rfl⟩;obtain ⟨x,hx⟩:∃x,x=sumL 4294967295 (s.data.toList.take n):=⟨_,rfl⟩
   have hil:(s.extract 0 n).size=n:=by rw [ByteArray.size_extract];omega
   have HC:Hid (∀wx,SumTab wx->Calls Tryz.prog 168 #[.string (s.extract 0 n)] wx fun e w'=>e= .returned (.int .u32 (x:Int))/\wx=w'):=hide (fun wx h=>by
    have:=implSumOf_any (s.extract 0 n) (by omega) wx h
    rw [(seal_cut s n hn).1,<-hx] at this
    exact this)
   have HTl:Hid (t.data.toList=s.data.toList.drop n):=hide (by rw [ht];exact (seal_cut s n hn).2)
   have HO:Hid (isSealed s.data.toList=decide (t.data.toList=fourL x)):=hide (by rw [isSealed,list_len,hn,Nat.add_sub_cancel,HTl.out,hx];congr 1;simp;omega)
   have hs2:∀wx:World,(Instr.slice 9 (.string s) (some (.int .i64 (n:Int))) none none).run Tryz.prog wx= .ok (.string t) wx:=fun wx=>by
    rw [run_slice_string_l (P:=Tryz.prog) wx 9 s Tryz.underlying9 .i64 (n:Int) (by omega) (by omega),ht,Int.toNat_natCast]
   have HS:Hid (s.size - 4=n):=hide (by omega)
   clear ht hx;go_enter Tryz.func133,Tryz.ntmps133;go_wp2_with fail
   go_region_held3 (fun _=>True) (trivial) (first | (go_at_call 168;refine (HC.out _ ?_).mono ?_;exact HT.out;rintro e wx ⟨rfl,rfl⟩) | (go_at_call 169;refine (text_any x _).mono ?_;rintro e wx ⟨rfl,hbw⟩))
   by_cases he:t.data.toList=fourL x
   ·have hq:(fourL x ==t.toList)=true:=by rw [tolist_eq,he];exact beq_self_eq_true _
    rw [hq];go_wp2_with fail
    refine (clone_any _ (by omega) _).mono ?_
    rintro e w2 ⟨rfl,hb2⟩
    go_wp2
    go_ret2
    rw [unOut,HO.out,if_pos (by simpa using he),HS.out]
    exact ⟨rfl,(((Below.refl _ _).drew).trans hbw).trans (hb2.mono hbw.size)⟩
   ·have hq:(fourL x ==t.toList)=false:=by rw [tolist_eq];exact beq_eq_false_iff_ne.2 (fun e=>he e.symm)
    rw [hq];go_wp2_with fail;go_ret2
    rw [unOut,HO.out,if_neg (by simpa using he)]
    exact ⟨rfl,((Below.refl _ _).drew).trans hbw⟩
open Go.RowKit
def halfK:Nat->Nat->Nat
 | 0,x=>x
 | k+1,x=>half (halfK k x)
theorem specSumMore_any (c:Nat) (s:ByteArray) (hc:c<4294967296) (hs:s.size<=9223372036854775807) (w:World):
  Calls Tryz.prog 188 #[.int .u32 (c:Int),.string s] w fun e w'=>e= .returned (.int .u32 (sumL c s.data.toList:Int))/\w=w':=by
 go_enter Tryz.func188,Tryz.ntmps188
 go_wp2
 go_loopg [0,5] s.size (fun g cv iv wr=>∃k x:Nat,k<=s.size/\iv= .int .i64 (k:Int)/\g+k=s.size/\cv= .int .u32 (x:Int)/\x<4294967296/\Hid (x=sumL c (s.data.toList.take k))/\w=wr)
 case atStart=>exact ⟨0,c,Nat.zero_le _,rfl,rfl,rfl,hc,hide rfl,rfl⟩
 case round=>
  obtain ⟨k,x,hk,rfl,hg,rfl,hx,HX,rfl⟩:=hrel;have HG:=hide hg;clear hg
  by_cases hlt:k<s.size
  ·obtain ⟨y,hy⟩:∃y,y=byt s k:=⟨_,rfl⟩
   have hyb:y<256:=by rw [hy];exact byt_lt s k
   have hsj:s[k].toNat=y:=by rw [hy];exact byt_eq s k hlt
   have HY:=hide hy;clear hy
   have hk0:(0:Int)<=(k:Int):=by omega
   have hk1:(k:Int)<(s.size:Int):=by omega
   obtain ⟨z,hz⟩:∃z,z=x ^^^ y:=⟨_,rfl⟩
   have hzl:z<4294967296:=by rw [hz];exact xor_lt32 _ _ hx (by omega)
   have q1:IntKind.u32.wrap (y:Int)=(y:Int):=wrap32 _ (by omega) (by omega)
   have q2:bits BinOp.xor IntKind.u32 (x:Int) (y:Int)=(z:Int):=by rw [hz];exact xor32 x y hx (by omega)
   have HZ:=hide hz;clear hz;obtain ⟨go,hgo⟩:∃go,go=gk:=⟨_,rfl⟩;rw [<-hgo] at HG
   go_wp2
   go_loopg [0,6] 8 (fun g cv kv wr=>∃j m:Nat,j<=8/\kv= .int .i64 (j:Int)/\g+j=8/\cv= .int .u32 (m:Int)/\m<4294967296/\Hid (m=halfK j z)/\w=wr)
   case atStart=>exact ⟨0,z,Nat.zero_le _,rfl,rfl,rfl,hzl,hide rfl,rfl⟩
   case round=>
    obtain ⟨j,m,hj,rfl,hg,rfl,hm,HM,rfl⟩:=hrel;have HG2:=hide hg;clear hg
    by_cases hj8:j<8
    ·by_cases hodd:m % 2=1
     ·have hq:decide ((m:Int) % 2=1)=true:=by simp;omega
      obtain ⟨v,hv⟩:∃v,v=half m:=⟨_,rfl⟩
      have hvl:v<4294967296:=by rw [hv];exact half_lt m hm
      have q3:bits BinOp.xor IntKind.u32 ((m:Int) / 2) 3558460437=(v:Int):=by
       rw [hv,half,if_pos hodd]
       exact xor32 (m / 2) 3558460437 (by omega) (by omega)
      have HV:Hid (v=halfK (j+1) z):=hide (by rw [hv,halfK,<-HM.out])
      clear hv
      go_wp2
      go_roundg (gk - 1)
      case measure=>have:=HG2.out;omega
      case rel=>exact ⟨j+1,v,by omega,by go_num,by have:=HG2.out;omega,rfl,hvl,HV,rfl⟩
     ·have hq:decide ((m:Int) % 2=1)=false:=by simp;omega
      have hqn:¬((m:Int) % 2=1):=by omega
      have HV:Hid (m / 2=halfK (j+1) z):=hide (by rw [halfK,<-HM.out,half,if_neg hodd])
      clear hodd
      go_wp2
      go_roundg (gk - 1)
      case measure=>have:=HG2.out;omega
      case rel=>exact ⟨j+1,m / 2,by omega,by go_num,by have:=HG2.out;omega,by go_num,by omega,HV,rfl⟩
    ·obtain rfl:j=8:=by omega
     have HN:Hid (m=sumL c (s.data.toList.take (k+1))):=hide (by rw [take_byt s k hlt,sumL_append,<-HX.out,<-HY.out,sumL];simp only [List.foldl_cons,List.foldl_nil];rw [toNat_ofNat8 _ hyb,HM.out,HZ.out];rfl)
     go_wp2
     go_roundg (go - 1)
     case measure=>have:=HG.out;omega
     case rel=>exact ⟨k+1,m,by omega,by go_num,by have:=HG.out;omega,rfl,hm,HN,rfl⟩
  ·have hk':s.data.toList.take k=s.data.toList:=List.take_of_length_le (by rw [Array.length_toList];have:s.data.size=s.size:=rfl;omega)
   rw [hk'] at HX
   go_wp2
   go_ret;rw [<-HX.out];exact ⟨rfl,rfl⟩
theorem specSumOf_any (s:ByteArray) (hs:s.size<=9223372036854775807) (w:World):
  Calls Tryz.prog 163 #[.string s] w fun e w'=>e= .returned (.int .u32 (sumL 4294967295 s.data.toList:Int))/\w=w':=by
 go_enter Tryz.func163,Tryz.ntmps163;go_wp2_with fail
 refine (specSumMore_any 4294967295 s (by omega) hs _).mono ?_
 rintro e w1 ⟨rfl,rfl⟩
 go_wp2
 go_ret;exact ⟨rfl,rfl⟩
theorem specFour_any (x:Nat) (w:World):
  Calls Tryz.prog 162 #[.int .u32 (x:Int)] w fun e w'=>e= .returned (.string ⟨(fourL x).toArray⟩)/\Below w.heap.size w w':=by
 obtain ⟨a,ha⟩:∃a,a=x / 16777216 % 256:=⟨_,rfl⟩;obtain ⟨b,hb⟩:∃b,b=x / 65536 % 256:=⟨_,rfl⟩;obtain ⟨c,hc⟩:∃c,c=x / 256 % 256:=⟨_,rfl⟩;obtain ⟨d,hd⟩:∃d,d=x % 256:=⟨_,rfl⟩;have q1:IntKind.u8.wrap ((x:Int) / 16777216)=(a:Int):=wrap8 (x / 16777216) a ha;have q2:IntKind.u8.wrap ((x:Int) / 65536)=(b:Int):=wrap8 (x / 65536) b hb;have q3:IntKind.u8.wrap ((x:Int) / 256)=(c:Int):=wrap8 (x / 256) c hc;have q4:IntKind.u8.wrap (x:Int)=(d:Int):=wrap8 x d hd
 have HC:Hid ([Value.int .u8 (a:Int),.int .u8 (b:Int),.int .u8 (c:Int),.int .u8 (d:Int)]=Lib.byteCells (fourL x)):=hide (by rw [ha,hb,hc,hd];exact four_at x)
 clear ha hb hc hd
 have hown:(w.alloc (Obj.cells #[.int .u8 (a:Int),.int .u8 (b:Int),.int .u8 (c:Int),.int .u8 (d:Int)] 5)).ownsRow w.heap.size 5 1 (.slice (some ⟨w.heap.size,0,none⟩) 4 4) (fourL x).length (Lib.byteCells (fourL x)):=by
  rw [<-HC.out]
  exact World.ownsRow_lit (base:=w.heap.size) (e:=5) (size:=1) w #[.int .u8 (a:Int),.int .u8 (b:Int),.int .u8 (c:Int),.int .u8 (d:Int)] 4 (Nat.le_refl _) (by unfold maxLen;omega) (by simp)
 have hcv:(convert 183 9 (.slice (some ⟨w.heap.size,0,none⟩) 4 4)).run Tryz.prog (w.alloc (Obj.cells #[.int .u8 (a:Int),.int .u8 (b:Int),.int .u8 (c:Int),.int .u8 (d:Int)] 5))= .ok (.string ⟨(fourL x).toArray⟩) (w.alloc (Obj.cells #[.int .u8 (a:Int),.int .u8 (b:Int),.int .u8 (c:Int),.int .u8 (d:Int)] 5)):=
  string_own (l:=fourL x) Tryz.underlying183 Tryz.underlying5 Tryz.underlying9 hown
 clear hown;go_enter Tryz.func162,Tryz.ntmps162
 go_wp2
 go_ret;exact ⟨rfl,(Below.refl _ _).alloc (Nat.le_refl _) _⟩
theorem specSealed_yes (s:ByteArray) (h:s.size<=20000) (w:World):
  Calls Tryz.prog 165 #[.string s] w fun e w'=>e= .returned (.tuple #[.string ⟨(sealL s.data.toList).toArray⟩,.bool true])/\Below w.heap.size w w':=by
 have hf:(⟨(fourL (sumL 4294967295 s.data.toList)).toArray⟩:ByteArray).size=4:=rfl;go_enter Tryz.func165,Tryz.ntmps165;go_wp2_with fail
 refine (specSumOf_any s (by omega) _).mono ?_
 rintro e w1 ⟨rfl,rfl⟩;go_wp2_with fail;refine (specFour_any (sumL 4294967295 s.data.toList) _).mono ?_;rintro e w1 ⟨rfl,hb⟩
 go_wp2
 go_ret2;rw [<-seal_bytes];exact ⟨rfl,hb⟩
theorem specUnsealed_any (s:ByteArray) (hs:s.size<=1048576) (w:World):
  Calls Tryz.prog 129 #[.string s] w fun e w'=>e= .returned (unOut s)/\Below w.heap.size w w':=by
 by_cases h4:s.size<4
 ·have HO:Hid (unOut s= .tuple #[.string ⟨#[]⟩,.bool false]):=hide (by rw [unOut,if_neg];rw [isSealed,decide_eq_true_eq,list_len];omega)
  have hd:decide ((s.size:Int) - 4<0)=true:=by simp;omega
  go_enter Tryz.func129,Tryz.ntmps129;go_wp2_with fail
  go_quiet (fail)
  go_wp2
  go_ret2;rw [HO.out];exact ⟨rfl,below_drewN (Below.refl _ _) _⟩
 ·by_cases hbig:20004<s.size
  ·have HO:Hid (unOut s= .tuple #[.string ⟨#[]⟩,.bool false]):=hide (by rw [unOut,if_neg];rw [isSealed,decide_eq_true_eq,list_len];omega)
   have hd:decide ((s.size:Int) - 4<0)=false:=by simp;omega
   have hd2:decide ((20000:Int)<(s.size:Int) - 4)=true:=by simp;omega
   go_enter Tryz.func129,Tryz.ntmps129;go_wp2_with fail
   go_quiet (fail)
   go_wp2
   go_ret2;rw [HO.out];exact ⟨rfl,below_drewN (Below.refl _ _) _⟩
  ·obtain ⟨n,hn⟩:∃n,s.size=n+4:=⟨s.size - 4,by omega⟩
   obtain ⟨t,ht⟩:∃t,t=s.extract n s.size:=⟨_,rfl⟩;obtain ⟨x,hx⟩:∃x,x=sumL 4294967295 (s.data.toList.take n):=⟨_,rfl⟩
   have hil:(s.extract 0 n).size=n:=by rw [ByteArray.size_extract];omega
   have HC:Hid (∀wx,Calls Tryz.prog 163 #[.string (s.extract 0 n)] wx fun e w'=>e= .returned (.int .u32 (x:Int))/\wx=w'):=hide (fun wx=>by
    have:=specSumOf_any (s.extract 0 n) (by omega) wx
    rw [(seal_cut s n hn).1,<-hx] at this
    exact this)
   have HTl:Hid (t.data.toList=s.data.toList.drop n):=hide (by rw [ht];exact (seal_cut s n hn).2)
   have HO:Hid (isSealed s.data.toList=decide (t.data.toList=fourL x)):=hide (by rw [isSealed,list_len,hn,Nat.add_sub_cancel,HTl.out,hx];congr 1;simp;omega)
   have hs1:∀wx:World,(Instr.slice 9 (.string s) none (some (.int .i64 (n:Int))) none).run Tryz.prog wx= .ok (.string (s.extract 0 n)) wx:=fun wx=>by
    rw [run_slice_string_h (P:=Tryz.prog) wx 9 s Tryz.underlying9 .i64 (n:Int) (by omega) (by omega),Int.toNat_natCast]
   have hs2:∀wx:World,(Instr.slice 9 (.string s) (some (.int .i64 (n:Int))) none none).run Tryz.prog wx= .ok (.string t) wx:=fun wx=>by
    rw [run_slice_string_l (P:=Tryz.prog) wx 9 s Tryz.underlying9 .i64 (n:Int) (by omega) (by omega),ht,Int.toNat_natCast]
   have hd:decide ((n:Int)<0)=false:=by simp
   have hd2:decide ((20000:Int)<(n:Int))=false:=by simp;omega
   have HS:Hid (s.size - 4=n):=hide (by omega)
   clear ht hx;go_enter Tryz.func129,Tryz.ntmps129;go_wp2_with fail
   go_region_held3 (fun _=>True) (trivial) (first | (go_at_call 163;refine (HC.out _).mono ?_;rintro e wx ⟨rfl,rfl⟩) | (go_at_call 162;refine (specFour_any x _).mono ?_;rintro e wx ⟨rfl,hbw⟩))
   by_cases he:t.data.toList=fourL x
   ·have hq:(t.toList ==fourL x)=true:=by rw [tolist_eq,he];exact beq_self_eq_true _
    rw [hq];go_wp2_with fail;go_ret2
    rw [unOut,HO.out,if_pos (by simpa using he),HS.out]
    exact ⟨rfl,((Below.refl _ _).drew).trans hbw⟩
   ·have hq:(t.toList ==fourL x)=false:=by rw [tolist_eq];exact beq_eq_false_iff_ne.2 he
    rw [hq];go_wp2_with fail;go_ret2
    rw [unOut,HO.out,if_neg (by simpa using he)]
    exact ⟨rfl,((Below.refl _ _).drew).trans hbw⟩
open Go.RowKit
theorem l04Short_b (s:ByteArray) (h:s.size<=20000) (w:World):
  Calls Tryz.prog 102 #[.string s] w fun e w'=>e= .returned (.string (shortB s))/\Below w.heap.size w w':=by
 have hlen:=(vtext_length s.size).2;have HO:Hid (shortB s=⟨(vtext s.size).toArray⟩++s):=hide rfl;go_enter Tryz.func102,Tryz.ntmps102;go_wp2_with fail
 refine (l01Var_any s.size (by omega) (by omega) _).mono ?_
 rintro e w2 ⟨rfl,hb⟩;rw [Int.toNat_natCast]
 go_wp2
 go_ret;rw [HO.out];exact ⟨rfl,hb⟩
theorem l05Bytes_any (v:Value) (lf:Bool) (ks vs:List ByteArray) (cs:List Int) (hok:nodeOkB lf ks vs cs=true) (w:World) (hd:NodeAt w v lf ks vs cs):
  Calls Tryz.prog 166 #[v] w fun e w'=>e= .returned (.string (nodeB lf ks vs cs))/\Below w.heap.size w w':=by
 obtain ⟨vk,vv,vc,rfl,h1,h2,h3⟩:=hd
 obtain ⟨xk,ck,rfl⟩:∃a cap,vk= .slice a ks.length cap:=by obtain ⟨-,a,cap,e,-⟩:=h1;exact ⟨a,cap,e⟩
 obtain ⟨xv,cv,rfl⟩:∃a cap,vv= .slice a vs.length cap:=by obtain ⟨-,a,cap,e,-⟩:=h2;exact ⟨a,cap,e⟩
 obtain ⟨xc,cc,rfl⟩:∃a cap,vc= .slice a cs.length cap:=by obtain ⟨-,a,cap,e,-⟩:=h3;exact ⟨a,cap,e⟩
 obtain ⟨w0,hw0⟩:∃w0,w0=w.alloc (Obj.cells #[.bool lf,.slice xk ks.length ck,.slice xv vs.length cv,.slice xc cs.length cc] 115):=⟨_,rfl⟩
 have hb0:Below w.heap.size w w0:=by rw [hw0];exact (Below.refl w.heap.size w).alloc (Nat.le_refl _) _
 have hblk:w0.heap[w.heap.size]?=some (Obj.cells #[.bool lf,.slice xk ks.length ck,.slice xv vs.length cv,.slice xc cs.length cc] 115):=by rw [hw0];exact heap_alloc_new w _
 have HB0:=hide hb0;have HR:=hide (⟨row_below h1 hb0,row_below h2 hb0,row_below h3 hb0⟩:_/\_/\_)
 have HPb:Hid (∀wx,Below w0.heap.size w0 wx->wx.cell? ⟨w.heap.size,0,none⟩=some (.bool lf)/\wx.cell? ⟨w.heap.size,1,none⟩=some (.slice xk ks.length ck)/\wx.cell? ⟨w.heap.size,2,none⟩=some (.slice xv vs.length cv)/\wx.cell? ⟨w.heap.size,3,none⟩=some (.slice xc cs.length cc)):=hide (fun wx hb=>by
  have hq:=(hb.block _ (Array.getElem?_eq_some_iff.1 hblk).1).trans hblk
  exact ⟨(cell_at hq 0).1,(cell_at hq 1).1,(cell_at hq 2).1,(cell_at hq 3).1⟩)
 obtain ⟨c0,c1,-,-⟩:=HPb.out w0 (Below.refl _ _);have HOk:=hide hok;have HY:=hide (node_yes hok);have HCn:=hide (cnt_yes (node_yes hok).1);have hk4:=HCn.out.2.1
 have HVk:=hide (l01Var_any (ks.length:Int) (by omega) (by omega))
 rw [Int.toNat_natCast] at HVk;obtain ⟨z0,hz0⟩:∃z:ByteArray,z=⟨(vtext ks.length).toArray⟩:=⟨_,rfl⟩;rw [<-hz0] at HVk
 have hzs:z0.size<=5:=by rw [hz0,vtB_size];exact (vtext_length _).2
 have HS0:Hid (nodeP lf ks.length ks vs cs 0=headB lf++z0):=hide (by rw [nodeP,hz0])
 clear h1 h2 h3 hb0 hblk hok hz0
 cases lf with
 | true=>
  have HLn:Hid (vs.length=ks.length):=hide (HCn.out.2.2.1 rfl).1;go_enter Tryz.func166,Tryz.ntmps166;go_wp2_with fail;rw [<-hw0];clear hw0;refine (HVk.out _).mono ?_;rintro e w1 ⟨rfl,hb1⟩;have HB1:=hide hb1;have HP0:Hid (headB true++z0=nodeP true ks.length ks vs cs 0):=hide HS0.out.symm;clear hb1 c0 c1;go_wp2_with fail
  go_loopg [3,4] ks.length (fun q sv iv wr=>∃i:Nat,i<=ks.length/\sv= .string (nodeP true ks.length ks vs cs i)/\iv= .int .i64 (i:Int)/\q+i=ks.length/\Hid (Below w0.heap.size w0 wr))
  case atStart=>exact ⟨0,Nat.zero_le _,by rw [<-HP0.out];rfl,rfl,rfl,HB1⟩
  case round=>
   obtain ⟨i,hi,rfl,rfl,hg,HB⟩:=hrel;have HG:=hide hg;have hsz:=nodeP_size HOk.out i hi;clear hg;obtain ⟨p0,p1,p2,p3⟩:=HPb.out wr HB.out
   by_cases hlt:i<ks.length
   ·obtain ⟨-,a1,cp1,e1,h0 | ⟨bk,ok,e0,hbk,hck⟩⟩:=HR.out.1
    ·omega
    injection e1 with e11 _ e12
    subst e11 e12;subst e0;obtain ⟨x,hx⟩:∃x,x=ks.getD i ⟨#[]⟩:=⟨_,rfl⟩
    have hxc:wr.cell? ⟨bk,ok+i,none⟩=some (.string x):=by rw [HB.out.cell (by exact hbk),hck i (by omega),strs_at ks i hlt,hx];simp [List.getD,hlt]
    have hx24:x.size<=24:=by rw [hx];exact key_short (HY.out.2.1 i hlt)
    have hi0:(0:Int)<=(i:Int):=by omega
    have hi1:(i:Int)<(ks.length:Int):=by omega
    have HV1:=hide (l04Short_b x (by omega))
    have hs1:=shortB_size2 x;obtain ⟨b1,hb1⟩:∃b,b=shortB x:=⟨_,rfl⟩;rw [<-hb1] at HV1 hs1
    have hlv:i<vs.length:=by have:=HLn.out;omega
    obtain ⟨-,a2,cp2,e2,h0 | ⟨bv,ov,e3,hbv,hcv⟩⟩:=HR.out.2.1
    ·omega
    injection e2 with e21 _ e22
    subst e21 e22;subst e3;obtain ⟨z,hz⟩:∃z,z=vs.getD i ⟨#[]⟩:=⟨_,rfl⟩
    have HZc:Hid (∀wx,Below w0.heap.size w0 wx->wx.cell? ⟨bv,ov+i,none⟩=some (.string z)):=hide (fun wx hb=>by rw [hb.cell (by exact hbv),hcv i (by omega),strs_at vs i hlv,hz];simp [List.getD,hlv])
    have hz24:z.size<=24:=by rw [hz];exact HY.out.2.2.1 i hlv
    have hiv:(i:Int)<(vs.length:Int):=by omega
    have HV2:=hide (l04Short_b z (by omega))
    have hSd:sideT true vs cs i=shortB z:=by rw [sideT,if_pos rfl,hz]
    have hs2:=shortB_size2 z;obtain ⟨b2,hb2⟩:∃b,b=shortB z:=⟨_,rfl⟩;rw [<-hb2] at HV2 hSd hs2;clear hcv hz hb2
    have HK:Hid (nodeP true ks.length ks vs cs (i+1)=nodeP true ks.length ks vs cs i++b1++b2):=hide (by rw [nodeP,<-hx,<-hb1,hSd])
    obtain ⟨s,hs⟩:∃s,s=nodeP true ks.length ks vs cs i:=⟨_,rfl⟩;rw [<-hs] at HK hsz⊢;clear hck hx hb1 hSd hs;go_wp2_with fail;refine (HV1.out _).mono ?_;rintro e w2 ⟨rfl,hb2⟩;have HB2:Hid (Below w0.heap.size w0 w2):=hide (HB.out.trans (hb2.mono HB.out.size));obtain ⟨r0,r1,r2,r3⟩:=HPb.out w2 HB2.out;have hzc:=HZc.out w2 HB2.out;clear hb2 p0 p1 p2 p3 hxc;go_wp2_with fail;refine (HV2.out _).mono ?_;rintro e w3 ⟨rfl,hb3⟩;have HB3:Hid (Below w0.heap.size w0 w3):=hide (HB2.out.trans (hb3.mono HB2.out.size));clear hb3 r0 r1 r2 r3 hzc;go_wp2_with fail
    go_roundg (gk - 1)
    case measure=>have:=HG.out;omega
    case rel=>exact ⟨i+1,by omega,by rw [HK.out],by go_num,by have:=HG.out;omega,HB3⟩
   ·obtain rfl:i=ks.length:=by omega
    have HO:Hid (nodeB true ks vs cs=nodeP true ks.length ks vs cs ks.length):=hide rfl;go_wp2_with fail;go_ret;rw [HO.out];exact ⟨rfl,HB0.out.trans (HB.out.mono HB0.out.size)⟩
 | false=>
  have HLn:Hid (cs.length=ks.length):=hide (HCn.out.2.2.2 rfl).1;go_enter Tryz.func166,Tryz.ntmps166;go_wp2_with fail;rw [<-hw0];clear hw0;refine (HVk.out _).mono ?_;rintro e w1 ⟨rfl,hb1⟩;have HB1:=hide hb1;have HP0:Hid (headB false++z0=nodeP false ks.length ks vs cs 0):=hide HS0.out.symm;clear hb1 c0 c1;go_wp2_with fail
  go_loopg [3,4] ks.length (fun q sv iv wr=>∃i:Nat,i<=ks.length/\sv= .string (nodeP false ks.length ks vs cs i)/\iv= .int .i64 (i:Int)/\q+i=ks.length/\Hid (Below w0.heap.size w0 wr))
  case atStart=>exact ⟨0,Nat.zero_le _,by rw [<-HP0.out];rfl,rfl,rfl,HB1⟩
  case round=>
   obtain ⟨i,hi,rfl,rfl,hg,HB⟩:=hrel;have HG:=hide hg;have hsz:=nodeP_size HOk.out i hi;clear hg;obtain ⟨p0,p1,p2,p3⟩:=HPb.out wr HB.out
   by_cases hlt:i<ks.length
   ·obtain ⟨-,a1,cp1,e1,h0 | ⟨bk,ok,e0,hbk,hck⟩⟩:=HR.out.1
    ·omega
    injection e1 with e11 _ e12
    subst e11 e12;subst e0;obtain ⟨x,hx⟩:∃x,x=ks.getD i ⟨#[]⟩:=⟨_,rfl⟩
    have hxc:wr.cell? ⟨bk,ok+i,none⟩=some (.string x):=by rw [HB.out.cell (by exact hbk),hck i (by omega),strs_at ks i hlt,hx];simp [List.getD,hlt]
    have hx24:x.size<=24:=by rw [hx];exact key_short (HY.out.2.1 i hlt)
    have hi0:(0:Int)<=(i:Int):=by omega
    have hi1:(i:Int)<(ks.length:Int):=by omega
    have HV1:=hide (l04Short_b x (by omega))
    have hs1:=shortB_size2 x;obtain ⟨b1,hb1⟩:∃b,b=shortB x:=⟨_,rfl⟩;rw [<-hb1] at HV1 hs1
    have hlv:i<cs.length:=by have:=HLn.out;omega
    obtain ⟨-,a2,cp2,e2,h0 | ⟨bv,ov,e3,hbv,hcv⟩⟩:=HR.out.2.2
    ·omega
    injection e2 with e21 _ e22
    subst e21 e22;subst e3;obtain ⟨z,hz⟩:∃z,z=cs.getD i 0:=⟨_,rfl⟩
    have HZc:Hid (∀wx,Below w0.heap.size w0 wx->wx.cell? ⟨bv,ov+i,none⟩=some (.int .i64 z)):=hide (fun wx hb=>by rw [hb.cell (by exact hbv),hcv i (by omega),ints_at cs i hlv,hz];simp [List.getD,hlv])
    have hz24:2<=z/\z<=39:=by rw [hz];exact kid_page (HY.out.2.2.2 i hlv)
    have hiv:(i:Int)<(cs.length:Int):=by omega
    have HV2:=hide (l01Var_any z (by omega) (by omega))
    have hSd:sideT false vs cs i=⟨(vtext z.toNat).toArray⟩:=by rw [sideT,if_neg (by decide),hz]
    have hs2:(⟨(vtext z.toNat).toArray⟩:ByteArray).size<=29:=by rw [vtB_size];have:=(vtext_length z.toNat).2;omega
    obtain ⟨b2,hb2⟩:∃b:ByteArray,b=⟨(vtext z.toNat).toArray⟩:=⟨_,rfl⟩;rw [<-hb2] at HV2 hSd hs2;clear hcv hz hb2
    have HK:Hid (nodeP false ks.length ks vs cs (i+1)=nodeP false ks.length ks vs cs i++b1++b2):=hide (by rw [nodeP,<-hx,<-hb1,hSd])
    obtain ⟨s,hs⟩:∃s,s=nodeP false ks.length ks vs cs i:=⟨_,rfl⟩;rw [<-hs] at HK hsz⊢;clear hck hx hb1 hSd hs;go_wp2_with fail;refine (HV1.out _).mono ?_;rintro e w2 ⟨rfl,hb2⟩;have HB2:Hid (Below w0.heap.size w0 w2):=hide (HB.out.trans (hb2.mono HB.out.size));obtain ⟨r0,r1,r2,r3⟩:=HPb.out w2 HB2.out;have hzc:=HZc.out w2 HB2.out;clear hb2 p0 p1 p2 p3 hxc;go_wp2_with fail;refine (HV2.out _).mono ?_;rintro e w3 ⟨rfl,hb3⟩;have HB3:Hid (Below w0.heap.size w0 w3):=hide (HB2.out.trans (hb3.mono HB2.out.size));clear hb3 r0 r1 r2 r3 hzc;go_wp2_with fail
    go_roundg (gk - 1)
    case measure=>have:=HG.out;omega
    case rel=>exact ⟨i+1,by omega,by rw [HK.out],by go_num,by have:=HG.out;omega,HB3⟩
   ·obtain rfl:i=ks.length:=by omega
    have HO:Hid (nodeB false ks vs cs=nodeP false ks.length ks vs cs ks.length):=hide rfl;go_wp2_with fail;go_ret;rw [HO.out];exact ⟨rfl,HB0.out.trans (HB.out.mono HB0.out.size)⟩
theorem sealed_any (s:ByteArray) (h:s.size<=20000) (w:World):Calls Tryz.prog 165 #[.string s] w fun e w'=>e= .returned (.tuple #[.string ⟨(sealL s.data.toList).toArray⟩,.bool true])/\Below w.heap.size w w':=specSealed_yes s h w
theorem specNodeText_any (v:Value) (lf:Bool) (ks vs:List ByteArray) (cs:List Int) (hk:ks.length<=1048576) (hv:vs.length<=1048576) (hc:cs.length<=1048576) (hks:∀s∈ks,s.size<=1048576) (hvs:∀s∈vs,s.size<=1048576) (w:World) (hd:NodeAt w v lf ks vs cs):
  Calls Tryz.prog 130 #[v] w fun e w'=>e= .returned (.tuple #[.string (nodeO lf ks vs cs),.bool (nodeOkB lf ks vs cs)])/\Below w.heap.size w w':=by
 have HS:=hide (fun wx h=>specNodeOk_any v lf ks vs cs hk hv hc hks hvs wx h)
 have HD:=hide hd;obtain ⟨vk,vv,vc,rfl,-,-,-⟩:=hd;obtain ⟨w0,hw0⟩:∃w0,w0=w.alloc (Obj.cells #[.bool lf,vk,vv,vc] 115):=⟨_,rfl⟩
 have HB0:Hid (Below w.heap.size w w0):=hide (by rw [hw0];exact (Below.refl w.heap.size w).alloc (Nat.le_refl _) _)
 have HQ0:Hid (w0.heap[w.heap.size]?=some (Obj.cells #[.bool lf,vk,vv,vc] 115)):=hide (by rw [hw0];exact heap_alloc_new w _)
 clear hk hv hc hks hvs
 cases hok:nodeOkB lf ks vs cs with
 | false=>
  rw [hok] at HS
  have HO:Hid (nodeO lf ks vs cs=⟨#[]⟩):=hide (by rw [nodeO,hok];rfl)
  clear hok;go_enter Tryz.func130,Tryz.ntmps130;go_wp2_with fail;rw [<-hw0];clear hw0;refine (HS.out _ (node_below HD.out HB0.out)).mono ?_;rintro e w1 ⟨rfl,hb⟩;go_wp2_with fail;go_ret2;rw [HO.out];exact ⟨rfl,HB0.out.trans (hb.mono HB0.out.size)⟩
 | true=>
  rw [hok] at HS
  have HBy:=hide (fun wx h=>l05Bytes_any (.agg #[.bool lf,vk,vv,vc]) lf ks vs cs hok wx h)
  have HO:Hid (nodeO lf ks vs cs=nodeT lf ks vs cs):=hide (by rw [nodeO,hok];rfl)
  have HSe:=hide (sealed_any (nodeB lf ks vs cs) (by have:=(nodeB_size hok).1;omega))
  have HTt:Hid (nodeT lf ks vs cs=⟨(sealL (nodeB lf ks vs cs).data.toList).toArray⟩):=hide rfl;obtain ⟨bs,hbs⟩:∃b,b=nodeB lf ks vs cs:=⟨_,rfl⟩;rw [<-hbs] at HBy HSe HTt;clear hok hbs;go_enter Tryz.func130,Tryz.ntmps130;go_wp2_with fail;rw [<-hw0];clear hw0;refine (HS.out _ (node_below HD.out HB0.out)).mono ?_;rintro e w1 ⟨rfl,hb⟩;have HB1:Hid (Below w.heap.size w w1):=hide (HB0.out.trans (hb.mono HB0.out.size));have hq:=(hb.block _ (Array.getElem?_eq_some_iff.1 HQ0.out).1).trans HQ0.out;have c0:w1.cell? ⟨w.heap.size,0,none⟩=some (.bool lf):=(cell_at hq 0).1;have c1:w1.cell? ⟨w.heap.size,1,none⟩=some vk:=(cell_at hq 1).1;have c2:w1.cell? ⟨w.heap.size,2,none⟩=some vv:=(cell_at hq 2).1;have c3:w1.cell? ⟨w.heap.size,3,none⟩=some vc:=(cell_at hq 3).1;clear hb hq;go_wp2_with fail;refine (HBy.out _ (node_below HD.out HB1.out)).mono ?_;rintro e w2 ⟨rfl,hb2⟩;have HB2:Hid (Below w.heap.size w w2):=hide (HB1.out.trans (hb2.mono HB1.out.size));clear hb2 c0 c1 c2 c3;go_wp2_with fail;refine (HSe.out _).mono ?_;rintro e w3 ⟨rfl,hb3⟩;have HB3:Hid (Below w.heap.size w w3):=hide (HB2.out.trans (hb3.mono HB2.out.size));clear hb3;go_wp2_with fail;go_ret2;rw [HO.out,HTt.out];exact ⟨rfl,HB3.out⟩
open Go.RowKit
theorem curT_low {w w':World} {g gn p:Nat} {t:ByteArray} {bad:Bool} (h:CurT w g t p bad) (hb:Below gn w w') (hlt:g<gn):CurT w' g t p bad:=(hb.block g hlt).trans h
def RsPost (w:World) (t:ByteArray) (e:Ending) (w':World):Prop:=
 ∃n v ok,e= .returned (.tuple #[v,.bool ok])/\ReadN t n ok/\NodeOwn w' w.heap.size v n.lf n.ks n.vs n.cs/\Below w.heap.size w w'
theorem round_V (g:Nat) {s:ByteArray} (hs:s.size<=1048576) {cnt:Nat} {n:Nd} {p:Nat} (h:NTry s cnt n p) (he:n.even) (hk:n.ks.length<cnt) (hl:n.lf=true):∃(x:ByteArray) (q:Nat) (b1:Bool) (y:ByteArray) (r:Nat) (b2:Bool),
  (∀wx,CurT wx g s p false->Calls Tryz.prog 73 #[.pointer (some ⟨g,0,none⟩)] wx fun e w'=>e= .returned (.string x)/\CurT w' g s q b1/\wx.grownBy w' (some g))/\
  (∀wx,CurT wx g s q b1->Calls Tryz.prog 73 #[.pointer (some ⟨g,0,none⟩)] wx fun e w'=>e= .returned (.string y)/\CurT w' g s r b2/\wx.grownBy w' (some g))/\
  x.size<=20000/\y.size<=20000/\(b2=false->NTry s cnt (n.snocV x y) r)/\(b2=true->∀m,¬IsIn s m):=by
 cases ho:rdS s p with
 | none=>exact ⟨⟨#[]⟩,p,true,⟨#[]⟩,p,true,fun wx hc=>l04ReadShort_bad g s hs p false (Or.inr ho) wx hc,fun wx hc=>l04ReadShort_bad g s hs p true (Or.inl rfl) wx hc,Nat.zero_le _,Nat.zero_le _,(fun e=>by cases e),fun _=>nt_nokey h he hk ho⟩
 | some r1=>
  obtain ⟨x,q⟩:=r1
  cases ho2:rdS s q with
  | none=>exact ⟨x,q,false,⟨#[]⟩,q,true,fun wx hc=>l04ReadShort_good g s hs p x q ho wx hc,fun wx hc=>l04ReadShort_bad g s hs q false (Or.inr ho2) wx hc,(rdS_back ho).2.2.1,Nat.zero_le _,(fun e=>by cases e),fun _=>nt_noval h he hk hl ho ho2⟩
  | some r2=>
   obtain ⟨y,r⟩:=r2
   exact ⟨x,q,false,y,r,false,fun wx hc=>l04ReadShort_good g s hs p x q ho wx hc,fun wx hc=>l04ReadShort_good g s hs q y r ho2 wx hc,(rdS_back ho).2.2.1,(rdS_back ho2).2.2.1,fun _=>nt_val h he hk hl ho ho2,(fun e=>by cases e)⟩
theorem round_C (g:Nat) {s:ByteArray} (hs:s.size<=1048576) {cnt:Nat} {n:Nd} {p:Nat} (h:NTry s cnt n p) (he:n.even) (hk:n.ks.length<cnt) (hl:n.lf=false):∃(x:ByteArray) (q:Nat) (b1:Bool) (y:Nat) (r:Nat) (b2:Bool),
  (∀wx,CurT wx g s p false->Calls Tryz.prog 73 #[.pointer (some ⟨g,0,none⟩)] wx fun e w'=>e= .returned (.string x)/\CurT w' g s q b1/\wx.grownBy w' (some g))/\
  (∀wx,CurT wx g s q b1->Calls Tryz.prog 72 #[.pointer (some ⟨g,0,none⟩)] wx fun e w'=>e= .returned (.int .i64 (y:Int))/\CurT w' g s r b2/\wx.grownBy w' (some g))/\
  x.size<=20000/\y<=1000000000/\(b2=false->NTry s cnt (n.snocC x y) r)/\(b2=true->∀m,¬IsIn s m):=by
 cases ho:rdS s p with
 | none=>exact ⟨⟨#[]⟩,p,true,0,p,true,fun wx hc=>l04ReadShort_bad g s hs p false (Or.inr ho) wx hc,fun wx hc=>l04Var_bad g s hs p true (Or.inl rfl) wx hc,Nat.zero_le _,Nat.zero_le _,(fun e=>by cases e),fun _=>nt_nokey h he hk ho⟩
 | some r1=>
  obtain ⟨x,q⟩:=r1
  cases ho2:rdV s q with
  | none=>exact ⟨x,q,false,0,q,true,fun wx hc=>l04ReadShort_good g s hs p x q ho wx hc,fun wx hc=>l04Var_bad g s hs q false (Or.inr ho2) wx hc,(rdS_back ho).2.2.1,Nat.zero_le _,(fun e=>by cases e),fun _=>nt_nokid h he hk hl ho ho2⟩
  | some r2=>
   obtain ⟨y,r⟩:=r2
   exact ⟨x,q,false,y,r,false,fun wx hc=>l04ReadShort_good g s hs p x q ho wx hc,fun wx hc=>l04Var_good g s hs q y r ho2 wx hc,(rdS_back ho).2.2.1,(rdV_back ho2).2.2.1,fun _=>nt_kid h he hk hl ho ho2,(fun e=>by cases e)⟩
theorem round_0 (g:Nat) {s:ByteArray} (hs:s.size<=1048576) (lf:Bool) (hl:lf=decide (byt s 0=108)):∃(cnt q:Nat) (b:Bool),
  (∀wx,CurT wx g s 1 false->Calls Tryz.prog 72 #[.pointer (some ⟨g,0,none⟩)] wx fun e w'=>e= .returned (.int .i64 (cnt:Int))/\CurT w' g s q b/\wx.grownBy w' (some g))/\
  cnt<=1000000000/\(b=false->NTry s cnt ⟨lf,[],[],[]⟩ q)/\(b=true->∀m,¬IsIn s m):=by
 cases ho:rdV s 1 with
 | none=>exact ⟨0,1,true,fun wx hc=>l04Var_bad g s hs 1 false (Or.inr ho) wx hc,Nat.zero_le _,(fun e=>by cases e),fun _=>nt_novar ho⟩
 | some r1=>
  obtain ⟨cnt,q⟩:=r1
  exact ⟨cnt,q,false,fun wx hc=>l04Var_good g s hs 1 cnt q ho wx hc,(rdV_back ho).2.2.1,fun _=>nt_start hl ho,(fun e=>by cases e)⟩
theorem own_nil (w:World) (B:Nat):NodeOwn w B (.agg #[.bool false,.slice none 0 0,.slice none 0 0,.slice none 0 0]) false [] [] []:=⟨_,_,_,rfl,⟨rfl,Or.inl ⟨rfl,rfl⟩⟩,⟨rfl,Or.inl ⟨rfl,rfl⟩⟩,⟨rfl,Or.inl ⟨rfl,rfl⟩⟩,fun k e=>by cases e⟩
open Go.RowKit
def misgot:List PanicEntry:= [{v:= .iface 234 (.agg #[]),recovered:=true}]
theorem catch_misread (a b:Nat) (lf ok:Bool) (v1 v2 v3:Value) (w:World) (ha:w.heap[a]?=some (.cells #[.bool lf,v1,v2,v3] 115 (0,0))) (hb:w.heap[b]?=some (.cells #[.bool ok] 4 (0,0))) (hab:a≠b):
  CallsD Tryz.prog 132 #[.pointer (some ⟨a,0,none⟩),.pointer (some ⟨b,0,none⟩)] (.panicking misread) w fun e u' w'=>
   e= .returned (.tuple #[])/\u'= .panicking misgot/\w'=((((w.setCell ⟨a,0,none⟩ (.bool false)).setCell ⟨a,1,none⟩ (.slice none 0 0)).setCell ⟨a,2,none⟩ (.slice none 0 0)).setCell ⟨a,3,none⟩ (.slice none 0 0)).setCell ⟨b,0,none⟩ (.bool false):=by
 have c0:=(cell_at ha 0).1;have c1:=(cell_at ha 1).1;have c2:=(cell_at ha 2).1;have c3:=(cell_at ha 3).1;have f0:=(cell_at ha 0).2;have f1:=(cell_at ha 1).2;have f2:=(cell_at ha 2).2;have f3:=(cell_at ha 3).2;have d0:=(cell_at hb 0).1;have e0:=(cell_at hb 0).2
 simp at c0 c1 c2 c3 d0
 unfold misread misgot
 refine callsD_of_wpS Tryz.func132 rfl fun c₀ cs hu=> ?_
 apply wpS_seq
 apply wpS_region
 simp [wpOpsS,go_sem,recoverD,hu,Tryz.ntmps132,Exit.thenS]
 refine wpS_cond (t:=true) (by simp [Act.eval,Array.replicate]) ?_
 simp only [if_true]
 apply wpS_region
 simp [wpOpsS,go_sem,c0,c1,c2,c3,f0,f1,f2,f3,d0,e0,bodyPostS,results,Tryz.results132]
theorem store_out {w:World} {a b B:Nat} {lf ok:Bool} {v1 v2 v3 c0 c1 c2 c3 d0:Value} {ks vs:List ByteArray} {cs:List Int} (ha:w.heap[a]?=some (.cells #[c0,c1,c2,c3] 115 (0,0))) (hb:w.heap[b]?=some (.cells #[d0] 4 (0,0))) (hn:NodeOwn w B (.agg #[.bool lf,v1,v2,v3]) lf ks vs cs) (hab:a<b) (hB:b<B):
  (((((w.setCell ⟨a,0,none⟩ (.bool lf)).setCell ⟨a,1,none⟩ v1).setCell ⟨a,2,none⟩ v2).setCell ⟨a,3,none⟩ v3).setCell ⟨b,0,none⟩ (.bool ok)).heap[a]?=some (.cells #[.bool lf,v1,v2,v3] 115 (0,0))/\
  (((((w.setCell ⟨a,0,none⟩ (.bool lf)).setCell ⟨a,1,none⟩ v1).setCell ⟨a,2,none⟩ v2).setCell ⟨a,3,none⟩ v3).setCell ⟨b,0,none⟩ (.bool ok)).heap[b]?=some (.cells #[.bool ok] 4 (0,0))/\
  NodeOwn (((((w.setCell ⟨a,0,none⟩ (.bool lf)).setCell ⟨a,1,none⟩ v1).setCell ⟨a,2,none⟩ v2).setCell ⟨a,3,none⟩ v3).setCell ⟨b,0,none⟩ (.bool ok)) B (.agg #[.bool lf,v1,v2,v3]) lf ks vs cs/\
  Below a w (((((w.setCell ⟨a,0,none⟩ (.bool lf)).setCell ⟨a,1,none⟩ v1).setCell ⟨a,2,none⟩ v2).setCell ⟨a,3,none⟩ v3).setCell ⟨b,0,none⟩ (.bool ok)):=by
 obtain ⟨r1,r2,r3⟩:=ret_node ha hn (by omega)
 have hbl:b<w.heap.size:=(Array.getElem?_eq_some_iff.1 hb).1;have g1:=grown_trans (grown_trans (grown_trans (grown_setCell w a 0 (.bool lf)) (grown_setCell _ a 1 v1)) (grown_setCell _ a 2 v2)) (grown_setCell _ a 3 v3)
 have hb':=(g1.block b hbl (fun e=>by injection e with e;omega)).trans hb
 have g2:=grown_setCell ((((w.setCell ⟨a,0,none⟩ (.bool lf)).setCell ⟨a,1,none⟩ v1).setCell ⟨a,2,none⟩ v2).setCell ⟨a,3,none⟩ v3) b 0 (.bool ok)
 refine ⟨(g2.block a (by have:=g1.size;omega) (fun e=>by injection e with e;omega)).trans r1,heap_setCell_same _ b 0 _ _ _ hb',?_,r3.grown g2 (by have:=r3.size;omega) (fun k e=>by injection e with e;omega)⟩
 obtain ⟨u1,u2,u3,e,h1,h2,h3,h4⟩:=r2
 exact ⟨u1,u2,u3,e,h1.kept g2 (Or.inr (fun e=>by have:=(h1.lt _ e).1;omega)),h2.kept g2 (Or.inr (fun e=>by have:=(h2.lt _ e).1;omega)),h3.kept g2 (Or.inr (fun e=>by have:=(h3.lt _ e).1;omega)),h4⟩
theorem catch_idle (p q:Addr) (w:World):
  CallsD Tryz.prog 132 #[.pointer (some p),.pointer (some q)] .returning w fun e u' w'=>e= .returned (.tuple #[])/\u'= .returning/\w'=w:=by
 refine callsD_of_wpS Tryz.func132 rfl fun c₀ cs hu=> ?_
 apply wpS_seq
 apply wpS_region
 simp [wpOpsS,go_sem,recoverD,hu,Tryz.ntmps132,Exit.thenS]
 refine wpS_cond (t:=false) (by simp [Act.eval,Array.replicate]) ?_
 simp only [Bool.false_eq_true,if_false]
 refine wpS_of_wp (wp_skip ?_)
 cases c₀
 simp_all [bodyPostS,results,Tryz.results132]
theorem implReadNode_any (t:ByteArray) (ht:t.size<=1048576) (w:World) (hT:SumTab w):
  Calls Tryz.prog 104 #[.string t] w fun e w'=>RsPost w t e w':=by
 have hmf:∀(fn:Fn) (first cap:Array Value) (w:World),(Instr.makeFunc fn first cap).run Tryz.prog w= .ok (.func fn first cap) w:=fun _ _ _ _=>rfl
 obtain ⟨wa,hwa⟩:∃wa,wa=(w.alloc (Obj.cells #[.bool false,.slice none 0 0,.slice none 0 0,.slice none 0 0] 115)).alloc (Obj.cells #[.bool false] 4):=⟨_,rfl⟩;obtain ⟨t1,t2,t3⟩:=two_allocs w (Obj.cells #[.bool false,.slice none 0 0,.slice none 0 0,.slice none 0 0] 115) (Obj.cells #[.bool false] 4);rw [<-hwa] at t1 t2 t3
 have HBa:Hid (Below w.heap.size w wa):=hide (by rw [hwa];exact ((Below.refl _ _).alloc (Nat.le_refl _) _).alloc (by simp) _)
 have HV:=hide (⟨t1,t2,t3⟩:_/\_/\_)
 have HU:=hide (fun wx h=>implUnsealed_any t ht wx h)
 have HT:=hide (sumTab_below hT HBa.out);clear t1 t2 t3 hT
 cases hsl:isSealed t.data.toList with
 | false=>
  rw [unOut,if_neg (by rw [hsl];decide)] at HU
  have HNo:=hide (isNd_unsealed hsl);clear hsl
  go_enter_defers Tryz.func104,Tryz.ntmps104
  go_wp2_with fail;rw [<-hwa];clear hwa;refine (HU.out _ HT.out).mono ?_;rintro e w1 ⟨rfl,hb1⟩;have HB1:=hide hb1;clear hb1;go_wp2_with fail;refine (must_no _ _).mono ?_;rintro e w2 ⟨rfl,rfl⟩
  refine leaves_cons (f:=132) (args:= #[.pointer (some ⟨w.heap.size,0,none⟩),.pointer (some ⟨w.heap.size+1,0,none⟩)]) (by simp) (by simp [go_sem]) ?_
  have hbb:=HB1.out.alloc HB1.out.size (Obj.cells #[.string ⟨#[]⟩,.int .i64 0] 206)
  have ha:=(hbb.block _ (by rw [HV.out.2.2];omega)).trans HV.out.1
  have hb:=(hbb.block _ (by rw [HV.out.2.2];omega)).trans HV.out.2.1
  refine (catch_misread w.heap.size (w.heap.size+1) false false _ _ _ _ ha hb (by omega)).mono ?_
  rintro e u' w'' ⟨rfl,rfl,rfl⟩
  obtain ⟨r1,r2,r3,r4⟩:=store_out (B:=w.heap.size+2) (lf:=false) (ok:=false) (v1:= .slice none 0 0) (v2:= .slice none 0 0) (v3:= .slice none 0 0) ha hb (own_nil _ _) (by omega) (by omega)
  have z0:=(cell_at r1 0).1;have z1:=(cell_at r1 1).1;have z2:=(cell_at r1 2).1;have z3:=(cell_at r1 3).1;have zb:=(cell_at r2 0).1
  exact ⟨.tuple #[.agg #[.bool false,.slice none 0 0,.slice none 0 0,.slice none 0 0],.bool false],by simp [results,Tryz.results104,go_sem,z0,z1,z2,z3,zb],Nd.none,_,false,rfl,Or.inr ⟨rfl,rfl,HNo.out⟩,nodeOwn_down r3 (by omega),(HBa.out.trans (hbb.mono HBa.out.size)).trans (r4.mono (Nat.le_refl _))⟩
 | true=>
  obtain ⟨s,hse⟩:∃s,s=t.extract 0 (t.size - 4):=⟨_,rfl⟩
  have hss:s.size<=1048576:=by rw [hse,ByteArray.size_extract];omega
  rw [unOut,if_pos hsl,<-hse] at HU;have HIs:=hide (isNd_sealed hsl);rw [<-hse] at HIs;clear hsl hse
  go_enter_defers Tryz.func104,Tryz.ntmps104
  go_wp2_with fail;rw [<-hwa];clear hwa;refine (HU.out _ HT.out).mono ?_;rintro e w1 ⟨rfl,hb1⟩;have HB1:=hide hb1;clear hb1;go_wp2_with fail;refine (must_yes _ _).mono ?_;rintro e w2 ⟨rfl,rfl⟩;go_wp2_with fail;obtain ⟨wb,hwb⟩:∃wb,wb=w1.alloc (Obj.cells #[.string s,.int .i64 0] 206):=⟨_,rfl⟩;rw [<-hwb]
  have hbb:Below wa.heap.size wa wb:=by rw [hwb];exact HB1.out.alloc HB1.out.size _
  have hrd:RdT wb w1.heap.size s 0:=by rw [hwb];exact heap_alloc_new w1 _
  have HBb:=hide hbb;have HLg:Hid (wa.heap.size<=w1.heap.size):=hide HB1.out.size;clear hbb hwb;refine (rnode_any w1.heap.size s hss wb hrd).mono ?_;rintro e w3 ⟨hg3,⟨n,v,rfl,his,hun,hown⟩ | ⟨rfl,hno⟩⟩
  ·have hb3:Below wa.heap.size wa w3:=HBb.out.grown hg3 HBb.out.size (fun k e=>by have:=HLg.out;injection e with e;omega)
   have ha:=(hb3.block _ (by rw [HV.out.2.2];omega)).trans HV.out.1
   have hb:=(hb3.block _ (by rw [HV.out.2.2];omega)).trans HV.out.2.1
   obtain ⟨v1,v2,v3,rfl,h1,h2,h3,h4⟩:=hown;obtain ⟨a1,c1,rfl⟩:=own_slice h1;obtain ⟨a2,c2,rfl⟩:=own_slice h2;obtain ⟨a3,c3,rfl⟩:=own_slice h3
   have HSt:=hide (store_out (B:=wb.heap.size) (lf:=n.lf) (ok:=true) ha hb ⟨_,_,_,rfl,h1,h2,h3,h4⟩ (by omega) (by have:=HBb.out.size;rw [HV.out.2.2] at this;omega))
   have o0:w3.cell? ⟨w.heap.size,0,none⟩=some (.bool false):=(cell_at ha 0).1;have o1:w3.cell? ⟨w.heap.size,1,none⟩=some (.slice none 0 0):=(cell_at ha 1).1;have o2:w3.cell? ⟨w.heap.size,2,none⟩=some (.slice none 0 0):=(cell_at ha 2).1;have o3:w3.cell? ⟨w.heap.size,3,none⟩=some (.slice none 0 0):=(cell_at ha 3).1;have z0:=(cell_at ha 0).2;have z1:=(cell_at ha 1).2;have z2:=(cell_at ha 2).2;have z3:=(cell_at ha 3).2;have ob:w3.cell? ⟨w.heap.size+1,0,none⟩=some (.bool false):=(cell_at hb 0).1;have zb:=(cell_at hb 0).2;have HFin:=hide (⟨his,hun,hb3⟩:_/\_/\_);clear h1 h2 h3 h4 his hun hb3 ha hb hg3 hrd;go_wp2_with fail
   refine leaves_cons (f:=132) (args:= #[.pointer (some ⟨w.heap.size,0,none⟩),.pointer (some ⟨w.heap.size+1,0,none⟩)]) (by simp) (by simp [go_sem]) ?_
   refine (catch_idle _ _ _).mono ?_;rintro e u' w'' ⟨rfl,rfl,rfl⟩;obtain ⟨r1,r2,r3,r4⟩:=HSt.out;have y0:=(cell_at r1 0).1;have y1:=(cell_at r1 1).1;have y2:=(cell_at r1 2).1;have y3:=(cell_at r1 3).1;have yb:=(cell_at r2 0).1
   exact ⟨.tuple #[.agg #[.bool n.lf,.slice a1 n.ks.length c1,.slice a2 n.vs.length c2,.slice a3 n.cs.length c3],.bool true],by simp [results,Tryz.results104,go_sem,y0,y1,y2,y3,yb],n,_,true,rfl,Or.inl ⟨rfl,(HIs.out n).2 HFin.out.1,fun m hm=>HFin.out.2.1 m ((HIs.out m).1 hm)⟩,nodeOwn_down r3 (by have:=HBb.out.size;rw [HV.out.2.2] at this;omega),(HBa.out.trans (HFin.out.2.2.mono HBa.out.size)).trans r4⟩
  ·have hb3:Below wa.heap.size wa w3:=HBb.out.grown hg3 HBb.out.size (fun k e=>by have:=HLg.out;injection e with e;omega)
   have ha:=(hb3.block _ (by rw [HV.out.2.2];omega)).trans HV.out.1
   have hb:=(hb3.block _ (by rw [HV.out.2.2];omega)).trans HV.out.2.1
   refine leaves_cons (f:=132) (args:= #[.pointer (some ⟨w.heap.size,0,none⟩),.pointer (some ⟨w.heap.size+1,0,none⟩)]) (by simp) (by simp [go_sem]) ?_
   refine (catch_misread w.heap.size (w.heap.size+1) false false _ _ _ _ ha hb (by omega)).mono ?_
   rintro e u' w'' ⟨rfl,rfl,rfl⟩
   obtain ⟨r1,r2,r3,r4⟩:=store_out (B:=w.heap.size+2) (lf:=false) (ok:=false) (v1:= .slice none 0 0) (v2:= .slice none 0 0) (v3:= .slice none 0 0) ha hb (own_nil _ _) (by omega) (by omega)
   have z0:=(cell_at r1 0).1;have z1:=(cell_at r1 1).1;have z2:=(cell_at r1 2).1;have z3:=(cell_at r1 3).1;have zb:=(cell_at r2 0).1
   exact ⟨.tuple #[.agg #[.bool false,.slice none 0 0,.slice none 0 0,.slice none 0 0],.bool false],by simp [results,Tryz.results104,go_sem,z0,z1,z2,z3,zb],Nd.none,_,false,rfl,Or.inr ⟨rfl,rfl,fun m hm=>hno m ((HIs.out m).1 hm)⟩,nodeOwn_down r3 (by omega),(HBa.out.trans (hb3.mono HBa.out.size)).trans r4⟩
open Go.RowKit
structure Ev where
 val:Value
 ok:Bool
 vis:Vis
def Ev.plain (x:Ev):Option Vis:=if x.ok=true then some x.vis else none
def encs (x:Ev):Array Value:= #[x.val,.bool x.ok]
def evs (r:List Vis×Option (List Int)):List (Option Vis):=r.1.map some++(if r.2=none then [none] else [])
structure WStep where
 k:Value
 v:Value
 c:Value
 nd:Nd
 at_:Nat
def wcells (X:List WStep):List Value:=X.flatMap fun x=> [.bool x.nd.lf,x.k,x.v,x.c,.int .i64 (x.at_:Int)]
def Slc (x:WStep):Prop:=(∃a n c,x.v= .slice a n c)/\∃a n c,x.c= .slice a n c
def WayAt (W:World) (B:Nat) (C:Nat->Prop) (v:Value) (way:List (Nd×Nat)):Prop:=
 ∃X:List WStep,X.map (fun x=>(x.nd,x.at_))=way/\W.ownsRow B 161 5 v way.length (wcells X)/\(∀j,v.ownBlock=some j->¬C j)/\
  ∀x∈X,W.ownsRow B 9 1 x.k x.nd.ks.length (strs x.nd.ks)/\(∀j,x.k.ownBlock=some j->¬C j)/\Slc x
def badVal:Value:= .agg #[.int .i64 0,.bool false,.slice none 0 0,.slice none 0 0,.slice none 0 0,.slice none 0 0]
def Lies (B:Nat) (x:Ev) (C:Nat->Prop) (W:World):Prop:=
 (x.ok=false->x.val=badVal)/\(x.ok=true->∃vk vv vc vw,x.val= .agg #[.int .i64 x.vis.page,.bool x.vis.nd.lf,vk,vv,vc,vw]/\NodeOwn W B (.agg #[.bool x.vis.nd.lf,vk,vv,vc]) x.vis.nd.lf x.vis.nd.ks x.vis.nd.vs x.vis.nd.cs/\(∀k,nodeBlocks (.agg #[.bool x.vis.nd.lf,vk,vv,vc]) k->¬C k)/\WayAt W B C vw x.vis.way)
def Typ (W:World) (j T:Nat):Prop:=∃cur fz,W.heap[j]?=some (.cells cur T fz)
theorem own_typ {W:World} {B e sz n:Nat} {v:Value} {xs:List Value} (h:W.ownsRow B e sz v n xs) {j:Nat} (hj:v.ownBlock=some j):Typ W j e:=by
 rcases h.2 with ⟨rfl,-⟩ | ⟨g,cap,cur,rfl,-,hh,-⟩
 ·cases hj
 ·injection hj with hj
  subst hj;exact ⟨cur,_,hh⟩
theorem typ_one {W:World} {j T T':Nat} (h:Typ W j T) (h':Typ W j T'):T=T':=by
 obtain ⟨c,f,h⟩:=h;obtain ⟨c',f',h'⟩:=h';rw [h] at h'
 cases h'
 rfl
theorem Tryz.step_ne:(161:Nat)≠158/\(161:Nat)≠3/\(9:Nat)≠158/\(9:Nat)≠3/\(3:Nat)≠158:=by decide
theorem way_kept {W W':World} {B:Nat} {C C' S:Nat->Prop} {v:Value} {way:List (Nd×Nat)} (h:WayAt W B C v way) (hk:KeptC S W W') (hS:∀j,S j->C j\/Typ W j 158\/Typ W j 3\/W.heap.size<=j) (hC:∀k,C' k->C k\/W.heap.size<=k):WayAt W' B C' v way:=by
 obtain ⟨X,e,h1,h2,h3⟩:=h
 refine ⟨X,e,own_kept h1 hk (fun j hj hs=> ?_),fun j hj hc=> ?_,fun x hx=>⟨own_kept (h3 x hx).1 hk (fun j hj hs=> ?_),fun j hj hc=> ?_,(h3 x hx).2.2⟩⟩
 ·rcases hS j hs with h | h | h | h
  ·exact h2 j hj h
  ·exact Tryz.step_ne.1 (typ_one (own_typ h1 hj) h)
  ·exact Tryz.step_ne.2.1 (typ_one (own_typ h1 hj) h)
  ·have:=(h1.lt j hj).2;omega
 ·rcases hC j hc with h | h
  ·exact h2 j hj h
  ·have:=(h1.lt j hj).2;omega
 ·rcases hS j hs with h | h | h | h
  ·exact (h3 x hx).2.1 j hj h
  ·exact Tryz.step_ne.2.2.1 (typ_one (own_typ (h3 x hx).1 hj) h)
  ·exact Tryz.step_ne.2.2.2.1 (typ_one (own_typ (h3 x hx).1 hj) h)
  ·have:=((h3 x hx).1.lt j hj).2;omega
 ·rcases hC j hc with h | h
  ·exact (h3 x hx).2.1 j hj h
  ·have:=((h3 x hx).1.lt j hj).2;omega
theorem lies_kept {B:Nat} {x:Ev} {C C':Nat->Prop} {A D:World} (h:Lies B x C A) (hk:KeptC C A D) (hC:∀k,C' k->C k\/A.heap.size<=k):Lies B x C' D:=⟨h.1,fun ok=>by
 obtain ⟨vk,vv,vc,vw,e,h1,h2,h3⟩:=h.2 ok
 refine ⟨vk,vv,vc,vw,e,nodeOwn_kept h1 hk h2,fun k hb hc=> ?_,way_kept h3 hk (fun j hj=>Or.inl hj) hC⟩
 rcases hC k hc with h | h
 ·exact h2 k hb h
 ·have:=(nodeOwn_lt h1 k hb).2;omega⟩
structure DSt (w W:World) (gw l:Nat) (vp vl:Value) (C:Nat->Prop) (s:List Int) (vs:Value):Prop where
 low:Below w.heap.size w W
 wk:W.heap[gw]?=some (.cells #[vp,vl,vs,.func (.yield l) #[] #[]] 158 (0,0))
 gc:¬C gw
 gn:w.heap.size<=gw
 row:W.ownsRow w.heap.size 3 1 vs s.length (ints s)
 rc:∀j,vs.ownBlock=some j->¬C j
theorem DSt.keep {w W W':World} {gw l:Nat} {vp vl:Value} {C C' S:Nat->Prop} {s:List Int} {vs:Value} (h:DSt w W gw l vp vl C s vs) (hk:KeptC S W W') (hS:∀j,S j->C j\/W.heap.size<=j) (hn:∀j,S j->w.heap.size<=j) (hC:∀k,C' k->C k\/W.heap.size<=k):DSt w W' gw l vp vl C' s vs where
 low:=h.low.trans (keptC_below hk hn h.low.size)
 wk:=(hk.2.2.2.2 gw (Array.getElem?_eq_some_iff.1 h.wk).1 (fun hs=>by
  rcases hS gw hs with x | x
  ·exact h.gc x
  ·have:=(Array.getElem?_eq_some_iff.1 h.wk).1;omega)).trans h.wk
 gc:=fun hc=>by
  rcases hC gw hc with x | x
  ·exact h.gc x
  ·have:=(Array.getElem?_eq_some_iff.1 h.wk).1;omega
 gn:=h.gn
 row:=own_kept h.row hk (fun j hj hs=>by
  rcases hS j hs with x | x
  ·exact h.rc j hj x
  ·have:=(h.row.lt j hj).2;omega)
 rc:=fun j hj hc=>by
  rcases hC j hc with x | x
  ·exact h.rc j hj x
  ·have:=(h.row.lt j hj).2;omega
def DBl (gw:Nat) (vs:Value) (C:Nat->Prop) (k:Nat):Prop:=C k\/k=gw\/vs.ownBlock=some k
def DPost (J Jx:List Ev->(Nat->Prop)->World->Prop) (w:World) (gw l:Nat) (vp vl:Value) (pre:List Ev) (C:Nat->Prop) (W:World) (vs:Value) (r:List Vis×Option (List Int)) (e:Ending) (W':World):Prop:=
 ∃(b:Bool) (q:List Ev) (C':Nat->Prop),e= .returned (.bool b)/\(∀k,C' k->C k\/W.heap.size<=k)/\KeptC (DBl gw vs C) W W'/\
  ((b=true/\∃s' vs',r.2=some s'/\q.map Ev.plain=r.1.map some/\J (pre++q) C' W'/\DSt w W' gw l vp vl C' s' vs'/\(∀j,vs'.ownBlock=some j->vs.ownBlock=some j\/W.heap.size<=j))\/
  (b=false/\r.2=none/\q.map Ev.plain=r.1.map some++ [none]/\J (pre++q) C' W')\/
  (b=false/\(∃t,q.map Ev.plain++t=evs r)/\Jx (pre++q) C' W'))
structure DCtx (w:World) (ps:List ByteArray) (ls:List (Int×ByteArray)) (vp vl:Value) (gw l:Nat) (J Jx:List Ev->(Nat->Prop)->World->Prop) (Sp:List Ev->Prop):Prop where
 hp:ps.length<=1048576
 hl:ls.length<=1048576
 hps:∀s∈ps,s.size<=1048576
 hls:∀p∈ls,p.2.size<=1048576
 tab:SumTab w
 disk:DiskAt w (.agg #[vp,vl]) ps ls
 abides:∀pre C A B,J pre C A->KeptC (fun k=>¬C k) A B->J pre C B
 inn:∀pre C A,J pre C A->∀k,C k->w.heap.size<=k/\k<A.heap.size
 yields:∀pre x C W1 m,Sp (pre++ [x])->J pre C W1->Lies w.heap.size x C W1->YieldAt Fence.wide m Tryz.prog l (encs x) W1 fun e W'=>∃C',KeptC C W1 W'/\(∀k,C' k->C k\/W1.heap.size<=k)/\
  ((e= .returned (.bool true)/\J (pre++ [x]) C' W')\/(e= .returned (.bool false)/\Jx (pre++ [x]) C' W'))
end Go.Proofs.YtjmgdmdleamenaaGreatDoor
