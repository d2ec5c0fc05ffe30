/-
  Facts and contracts that the law's own text rests on, by their texts' names: ImplRead, ShelfJoin, Keys13, ThingLaw3, SchIn.
-/
import Derived.Test.YtjmgdmdleamenaaGreatDoorSr34
import Derived.Shelf.Lays
import Derived.Shelf.LaysM
import Derived.Shelf.Strings.OnBuilder
import Derived.Test.YtjmgdmdleamenaaGreatDoorProg
import Derived.Test.YtjmgdmdleamenaaGreatDoorSr32
set_option maxHeartbeats 16000000
set_option maxRecDepth 100000
namespace Go.Proofs.YtjmgdmdleamenaaGreatDoor
open Go.RowKit
theorem implReadSchema_any (t:ByteArray) (ht:t.size<=1048576) (w:World):
  Calls Tryz.prog 122 #[.string t] w fun e w'=>∃v fs ok,e= .returned (.tuple #[v,.bool ok])/\w'.ownsRow w.heap.size 146 2 v fs.length (flds fs)/\ReadSch t fs ok/\Below w.heap.size w w':=by
 obtain ⟨i0,hi,hz0,hz1,hz2⟩:=info_parts Tryz.infoFld;have HOw:=hide (own_flds0 w w.heap.size (Nat.le_refl _))
 have HB0:Hid (∀o,Below w.heap.size w (w.alloc o)):=hide (fun o=>(Below.refl w.heap.size w).alloc (Nat.le_refl _) _)
 go_enter Tryz.func122,Tryz.ntmps122;go_wp2_with fail
 go_loopg [4,5] t.size (fun r ov pv wr=>∃(fs:List (ByteArray×Int)) (p:Nat),fs.length<=3/\p<=t.size/\pv= .int .i64 (p:Int)/\r+p=t.size/\wr.ownsRow w.heap.size 146 2 ov fs.length (flds fs)/\Hid (Below w.heap.size w wr)/\Hid (SchTry t fs p/\SchHas t fs p))
 case atStart=>exact ⟨[],0,by simp,by omega,rfl,by omega,HOw.out,hide (HB0.out _),hide ⟨schTry_nil t,schHas_nil t⟩⟩
 case round=>
  obtain ⟨fs,p,hfl,hp,rfl,hgk,hown,HB,HT⟩:=hrel;have HG:=hide hgk;have HOn:=hide hown;have hws:=HB.out.size
  obtain ⟨a,cap,hov⟩:∃a cap,u4= .slice a fs.length cap:=by obtain ⟨-,a,cap,e,-⟩:=row_of_own hown;exact ⟨a,cap,e⟩
  subst hov;clear hgk hown
  by_cases h1:p<t.size
  ·have HC:=hide (implReadShort_rd t ht (p+1))
   have hcast:((p+1:Nat):Int)=(p:Int)+1:=by omega
   rw [hcast] at HC
   cases ho:rdS t (p+1) with
   | none=>
    rw [ho,tupS] at HC;have HNo:Hid (∀gs,¬IsSch t gs):=hide (schTry_none HT.out.1 h1 ho);clear ho;go_wp2_with fail;refine (HC.out _).mono ?_;rintro e w2 ⟨rfl,hb2⟩;have HB2:Hid (Below w.heap.size w w2):=hide (HB.out.trans (hb2.mono HB.out.size));clear hb2;go_wp2_with fail;go_ret2;exact ⟨_,[],false,rfl,own_flds0 _ _ HB2.out.size,Or.inr ⟨rfl,rfl,HNo.out⟩,HB2.out.alloc HB2.out.size _⟩
   | some r=>
    obtain ⟨x,q⟩:=r;rw [ho,tupS] at HC;obtain ⟨k1,k2,-,-⟩:=rdS_back ho
    by_cases h3:fs.length=3
    ·have HNo:Hid (∀gs,¬IsSch t gs):=hide (schTry_full HT.out.1 h1 (by omega))
     have d3:((fs.length:Int) ==3)=true:=by rw [h3];rfl
     clear ho;go_wp2_with fail;refine (HC.out _).mono ?_;rintro e w2 ⟨rfl,hb2⟩;have HB2:Hid (Below w.heap.size w w2):=hide (HB.out.trans (hb2.mono HB.out.size));clear hb2;go_wp2_with fail;go_ret2;exact ⟨_,[],false,rfl,own_flds0 _ _ HB2.out.size,Or.inr ⟨rfl,rfl,HNo.out⟩,HB2.out.alloc HB2.out.size _⟩
    ·have d3:((fs.length:Int) ==3)=false:=by simp;omega
     have d3':decide (fs.length=3)=false:=by simp;omega
     obtain ⟨y,hy⟩:∃y,y=byt t p:=⟨_,rfl⟩
     have hyb:y<256:=by rw [hy];exact byt_lt t _
     have hs1:t[p].toNat=y:=by rw [hy];exact byt_eq t _ h1
     have HT2:Hid (SchTry t (fs++ [(x,(y:Int))]) q/\SchHas t (fs++ [(x,(y:Int))]) q):=hide (by rw [hy];exact ⟨schTry_some HT.out.1 h1 ho,schHas_some HT.out.2 h1 ho⟩)
     have hp0:(0:Int)<=(p:Int):=by omega
     have hp1:(p:Int)<(t.size:Int):=by omega
     clear ho hy;go_wp2_with fail;refine (HC.out _).mono ?_;rintro e w2 ⟨rfl,hb2⟩;have HB2:Hid (Below w.heap.size w w2):=hide (HB.out.trans (hb2.mono HB.out.size));have HO2:=hide (own_stays HOn.out hb2);have hws2:=HB2.out.size;clear hb2
     go_wp2_with (at_builtin;(refine wpList_append_row _ rfl _ _ 99 rfl w.heap.size 146 i0 (.agg #[.string ⟨#[]⟩,.int .i64 0]) 2 24 Tryz.underlying99 hi hz0 hz1 hz2 rfl (by decide) _ _ _ rfl (HO2.out.alloc _) _ 1 (flds [(x,(y:Int))]) rfl (fld_new w2 x (y:Int)) (flds_one _) ?_ ?_ ?_ ?_))
     ·unfold maxLen;omega
     ·omega
     ·simp;omega
     intro y6 d6 w6 hown6 hg6
     have hown7:w6.ownsRow w.heap.size 146 2 (.slice y6 (fs.length+1) d6) (fs++ [(x,(y:Int))]).length (flds (fs++ [(x,(y:Int))])):=by
      rw [<-flds_snoc,List.length_append];exact hown6
     have HB6:Hid (Below w.heap.size w w6):=hide ((HB2.out.alloc hws2 _).grown hg6 (by simp;omega) (fun k hk=>(HO2.out.lt k hk).1))
     clear hown6 hg6;go_wp2_with fail
     go_roundg (gk - (q - p))
     case measure=>have:=HG.out;omega
     case rel=>exact ⟨fs++ [(x,(y:Int))],q,by simp;omega,k2,rfl,by have:=HG.out;omega,hown7,HB6,HT2⟩
  ·have HE:Hid (∀gs,IsSch t gs->gs=fs):=hide (schTry_end HT.out.1 (by omega))
   have HTx:Hid (schT fs=t):=hide (by rw [HT.out.2.2.1,extract_allT t p (by omega)])
   have HSp:=hide (implSchemaOk_any fs (by omega) (fun f hf=>Nat.le_trans (HT.out.2.2.2 f hf) (by omega)) (.slice a fs.length cap) wr (row_of_own HOn.out))
   cases hok:schemaOkB fs with
   | false=>
    rw [hok] at HSp
    have HNo:Hid (∀gs,¬IsSch t gs):=hide (fun gs hg=>by
     have:=HE.out gs hg;subst this
     rw [hg.1] at hok;cases hok)
    clear hok;go_wp2_with fail;refine HSp.out.mono ?_;rintro e w2 ⟨rfl,hb2⟩;have HB2:Hid (Below w.heap.size w w2):=hide (HB.out.trans (hb2.mono HB.out.size));clear hb2;go_wp2_with fail;go_ret2;exact ⟨_,[],false,rfl,own_flds0 _ _ HB2.out.size,Or.inr ⟨rfl,rfl,HNo.out⟩,HB2.out.alloc HB2.out.size _⟩
   | true=>
    rw [hok] at HSp;have HYs:Hid (IsSch t fs):=hide ⟨hok,HTx.out⟩;clear hok;go_wp2_with fail;refine HSp.out.mono ?_;rintro e w2 ⟨rfl,hb2⟩;have HB2:Hid (Below w.heap.size w w2):=hide (HB.out.trans (hb2.mono HB.out.size));have HO2:=hide (own_stays HOn.out hb2);clear hb2;go_wp2_with fail;go_ret2;exact ⟨_,fs,true,rfl,HO2.out,Or.inl ⟨rfl,HYs.out,HE.out⟩,HB2.out⟩
def tupVal:Option ((Int×ByteArray)×Nat)->Value
 | some (u,q)=> .tuple #[.agg #[.int .i64 u.1,.string u.2],.int .i64 (q:Int),.bool true]
 | none=> .tuple #[.agg #[.int .i64 0,.string ⟨#[]⟩],.int .i64 0,.bool false]
theorem two_sets {w:World} {g:Nat} {a b u0 u1:Value} {T:TypeId} (h:w.heap[g]?=some (.cells #[a,b] T (0,0))):((w.setCell ⟨g,0,none⟩ u0).setCell ⟨g,1,none⟩ u1).heap[g]?=some (.cells #[u0,u1] T (0,0)):=
 heap_setCell_same (w.setCell ⟨g,0,none⟩ u0) g 1 _ _ _ (heap_setCell_same w g 0 _ _ _ h)
theorem readValue_any (kind:Int) (t:ByteArray) (ht:t.size<=1048576) (p:Nat) (w:World):
  Calls Tryz.prog 124 #[.int .i64 kind,.string t,.int .i64 (p:Int)] w fun e w'=>e= .returned (tupVal (rdVal kind t p))/\Below w.heap.size w w':=by
 obtain ⟨w0,hw0⟩:∃w0,w0=w.alloc (Obj.cells #[.int .i64 0,.string ⟨#[]⟩] 144):=⟨_,rfl⟩
 have HB:Hid (Below w.heap.size w w0):=hide (by rw [hw0];exact (Below.refl w.heap.size w).alloc (Nat.le_refl _) _)
 have HBk:Hid (w0.heap[w.heap.size]?=some (Obj.cells #[.int .i64 0,.string ⟨#[]⟩] 144)):=hide (by rw [hw0];exact heap_alloc_new w _)
 by_cases hk:kind=1
 ·subst hk
  have HC:=hide (implReadVar_rd t ht p);rw [rdVal,if_pos rfl]
  cases ho:rdV t p with
  | none=>
   rw [ho,tupV] at HC
   simp only [Option.map_none,tupVal]
   clear ho;go_enter Tryz.func124,Tryz.ntmps124;go_wp2_with fail;rw [<-hw0];refine (HC.out _).mono ?_;rintro e w1 ⟨rfl,hb1⟩;have hblk1:=(hb1.block _ (Array.getElem?_eq_some_iff.1 HBk.out).1).trans HBk.out;have hfin:=two_sets (u0:= .int .i64 0) (u1:= .string ⟨#[]⟩) hblk1;have z0:=(cell_at hfin 0).1;have z1:=(cell_at hfin 1).1;have HZ:=hide (⟨z0,z1⟩:_/\_);have r0:w1.cell? ⟨w.heap.size,0,none⟩=some (.int .i64 0):=(cell_at hblk1 0).1;have r1:w1.cell? ⟨w.heap.size,1,none⟩=some (.string ⟨#[]⟩):=(cell_at hblk1 1).1;have q0:=(cell_at hblk1 0).2;have q1:=(cell_at hblk1 1).2;have HB1:Hid (Below w.heap.size w w1):=hide (HB.out.trans (hb1.mono HB.out.size));clear hw0 hfin z0 z1 hblk1 hb1;go_wp2_with fail;have z0:=HZ.out.1;have z1:=HZ.out.2
   exact bodyPost_ret (v:= .tuple #[.agg #[.int .i64 0,.string ⟨#[]⟩],.int .i64 0,.bool false]) (by simp [results,Tryz.results124,go_sem,z0,z1]) rfl ⟨rfl,(HB1.out.setCell (Nat.le_refl _) _).setCell (Nat.le_refl _) _⟩
  | some r=>
   obtain ⟨n,q⟩:=r;rw [ho,tupV] at HC
   simp only [Option.map_some,tupVal]
   clear ho;go_enter Tryz.func124,Tryz.ntmps124;go_wp2_with fail;rw [<-hw0];refine (HC.out _).mono ?_;rintro e w1 ⟨rfl,hb1⟩;have hblk1:=(hb1.block _ (Array.getElem?_eq_some_iff.1 HBk.out).1).trans HBk.out;have hfin:=two_sets (u0:= .int .i64 (n:Int)) (u1:= .string ⟨#[]⟩) hblk1;have z0:=(cell_at hfin 0).1;have z1:=(cell_at hfin 1).1;have HZ:=hide (⟨z0,z1⟩:_/\_);have r0:w1.cell? ⟨w.heap.size,0,none⟩=some (.int .i64 0):=(cell_at hblk1 0).1;have r1:w1.cell? ⟨w.heap.size,1,none⟩=some (.string ⟨#[]⟩):=(cell_at hblk1 1).1;have q0:=(cell_at hblk1 0).2;have q1:=(cell_at hblk1 1).2;have HB1:Hid (Below w.heap.size w w1):=hide (HB.out.trans (hb1.mono HB.out.size));clear hw0 hfin z0 z1 hblk1 hb1;go_wp2_with fail;have z0:=HZ.out.1;have z1:=HZ.out.2
   exact bodyPost_ret (v:= .tuple #[.agg #[.int .i64 (n:Int),.string ⟨#[]⟩],.int .i64 (q:Int),.bool true]) (by simp [results,Tryz.results124,go_sem,z0,z1]) rfl ⟨rfl,(HB1.out.setCell (Nat.le_refl _) _).setCell (Nat.le_refl _) _⟩
 ·have HC:=hide (implReadShort_rd t ht p)
  have d1:(kind ==1)=false:=by simp [hk]
  have d2:decide (kind=1)=false:=by simp [hk]
  rw [rdVal,if_neg hk];clear hk
  cases ho:rdS t p with
  | none=>
   rw [ho,tupS] at HC
   simp only [Option.map_none,tupVal]
   clear ho;go_enter Tryz.func124,Tryz.ntmps124;go_wp2_with fail;rw [<-hw0];refine (HC.out _).mono ?_;rintro e w1 ⟨rfl,hb1⟩;have hblk1:=(hb1.block _ (Array.getElem?_eq_some_iff.1 HBk.out).1).trans HBk.out;have hfin:=two_sets (u0:= .int .i64 0) (u1:= .string ⟨#[]⟩) hblk1;have z0:=(cell_at hfin 0).1;have z1:=(cell_at hfin 1).1;have HZ:=hide (⟨z0,z1⟩:_/\_);have r0:w1.cell? ⟨w.heap.size,0,none⟩=some (.int .i64 0):=(cell_at hblk1 0).1;have r1:w1.cell? ⟨w.heap.size,1,none⟩=some (.string ⟨#[]⟩):=(cell_at hblk1 1).1;have q0:=(cell_at hblk1 0).2;have q1:=(cell_at hblk1 1).2;have HB1:Hid (Below w.heap.size w w1):=hide (HB.out.trans (hb1.mono HB.out.size));clear hw0 hfin z0 z1 hblk1 hb1;go_wp2_with fail;have z0:=HZ.out.1;have z1:=HZ.out.2
   exact bodyPost_ret (v:= .tuple #[.agg #[.int .i64 0,.string ⟨#[]⟩],.int .i64 0,.bool false]) (by simp [results,Tryz.results124,go_sem,z0,z1]) rfl ⟨rfl,(HB1.out.setCell (Nat.le_refl _) _).setCell (Nat.le_refl _) _⟩
  | some r=>
   obtain ⟨x,q⟩:=r;rw [ho,tupS] at HC
   simp only [Option.map_some,tupVal]
   clear ho;go_enter Tryz.func124,Tryz.ntmps124;go_wp2_with fail;rw [<-hw0];refine (HC.out _).mono ?_;rintro e w1 ⟨rfl,hb1⟩;have hblk1:=(hb1.block _ (Array.getElem?_eq_some_iff.1 HBk.out).1).trans HBk.out;have hfin:=two_sets (u0:= .int .i64 0) (u1:= .string x) hblk1;have z0:=(cell_at hfin 0).1;have z1:=(cell_at hfin 1).1;have HZ:=hide (⟨z0,z1⟩:_/\_);have r0:w1.cell? ⟨w.heap.size,0,none⟩=some (.int .i64 0):=(cell_at hblk1 0).1;have r1:w1.cell? ⟨w.heap.size,1,none⟩=some (.string ⟨#[]⟩):=(cell_at hblk1 1).1;have q0:=(cell_at hblk1 0).2;have q1:=(cell_at hblk1 1).2;have HB1:Hid (Below w.heap.size w w1):=hide (HB.out.trans (hb1.mono HB.out.size));clear hw0 hfin z0 z1 hblk1 hb1;go_wp2_with fail;have z0:=HZ.out.1;have z1:=HZ.out.2
   exact bodyPost_ret (v:= .tuple #[.agg #[.int .i64 0,.string x],.int .i64 (q:Int),.bool true]) (by simp [results,Tryz.results124,go_sem,z0,z1]) rfl ⟨rfl,(HB1.out.setCell (Nat.le_refl _) _).setCell (Nat.le_refl _) _⟩
end Go.Proofs.YtjmgdmdleamenaaGreatDoor
namespace Go.Proofs
open Go.Shelf
def Tryz.lays156_ren:Go.Shelf.Ren:=⟨fun | 156=>180 | 165=>195 | 166=>196 | 169=>197 | 240=>200 | 241=>201 | 276=>202 | 277=>203 | n=>n,fun | 31=>22 | 9=>9 | 3=>3 | 4=>4 | 0=>0 | 20=>20 | 72=>256 | 76=>260 | 70=>254 | 37=>183 | 75=>259 | 127=>251 | 164=>265 | 5=>5 | 80=>231 | n=>n,fun | n=>n⟩
theorem Tryz.lays156:Go.Proofs.Lays.n156 Tryz.prog Tryz.lays156_ren:={
 mixed:=by kernel_rfl
 f156:=Tryz.func180.trans (congrArg some (by kernel_rfl))
 f165:=Tryz.func195.trans (congrArg some (by kernel_rfl))
 f166:=Tryz.func196.trans (congrArg some (by kernel_rfl))
 f169:=Tryz.func197.trans (congrArg some (by kernel_rfl))
 f240:=Tryz.func200.trans (congrArg some (by kernel_rfl))
 f241:=Tryz.func201.trans (congrArg some (by kernel_rfl))
 f276:=Tryz.func202.trans (congrArg some (by kernel_rfl))
 f277:=Tryz.func203.trans (congrArg some (by kernel_rfl))
 t0:=Tryz.underlying0
 a0:=Tryz.isAgg0
 z0:=Tryz.sizeOf0
 v0:=Tryz.zeroValue0
 t3:=Tryz.underlying3
 a3:=Tryz.isAgg3
 z3:=Tryz.sizeOf3
 v3:=Tryz.zeroValue3
 t4:=Tryz.underlying4
 a4:=Tryz.isAgg4
 z4:=Tryz.sizeOf4
 v4:=Tryz.zeroValue4
 t9:=Tryz.underlying9
 a9:=Tryz.isAgg9
 z9:=Tryz.sizeOf9
 v9:=Tryz.zeroValue9
 t20:=Tryz.underlying20
 a20:=Tryz.isAgg20
 z20:=Tryz.sizeOf20
 v20:=Tryz.zeroValue20
 t31:=Tryz.underlying22
 a31:=Tryz.isAgg22
 z31:=Tryz.sizeOf22
 v31:=Tryz.zeroValue22
 t37:=Tryz.underlying183
 a37:=Tryz.isAgg183
 z37:=Tryz.sizeOf183
 v37:=Tryz.zeroValue183
 t70:=Tryz.underlying254
 a70:=Tryz.isAgg254
 z70:=Tryz.sizeOf254
 v70:=Tryz.zeroValue254
 t72:=Tryz.underlying256
 a72:=Tryz.isAgg256
 z72:=Tryz.sizeOf256
 v72:=Tryz.zeroValue256
 t75:=Tryz.underlying259
 a75:=Tryz.isAgg259
 z75:=Tryz.sizeOf259
 v75:=Tryz.zeroValue259
 t76:=Tryz.underlying260
 a76:=Tryz.isAgg260
 z76:=Tryz.sizeOf260
 v76:=Tryz.zeroValue260
 t127:=Tryz.underlying251
 a127:=Tryz.isAgg251
 z127:=Tryz.sizeOf251
 v127:=Tryz.zeroValue251
 t164:=Tryz.underlying265
 a164:=Tryz.isAgg265
 z164:=Tryz.sizeOf265
 v164:=Tryz.zeroValue265}
theorem Tryz.Builder_Extra_156:Builder.Extra Tryz.prog Tryz.lays156_ren:={
 sizeBuilder:=by kernel_rfl
 liesBuilder:=by kernel_rfl
 t5:=Tryz.underlying5
 a5:=Tryz.isAgg5
 z5:=Tryz.sizeOf5
 v5:=Tryz.zeroValue5
 infoByte:=by kernel_rfl
 cellsByte:=by kernel_rfl
 sizeByte:=by kernel_rfl
 neB5:=by decide}
open Go.RowKit in
theorem Tryz.strings_Join (bk o c:Nat) (xs:List ByteArray) (sep:ByteArray) (w:World) (hcells:∀(j:Nat) x,xs[j]?=some x->w.cell? ⟨bk,o+j,none⟩=some (.string x)) (hbk:bk<w.heap.size) (hN:xs.length<=140737488355328) (hcap:xs.length<=c) (hlen:(Lib.join (xs.map (·.data.toList)) sep.data.toList).length<=140737488355328):
  Calls Tryz.prog 180 #[.slice (some ⟨bk,o,none⟩) xs.length c,.string sep] w fun e w'=>e= .returned (.string ⟨(Lib.join (xs.map (·.data.toList)) sep.data.toList).toArray⟩)/\Below w.heap.size w w':=Any.strings_Join Tryz.lays156 Tryz.Builder_Extra_156 bk o c xs sep w hcells hbk hN hcap hlen
end Go.Proofs
namespace Go.Proofs.YtjmgdmdleamenaaGreatDoor
open Go.RowKit
def schK (c:ByteArray):ByteArray:=⟨#[115]⟩++c
def idxK (c f o k:ByteArray):ByteArray:=⟨#[105]⟩++c++⟨#[0]⟩++f++⟨#[0]⟩++o++k
theorem ba_of (l:List UInt8) (J:ByteArray) (h:l=J.data.toList):(⟨l.toArray⟩:ByteArray)=J:=by
 cases J with | mk d=>subst h;simp
theorem ba_list (a b:ByteArray):(a++b).data.toList=a.data.toList++b.data.toList:=by simp
theorem join_1 (x:ByteArray):(⟨(Lib.join ([x].map (·.data.toList)) (⟨#[0]⟩:ByteArray).data.toList).toArray⟩:ByteArray)=x:=
 ba_of _ _ (by simp [Lib.join,List.intercalate])
theorem join_3 (x y z:ByteArray):(⟨(Lib.join ([x,y,z].map (·.data.toList)) (⟨#[0]⟩:ByteArray).data.toList).toArray⟩:ByteArray)=x++⟨#[0]⟩++y++⟨#[0]⟩++z:=
 ba_of _ _ (by rw [ba_list,ba_list,ba_list,ba_list];simp [Lib.join,List.intercalate])
theorem size_of {l:List UInt8} {J:ByteArray} (h:(⟨l.toArray⟩:ByteArray)=J):l.length=J.size:=by
 subst h;simp [ByteArray.size]
theorem ba_assoc (a b c:ByteArray):a++(b++c)=a++b++c:=by
 rw [ByteArray.append_assoc]
theorem markedKey_any (m:ByteArray) (bk o c:Nat) (xs:List ByteArray) (J:ByteArray) (w:World) (hcells:∀(j:Nat) x,xs[j]?=some x->w.cell? ⟨bk,o+j,none⟩=some (.string x))
  (hbk:bk<w.heap.size) (hN:xs.length<=1000) (hcap:xs.length<=c) (hJ:(⟨(Lib.join (xs.map (·.data.toList)) (⟨#[0]⟩:ByteArray).data.toList).toArray⟩:ByteArray)=J) (hs:J.size<=10000000) (hm:m.size<=10):
  Calls Tryz.prog 147 #[.string m,.slice (some ⟨bk,o,none⟩) xs.length c] w fun e w'=>e= .returned (.string (m++J))/\Below w.heap.size w w':=by
 have HC:=hide (Tryz.strings_Join bk o c xs ⟨#[0]⟩ w hcells hbk (by omega) hcap (by rw [size_of hJ];omega))
 rw [hJ] at HC
 have ha:∀wx:World,(Op.stringOp .add m J).run Tryz.prog wx= .ok (.string (m++J)) wx:=fun wx=>run_string_add_sum wx _ _ (by omega)
 clear hcells hbk hcap hJ;obtain ⟨n,hn⟩:∃n,n=xs.length:=⟨_,rfl⟩;rw [<-hn] at HC hN⊢;clear hn;go_enter Tryz.func147,Tryz.ntmps147
 go_wp2_with (go_at_call 180;refine HC.out.mono ?_;rintro e w1 ⟨rfl,hb⟩;have HB:=hide hb;clear hb)
 go_ret;exact ⟨rfl,HB.out⟩
theorem implSchemaKey_any (c:ByteArray) (hc:c.size<=1048576) (w:World):
  Calls Tryz.prog 121 #[.string c] w fun e w'=>e= .returned (.string (schK c))/\Below w.heap.size w w':=by
 obtain ⟨w0,hw0⟩:∃w0,w0=w.alloc (Obj.cells #[.string c] 9):=⟨_,rfl⟩
 have hblk:w0.heap[w.heap.size]?=some (Obj.cells #[.string c] 9):=by rw [hw0];exact heap_alloc_new w _
 have HB:Hid (Below w.heap.size w w0):=hide (by rw [hw0];exact (Below.refl w.heap.size w).alloc (Nat.le_refl _) _)
 have hsz:w0.heap.size=w.heap.size+1:=by rw [hw0];simp
 have HC:=hide (markedKey_any ⟨#[115]⟩ w.heap.size 0 1 [c] c w0 (fun j x h=>by
  match j,h with
  | 0,h=>cases h;exact (cell_at hblk 0).1) (by omega) (by simp) (by simp) (join_1 c) (by omega) (by decide))
 rw [hw0] at HC HB;clear hw0 hblk hsz;go_enter Tryz.func121,Tryz.ntmps121
 go_wp2_with (go_at_call 147;refine HC.out.mono ?_;rintro e w1 ⟨rfl,hb⟩;have HB1:=hide hb;clear hb)
 go_ret;exact ⟨rfl,HB.out.trans (HB1.out.mono HB.out.size)⟩
theorem implIndexKey_any (c f o k:ByteArray) (hc:c.size<=1048576) (hf:f.size<=1048576) (ho:o.size<=1048576) (hk:k.size<=1048576) (w:World):
  Calls Tryz.prog 127 #[.string c,.string f,.string o,.string k] w fun e w'=>e= .returned (.string (idxK c f o k))/\Below w.heap.size w w':=by
 have ha:∀wx:World,(Op.stringOp .add o k).run Tryz.prog wx= .ok (.string (o++k)) wx:=fun wx=>run_string_add_sum wx _ _ (by omega)
 obtain ⟨w0,hw0⟩:∃w0,w0=w.alloc (Obj.cells #[.string c,.string f,.string (o++k)] 9):=⟨_,rfl⟩
 have hblk:w0.heap[w.heap.size]?=some (Obj.cells #[.string c,.string f,.string (o++k)] 9):=by rw [hw0];exact heap_alloc_new w _
 have HB:Hid (Below w.heap.size w w0):=hide (by rw [hw0];exact (Below.refl w.heap.size w).alloc (Nat.le_refl _) _)
 have hsz:w0.heap.size=w.heap.size+1:=by rw [hw0];simp
 have HC:=hide (markedKey_any ⟨#[105]⟩ w.heap.size 0 3 [c,f,o++k] (c++⟨#[0]⟩++f++⟨#[0]⟩++(o++k)) w0 (fun j x h=>by
  match j,h with
  | 0,h=>cases h;exact (cell_at hblk 0).1
  | 1,h=>cases h;exact (cell_at hblk 1).1
  | 2,h=>cases h;exact (cell_at hblk 2).1) (by omega) (by simp) (by simp) (join_3 c f (o++k)) (by rw [ByteArray.size_append,ByteArray.size_append,ByteArray.size_append,ByteArray.size_append,ByteArray.size_append];show c.size+1+f.size+1+(o.size+k.size)<=_;omega) (by decide))
 rw [hw0] at HC HB;clear hw0 hblk hsz
 have HE:Hid ((⟨#[105]⟩:ByteArray)++(c++⟨#[0]⟩++f++⟨#[0]⟩++(o++k))=idxK c f o k):=hide (by rw [idxK,ba_assoc,ba_assoc,ba_assoc,ba_assoc,ba_assoc])
 go_enter Tryz.func127,Tryz.ntmps127
 go_wp2_with (go_at_call 147;refine HC.out.mono ?_;rintro e w1 ⟨rfl,hb⟩;have HB1:=hide hb;clear hb)
 go_ret;rw [<-HE.out];exact ⟨rfl,HB.out.trans (HB1.out.mono HB.out.size)⟩
theorem specSchemaKey_any (c:ByteArray) (hc:c.size<=1048576) (w:World):
  Calls Tryz.prog 70 #[.string c] w fun e w'=>e= .returned (.string (schK c))/\w=w':=by
 have ha:∀wx:World,(Op.stringOp .add ⟨#[115]⟩ c).run Tryz.prog wx= .ok (.string (⟨#[115]⟩++c)) wx:=fun wx=>run_string_add_sum wx _ _ (by show 1+c.size<=_;omega)
 go_enter Tryz.func70,Tryz.ntmps70
 go_wp2
 go_ret;exact ⟨rfl,rfl⟩
theorem specIndexKey_any (c f o k:ByteArray) (hc:c.size<=1048576) (hf:f.size<=1048576) (ho:o.size<=1048576) (hk:k.size<=1048576) (w:World):
  Calls Tryz.prog 76 #[.string c,.string f,.string o,.string k] w fun e w'=>e= .returned (.string (idxK c f o k))/\w=w':=by
 have ha1:∀wx:World,(Op.stringOp .add ⟨#[105]⟩ c).run Tryz.prog wx= .ok (.string (⟨#[105]⟩++c)) wx:=fun wx=>run_string_add_sum wx _ _ (by show 1+c.size<=_;omega)
 have ha2:∀wx:World,(Op.stringOp .add (⟨#[105]⟩++c) ⟨#[0]⟩).run Tryz.prog wx= .ok (.string (⟨#[105]⟩++c++⟨#[0]⟩)) wx:=fun wx=>run_string_add_sum wx _ _ (by rw [ByteArray.size_append];show 1+c.size+1<=_;omega)
 have ha3:∀wx:World,(Op.stringOp .add (⟨#[105]⟩++c++⟨#[0]⟩) f).run Tryz.prog wx= .ok (.string (⟨#[105]⟩++c++⟨#[0]⟩++f)) wx:=fun wx=>run_string_add_sum wx _ _ (by rw [ByteArray.size_append,ByteArray.size_append];show 1+c.size+1+f.size<=_;omega)
 have ha4:∀wx:World,(Op.stringOp .add (⟨#[105]⟩++c++⟨#[0]⟩++f) ⟨#[0]⟩).run Tryz.prog wx= .ok (.string (⟨#[105]⟩++c++⟨#[0]⟩++f++⟨#[0]⟩)) wx:=fun wx=>run_string_add_sum wx _ _ (by rw [ByteArray.size_append,ByteArray.size_append,ByteArray.size_append];show 1+c.size+1+f.size+1<=_;omega)
 have ha5:∀wx:World,(Op.stringOp .add (⟨#[105]⟩++c++⟨#[0]⟩++f++⟨#[0]⟩) o).run Tryz.prog wx= .ok (.string (⟨#[105]⟩++c++⟨#[0]⟩++f++⟨#[0]⟩++o)) wx:=fun wx=>run_string_add_sum wx _ _ (by rw [ByteArray.size_append,ByteArray.size_append,ByteArray.size_append,ByteArray.size_append];show 1+c.size+1+f.size+1+o.size<=_;omega)
 have ha6:∀wx:World,(Op.stringOp .add (⟨#[105]⟩++c++⟨#[0]⟩++f++⟨#[0]⟩++o) k).run Tryz.prog wx= .ok (.string (⟨#[105]⟩++c++⟨#[0]⟩++f++⟨#[0]⟩++o++k)) wx:=fun wx=>run_string_add_sum wx _ _ (by rw [ByteArray.size_append,ByteArray.size_append,ByteArray.size_append,ByteArray.size_append,ByteArray.size_append];show 1+c.size+1+f.size+1+o.size+k.size<=_;omega)
 go_enter Tryz.func76,Tryz.ntmps76
 go_wp2
 go_ret;exact ⟨rfl,rfl⟩
open Go.RowKit
theorem readSch_len {t:ByteArray} {fs:List (ByteArray×Int)} {ok:Bool} (h:ReadSch t fs ok):fs.length<=3:=by
 rcases h with ⟨-,h,-⟩ | ⟨-,rfl,-⟩
 ·exact (schema_yes h.1).2.1
 ·simp
open Go.RowKit
def SchIn (r:Option ByteArray) (fs:List (ByteArray×Int)) (ok:Bool):Prop:=
 match r with
 | none=>fs= []/\ok=false
 | some t=>ReadSch t fs ok
theorem schIn_one {r:Option ByteArray} {fs gs:List (ByteArray×Int)} {ok ko:Bool} (h:SchIn r fs ok) (k:SchIn r gs ko):fs=gs/\ok=ko:=by
 cases r with
 | none=>exact ⟨by rw [h.1,k.1],by rw [h.2,k.2]⟩
 | some t=>exact readSch_one h k
theorem schIn_len {r:Option ByteArray} {fs:List (ByteArray×Int)} {ok:Bool} (h:SchIn r fs ok):fs.length<=3:=by
 cases r with
 | none=>rw [h.1];exact Nat.zero_le _
 | some t=>exact readSch_len h
theorem getL_size (D:Int->ByteArray) (key:ByteArray):∀(k:Nat) (p:Int) (t:ByteArray),getL D key k p=some t->t.size<=24
 | 0,_,_,h=>by cases h
 | k+1,p,t,h=>by
  rw [getL] at h
  split at h
  ·cases h
  ·rename_i h0
   split at h
   ·split at h
    ·injection h with h
     subst h
     have hb:(rdN (D p)).2=true:=by
      cases e:(rdN (D p)).2 with
      | true=>rfl
      | false=>exact absurd (Or.inl e) h0
     have hok:(rdN (D p)).1.ok=true:=rdN_ok (n:=(rdN (D p)).1) (by rw [<-hb])
     rw [Nd.ok,nodeOkB,Bool.and_eq_true,Bool.and_eq_true,Bool.and_eq_true] at hok;have hv:=of_decide_eq_true hok.1.2
     generalize (placeK (rdN (D p)).1.ks key (rdN (D p)).1.ks.length).toNat=i
     by_cases hi:i<(rdN (D p)).1.vs.length
     ·exact hv i hi
     ·simp [List.getD,List.getElem?_eq_none (by omega:(rdN (D p)).1.vs.length<=i)];decide
    ·cases h
   ·exact getL_size D key k _ t h
theorem getK_size {D:Int->ByteArray} {root:Int} {key t:ByteArray} (h:getK D root key=some t):t.size<=24:=by
 unfold getK at h
 split at h
 ·cases h
 ·exact getL_size D key 8 root t h
theorem ownsRow_mono {w:World} {B B' T k:Nat} {v:Value} {n:Nat} {xs:List Value} (h:w.ownsRow B T k v n xs) (hb:B'<=B):w.ownsRow B' T k v n xs:=by
 refine ⟨h.1,?_⟩
 rcases h.2 with h | ⟨g,cap,cur,rfl,hg,rest⟩
 ·exact Or.inl h
 ·exact Or.inr ⟨g,cap,cur,rfl,Nat.le_trans hb hg,rest⟩
theorem implSchemaIn_any (v:Value) (ps:List ByteArray) (ls:List (Int×ByteArray)) (hp:ps.length<=1048576) (hl:ls.length<=1048576) (hps:∀s∈ps,s.size<=1048576) (hls:∀p∈ls,p.2.size<=1048576) (root:Int) (coll:ByteArray) (hc:coll.size<=1048576) (w:World) (hT:SumTab w) (hd:DiskAt w v ps ls):
  Calls Tryz.prog 86 #[v,.int .i64 root,.string coll] w fun e w'=>∃u fs ok,e= .returned (.tuple #[u,.bool ok])/\w'.ownsRow w.heap.size 146 2 u fs.length (flds fs)/\SchIn (getK (readD ps ls) root (schK coll)) fs ok/\Below w.heap.size w w':=by
 have HD:=hide hd;have HT:=hide hT;clear hT;obtain ⟨vp,vl,rfl,-,-⟩:=hd;obtain ⟨w0,hw0⟩:∃w0,w0=w.alloc (Obj.cells #[vp,vl] 41):=⟨_,rfl⟩
 have HB0:Hid (Below w.heap.size w w0):=hide (by rw [hw0];exact (Below.refl w.heap.size w).alloc (Nat.le_refl _) _)
 have hq0:w0.heap[w.heap.size]?=some (Obj.cells #[vp,vl] 41):=by rw [hw0];exact heap_alloc_new w _
 have HSB:Hid (∀wx,Below w0.heap.size w0 wx->wx.cell? ⟨w.heap.size,0,none⟩=some vp/\wx.cell? ⟨w.heap.size,1,none⟩=some vl):=hide (fun wx hb=>by
  have h:=(hb.block w.heap.size (Array.getElem?_eq_some_iff.1 hq0).1).trans hq0
  exact ⟨(cell_at h 0).1,(cell_at h 1).1⟩)
 have hS0:=HSB.out w0 (Below.refl _ _)
 have HC1:=hide (fun wx=>implSchemaKey_any coll hc wx)
 have HC2:=hide (fun wx ht h=>implGetKey_any (.agg #[vp,vl]) ps ls hp hl hps hls root (schK coll) wx ht h)
 clear hq0 hp hl hps hls
 cases hr:getK (readD ps ls) root (schK coll) with
 | none=>
  rw [hr,getO] at HC2;clear hr;go_enter Tryz.func86,Tryz.ntmps86;go_wp2_with fail;rw [<-hw0];clear hw0
  go_region_held3 (fun wx=>wx.cell? ⟨w.heap.size,0,none⟩=some vp/\wx.cell? ⟨w.heap.size,1,none⟩=some vl) (first | exact hS0 | exact hS1 | exact hS2) (first | (go_at_call 121;(with_reducible refine (HC1.out _).mono ?_);rintro e w1 ⟨rfl,hb1⟩;have hA1:Below w0.heap.size w0 w1:=(Below.refl _ _).drew.trans hb1;have hS1:=HSB.out _ hA1) | (go_at_call 120;have hgE:=hA1;(with_reducible refine (HC2.out _ ?_ ?_).mono ?_);exact sumTab_below HT.out (HB0.out.trans (hA1.mono HB0.out.size));exact disk_below HD.out (HB0.out.trans (hA1.mono HB0.out.size));rintro e w2 ⟨rfl,hb2⟩;have hA2:Below w0.heap.size w0 w2:=hA1.trans (hb2.mono hA1.size);have hS2:=HSB.out _ hA2))
  have HB2:Hid (Below w.heap.size w w2):=hide (HB0.out.trans (hA2.mono HB0.out.size));clear hA1 hA2 hb2 hS0 hS1 hS2 HSB hb1;go_wp2_with fail;go_ret2;exact ⟨_,[],false,rfl,own_flds0 _ _ HB2.out.size,⟨rfl,rfl⟩,HB2.out.alloc HB2.out.size _⟩
 | some t=>
  have HC3:=hide (fun wx=>implReadSchema_any t (Nat.le_trans (getK_size hr) (by decide)) wx)
  rw [hr,getO] at HC2;clear hr;go_enter Tryz.func86,Tryz.ntmps86;go_wp2_with fail;rw [<-hw0];clear hw0
  go_region_held3 (fun wx=>wx.cell? ⟨w.heap.size,0,none⟩=some vp/\wx.cell? ⟨w.heap.size,1,none⟩=some vl) (first | exact hS0 | exact hS1 | exact hS2) (first | (go_at_call 121;(with_reducible refine (HC1.out _).mono ?_);rintro e w1 ⟨rfl,hb1⟩;have hA1:Below w0.heap.size w0 w1:=(Below.refl _ _).drew.trans hb1;have hS1:=HSB.out _ hA1) | (go_at_call 120;have hgE:=hA1;(with_reducible refine (HC2.out _ ?_ ?_).mono ?_);exact sumTab_below HT.out (HB0.out.trans (hA1.mono HB0.out.size));exact disk_below HD.out (HB0.out.trans (hA1.mono HB0.out.size));rintro e w2 ⟨rfl,hb2⟩;have hA2:Below w0.heap.size w0 w2:=hA1.trans (hb2.mono hA1.size);have hS2:=HSB.out _ hA2))
  have HB2:Hid (Below w.heap.size w w2):=hide (HB0.out.trans (hA2.mono HB0.out.size));clear hA1 hA2 hb2 hS0 hS1 hS2 HSB hb1;go_wp2_with fail;refine (HC3.out _).mono ?_;rintro e w3 ⟨u,fs,ok,rfl,hown,hrd,hb⟩;have HO:Hid (w3.ownsRow w.heap.size 146 2 u fs.length (flds fs)):=hide (ownsRow_mono hown HB2.out.size);have HB3:Hid (Below w.heap.size w w3):=hide (HB2.out.trans (hb.mono HB2.out.size));have HR:=hide hrd;clear hown hb hrd;go_wp2_with fail;go_ret2;exact ⟨_,fs,ok,rfl,HO.out,HR.out,HB3.out⟩
theorem specSchemaIn_any (v:Value) (ps:List ByteArray) (ls:List (Int×ByteArray)) (hp:ps.length<=1048576) (hl:ls.length<=1048576) (hps:∀s∈ps,s.size<=1048576) (hls:∀p∈ls,p.2.size<=1048576) (root:Int) (coll:ByteArray) (hc:coll.size<=1048576) (w:World) (hd:DiskAt w v ps ls):
  Calls Tryz.prog 42 #[v,.int .i64 root,.string coll] w fun e w'=>∃u fs ok,e= .returned (.tuple #[u,.bool ok])/\w'.ownsRow w.heap.size 146 2 u fs.length (flds fs)/\SchIn (getK (readD ps ls) root (schK coll)) fs ok/\Below w.heap.size w w':=by
 have HD:=hide hd;obtain ⟨vp,vl,rfl,-,-⟩:=hd;obtain ⟨w0,hw0⟩:∃w0,w0=w.alloc (Obj.cells #[vp,vl] 41):=⟨_,rfl⟩
 have HB0:Hid (Below w.heap.size w w0):=hide (by rw [hw0];exact (Below.refl w.heap.size w).alloc (Nat.le_refl _) _)
 have hq0:w0.heap[w.heap.size]?=some (Obj.cells #[vp,vl] 41):=by rw [hw0];exact heap_alloc_new w _
 have HSB:Hid (∀wx,Below w0.heap.size w0 wx->wx.cell? ⟨w.heap.size,0,none⟩=some vp/\wx.cell? ⟨w.heap.size,1,none⟩=some vl):=hide (fun wx hb=>by
  have h:=(hb.block w.heap.size (Array.getElem?_eq_some_iff.1 hq0).1).trans hq0
  exact ⟨(cell_at h 0).1,(cell_at h 1).1⟩)
 have hS0:=HSB.out w0 (Below.refl _ _)
 have HC1:=hide (fun wx=>specSchemaKey_any coll hc wx)
 have HC2:=hide (fun wx h=>specGetKey_any (.agg #[vp,vl]) ps ls hp hl hps hls root (schK coll) wx h)
 clear hq0 hp hl hps hls
 cases hr:getK (readD ps ls) root (schK coll) with
 | none=>
  rw [hr,getO] at HC2;clear hr;go_enter Tryz.func42,Tryz.ntmps42;go_wp2_with fail;rw [<-hw0];clear hw0
  go_region_held3 (fun wx=>wx.cell? ⟨w.heap.size,0,none⟩=some vp/\wx.cell? ⟨w.heap.size,1,none⟩=some vl) (first | exact hS0 | exact hS1 | exact hS2) (first | (go_at_call 70;(with_reducible refine (HC1.out _).mono ?_);rintro e w1 ⟨rfl,rfl⟩;have hA1:Below w0.heap.size w0 w0.drew:=(Below.refl _ _).drew;have hS1:=HSB.out _ hA1) | (go_at_call 69;have hgE:=hA1;(with_reducible refine (HC2.out _ ?_).mono ?_);exact disk_below HD.out (HB0.out.trans (hA1.mono HB0.out.size));rintro e w2 ⟨rfl,hb2⟩;have hA2:Below w0.heap.size w0 w2:=hA1.trans (hb2.mono hA1.size);have hS2:=HSB.out _ hA2))
  have HB2:Hid (Below w.heap.size w w2):=hide (HB0.out.trans (hA2.mono HB0.out.size));clear hA1 hA2 hb2 hS0 hS1 hS2 HSB;go_wp2_with fail;go_ret2;exact ⟨_,[],false,rfl,own_flds0 _ _ HB2.out.size,⟨rfl,rfl⟩,HB2.out.alloc HB2.out.size _⟩
 | some t=>
  have HC3:=hide (fun wx=>specReadSchema_any t (Nat.le_trans (getK_size hr) (by decide)) wx)
  rw [hr,getO] at HC2;clear hr;go_enter Tryz.func42,Tryz.ntmps42;go_wp2_with fail;rw [<-hw0];clear hw0
  go_region_held3 (fun wx=>wx.cell? ⟨w.heap.size,0,none⟩=some vp/\wx.cell? ⟨w.heap.size,1,none⟩=some vl) (first | exact hS0 | exact hS1 | exact hS2) (first | (go_at_call 70;(with_reducible refine (HC1.out _).mono ?_);rintro e w1 ⟨rfl,rfl⟩;have hA1:Below w0.heap.size w0 w0.drew:=(Below.refl _ _).drew;have hS1:=HSB.out _ hA1) | (go_at_call 69;have hgE:=hA1;(with_reducible refine (HC2.out _ ?_).mono ?_);exact disk_below HD.out (HB0.out.trans (hA1.mono HB0.out.size));rintro e w2 ⟨rfl,hb2⟩;have hA2:Below w0.heap.size w0 w2:=hA1.trans (hb2.mono hA1.size);have hS2:=HSB.out _ hA2))
  have HB2:Hid (Below w.heap.size w w2):=hide (HB0.out.trans (hA2.mono HB0.out.size));clear hA1 hA2 hb2 hS0 hS1 hS2 HSB;go_wp2_with fail;refine (HC3.out _).mono ?_;rintro e w3 ⟨u,fs,ok,rfl,hown,hrd,hb⟩;have HO:Hid (w3.ownsRow w.heap.size 146 2 u fs.length (flds fs)):=hide (ownsRow_mono hown HB2.out.size);have HB3:Hid (Below w.heap.size w w3):=hide (HB2.out.trans (hb.mono HB2.out.size));have HR:=hide hrd;clear hown hb hrd;go_wp2_with fail;go_ret2;exact ⟨_,fs,ok,rfl,HO.out,HR.out,HB3.out⟩
end Go.Proofs.YtjmgdmdleamenaaGreatDoor
