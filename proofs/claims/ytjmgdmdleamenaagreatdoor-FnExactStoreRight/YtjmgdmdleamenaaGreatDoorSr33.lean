/-
  Facts and contracts that the law's own text rests on, by their texts' names: ThingSpec2.
-/
import Derived.Laws.BytesArg
import Derived.Test.YtjmgdmdleamenaaGreatDoorSr32
set_option maxHeartbeats 16000000
set_option maxRecDepth 100000
namespace Go.Proofs.YtjmgdmdleamenaaGreatDoor
open Go.RowKit
theorem value_num {num:Int} {t:ByteArray}:valueB 1 num t=(decide (0<=num/\num<=999999) && decide (t=⟨#[]⟩)):=by rw [valueB,if_pos rfl]
theorem value_zero {kind num:Int} {t:ByteArray} {k:Nat} (hk:kind≠1) (h:k<t.size) (h0:byt t k=0):valueB kind num t=false:=by
 rw [valueB,if_neg hk,decide_eq_false (fun hh=>hh k h h0)];rfl
theorem value_text {kind num:Int} {t:ByteArray} (hk:kind≠1) (h:∀i,i<t.size->byt t i≠0):valueB kind num t=decide (kind=2/\num=0/\t.size<=6):=by
 rw [valueB,if_neg hk,decide_eq_true h];rfl
theorem l04Value_any (kind num:Int) (t:ByteArray) (ht:t.size<=1048576) (w:World):
  Calls Tryz.prog 103 #[.int .i64 kind,.agg #[.int .i64 num,.string t]] w fun e w'=>e= .returned (.bool (valueB kind num t))/\Below w.heap.size w w':=by
 obtain ⟨w0,hw0⟩:∃w0,w0=w.alloc (Obj.cells #[.int .i64 num,.string t] 144):=⟨_,rfl⟩
 have hb0:Below w.heap.size w w0:=by rw [hw0];exact (Below.refl w.heap.size w).alloc (Nat.le_refl _) _
 have hblk:w0.heap[w.heap.size]?=some (Obj.cells #[.int .i64 num,.string t] 144):=by rw [hw0];exact heap_alloc_new w _
 have HB:=hide hb0;have cb0:w0.cell? ⟨w.heap.size,0,none⟩=some (.int .i64 num):=(cell_at hblk 0).1;have cb1:w0.cell? ⟨w.heap.size,1,none⟩=some (.string t):=(cell_at hblk 1).1;clear hb0 hblk
 by_cases hk:kind=1
 ·subst hk
  rw [value_num];have HC:=hide (l01In_all num 0 999999);obtain ⟨b1,hb1⟩:∃b1,b1=decide (0<=num/\num<=999999):=⟨_,rfl⟩;rw [<-hb1] at HC⊢
  have hbq:t.toList.isEmpty=decide (t=⟨#[]⟩):=by
   rw [<-ba_beq,show (⟨#[]⟩:ByteArray).toList= [] from by rw [ByteArray.toList_eq]]
   cases t.toList <;> rfl
  obtain ⟨b2,hb2⟩:∃b2,b2=decide (t=⟨#[]⟩):=⟨_,rfl⟩;rw [<-hb2] at hbq⊢;clear hb1 hb2
  cases b1 with
  | false=>
   go_enter Tryz.func103,Tryz.ntmps103;go_wp2_with fail;rw [<-hw0];refine (HC.out _).mono ?_;rintro e w2 ⟨rfl,rfl⟩;clear hw0;go_wp2_with fail;go_ret;exact ⟨rfl,HB.out⟩
  | true=>
   go_enter Tryz.func103,Tryz.ntmps103;go_wp2_with fail;rw [<-hw0];refine (HC.out _).mono ?_;rintro e w2 ⟨rfl,rfl⟩;clear hw0;go_wp2_with fail;go_ret
   exact ⟨by simp,HB.out⟩
 ·have hk1:(kind ==1)=false:=by simp [hk]
  have hk2:decide (kind=1)=false:=by simp [hk]
  have HK:=hide hk;clear hk;go_enter Tryz.func103,Tryz.ntmps103;go_wp2_with fail;rw [<-hw0];clear hw0 hk1 hk2
  go_loopg [5] t.size (fun g iv wr=>∃k:Nat,k<=t.size/\iv= .int .i64 (k:Int)/\g+k=t.size/\Hid (∀i,i<k->byt t i≠0)/\w0=wr)
  case atStart=>exact ⟨0,Nat.zero_le _,rfl,rfl,hide (fun i h=>by omega),rfl⟩
  case round=>
   obtain ⟨k,hk,rfl,hg,HA,rfl⟩:=hrel;have HG:=hide hg;clear hg
   by_cases hlt:k<t.size
   ·obtain ⟨y,hy⟩:∃y,y=byt t k:=⟨_,rfl⟩
    have hyb:y<256:=by rw [hy];exact byt_lt t _
    have hs1:t[k].toNat=y:=by rw [hy];exact byt_eq t _ hlt
    have HY:=hide hy
    have hk0:(0:Int)<=(k:Int):=by omega
    have hk1:(k:Int)<(t.size:Int):=by omega
    clear hy
    by_cases h1:y=0
    ·have HO:Hid (valueB kind num t=false):=hide (value_zero HK.out hlt (by rw [<-HY.out];exact h1))
     have d1:((y:Int) ==0)=true:=by simp [h1]
     have d2:decide ((y:Int)=0)=true:=by simp [h1]
     clear h1;go_wp2_with fail;go_ret;rw [HO.out];exact ⟨rfl,HB.out⟩
    ·have d1:((y:Int) ==0)=false:=by simp [h1]
     have d2:decide ((y:Int)=0)=false:=by simp [h1]
     have HA2:Hid (∀i,i<k+1->byt t i≠0):=hide (fun i hi=>by
      by_cases e:i=k
      ·subst e;rw [<-HY.out];exact h1
      ·exact HA.out i (by omega))
     go_wp2_with fail
     go_roundg (gk - 1)
     case measure=>have:=HG.out;omega
     case rel=>exact ⟨k+1,by omega,by go_num,by have:=HG.out;omega,HA2,rfl⟩
   ·have HO:Hid (valueB kind num t=decide (kind=2/\num=0/\t.size<=6)):=hide (value_text HK.out (fun i hi=>HA.out i (by omega)))
    by_cases h2:kind=2
    ·have d1:(kind ==2)=true:=by simp [h2]
     by_cases h3:num=0
     ·have d2:(num ==0)=true:=by simp [h3]
      by_cases h4:t.size<=6
      ·have d3:decide ((t.size:Int)<=6)=true:=by simp;omega
       rw [decide_eq_true ⟨h2,h3,h4⟩] at HO;clear h2 h3;go_wp2_with fail;go_ret;rw [HO.out];exact ⟨rfl,HB.out⟩
      ·have d3:decide ((t.size:Int)<=6)=false:=by simp;omega
       rw [decide_eq_false (fun h=>h4 h.2.2)] at HO
       clear h2 h3;go_wp2_with fail;go_ret;rw [HO.out];exact ⟨rfl,HB.out⟩
     ·have d2:(num ==0)=false:=by simp [h3]
      rw [decide_eq_false (fun h=>h3 h.2.1)] at HO
      clear h2 h3;go_wp2_with fail;go_ret;rw [HO.out];exact ⟨rfl,HB.out⟩
    ·have d1:(kind ==2)=false:=by simp [h2]
     rw [decide_eq_false (fun h=>h2 h.1)] at HO
     clear h2;go_wp2_with fail;go_ret;rw [HO.out];exact ⟨rfl,HB.out⟩
def thingOkB (fs:List (ByteArray×Int)) (vs:List (Int×ByteArray)):Bool:=schemaOkB fs && decide (vs.length=fs.length) && decide (∀i,i<vs.length->valueB (fs.getD i (⟨#[]⟩,0)).2 (vs.getD i (0,⟨#[]⟩)).1 (vs.getD i (0,⟨#[]⟩)).2=true)
theorem thing_schema {fs:List (ByteArray×Int)} {vs:List (Int×ByteArray)} (h:schemaOkB fs=false):thingOkB fs vs=false:=by rw [thingOkB,h];rfl
theorem thing_len {fs:List (ByteArray×Int)} {vs:List (Int×ByteArray)} (h:vs.length≠fs.length):thingOkB fs vs=false:=by rw [thingOkB,decide_eq_false h];simp
theorem thing_bad {fs:List (ByteArray×Int)} {vs:List (Int×ByteArray)} {k:Nat} (hk:k<vs.length) (hf:k<fs.length) (h:valueB fs[k].2 vs[k].1 vs[k].2=false):thingOkB fs vs=false:=by
 rw [thingOkB,decide_eq_false (fun hh:∀i,i<vs.length->_=>by have:=hh k hk;simp [List.getD,hk,hf] at this;rw [h] at this;cases this)];simp
theorem thing_all {fs:List (ByteArray×Int)} {vs:List (Int×ByteArray)} (h0:schemaOkB fs=true) (h1:vs.length=fs.length) (h:∀i (hi:i<vs.length) (hf:i<fs.length),valueB fs[i].2 vs[i].1 vs[i].2=true):thingOkB fs vs=true:=by
 rw [thingOkB,h0,decide_eq_true h1,decide_eq_true (fun i hi=>by have:=h i hi (by omega);simpa [List.getD,hi,show i<fs.length by omega] using this)];rfl
theorem specThingOk_any (fs:List (ByteArray×Int)) (vs:List (Int×ByteArray)) (hl:fs.length<=1048576) (hn:∀f∈fs,f.1.size<=1048576) (_hl2:vs.length<=1048576) (hn2:∀f∈vs,f.2.size<=1048576) (v u:Value) (w:World) (hr:RowAt w 2 v fs.length (flds fs)) (hu:RowAt w 2 u vs.length (puts vs)):
  Calls Tryz.prog 100 #[v,u] w fun e w'=>e= .returned (.bool (thingOkB fs vs))/\Below w.heap.size w w':=by
 have HS:=hide (fun wx h=>specSchemaOk_any fs hl hn v wx h)
 have HRv:=hide hr;have HRu:=hide hu;obtain ⟨-,a,cap,rfl,h2⟩:=hr;obtain ⟨-,a',cap',rfl,h3⟩:=hu;have HR:=hide h2;have HQ:=hide h3;have HN2:=hide hn2;clear h2 h3 hn hn2
 cases hsk:schemaOkB fs with
 | false=>
  rw [hsk] at HS;have HO:=hide (thing_schema (vs:=vs) hsk);clear hsk;go_enter Tryz.func100,Tryz.ntmps100;go_wp2_with fail;refine (HS.out _ HRv.out).mono ?_;rintro e w1 ⟨rfl,hb⟩;go_wp2_with fail;go_ret;rw [HO.out];exact ⟨rfl,hb⟩
 | true=>
  rw [hsk] at HS;have HSk:=hide hsk;clear hsk
  by_cases hne:vs.length=fs.length
  ·have HNe:=hide hne
   have d1:((vs.length:Int) !=(fs.length:Int))=false:=by rw [hne];simp
   go_enter Tryz.func100,Tryz.ntmps100;go_wp2_with fail;refine (HS.out _ HRv.out).mono ?_;rintro e w1 ⟨rfl,hb⟩;have HB1:=hide hb;clear hb hne;go_wp2_with fail;clear d1
   go_loopg [5] vs.length (fun g iv wr=>∃k:Nat,k<=vs.length/\iv= .int .i64 (k:Int)/\g+k=vs.length/\Hid (∀i (hi:i<vs.length) (hf:i<fs.length),i<k->valueB fs[i].2 vs[i].1 vs[i].2=true)/\Hid (Below w.heap.size w wr))
   case atStart=>exact ⟨0,Nat.zero_le _,rfl,rfl,hide (fun i h hf h0=>by omega),HB1⟩
   case round=>
    obtain ⟨k,hk,rfl,hg,HA,HB⟩:=hrel;have HG:=hide hg;clear hg
    by_cases hlt:k<vs.length
    ·have hlf:k<fs.length:=by have:=HNe.out;omega
     rcases HR.out with h0 | ⟨b,off,rfl,hbl,hc⟩
     ·omega
     ·rcases HQ.out with h0 | ⟨b',off',rfl,hbl',hc'⟩
      ·omega
      ·obtain ⟨q,hq⟩:∃q,q=fs[k].2:=⟨_,rfl⟩
       obtain ⟨p,hp⟩:∃p,p=vs[k].1:=⟨_,rfl⟩;obtain ⟨x,hx⟩:∃x,x=vs[k].2:=⟨_,rfl⟩
       have hc1:wr.cell? ⟨b,off+k * 2+1,none⟩=some (.int .i64 q):=by rw [HB.out.cell (by exact hbl),Nat.add_assoc,hc (k * 2+1) (by omega),(flds_at fs k hlf).2,hq]
       have hd0:wr.cell? ⟨b',off'+k * 2,none⟩=some (.int .i64 p):=by rw [HB.out.cell (by exact hbl'),hc' (k * 2) (by omega),(puts_at vs k hlt).1,hp]
       have hd1:wr.cell? ⟨b',off'+k * 2+1,none⟩=some (.string x):=by rw [HB.out.cell (by exact hbl'),Nat.add_assoc,hc' (k * 2+1) (by omega),(puts_at vs k hlt).2,hx]
       have hxs:x.size<=1048576:=by rw [hx];exact HN2.out _ (List.getElem_mem hlt)
       have HV:=hide (l04Value_any q p x hxs);have HQP:=hide (⟨hq,hp,hx⟩:q=fs[k].2/\p=vs[k].1/\x=vs[k].2);have hbw:b<wr.heap.size:=Nat.lt_of_lt_of_le hbl HB.out.size;have hbw':b'<wr.heap.size:=Nat.lt_of_lt_of_le hbl' HB.out.size
       have hk0:(0:Int)<=(k:Int):=by omega
       have hk1:(k:Int)<(fs.length:Int):=by omega
       have hk2:(k:Int)<(vs.length:Int):=by omega
       clear hc hc' hq hp hx
       cases hvb:valueB q p x with
       | false=>
        rw [hvb] at HV
        have HO:Hid (thingOkB fs vs=false):=hide (thing_bad hlt hlf (by rw [<-HQP.out.1,<-HQP.out.2.1,<-HQP.out.2.2];exact hvb))
        clear hvb;go_wp2_with fail
        go_region_held3 (fun wx=>wx.cell? ⟨b,off+k * 2+1,none⟩=some (.int .i64 q)/\wx.cell? ⟨b',off'+k * 2,none⟩=some (.int .i64 p)/\wx.cell? ⟨b',off'+k * 2+1,none⟩=some (.string x)) (first | exact ⟨hc1,hd0,hd1⟩ | exact hS2) ((go_at_call 103;refine (HV.out _).mono ?_;rintro e w2 ⟨rfl,hb2⟩;have hS2:w2.cell? ⟨b,off+k * 2+1,none⟩=some (.int .i64 q)/\w2.cell? ⟨b',off'+k * 2,none⟩=some (.int .i64 p)/\w2.cell? ⟨b',off'+k * 2+1,none⟩=some (.string x):=⟨(hb2.cell (by exact hbw)).trans hc1,(hb2.cell (by exact hbw')).trans hd0,(hb2.cell (by exact hbw')).trans hd1⟩))
        have hb3:Below w.heap.size w w2:=HB.out.trans ((Below.refl _ _).drew.trans (hb2.mono HB.out.size));clear hb2 hS2 hc1 hd0 hd1;go_wp2_with fail;go_ret;rw [HO.out];exact ⟨rfl,hb3⟩
       | true=>
        rw [hvb] at HV
        have HA2:Hid (∀i (hi:i<vs.length) (hf:i<fs.length),i<k+1->valueB fs[i].2 vs[i].1 vs[i].2=true):=hide (fun i hi hf h=>by
         by_cases e:i=k
         ·subst e;rw [<-HQP.out.1,<-HQP.out.2.1,<-HQP.out.2.2];exact hvb
         ·exact HA.out i hi hf (by omega))
        clear hvb;go_wp2_with fail
        go_region_held3 (fun wx=>wx.cell? ⟨b,off+k * 2+1,none⟩=some (.int .i64 q)/\wx.cell? ⟨b',off'+k * 2,none⟩=some (.int .i64 p)/\wx.cell? ⟨b',off'+k * 2+1,none⟩=some (.string x)) (first | exact ⟨hc1,hd0,hd1⟩ | exact hS2) ((go_at_call 103;refine (HV.out _).mono ?_;rintro e w2 ⟨rfl,hb2⟩;have hS2:w2.cell? ⟨b,off+k * 2+1,none⟩=some (.int .i64 q)/\w2.cell? ⟨b',off'+k * 2,none⟩=some (.int .i64 p)/\w2.cell? ⟨b',off'+k * 2+1,none⟩=some (.string x):=⟨(hb2.cell (by exact hbw)).trans hc1,(hb2.cell (by exact hbw')).trans hd0,(hb2.cell (by exact hbw')).trans hd1⟩))
        have hb3:Below w.heap.size w w2:=HB.out.trans ((Below.refl _ _).drew.trans (hb2.mono HB.out.size));have HB3:=hide hb3;clear hb2 hb3 hS2 hc1 hd0 hd1;go_wp2_with fail
        go_roundg (gk - 1)
        case measure=>have:=HG.out;omega
        case rel=>exact ⟨k+1,by omega,by go_num,by have:=HG.out;omega,HA2,HB3⟩
    ·have HO:Hid (thingOkB fs vs=true):=hide (thing_all HSk.out HNe.out (fun i hi hf=>HA.out i hi hf (by omega)))
     go_wp2_with fail;go_ret;rw [HO.out];exact ⟨rfl,HB.out⟩
  ·have HO:=hide (thing_len hne)
   have d1:((vs.length:Int) !=(fs.length:Int))=true:=by simp;omega
   go_enter Tryz.func100,Tryz.ntmps100;go_wp2_with fail;refine (HS.out _ HRv.out).mono ?_;rintro e w1 ⟨rfl,hb⟩;go_wp2_with fail;go_ret;rw [HO.out];exact ⟨rfl,hb⟩
theorem digits (n:Nat) (hn:n<=999999):∃a1 a3 a4:Nat,a1=n / 65536/\a3=n / 256 % 256/\a4=n % 256/\a1<256/\a3<256/\a4<256/\(n:Int) / 65536=(a1:Int)/\(n:Int) / 256 % 256=(a3:Int)/\(n:Int) % 256=(a4:Int):=
 ⟨n / 65536,n / 256 % 256,n % 256,rfl,rfl,rfl,by omega,Nat.mod_lt _ (by omega),Nat.mod_lt _ (by omega),rfl,rfl,rfl⟩
theorem own3 (w:World) (a b c:Nat) (ha:a<256) (hb:b<256) (hc:c<256):(w.alloc (Obj.cells #[.int .u8 (a:Int),.int .u8 (b:Int),.int .u8 (c:Int)] 5)).ownsRow w.heap.size 5 1 (.slice (some ⟨w.heap.size,0,none⟩) 3 3) [UInt8.ofNat a,UInt8.ofNat b,UInt8.ofNat c].length (Lib.byteCells [UInt8.ofNat a,UInt8.ofNat b,UInt8.ofNat c]):=by
 have h:=World.ownsRow_lit (base:=w.heap.size) (e:=5) (size:=1) w #[.int .u8 (a:Int),.int .u8 (b:Int),.int .u8 (c:Int)] 3 (Nat.le_refl _) (by unfold maxLen;omega) rfl
 have e:Lib.byteCells [UInt8.ofNat a,UInt8.ofNat b,UInt8.ofNat c]= [.int .u8 (a:Int),.int .u8 (b:Int),.int .u8 (c:Int)]:=by
  simp only [Lib.byteCells,List.map_cons,List.map_nil,toNat_ofNat8 _ ha,toNat_ofNat8 _ hb,toNat_ofNat8 _ hc]
 rw [e];exact h
def keyT (kind num:Int) (t:ByteArray):ByteArray:=if kind=1 then ⟨#[UInt8.ofNat (num.toNat / 65536),UInt8.ofNat (num.toNat / 256 % 256),UInt8.ofNat (num.toNat % 256)]⟩ else t++⟨#[0]⟩
def keyO (kind num:Int) (t:ByteArray):ByteArray:=if valueB kind num t=true then keyT kind num t else ⟨#[]⟩
theorem specKeyText_any (kind num:Int) (t:ByteArray) (ht:t.size<=1048576) (w:World):
  Calls Tryz.prog 75 #[.int .i64 kind,.agg #[.int .i64 num,.string t]] w fun e w'=>e= .returned (.tuple #[.string (keyO kind num t),.bool (valueB kind num t)])/\Below w.heap.size w w':=by
 obtain ⟨w0,hw0⟩:∃w0,w0=w.alloc (Obj.cells #[.int .i64 num,.string t] 144):=⟨_,rfl⟩
 have hb0:Below w.heap.size w w0:=by rw [hw0];exact (Below.refl w.heap.size w).alloc (Nat.le_refl _) _
 have hblk:w0.heap[w.heap.size]?=some (Obj.cells #[.int .i64 num,.string t] 144):=by rw [hw0];exact heap_alloc_new w _
 have HB:=hide hb0;have HBk:=hide hblk;have HV:=hide (l04Value_any kind num t ht);clear hb0 hblk
 cases hvb:valueB kind num t with
 | false=>
  have HO:Hid (keyO kind num t=⟨#[]⟩):=hide (by rw [keyO,hvb];rfl)
  rw [hvb] at HV;clear hvb;go_enter Tryz.func75,Tryz.ntmps75;go_wp2_with fail;rw [<-hw0];refine (HV.out _).mono ?_;rintro e w1 ⟨rfl,hb1⟩;clear hw0;go_wp2_with fail;go_ret2;rw [HO.out];exact ⟨rfl,HB.out.trans (hb1.mono HB.out.size)⟩
 | true=>
  have HK:Hid (keyO kind num t=keyT kind num t):=hide (by rw [keyO,hvb];rfl)
  have HVb:=hide hvb;rw [hvb] at HV;clear hvb;go_enter Tryz.func75,Tryz.ntmps75;go_wp2_with fail;rw [<-hw0];refine (HV.out _).mono ?_;rintro e w1 ⟨rfl,hb1⟩;have hblk1:=(hb1.block _ (Array.getElem?_eq_some_iff.1 HBk.out).1).trans HBk.out;have cb0:w1.cell? ⟨w.heap.size,0,none⟩=some (.int .i64 num):=(cell_at hblk1 0).1;have cb1:w1.cell? ⟨w.heap.size,1,none⟩=some (.string t):=(cell_at hblk1 1).1;have HB1:Hid (Below w.heap.size w w1):=hide (HB.out.trans (hb1.mono HB.out.size));clear hw0 hb1 hblk1
  by_cases hk:kind=1
  ·subst hk
   have hnum:0<=num/\num<=999999:=by
    have:=HVb.out;rw [value_num,Bool.and_eq_true,decide_eq_true_eq] at this;exact this.1
   obtain ⟨n,rfl⟩:=Int.eq_ofNat_of_zero_le hnum.1
   have hn:n<=999999:=by omega
   have HO:Hid (keyO 1 (n:Int) t=⟨#[UInt8.ofNat (n / 65536),UInt8.ofNat (n / 256 % 256),UInt8.ofNat (n % 256)]⟩):=hide (by rw [HK.out,keyT,if_pos rfl,Int.toNat_natCast])
   go_wp2_with fail;obtain ⟨a1,a3,a4,ha1,ha3,ha4,hl1,hl3,hl4,e1,e3,e4⟩:=digits n hn;rw [e1,e3,e4];have hcv:=string_own (P:=Tryz.prog) (src:=183) (dst:=9) Tryz.underlying183 Tryz.underlying5 Tryz.underlying9 (own3 w1 a1 a3 a4 hl1 hl3 hl4);have HB2:Hid (Below w.heap.size w (w1.alloc (Obj.cells #[.int .u8 (a1:Int),.int .u8 (a3:Int),.int .u8 (a4:Int)] 5))):=hide (HB1.out.alloc HB1.out.size _);rw [<-ha1,<-ha3,<-ha4] at HO;rw [hcv];clear hcv e1 e3 e4 ha1 ha3 ha4 hl1 hl3 hl4 hnum cb0 cb1;go_wp2_with fail;go_ret2;rw [HO.out];exact ⟨rfl,HB2.out⟩
  ·have HO:Hid (keyO kind num t=t++⟨#[0]⟩):=hide (by rw [HK.out,keyT,if_neg hk])
   have d1:(kind ==1)=false:=by simp [hk]
   have d2:decide (kind=1)=false:=by simp [hk]
   clear hk;go_wp2_with fail;go_ret2;rw [HO.out];exact ⟨rfl,HB1.out⟩
end Go.Proofs.YtjmgdmdleamenaaGreatDoor
