/-
  Facts and contracts that the law's own text rests on, by their texts' names: ThingSpec3, ThingSpec4, ThingRead, ReadSpec2, Names, ImplThing.
-/
import Derived.Test.YtjmgdmdleamenaaGreatDoorSr5
import Derived.Test.YtjmgdmdleamenaaGreatDoorSr33
import Derived.Deep.RegionLaw
import Derived.Test.YtjmgdmdleamenaaGreatDoorSr16
import Derived.Test.YtjmgdmdleamenaaGreatDoorSr32
set_option maxHeartbeats 16000000
set_option maxRecDepth 100000
namespace Go.Proofs.YtjmgdmdleamenaaGreatDoor
open Go.RowKit
theorem shortB_size (s:ByteArray):(shortB s).size<=s.size+5:=by
 have h:=(vtext_length s.size).2;rw [shortB,ByteArray.size_append];have e:(⟨(vtext s.size).toArray⟩:ByteArray).size=(vtext s.size).length:=List.size_toArray
 omega
theorem l04Short_any (s:ByteArray) (h:s.size<=20000) (w:World):
  Calls Tryz.prog 102 #[.string s] w fun e w'=>e= .returned (.string (shortB s))/\Below w.heap.size w w':=by
 have hlen:=(vtext_length s.size).2;have HO:Hid (shortB s=⟨(vtext s.size).toArray⟩++s):=hide rfl;go_enter Tryz.func102,Tryz.ntmps102;go_wp2_with fail
 refine (l01Var_any s.size (by omega) (by omega) _).mono ?_
 rintro e w2 ⟨rfl,hb⟩;rw [Int.toNat_natCast]
 go_wp2
 go_ret;rw [HO.out];exact ⟨rfl,hb⟩
def valueT (kind num:Int) (t:ByteArray):ByteArray:=if kind=1 then ⟨(vtext num.toNat).toArray⟩ else shortB t
theorem valueT_size {kind num:Int} {t:ByteArray} (h:valueB kind num t=true):(valueT kind num t).size<=11:=by
 unfold valueT
 split
 ·have h:=(vtext_length num.toNat).2
  have e:(⟨(vtext num.toNat).toArray⟩:ByteArray).size=(vtext num.toNat).length:=List.size_toArray
  omega
 ·next hk=>
  rw [valueB,if_neg hk,Bool.and_eq_true,decide_eq_true_eq,decide_eq_true_eq] at h;have:=shortB_size t;have:=h.2.2.2
  omega
def thingK (fs:List (ByteArray×Int)) (vs:List (Int×ByteArray)):Nat->ByteArray
 | 0=>⟨#[]⟩
 | k+1=>thingK fs vs k++valueT (fs.getD k (⟨#[]⟩,0)).2 (vs.getD k (0,⟨#[]⟩)).1 (vs.getD k (0,⟨#[]⟩)).2
theorem thingK_succ {fs:List (ByteArray×Int)} {vs:List (Int×ByteArray)} {k:Nat} (hv:k<vs.length) (hf:k<fs.length):thingK fs vs (k+1)=thingK fs vs k++valueT fs[k].2 vs[k].1 vs[k].2:=by
 rw [thingK];simp [List.getD,hv,hf]
theorem thing_yes {fs:List (ByteArray×Int)} {vs:List (Int×ByteArray)} (h:thingOkB fs vs=true):schemaOkB fs=true/\vs.length=fs.length/\fs.length<=3/\∀i (hi:i<vs.length) (hf:i<fs.length),valueB fs[i].2 vs[i].1 vs[i].2=true:=by
 rw [thingOkB,Bool.and_eq_true,Bool.and_eq_true,decide_eq_true_eq,decide_eq_true_eq] at h;obtain ⟨⟨h1,h2⟩,h3⟩:=h
 refine ⟨h1,h2,?_,fun i hi hf=>by have:=h3 i hi;simpa [List.getD,hi,hf] using this⟩
 rw [schemaOkB,Bool.and_eq_true,decide_eq_true_eq] at h1;exact h1.2.2
theorem thingK_size {fs:List (ByteArray×Int)} {vs:List (Int×ByteArray)} (h:thingOkB fs vs=true) (k:Nat) (hk:k<=vs.length):(thingK fs vs k).size<=11 * k:=by
 obtain ⟨-,h2,-,h4⟩:=thing_yes h
 induction k with
 | zero=>exact Nat.le_refl _
 | succ k ih=>
  have:=ih (by omega)
  have hv:=valueT_size (h4 k (by omega) (by omega))
  rw [thingK_succ (by omega) (by omega),ByteArray.size_append]
  omega
def thingO (fs:List (ByteArray×Int)) (vs:List (Int×ByteArray)):ByteArray:=if thingOkB fs vs=true then thingK fs vs vs.length else ⟨#[]⟩
theorem specThingText_any (fs:List (ByteArray×Int)) (vs:List (Int×ByteArray)) (hl:fs.length<=1048576) (hn:∀f∈fs,f.1.size<=1048576) (hl2:vs.length<=1048576) (hn2:∀f∈vs,f.2.size<=1048576) (v u:Value) (w:World) (hr:RowAt w 2 v fs.length (flds fs)) (hu:RowAt w 2 u vs.length (puts vs)):
  Calls Tryz.prog 74 #[v,u] w fun e w'=>e= .returned (.tuple #[.string (thingO fs vs),.bool (thingOkB fs vs)])/\Below w.heap.size w w':=by
 have HS:=hide (fun wx h h'=>specThingOk_any fs vs hl hn hl2 hn2 v u wx h h')
 have HRv:=hide hr;have HRu:=hide hu;obtain ⟨-,a,cap,rfl,h2⟩:=hr;obtain ⟨-,a',cap',rfl,h3⟩:=hu;have HR:=hide h2;have HQ:=hide h3;clear h2 h3 hn hn2
 cases hok:thingOkB fs vs with
 | false=>
  rw [hok] at HS
  have HO:Hid (thingO fs vs=⟨#[]⟩):=hide (by rw [thingO,hok];rfl)
  clear hok;go_enter Tryz.func74,Tryz.ntmps74;go_wp2_with fail;refine (HS.out _ HRv.out HRu.out).mono ?_;rintro e w1 ⟨rfl,hb⟩;go_wp2_with fail;go_ret2;rw [HO.out];exact ⟨rfl,hb⟩
 | true=>
  rw [hok] at HS;have HOk:=hide hok;have HY:=hide (thing_yes hok)
  have HO:Hid (thingO fs vs=thingK fs vs vs.length):=hide (by rw [thingO,hok];rfl)
  clear hok;go_enter Tryz.func74,Tryz.ntmps74;go_wp2_with fail;refine (HS.out _ HRv.out HRu.out).mono ?_;rintro e w1 ⟨rfl,hb⟩;have HB1:=hide hb;clear hb;go_wp2_with fail
  go_loopg [6,7] vs.length (fun g sv iv wr=>∃k:Nat,k<=vs.length/\sv= .string (thingK fs vs k)/\iv= .int .i64 (k:Int)/\g+k=vs.length/\Hid (Below w.heap.size w wr))
  case atStart=>exact ⟨0,Nat.zero_le _,rfl,rfl,rfl,HB1⟩
  case round=>
   obtain ⟨k,hk,rfl,rfl,hg,HB⟩:=hrel;have HG:=hide hg;clear hg
   by_cases hlt:k<vs.length
   ·have hlf:k<fs.length:=by have:=HY.out.2.1;omega
    rcases HR.out with h0 | ⟨b,off,rfl,hbl,hc⟩
    ·omega
    ·rcases HQ.out with h0 | ⟨b',off',rfl,hbl',hc'⟩
     ·omega
     ·obtain ⟨q,hq⟩:∃q,q=fs[k].2:=⟨_,rfl⟩
      obtain ⟨p,hp⟩:∃p,p=vs[k].1:=⟨_,rfl⟩;obtain ⟨x,hx⟩:∃x,x=vs[k].2:=⟨_,rfl⟩
      have hc1:wr.cell? ⟨b,off+k * 2+1,none⟩=some (.int .i64 q):=by rw [HB.out.cell (by exact hbl),Nat.add_assoc,hc (k * 2+1) (by omega),(flds_at fs k hlf).2,hq]
      have hd0:wr.cell? ⟨b',off'+k * 2,none⟩=some (.int .i64 p):=by rw [HB.out.cell (by exact hbl'),hc' (k * 2) (by omega),(puts_at vs k hlt).1,hp]
      have hd1:wr.cell? ⟨b',off'+k * 2+1,none⟩=some (.string x):=by rw [HB.out.cell (by exact hbl'),Nat.add_assoc,hc' (k * 2+1) (by omega),(puts_at vs k hlt).2,hx]
      have hvb:valueB q p x=true:=by rw [hq,hp,hx];exact HY.out.2.2.2 k hlt hlf
      have hsz:(thingK fs vs k).size<=100:=by have h1:=thingK_size HOk.out k hk;have h2:=HY.out.2.1;have h3:=HY.out.2.2.1;omega
      have HK:Hid (thingK fs vs (k+1)=thingK fs vs k++valueT q p x):=hide (by rw [thingK_succ hlt hlf,hq,hp,hx])
      have hvz:=valueT_size hvb;obtain ⟨s,hs⟩:∃s,s=thingK fs vs k:=⟨_,rfl⟩;rw [<-hs] at HK hsz⊢
      have hk0:(0:Int)<=(k:Int):=by omega
      have hk1:(k:Int)<(fs.length:Int):=by omega
      have hk2:(k:Int)<(vs.length:Int):=by omega
      clear hc hc' hq hp hx hs
      by_cases hq1:q=1
      ·subst hq1
       rw [value_num,Bool.and_eq_true,decide_eq_true_eq] at hvb
       have HV:=hide (l01Var_any p hvb.1.1 (by omega))
       rw [valueT,if_pos rfl] at HK hvz;obtain ⟨z,hz⟩:∃z:ByteArray,z=⟨(vtext p.toNat).toArray⟩:=⟨_,rfl⟩;rw [<-hz] at HK HV hvz;clear hvb hz;go_wp2_with fail;refine (HV.out _).mono ?_;rintro e w2 ⟨rfl,hb2⟩;have HB2:Hid (Below w.heap.size w w2):=hide (HB.out.trans (hb2.mono HB.out.size));clear hb2 hc1 hd0 hd1;go_wp2_with fail
       go_roundg (gk - 1)
       case measure=>have:=HG.out;omega
       case rel=>exact ⟨k+1,by omega,by rw [HK.out],by go_num,by have:=HG.out;omega,HB2⟩
      ·have hx6:x.size<=20000:=by
        rw [valueB,if_neg hq1,Bool.and_eq_true,decide_eq_true_eq,decide_eq_true_eq] at hvb;have:=hvb.2.2.2
        omega
       have HV:=hide (l04Short_any x hx6);rw [valueT,if_neg hq1] at HK hvz;obtain ⟨z,hz⟩:∃z:ByteArray,z=shortB x:=⟨_,rfl⟩;rw [<-hz] at HK HV hvz
       have d1:(q ==1)=false:=by simp [hq1]
       have d2:decide (q=1)=false:=by simp [hq1]
       clear hvb hz hq1;go_wp2_with fail;refine (HV.out _).mono ?_;rintro e w2 ⟨rfl,hb2⟩;have HB2:Hid (Below w.heap.size w w2):=hide (HB.out.trans (hb2.mono HB.out.size));clear hb2 hc1 hd0 hd1;go_wp2_with fail
       go_roundg (gk - 1)
       case measure=>have:=HG.out;omega
       case rel=>exact ⟨k+1,by omega,by rw [HK.out],by go_num,by have:=HG.out;omega,HB2⟩
   ·obtain rfl:k=vs.length:=by omega
    go_wp2_with fail;go_ret2;rw [HO.out];exact ⟨rfl,HB.out⟩
open Go.RowKit
theorem wrapByte (a b:Nat) (h:b=a % 256):IntKind.u8.wrap (a:Int)=(b:Int):=by
 subst h
 simp [IntKind.wrap,IntKind.signed,IntKind.bits]
def byteT (q:Int):ByteArray:=⟨#[UInt8.ofNat q.toNat]⟩
def schemaK (fs:List (ByteArray×Int)):Nat->ByteArray
 | 0=>⟨#[]⟩
 | k+1=>schemaK fs k++byteT (fs.getD k (⟨#[]⟩,0)).2++shortB (fs.getD k (⟨#[]⟩,0)).1
theorem schemaK_succ {fs:List (ByteArray×Int)} {k:Nat} (hf:k<fs.length):schemaK fs (k+1)=schemaK fs k++byteT fs[k].2++shortB fs[k].1:=by
 rw [schemaK];simp [List.getD,hf]
theorem schema_yes {fs:List (ByteArray×Int)} (h:schemaOkB fs=true):1<=fs.length/\fs.length<=3/\∀i (hf:i<fs.length),fs[i].1.size<=4/\(fs[i].2=1\/fs[i].2=2):=by
 rw [schemaOkB] at h
 simp only [Bool.and_eq_true,decide_eq_true_eq] at h
 obtain ⟨⟨h1,-⟩,h3⟩:=h
 refine ⟨h3.1,h3.2,fun i hf=> ?_⟩
 rw [List.all_eq_true] at h1;have:=h1 _ (List.getElem_mem hf);rw [fieldB,wordB,Bool.and_eq_true,Bool.and_eq_true,decide_eq_true_eq,decide_eq_true_eq,decide_eq_true_eq] at this
 exact ⟨this.1.2.2,by omega⟩
theorem schemaK_size {fs:List (ByteArray×Int)} (h:schemaOkB fs=true) (k:Nat) (hk:k<=fs.length):(schemaK fs k).size<=10 * k:=by
 obtain ⟨-,-,h4⟩:=schema_yes h
 induction k with
 | zero=>exact Nat.le_refl _
 | succ k ih=>
  have h1:=ih (by omega)
  have h2:=(h4 k (by omega)).1
  have h3:=shortB_size fs[k].1;have h5:(byteT fs[k].2).size=1:=rfl
  rw [schemaK_succ (by omega),ByteArray.size_append,ByteArray.size_append]
  omega
def schemaO (fs:List (ByteArray×Int)):ByteArray:=if schemaOkB fs=true then schemaK fs fs.length else ⟨#[]⟩
theorem own1 (w:World) (a:Nat) (ha:a<256):(w.alloc (Obj.cells #[.int .u8 (a:Int)] 5)).ownsRow w.heap.size 5 1 (.slice (some ⟨w.heap.size,0,none⟩) 1 1) [UInt8.ofNat a].length (Lib.byteCells [UInt8.ofNat a]):=by
 have h:=World.ownsRow_lit (base:=w.heap.size) (e:=5) (size:=1) w #[.int .u8 (a:Int)] 1 (Nat.le_refl _) (by unfold maxLen;omega) rfl
 have e:Lib.byteCells [UInt8.ofNat a]= [.int .u8 (a:Int)]:=by simp only [Lib.byteCells,List.map_cons,List.map_nil,toNat_ofNat8 _ ha]
 rw [e];exact h
theorem byte_text (w:World) (a:Nat) (ha:a<256):(convert 183 9 (.slice (some ⟨w.heap.size,0,none⟩) 1 1)).run Tryz.prog (w.alloc (Obj.cells #[.int .u8 (a:Int)] 5))= .ok (.string (byteT (a:Int))) (w.alloc (Obj.cells #[.int .u8 (a:Int)] 5)):=
 string_own (P:=Tryz.prog) Tryz.underlying183 Tryz.underlying5 Tryz.underlying9 (own1 w a ha)
theorem byte_text2 (w w2:World) (a:Nat) (ha:a<256) (hb:Below (w.alloc (Obj.cells #[.int .u8 (a:Int)] 5)).heap.size (w.alloc (Obj.cells #[.int .u8 (a:Int)] 5)) w2):(convert 183 9 (.slice (some ⟨w.heap.size,0,none⟩) 1 1)).run Tryz.prog w2= .ok (.string (byteT (a:Int))) w2:=
 string_own (P:=Tryz.prog) Tryz.underlying183 Tryz.underlying5 Tryz.underlying9 (own_stays (own1 w a ha) hb)
theorem specSchemaText_any (fs:List (ByteArray×Int)) (hl:fs.length<=1048576) (hn:∀f∈fs,f.1.size<=1048576) (v:Value) (w:World) (hr:RowAt w 2 v fs.length (flds fs)):
  Calls Tryz.prog 97 #[v] w fun e w'=>e= .returned (.tuple #[.string (schemaO fs),.bool (schemaOkB fs)])/\Below w.heap.size w w':=by
 have HS:=hide (fun wx h=>specSchemaOk_any fs hl hn v wx h)
 have HRv:=hide hr;obtain ⟨-,a,cap,rfl,h2⟩:=hr;have HR:=hide h2;clear h2 hn
 cases hok:schemaOkB fs with
 | false=>
  rw [hok] at HS
  have HO:Hid (schemaO fs=⟨#[]⟩):=hide (by rw [schemaO,hok];rfl)
  clear hok;go_enter Tryz.func97,Tryz.ntmps97;go_wp2_with fail;refine (HS.out _ HRv.out).mono ?_;rintro e w1 ⟨rfl,hb⟩;go_wp2_with fail;go_ret2;rw [HO.out];exact ⟨rfl,hb⟩
 | true=>
  rw [hok] at HS;have HOk:=hide hok;have HY:=hide (schema_yes hok)
  have HO:Hid (schemaO fs=schemaK fs fs.length):=hide (by rw [schemaO,hok];rfl)
  clear hok;go_enter Tryz.func97,Tryz.ntmps97;go_wp2_with fail;refine (HS.out _ HRv.out).mono ?_;rintro e w1 ⟨rfl,hb⟩;have HB1:=hide hb;clear hb;go_wp2_with fail
  go_loopg [4,5] fs.length (fun g sv iv wr=>∃k:Nat,k<=fs.length/\sv= .string (schemaK fs k)/\iv= .int .i64 (k:Int)/\g+k=fs.length/\Hid (Below w.heap.size w wr))
  case atStart=>exact ⟨0,Nat.zero_le _,rfl,rfl,rfl,HB1⟩
  case round=>
   obtain ⟨k,hk,rfl,rfl,hg,HB⟩:=hrel;have HG:=hide hg;clear hg
   by_cases hlt:k<fs.length
   ·rcases HR.out with h0 | ⟨b,off,rfl,hbl,hc⟩
    ·omega
    ·obtain ⟨x,hx⟩:∃x,x=fs[k].1:=⟨_,rfl⟩
     have hkd:=(HY.out.2.2 k hlt).2
     obtain ⟨qn,hqn,hq⟩:∃qn:Nat,(qn:Int)=fs[k].2/\qn<256:=by
      rcases hkd with h | h
      ·exact ⟨1,h.symm,by omega⟩
      ·exact ⟨2,h.symm,by omega⟩
     have hc0:wr.cell? ⟨b,off+k * 2,none⟩=some (.string x):=by rw [HB.out.cell (by exact hbl),hc (k * 2) (by omega),(flds_at fs k hlt).1,hx]
     have hc1:wr.cell? ⟨b,off+k * 2+1,none⟩=some (.int .i64 (qn:Int)):=by rw [HB.out.cell (by exact hbl),Nat.add_assoc,hc (k * 2+1) (by omega),(flds_at fs k hlt).2,hqn]
     have hx4:x.size<=4:=by rw [hx];exact (HY.out.2.2 k hlt).1
     have hsz:(schemaK fs k).size<=100:=by have h1:=schemaK_size HOk.out k hk;have h2:=HY.out.2.1;omega
     have HK:Hid (schemaK fs (k+1)=schemaK fs k++byteT (qn:Int)++shortB x):=hide (by rw [schemaK_succ hlt,hqn,hx])
     obtain ⟨s,hs⟩:∃s,s=schemaK fs k:=⟨_,rfl⟩;rw [<-hs] at HK hsz⊢
     have HV:=hide (l04Short_any x (by omega))
     have hz5:=shortB_size x;obtain ⟨z,hz⟩:∃z,z=shortB x:=⟨_,rfl⟩;rw [<-hz] at HK HV hz5;obtain ⟨kb,hkb⟩:∃kb,kb=byteT (qn:Int):=⟨_,rfl⟩
     have hkz:kb.size=1:=by rw [hkb];rfl
     have HT1:=hide (fun wx=>byte_text wx qn hq)
     have HT2:=hide (fun wx w2 h=>byte_text2 wx w2 qn hq h)
     rw [<-hkb] at HK HT1 HT2;have hT:=HT2.out wr (wr.alloc (Obj.cells #[.int .u8 (qn:Int)] 5)).drew (Below.refl _ _).drew
     have hm:IntKind.u8.wrap (qn:Int)=(qn:Int):=wrapByte _ _ (by omega)
     have hs1:¬9223372036854775807<s.size+1:=by omega
     have hs2:¬9223372036854775807<s.size+1+z.size:=by omega
     have hbw:b<wr.heap.size:=Nat.lt_of_lt_of_le hbl HB.out.size
     have hk0:(0:Int)<=(k:Int):=by omega
     have hk1:(k:Int)<(fs.length:Int):=by omega
     have ca0:∀o,(wr.alloc o).drew.cell? ⟨b,off+k * 2,none⟩=some (.string x):=fun o=>(((Below.refl wr.heap.size wr).alloc (Nat.le_refl _) o).drew.cell (by exact hbw)).trans hc0
     have ca1:∀o,(wr.alloc o).drew.cell? ⟨b,off+k * 2+1,none⟩=some (.int .i64 (qn:Int)):=fun o=>(((Below.refl wr.heap.size wr).alloc (Nat.le_refl _) o).drew.cell (by exact hbw)).trans hc1
     clear hc hx hkd hqn hs hz hkb;go_wp2_with fail
     go_region_law (first | (refine step_call1 _ ?_ 102 Tryz.f102 Tryz.func102 ?_ ?_ (.tmp 29) #[9] ?_ (.string x) ?_ _ (HV.out (wr.alloc (Obj.cells #[.int .u8 (qn:Int)] 5)).drew) ?_;exact rfl;decide;exact Option.some_ne_none _;exact rfl;exact rfl;rintro e w2 ⟨rfl,hb2⟩;refine ⟨_,rfl,?_⟩;have hT2:=HT2.out wr w2 ((Below.refl _ _).drew.trans hb2);have hb3:Below wr.heap.size wr w2:=((Below.refl _ _).alloc (Nat.le_refl _) _).drew.trans (hb2.mono (by show _<=(wr.alloc _).heap.size;simp));have ce0:w2.cell? ⟨b,off+k * 2,none⟩=some (.string x):=(hb3.cell (by exact hbw)).trans hc0;have ce1:w2.cell? ⟨b,off+k * 2+1,none⟩=some (.int .i64 (qn:Int)):=(hb3.cell (by exact hbw)).trans hc1) | (refine step_call1 _ ?_ 102 Tryz.f102 Tryz.func102 ?_ ?_ (.tmp 29) #[9] ?_ (.string x) ?_ _ (HV.out wr.drew) ?_;exact rfl;decide;exact Option.some_ne_none _;exact rfl;exact rfl;rintro e w2 ⟨rfl,hb2⟩;refine ⟨_,rfl,?_⟩;have hT3:=HT1.out w2;have hb3:Below wr.heap.size wr w2:=(Below.refl _ _).drew.trans hb2;have ce0:w2.cell? ⟨b,off+k * 2,none⟩=some (.string x):=(hb3.cell (by exact hbw)).trans hc0;have ce1:w2.cell? ⟨b,off+k * 2+1,none⟩=some (.int .i64 (qn:Int)):=(hb3.cell (by exact hbw)).trans hc1))
     all_goals
      have HB3:=hide (HB.out.trans (hb3.mono HB.out.size));have HZ3:Hid (w.heap.size<=w2.heap.size):=hide (Nat.le_trans HB.out.size hb3.size);clear hb2 hb3 ce0 ce1 hc0 hc1 ca0 ca1 hT hm
      try clear hT2
      try clear hT3
      go_wp2_with fail
      go_roundg (gk - 1)
      case measure=>have:=HG.out;omega
      case rel=>exact ⟨k+1,by omega,by rw [HK.out],by go_num,by have:=HG.out;omega,hide (by first | exact HB3.out | exact HB3.out.alloc HZ3.out _)⟩
   ·obtain rfl:k=fs.length:=by omega
    go_wp2_with fail;go_ret2;rw [HO.out];exact ⟨rfl,HB.out⟩
open Go.RowKit
theorem schemaK_app (fs gs:List (ByteArray×Int)):∀k,k<=fs.length->schemaK (fs++gs) k=schemaK fs k
 | 0,_=>rfl
 | k+1,h=>by
  rw [schemaK_succ (show k<(fs++gs).length by simp;omega),schemaK_succ (show k<fs.length by omega),schemaK_app fs gs k (by omega),List.getElem_append_left (show k<fs.length by omega)]
def schT (fs:List (ByteArray×Int)):ByteArray:=schemaK fs fs.length
theorem schT_snoc (fs:List (ByteArray×Int)) (f:ByteArray×Int):schT (fs++ [f])=schT fs++byteT f.2++shortB f.1:=by
 unfold schT
 rw [List.length_append,List.length_singleton,schemaK_succ (by simp),schemaK_app fs [f] fs.length (Nat.le_refl _)]
 simp
theorem schT_more:∀(gs fs:List (ByteArray×Int)),∃X,schT (fs++gs)=schT fs++X
 | [],fs=>⟨⟨#[]⟩,by rw [List.append_nil];exact (ByteArray.append_empty).symm⟩
 | g :: gs,fs=>by
  obtain ⟨X,hX⟩:=schT_more gs (fs++ [g]);rw [List.append_assoc,List.singleton_append] at hX
  exact ⟨byteT g.2++shortB g.1++X,by rw [hX,schT_snoc];simp only [ByteArray.append_assoc]⟩
def IsSch (t:ByteArray) (fs:List (ByteArray×Int)):Prop:=schemaOkB fs=true/\schT fs=t
def SchTry (t:ByteArray) (fs:List (ByteArray×Int)) (p:Nat):Prop:=∀gs,IsSch t gs->(∃l,gs=fs++l)/\p=(schT fs).size
theorem schTry_nil (t:ByteArray):SchTry t [] 0:=fun gs _=>⟨⟨gs,rfl⟩,rfl⟩
theorem byteT_size (q:Int):(byteT q).size=1:=rfl
theorem sch_next {t:ByteArray} {fs gs:List (ByteArray×Int)} {p:Nat} (h:SchTry t fs p) (hp:p<t.size) (hg:IsSch t gs):
  ∃g l,gs=fs++g :: l/\g.2=(byt t p:Int)/\rdS t (p+1)=some (g.1,(schT (fs++ [g])).size):=by
 obtain ⟨⟨l,hl⟩,rfl⟩:=h gs hg
 cases l with
 | nil=>rw [List.append_nil] at hl;subst hl;rw [hg.2] at hp;omega
 | cons g l=>
  refine ⟨g,l,hl,?_⟩;obtain ⟨X,hX⟩:=schT_more l (fs++ [g]);rw [List.append_assoc,List.singleton_append,<-hl,hg.2,schT_snoc] at hX
  have hy:=(schema_yes hg.1).2.2 fs.length (by rw [hl];simp)
  simp only [hl,List.getElem_append_right (Nat.le_refl _),Nat.sub_self,List.getElem_cons_zero] at hy
  have hsz:=byteT_size g.2
  constructor
  ·have e:byt t (schT fs).size=(byteT g.2)[0].toNat:=by
    have ht:(schT fs).size<t.size:=hp;rw [<-byt_eq t _ ht]
    have hX':t=schT fs++byteT g.2++(shortB g.1++X):=by rw [hX];simp only [ByteArray.append_assoc]
    have h1:=extract_cat (schT fs) (byteT g.2) (shortB g.1++X);rw [<-hX',hsz] at h1
    have h2:(t.extract (schT fs).size ((schT fs).size+1))[0]'(by rw [h1];rw [hsz];omega)=(byteT g.2)[0]:=by congr 1
    rw [<-h2,ByteArray.getElem_extract]
    simp
   rw [e]
   rcases hy.2 with h | h <;> rw [h] <;> rfl
  ·have:=rdS_at t (schT fs++byteT g.2) g.1 X (by omega) hX
   rw [ByteArray.size_append,hsz] at this;rw [schT_snoc];exact this
theorem schTry_none {t:ByteArray} {fs:List (ByteArray×Int)} {p:Nat} (h:SchTry t fs p) (hp:p<t.size) (hr:rdS t (p+1)=none):∀gs,¬IsSch t gs:=fun gs hg=>by
 obtain ⟨g,l,-,-,h3⟩:=sch_next h hp hg;rw [hr] at h3
 cases h3
theorem schTry_some {t x:ByteArray} {fs:List (ByteArray×Int)} {p q:Nat} (h:SchTry t fs p) (hp:p<t.size) (hr:rdS t (p+1)=some (x,q)):SchTry t (fs++ [(x,(byt t p:Int))]) q:=fun gs hg=>by
 obtain ⟨g,l,h1,h2,h3⟩:=sch_next h hp hg;rw [hr] at h3
 simp only [Option.some.injEq,Prod.mk.injEq] at h3
 have hgx:g=(x,(byt t p:Int)):=Prod.ext h3.1.symm h2;rw [<-hgx]
 exact ⟨⟨l,by rw [h1];simp⟩,h3.2⟩
theorem schTry_full {t:ByteArray} {fs:List (ByteArray×Int)} {p:Nat} (h:SchTry t fs p) (hp:p<t.size) (hf:3<=fs.length):∀gs,¬IsSch t gs:=fun gs hg=>by
 obtain ⟨g,l,h1,-,-⟩:=sch_next h hp hg;have:=(schema_yes hg.1).2.1;rw [h1] at this
 simp at this
 omega
theorem schTry_end {t:ByteArray} {fs:List (ByteArray×Int)} {p:Nat} (h:SchTry t fs p) (hp:t.size<=p):∀gs,IsSch t gs->gs=fs:=fun gs hg=>by
 obtain ⟨⟨l,hl⟩,rfl⟩:=h gs hg
 cases l with
 | nil=>rw [hl,List.append_nil]
 | cons g l=>
  exfalso
  obtain ⟨X,hX⟩:=schT_more l (fs++ [g]);rw [List.append_assoc,List.singleton_append,<-hl,hg.2,schT_snoc] at hX;have:=congrArg ByteArray.size hX;rw [ByteArray.size_append,ByteArray.size_append,ByteArray.size_append,byteT_size] at this
  omega
def SchHas (t:ByteArray) (fs:List (ByteArray×Int)) (p:Nat):Prop:=p<=t.size/\schT fs=t.extract 0 p/\∀f∈fs,f.1.size<=20000
theorem schHas_nil (t:ByteArray):SchHas t [] 0:=⟨Nat.zero_le _,by
 apply ByteArray.ext
 apply Array.toList_inj.1
 rw [Lib.extract_data];rfl,fun f h=>by simp at h⟩
theorem byte_at (t:ByteArray) (p:Nat) (hp:p<t.size):t.extract p (p+1)=byteT (byt t p:Int):=by
 have h:=extract_bytes t p 1 (by omega)
 apply ByteArray.ext
 apply Array.toList_inj.1
 rw [h,byteT,Int.toNat_natCast]
 rfl
theorem schHas_some {t x:ByteArray} {fs:List (ByteArray×Int)} {p q:Nat} (h:SchHas t fs p) (hp:p<t.size) (hr:rdS t (p+1)=some (x,q)):SchHas t (fs++ [(x,(byt t p:Int))]) q:=by
 obtain ⟨h1,h2,h3,h4⟩:=rdS_back hr
 refine ⟨h2,?_,fun f hf=> ?_⟩
 ·rw [schT_snoc,h.2.1,<-h4,<-byte_at t p hp,<-extract_two t 0 p (p+1) (by omega) (by omega),<-extract_two t 0 (p+1) q (by omega) (by omega)]
 ·rcases List.mem_append.1 hf with hf | hf
  ·exact h.2.2 f hf
  ·obtain rfl:=List.mem_singleton.1 hf
   exact h3
theorem extract_allT (t:ByteArray) (p:Nat) (h:t.size<=p):t.extract 0 p=t:=by
 apply ByteArray.ext
 apply Array.toList_inj.1
 rw [Lib.extract_data,List.drop_zero,List.take_of_length_le (by rw [ba_len];omega)]
def ReadSch (t:ByteArray) (fs:List (ByteArray×Int)) (ok:Bool):Prop:=(ok=true/\IsSch t fs/\∀gs,IsSch t gs->gs=fs)\/(ok=false/\fs= []/\∀gs,¬IsSch t gs)
theorem readSch_one {t:ByteArray} {fs gs:List (ByteArray×Int)} {ok ko:Bool} (h:ReadSch t fs ok) (k:ReadSch t gs ko):fs=gs/\ok=ko:=by
 rcases h with ⟨h1,h2,h3⟩ | ⟨h1,h2,h3⟩ <;> rcases k with ⟨k1,k2,k3⟩ | ⟨k1,k2,k3⟩
 ·exact ⟨k3 _ h2,by rw [h1,k1]⟩
 ·exact absurd h2 (k3 _)
 ·exact absurd k2 (h3 _)
 ·exact ⟨by rw [h2,k2],by rw [h1,k1]⟩
theorem thingK_app (fs:List (ByteArray×Int)) (vs us:List (Int×ByteArray)):∀k,k<=vs.length->thingK fs (vs++us) k=thingK fs vs k
 | 0,_=>rfl
 | k+1,h=>by
  rw [thingK,thingK,thingK_app fs vs us k (by omega)]
  have:(vs++us).getD k (0,⟨#[]⟩)=vs.getD k (0,⟨#[]⟩):=by
   simp only [List.getD_eq_getElem?_getD,List.getElem?_append_left (show k<vs.length by omega)]
  rw [this]
def thT (fs:List (ByteArray×Int)) (vs:List (Int×ByteArray)):ByteArray:=thingK fs vs vs.length
theorem thT_snoc (fs:List (ByteArray×Int)) (vs:List (Int×ByteArray)) (u:Int×ByteArray):thT fs (vs++ [u])=thT fs vs++valueT (fs.getD vs.length (⟨#[]⟩,0)).2 u.1 u.2:=by
 unfold thT;rw [List.length_append,List.length_singleton,thingK,thingK_app fs vs [u] vs.length (Nat.le_refl _)]
 simp
theorem thT_more (fs:List (ByteArray×Int)):∀(us vs:List (Int×ByteArray)),∃X,thT fs (vs++us)=thT fs vs++X
 | [],vs=>⟨⟨#[]⟩,by rw [List.append_nil];exact (ByteArray.append_empty).symm⟩
 | u :: us,vs=>by
  obtain ⟨X,hX⟩:=thT_more fs us (vs++ [u]);rw [List.append_assoc,List.singleton_append] at hX
  exact ⟨_,by rw [hX,thT_snoc,ByteArray.append_assoc]⟩
def IsTh (fs:List (ByteArray×Int)) (t:ByteArray) (vs:List (Int×ByteArray)):Prop:=thingOkB fs vs=true/\thT fs vs=t
def ThTry (fs:List (ByteArray×Int)) (t:ByteArray) (vs:List (Int×ByteArray)) (p:Nat):Prop:=∀us,IsTh fs t us->(∃l,us=vs++l)/\p=(thT fs vs).size
theorem thTry_nil (fs:List (ByteArray×Int)) (t:ByteArray):ThTry fs t [] 0:=fun us _=>⟨⟨us,rfl⟩,rfl⟩
def rdVal (kind:Int) (t:ByteArray) (p:Nat):Option ((Int×ByteArray)×Nat):=if kind=1 then (rdV t p).map fun x=>(((x.1:Nat),⟨#[]⟩),x.2) else (rdS t p).map fun x=>((0,x.1),x.2)
theorem rdVal_at {kind:Int} {t A X:ByteArray} {u:Int×ByteArray} (hv:valueB kind u.1 u.2=true) (ht:t=A++valueT kind u.1 u.2++X):rdVal kind t A.size=some (u,(A++valueT kind u.1 u.2).size):=by
 obtain ⟨num,x⟩:=u
 by_cases hk:kind=1
 ·subst hk
  rw [value_num,Bool.and_eq_true,decide_eq_true_eq,decide_eq_true_eq] at hv;obtain ⟨⟨h0,h1⟩,h2⟩:=hv;obtain ⟨n,hn⟩:=Int.eq_ofNat_of_zero_le h0
  simp only at hn h1 h2 ht
  subst hn h2;rw [valueT,if_pos rfl,Int.toNat_natCast] at ht⊢
  rw [rdVal,if_pos rfl,rdV_at t A X n (by omega) ht]
  rfl
 ·have hv':=hv
  rw [valueB,if_neg hk,Bool.and_eq_true,decide_eq_true_eq,decide_eq_true_eq] at hv';obtain ⟨-,-,h0,h6⟩:=hv'
  simp only at h0 h6 ht
  subst h0;rw [valueT,if_neg hk] at ht⊢
  rw [rdVal,if_neg hk,rdS_at t A x X (by omega) ht]
  rfl
theorem th_next {fs:List (ByteArray×Int)} {t:ByteArray} {vs us:List (Int×ByteArray)} {p:Nat} (h:ThTry fs t vs p) (hk:vs.length<fs.length) (hg:IsTh fs t us):
  ∃u l,us=vs++u :: l/\rdVal fs[vs.length].2 t p=some (u,(thT fs (vs++ [u])).size):=by
 obtain ⟨⟨l,hl⟩,rfl⟩:=h us hg;obtain ⟨-,h2,-,h4⟩:=thing_yes hg.1
 cases l with
 | nil=>rw [List.append_nil] at hl;subst hl;omega
 | cons u l=>
  refine ⟨u,l,hl,?_⟩;obtain ⟨X,hX⟩:=thT_more fs l (vs++ [u])
  have hgd:fs.getD vs.length (⟨#[]⟩,0)=fs[vs.length]:=by simp [List.getD,hk]
  rw [List.append_assoc,List.singleton_append,<-hl,hg.2,thT_snoc,hgd] at hX
  have hv:=h4 vs.length (by rw [hl];simp) hk
  simp only [hl,List.getElem_append_right (Nat.le_refl _),Nat.sub_self,List.getElem_cons_zero] at hv
  rw [thT_snoc,hgd];exact rdVal_at hv hX
theorem thTry_none {fs:List (ByteArray×Int)} {t:ByteArray} {vs:List (Int×ByteArray)} {p:Nat} (h:ThTry fs t vs p) (hk:vs.length<fs.length) (hr:rdVal fs[vs.length].2 t p=none):∀us,¬IsTh fs t us:=fun us hg=>by
 obtain ⟨u,l,-,h3⟩:=th_next h hk hg;rw [hr] at h3
 cases h3
theorem thTry_some {fs:List (ByteArray×Int)} {t:ByteArray} {vs:List (Int×ByteArray)} {p q:Nat} {u:Int×ByteArray} (h:ThTry fs t vs p) (hk:vs.length<fs.length) (hr:rdVal fs[vs.length].2 t p=some (u,q)):ThTry fs t (vs++ [u]) q:=fun us hg=>by
 obtain ⟨g,l,h1,h3⟩:=th_next h hk hg;rw [hr] at h3
 simp only [Option.some.injEq,Prod.mk.injEq] at h3
 obtain ⟨rfl,h5⟩:=h3
 exact ⟨⟨l,by rw [h1];simp⟩,h5⟩
theorem thTry_end {fs:List (ByteArray×Int)} {t:ByteArray} {vs:List (Int×ByteArray)} {p:Nat} (h:ThTry fs t vs p) (hk:fs.length<=vs.length):∀us,IsTh fs t us->us=vs/\p=t.size:=fun us hg=>by
 obtain ⟨⟨l,hl⟩,rfl⟩:=h us hg;obtain ⟨-,h2,-,-⟩:=thing_yes hg.1;have h3:=h2;rw [hl,List.length_append] at h3
 have:l= []:=List.eq_nil_of_length_eq_zero (by omega)
 subst this;rw [List.append_nil] at hl
 exact ⟨hl,by rw [<-hg.2,hl]⟩
def ThHas (fs:List (ByteArray×Int)) (t:ByteArray) (vs:List (Int×ByteArray)) (p:Nat):Prop:=p<=t.size/\thT fs vs=t.extract 0 p/\∀u∈vs,u.2.size<=20000
theorem thHas_nil (fs:List (ByteArray×Int)) (t:ByteArray):ThHas fs t [] 0:=⟨Nat.zero_le _,(schHas_nil t).2.1,fun f h=>by simp at h⟩
theorem rdVal_back {kind:Int} {t:ByteArray} {p q:Nat} {u:Int×ByteArray} (h:rdVal kind t p=some (u,q)):p<q/\q<=t.size/\u.2.size<=20000/\t.extract p q=valueT kind u.1 u.2:=by
 unfold rdVal at h
 split at h
 ·next hk=>
  rw [Option.map_eq_some_iff] at h;obtain ⟨⟨n,r⟩,h1,h2⟩:=h;obtain ⟨h3,h4,h5,h6⟩:=rdV_back h1
  simp only [Prod.mk.injEq] at h2
  obtain ⟨rfl,rfl⟩:=h2
  exact ⟨h3,h4,Nat.zero_le _,by rw [h6,valueT,if_pos hk,Int.toNat_natCast]⟩
 ·next hk=>
  rw [Option.map_eq_some_iff] at h;obtain ⟨⟨x,r⟩,h1,h2⟩:=h;obtain ⟨h3,h4,h5,h6⟩:=rdS_back h1
  simp only [Prod.mk.injEq] at h2
  obtain ⟨rfl,rfl⟩:=h2
  exact ⟨h3,h4,h5,by rw [h6,valueT,if_neg hk]⟩
theorem thHas_some {fs:List (ByteArray×Int)} {t:ByteArray} {vs:List (Int×ByteArray)} {p q:Nat} {u:Int×ByteArray} (h:ThHas fs t vs p) (hk:vs.length<fs.length) (hr:rdVal fs[vs.length].2 t p=some (u,q)):ThHas fs t (vs++ [u]) q:=by
 obtain ⟨h1,h2,h3,h4⟩:=rdVal_back hr
 refine ⟨h2,?_,fun f hf=> ?_⟩
 ·rw [thT_snoc,h.2.1,show fs.getD vs.length (⟨#[]⟩,0)=fs[vs.length] from by simp [List.getD,hk],<-h4,<-extract_two t 0 p q (by omega) (by omega)]
 ·rcases List.mem_append.1 hf with hf | hf
  ·exact h.2.2 f hf
  ·obtain rfl:=List.mem_singleton.1 hf
   exact h3
def ReadTh (fs:List (ByteArray×Int)) (t:ByteArray) (vs:List (Int×ByteArray)) (ok:Bool):Prop:=(ok=true/\IsTh fs t vs/\∀us,IsTh fs t us->us=vs)\/(ok=false/\vs= []/\∀us,¬IsTh fs t us)
theorem readTh_one {fs:List (ByteArray×Int)} {t:ByteArray} {vs us:List (Int×ByteArray)} {ok ko:Bool} (h:ReadTh fs t vs ok) (k:ReadTh fs t us ko):vs=us/\ok=ko:=by
 rcases h with ⟨h1,h2,h3⟩ | ⟨h1,h2,h3⟩ <;> rcases k with ⟨k1,k2,k3⟩ | ⟨k1,k2,k3⟩
 ·exact ⟨k3 _ h2,by rw [h1,k1]⟩
 ·exact absurd h2 (k3 _)
 ·exact absurd k2 (h3 _)
 ·exact ⟨by rw [h2,k2],by rw [h1,k1]⟩
open Go.RowKit
theorem flds_snoc (l:List (ByteArray×Int)) (f:ByteArray×Int):flds l++flds [f]=flds (l++ [f]):=by simp [flds]
theorem fld_new (w:World) (x:ByteArray) (q:Int):RowAt (w.alloc (Obj.cells #[.string x,.int .i64 q] 146)) 2 (.slice (some ⟨w.heap.size,0,none⟩) 1 1) 1 (flds [(x,q)]):=by
 refine ⟨rfl,_,_,rfl,Or.inr ⟨w.heap.size,0,rfl,by simp,fun j hj=> ?_⟩⟩
 rw [Nat.zero_add,(cell_at (heap_alloc_new w _) j).1]
 simp [flds]
theorem fld_at (w:World) (n:Nat) (hn:n=w.heap.size) (x:ByteArray) (q:Int):RowAt (w.alloc (Obj.cells #[.string x,.int .i64 q] 146)) 2 (.slice (some ⟨n,0,none⟩) 1 1) 1 (flds [(x,q)]):=by
 subst hn;exact fld_new w x q
theorem flds_one (l:List (ByteArray×Int)):∀y∈flds l,y.oneCell'=true:=fun y hy=>by
 obtain ⟨p,_,hp⟩:=List.mem_flatMap.1 hy
 simp at hp
 rcases hp with rfl | rfl <;> rfl
theorem own_flds0 (w:World) (B:Nat) (hB:B<=w.heap.size):(w.alloc (Obj.cells #[] 146)).ownsRow B 146 2 (.slice (some ⟨w.heap.size,0,none⟩) 0 0) ([]:List (ByteArray×Int)).length (flds []):=by
 simpa [flds] using World.ownsRow_lit (base:=B) (e:=146) (size:=2) w #[] 0 hB (by unfold maxLen;omega) (by simp)
theorem sch_round {t:ByteArray} (ht:t.size<=1048576) {fs:List (ByteArray×Int)} {p:Nat} (h:SchTry t fs p) (hp:p<t.size) (g:Nat):∃(x:ByteArray) (q:Nat) (bad:Bool),
  (∀wx,CurT wx g t (p+1) false->Calls Tryz.prog 73 #[.pointer (some ⟨g,0,none⟩)] wx fun e w'=>e= .returned (.string x)/\CurT w' g t q bad/\wx.grownBy w' (some g))/\
  x.size<=20000/\q<=1048576/\SchTry t (fs++ [(x,(byt t p:Int))]) q/\(bad=true->∀gs,¬IsSch t gs):=by
 cases ho:rdS t (p+1) with
 | none=>
  have hn:=schTry_none h hp ho
  exact ⟨⟨#[]⟩,p+1,true,fun wx hc=>l04ReadShort_bad g t ht (p+1) false (Or.inr ho) wx hc,Nat.zero_le _,by omega,fun gs hg=>absurd hg (hn gs),fun _=>hn⟩
 | some r=>
  obtain ⟨x,q⟩:=r;obtain ⟨h1,h2,h3,-⟩:=rdS_back ho
  exact ⟨x,q,false,fun wx hc=>l04ReadShort_good g t ht (p+1) x q ho wx hc,h3,by omega,schTry_some h hp ho,fun e=>by cases e⟩
theorem cur_moved {w:World} {g p:Nat} {t:ByteArray} {bad:Bool} (h:CurT w g t p bad) (o:Obj):CurT ((w.setCell ⟨g,1,none⟩ (.int .i64 ((p:Int)+1))).alloc o) g t (p+1) bad/\w.grownBy ((w.setCell ⟨g,1,none⟩ (.int .i64 ((p:Int)+1))).alloc o) (some g)/\((w.setCell ⟨g,1,none⟩ (.int .i64 ((p:Int)+1))).alloc o).heap[w.heap.size]?=some o:=by
 have hgl:=curT_lt h;have h1:(w.setCell ⟨g,1,none⟩ (.int .i64 ((p:Int)+1))).heap[g]?=some (.cells #[.string t,.int .i64 ((p:Int)+1),.bool bad] 142 (0,0)):=heap_setCell_same w g 1 _ _ _ h
 refine ⟨(Below.heap_alloc _ o g (by simpa using hgl)).trans h1,grown_alloc (grown_setCell w g 1 _) o,?_⟩
 have:=heap_alloc_new (w.setCell ⟨g,1,none⟩ (.int .i64 ((p:Int)+1))) o
 simpa using this
theorem curT_grown {w w':World} {g p:Nat} {t:ByteArray} {bad:Bool} {row:Option Nat} (h:CurT w g t p bad) (hg:w.grownBy w' row) (hne:some g≠row):CurT w' g t p bad:=(hg.block g (curT_lt h) hne).trans h
theorem specReadSchema_any (t:ByteArray) (ht:t.size<=1048576) (w:World):
  Calls Tryz.prog 71 #[.string t] w fun e w'=>∃v fs ok,e= .returned (.tuple #[v,.bool ok])/\w'.ownsRow w.heap.size 146 2 v fs.length (flds fs)/\ReadSch t fs ok/\Below w.heap.size w w':=by
 obtain ⟨i0,hi,hz0,hz1,hz2⟩:=info_parts Tryz.infoFld;obtain ⟨w1,hw1⟩:∃w1,w1=w.alloc (Obj.cells #[.string t,.int .i64 0,.bool false] 142):=⟨_,rfl⟩
 have hb1:Below w.heap.size w w1:=by rw [hw1];exact (Below.refl w.heap.size w).alloc (Nat.le_refl _) _
 have hs1:w1.heap.size=w.heap.size+1:=by rw [hw1];simp
 have hcu:CurT w1 w.heap.size t 0 false:=by rw [hw1];exact heap_alloc_new w _
 have HSt:Hid (∀o,CurT (w1.alloc o) w.heap.size t 0 false/\Below w.heap.size w (w1.alloc o)):=hide (fun o=>⟨(Below.heap_alloc w1 o w.heap.size (by omega)).trans hcu,hb1.alloc hb1.size _⟩)
 have hOw:=own_flds0 w1 (w.heap.size+1) (by omega)
 rw [hs1] at hOw;have HOw:=hide hOw;clear hb1 hcu hOw hs1;go_enter Tryz.func71,Tryz.ntmps71;go_wp2_with fail;rw [<-hw1];clear hw1
 go_loopg [5] 4 (fun q ov wr=>∃(fs:List (ByteArray×Int)) (p:Nat) (bad:Bool),fs.length<=4/\q+fs.length=4/\wr.ownsRow (w.heap.size+1) 146 2 ov fs.length (flds fs)/\CurT wr w.heap.size t p bad/\Hid (Below w.heap.size w wr)/\p<=1048576/\Hid (∀f∈fs,f.1.size<=1048576)/\Hid (SchTry t fs p/\(bad=true->∀gs,¬IsSch t gs)))
 case atStart=>exact ⟨[],0,false,by simp,rfl,HOw.out,(HSt.out _).1,hide (HSt.out _).2,by omega,hide (fun f h=>by simp at h),hide ⟨schTry_nil t,fun h=>by cases h⟩⟩
 case round=>
  obtain ⟨fs,p,bad,hfl,hgk,hown,hcu,HB,hp,HN,HT⟩:=hrel;have HG:=hide hgk;have HCu:=hide hcu;have HOn:=hide hown;have hgl:=curT_lt hcu;have c1:wr.cell? ⟨w.heap.size,1,none⟩=some (.int .i64 (p:Int)):=(cell_at hcu 1).1;have f1:=(cell_at hcu 1).2;have c2:wr.cell? ⟨w.heap.size,2,none⟩=some (.bool bad):=(cell_at hcu 2).1
  obtain ⟨a,cap,hov⟩:∃a cap,u5= .slice a fs.length cap:=by obtain ⟨-,a,cap,e,-⟩:=row_of_own hown;exact ⟨a,cap,e⟩
  subst hov;clear hgk hcu hown
  by_cases hmore:p<t.size/\bad=false/\fs.length<=3
  ·obtain ⟨h1,rfl,h3⟩:=hmore
   obtain ⟨y,hy⟩:∃y,y=byt t p:=⟨_,rfl⟩
   have hyb:y<256:=by rw [hy];exact byt_lt t _
   have hs1:t[p].toNat=y:=by rw [hy];exact byt_eq t _ h1
   have HY:=hide hy
   have hp0:(0:Int)<=(p:Int):=by omega
   have hp1:(p:Int)<(t.size:Int):=by omega
   have d3:decide ((fs.length:Int)<=3)=true:=by simp;omega
   clear hy;obtain ⟨x,q,bad2,HCall,hx,hq,HT2⟩:=sch_round ht HT.out.1 h1 w.heap.size;rw [<-HY.out] at HT2;have HCl:=hide HCall;have HT3:=hide HT2;obtain ⟨wx,hwx⟩:∃wx,wx=(wr.setCell ⟨w.heap.size,1,none⟩ (.int .i64 ((p:Int)+1))).alloc (Obj.cells #[.string ⟨#[]⟩,.int .i64 (y:Int)] 146):=⟨_,rfl⟩;have hmv:=cur_moved HCu.out (Obj.cells #[.string ⟨#[]⟩,.int .i64 (y:Int)] 146);rw [<-hwx] at hmv;have HMv:=hide hmv;clear HCall HT2 hmv;go_wp2_with fail;rw [<-hwx];clear hwx hs1 c1 c2 f1 hp0 hp1 d3;refine (HCl.out _ HMv.out.1).mono ?_;rintro e w2 ⟨rfl,hcu2,hg2⟩;have hg12:=grown_trans HMv.out.2.1 hg2
   have hne:wr.heap.size≠w.heap.size:=by omega
   have hF2:w2.heap[wr.heap.size]?=some (Obj.cells #[.string ⟨#[]⟩,.int .i64 (y:Int)] 146):=(hg2.block _ (Array.getElem?_eq_some_iff.1 HMv.out.2.2).1 (by simpa using hne)).trans HMv.out.2.2
   have hF3:(w2.setCell ⟨wr.heap.size,0,none⟩ (.string x)).heap[wr.heap.size]?=some (.cells #[.string x,.int .i64 (y:Int)] 146 (0,0)):=heap_setCell_same w2 wr.heap.size 0 _ _ _ hF2;have e0:w2.frozen? ⟨wr.heap.size,0,none⟩=false:=(cell_at hF2 0).2;have e0c:w2.cell? ⟨wr.heap.size,0,none⟩=some (.string ⟨#[]⟩):=(cell_at hF2 0).1;obtain ⟨w3,hw3⟩:∃w3,w3=w2.setCell ⟨wr.heap.size,0,none⟩ (.string x):=⟨_,rfl⟩;rw [<-hw3] at hF3;have e1c:w2.cell? ⟨wr.heap.size,1,none⟩=some (.int .i64 (y:Int)):=(cell_at hF2 1).1
   have hg3:w2.grownBy w3 (some wr.heap.size):=by rw [hw3];exact grown_setCell _ _ _ _
   have HS3:Hid (w2.heap.size=w3.heap.size):=hide (by rw [hw3];simp)
   have hlt0:=HOn.out.lt
   have hown2:=HOn.out.kept hg12 (Or.inr (fun e=>by have:=(hlt0 _ e).1;omega))
   have hown3:=hown2.kept hg3 (Or.inr (fun e=>by have:=(hlt0 _ e).2;omega))
   have hsz2:=hg12.size;have HSz3:=hg3.size
   have HB3:Hid (Below w.heap.size w w3):=hide ((HB.out.grown hg12 HB.out.size (fun k hk=>by injection hk with hk;omega)).grown hg3 (by omega) (fun k hk=>by injection hk with hk;omega))
   have HCu3:Hid (CurT w3 w.heap.size t q bad2):=hide (curT_grown hcu2 hg3 (by simpa using Ne.symm hne))
   have HO3:=hide hown3
   have HLt:Hid (∀k,Value.ownBlock (.slice a fs.length cap)=some k->w.heap.size+1<=k):=hide (fun k hk=>(hlt0 k hk).1)
   have hs3:w.heap.size+1<=w3.heap.size:=by omega
   clear hcu2 hg2 hg12 hF2 hF3 hlt0 hown2 hown3 hg3 hsz2 HSz3 hne
   go_wp2_with (at_builtin;(rw [<-hw3];refine wpList_append_row _ rfl _ _ 99 rfl (w.heap.size+1) 146 i0 (.agg #[.string ⟨#[]⟩,.int .i64 0]) 2 24 Tryz.underlying99 hi hz0 hz1 hz2 rfl (by decide) _ _ _ rfl (HO3.out.alloc _) _ 1 (flds [(x,(y:Int))]) rfl (fld_at w3 w2.heap.size HS3.out x (y:Int)) (flds_one _) ?_ ?_ ?_ ?_))
   ·unfold maxLen;omega
   ·omega
   ·simp;omega
   intro y6 d6 w6 hown6 hg6;rw [<-hw3] at hg6
   have hown7:w6.ownsRow (w.heap.size+1) 146 2 (.slice y6 (fs.length+1) d6) (fs++ [(x,(y:Int))]).length (flds (fs++ [(x,(y:Int))])):=by
    rw [<-flds_snoc,List.length_append];exact hown6
   have hg36:=grown_trans (World.grownBy_alloc w3 _ _) hg6
   have HB6:Hid (Below w.heap.size w w6):=hide (HB3.out.grown hg36 HB3.out.size (fun k hk=>by have:=HLt.out k hk;omega))
   have hcu6:CurT w6 w.heap.size t q bad2:=curT_grown HCu3.out hg36 (fun e=>by have:=HLt.out _ e.symm;omega)
   clear hown6 hg6 hg36 e0 e0c e1c hw3;go_wp2_with fail
   go_roundg (gk - 1)
   case measure=>have:=HG.out;omega
   case rel=>exact ⟨fs++ [(x,(y:Int))],q,bad2,by simp;omega,by have:=HG.out;simp;omega,hown7,hcu6,HB6,hq,hide (fun f hf=>by
    rcases List.mem_append.1 hf with hf | hf
    ·exact HN.out f hf
    ·obtain rfl:=List.mem_singleton.1 hf
     exact Nat.le_trans hx (by omega)),HT3⟩
  ·by_cases h1:p<t.size
   ·cases bad with
    | true=>
     have d1:decide ((p:Int)<(t.size:Int))=true:=by simp;omega
     clear hmore
     have HSp:=hide (specSchemaText_any fs (by omega) HN.out (.slice a fs.length cap) wr (row_of_own HOn.out))
     have HNo:Hid (∀gs,¬IsSch t gs):=hide (HT.out.2 rfl);go_wp2_with fail;refine HSp.out.mono ?_;rintro e w2 ⟨rfl,hb2⟩;have HB2:Hid (Below w.heap.size w w2):=hide (HB.out.trans (hb2.mono HB.out.size))
     have k2:w2.cell? ⟨w.heap.size,2,none⟩=some (.bool true):=(hb2.cell (by exact hgl)).trans c2
     clear hb2 c1 c2 f1;go_wp2_with fail;go_ret2;exact ⟨_,[],false,rfl,own_flds0 _ _ HB2.out.size,Or.inr ⟨rfl,rfl,HNo.out⟩,HB2.out.alloc HB2.out.size _⟩
    | false=>
     have h3:3<fs.length:=by
      by_cases h3:fs.length<=3
      ·exact absurd ⟨h1,rfl,h3⟩ hmore
      ·omega
     have HE:Hid (∀gs,IsSch t gs->gs=fs):=hide (fun gs hg=>absurd hg (schTry_full HT.out.1 h1 (by omega) gs))
     have d1:decide ((p:Int)<(t.size:Int))=true:=by simp;omega
     have d3:decide ((fs.length:Int)<=3)=false:=by simp;omega
     clear hmore
     have HSp:=hide (specSchemaText_any fs (by omega) HN.out (.slice a fs.length cap) wr (row_of_own HOn.out))
     cases hok:schemaOkB fs with
     | false=>
      rw [hok] at HSp
      have HNo:Hid (∀gs,¬IsSch t gs):=hide (fun gs hg=>by
       have:=HE.out gs hg;subst this
       rw [hg.1] at hok;cases hok)
      clear hok;go_wp2_with fail;refine HSp.out.mono ?_;rintro e w2 ⟨rfl,hb2⟩;have HB2:Hid (Below w.heap.size w w2):=hide (HB.out.trans (hb2.mono HB.out.size))
      have k2:w2.cell? ⟨w.heap.size,2,none⟩=some (.bool false):=(hb2.cell (by exact hgl)).trans c2
      clear hb2 c1 c2 f1;go_wp2_with fail;go_ret2;exact ⟨_,[],false,rfl,own_flds0 _ _ HB2.out.size,Or.inr ⟨rfl,rfl,HNo.out⟩,HB2.out.alloc HB2.out.size _⟩
     | true=>
      have hso:schemaO fs=schT fs:=by rw [schemaO,if_pos hok,schT]
      rw [hok,hso] at HSp;have hbq:=ba_beq (schT fs) t
      by_cases hst:schT fs=t
      ·have HYs:Hid (IsSch t fs):=hide ⟨hok,hst⟩
       rw [decide_eq_true hst] at hbq;obtain ⟨bk,hbk⟩:∃bk,bk=schT fs:=⟨_,rfl⟩;rw [<-hbk] at hbq HSp;clear hok hso hst hbk;go_wp2_with fail;refine HSp.out.mono ?_;rintro e w2 ⟨rfl,hb2⟩;have HB2:Hid (Below w.heap.size w w2):=hide (HB.out.trans (hb2.mono HB.out.size));have HO2:=hide (own_stays HOn.out hb2)
       have k2:w2.cell? ⟨w.heap.size,2,none⟩=some (.bool false):=(hb2.cell (by exact hgl)).trans c2
       clear hb2 c1 c2 f1;go_wp2_with fail;go_ret2
       exact ⟨_,fs,true,rfl,own_down HO2.out (by omega),Or.inl ⟨rfl,HYs.out,HE.out⟩,HB2.out⟩
      ·have HNo:Hid (∀gs,¬IsSch t gs):=hide (fun gs hg=>by
        have:=HE.out gs hg;subst this
        exact hst hg.2)
       rw [decide_eq_false hst] at hbq;obtain ⟨bk,hbk⟩:∃bk,bk=schT fs:=⟨_,rfl⟩;rw [<-hbk] at hbq HSp;clear hok hso hst hbk;go_wp2_with fail;refine HSp.out.mono ?_;rintro e w2 ⟨rfl,hb2⟩;have HB2:Hid (Below w.heap.size w w2):=hide (HB.out.trans (hb2.mono HB.out.size))
       have k2:w2.cell? ⟨w.heap.size,2,none⟩=some (.bool false):=(hb2.cell (by exact hgl)).trans c2
       clear hb2 c1 c2 f1;go_wp2_with fail;go_ret2;exact ⟨_,[],false,rfl,own_flds0 _ _ HB2.out.size,Or.inr ⟨rfl,rfl,HNo.out⟩,HB2.out.alloc HB2.out.size _⟩
   ·have HE:Hid (∀gs,IsSch t gs->gs=fs):=hide (schTry_end HT.out.1 (by omega))
    have d1:decide ((p:Int)<(t.size:Int))=false:=by simp;omega
    clear hmore
    cases bad with
    | true=>
     have HSp:=hide (specSchemaText_any fs (by omega) HN.out (.slice a fs.length cap) wr (row_of_own HOn.out))
     have HNo:Hid (∀gs,¬IsSch t gs):=hide (HT.out.2 rfl);go_wp2_with fail;refine HSp.out.mono ?_;rintro e w2 ⟨rfl,hb2⟩;have HB2:Hid (Below w.heap.size w w2):=hide (HB.out.trans (hb2.mono HB.out.size))
     have k2:w2.cell? ⟨w.heap.size,2,none⟩=some (.bool true):=(hb2.cell (by exact hgl)).trans c2
     clear hb2 c1 c2 f1;go_wp2_with fail;go_ret2;exact ⟨_,[],false,rfl,own_flds0 _ _ HB2.out.size,Or.inr ⟨rfl,rfl,HNo.out⟩,HB2.out.alloc HB2.out.size _⟩
    | false=>
     have HSp:=hide (specSchemaText_any fs (by omega) HN.out (.slice a fs.length cap) wr (row_of_own HOn.out))
     cases hok:schemaOkB fs with
     | false=>
      rw [hok] at HSp
      have HNo:Hid (∀gs,¬IsSch t gs):=hide (fun gs hg=>by
       have:=HE.out gs hg;subst this
       rw [hg.1] at hok;cases hok)
      clear hok;go_wp2_with fail;refine HSp.out.mono ?_;rintro e w2 ⟨rfl,hb2⟩;have HB2:Hid (Below w.heap.size w w2):=hide (HB.out.trans (hb2.mono HB.out.size))
      have k2:w2.cell? ⟨w.heap.size,2,none⟩=some (.bool false):=(hb2.cell (by exact hgl)).trans c2
      clear hb2 c1 c2 f1;go_wp2_with fail;go_ret2;exact ⟨_,[],false,rfl,own_flds0 _ _ HB2.out.size,Or.inr ⟨rfl,rfl,HNo.out⟩,HB2.out.alloc HB2.out.size _⟩
     | true=>
      have hso:schemaO fs=schT fs:=by rw [schemaO,if_pos hok,schT]
      rw [hok,hso] at HSp;have hbq:=ba_beq (schT fs) t
      by_cases hst:schT fs=t
      ·have HYs:Hid (IsSch t fs):=hide ⟨hok,hst⟩
       rw [decide_eq_true hst] at hbq;obtain ⟨bk,hbk⟩:∃bk,bk=schT fs:=⟨_,rfl⟩;rw [<-hbk] at hbq HSp;clear hok hso hst hbk;go_wp2_with fail;refine HSp.out.mono ?_;rintro e w2 ⟨rfl,hb2⟩;have HB2:Hid (Below w.heap.size w w2):=hide (HB.out.trans (hb2.mono HB.out.size));have HO2:=hide (own_stays HOn.out hb2)
       have k2:w2.cell? ⟨w.heap.size,2,none⟩=some (.bool false):=(hb2.cell (by exact hgl)).trans c2
       clear hb2 c1 c2 f1;go_wp2_with fail;go_ret2
       exact ⟨_,fs,true,rfl,own_down HO2.out (by omega),Or.inl ⟨rfl,HYs.out,HE.out⟩,HB2.out⟩
      ·have HNo:Hid (∀gs,¬IsSch t gs):=hide (fun gs hg=>by
        have:=HE.out gs hg;subst this
        exact hst hg.2)
       rw [decide_eq_false hst] at hbq;obtain ⟨bk,hbk⟩:∃bk,bk=schT fs:=⟨_,rfl⟩;rw [<-hbk] at hbq HSp;clear hok hso hst hbk;go_wp2_with fail;refine HSp.out.mono ?_;rintro e w2 ⟨rfl,hb2⟩;have HB2:Hid (Below w.heap.size w w2):=hide (HB.out.trans (hb2.mono HB.out.size))
       have k2:w2.cell? ⟨w.heap.size,2,none⟩=some (.bool false):=(hb2.cell (by exact hgl)).trans c2
       clear hb2 c1 c2 f1;go_wp2_with fail;go_ret2;exact ⟨_,[],false,rfl,own_flds0 _ _ HB2.out.size,Or.inr ⟨rfl,rfl,HNo.out⟩,HB2.out.alloc HB2.out.size _⟩
open Go.RowKit
def letB (y:Nat):Bool:=decide (97<=y/\y<=122)
def nameB (p:Nat->Bool) (s:ByteArray) (most:Nat):Bool:=decide (∀i,i<s.size->p (byt s i)=true) && decide (1<=s.size/\s.size<=most)
theorem name_bad {p:Nat->Bool} {s:ByteArray} {most k:Nat} (hk:k<s.size) (h:p (byt s k)=false):nameB p s most=false:=by
 rw [nameB,decide_eq_false (fun hh=>by have:=hh k hk;rw [h] at this;cases this)];rfl
theorem name_all {p:Nat->Bool} {s:ByteArray} {most:Nat} (h:∀i,i<s.size->p (byt s i)=true):nameB p s most=decide (1<=s.size/\s.size<=most):=by
 rw [nameB,decide_eq_true h];rfl
theorem name_word (s:ByteArray) (most:Nat):nameB letB s most=wordB s most:=by
 simp [nameB,wordB,letB]
theorem isLetter_any (y:Nat) (hy:y<256) (w:World):Calls Tryz.prog 182 #[.int .u8 (y:Int)] w fun e w'=>e= .returned (.bool (letB y))/\w=w':=by
 by_cases h1:97<=y
 ·have d1:decide ((97:Int)<=(y:Int))=true:=by simp;omega
  by_cases h2:y<=122
  ·have d2:decide ((y:Int)<=122)=true:=by simp;omega
   have HO:Hid (letB y=true):=hide (by rw [letB,decide_eq_true ⟨h1,h2⟩])
   go_enter Tryz.func182,Tryz.ntmps182
   go_wp2
   go_ret;rw [HO.out];exact ⟨rfl,rfl⟩
  ·have d2:decide ((y:Int)<=122)=false:=by simp;omega
   have HO:Hid (letB y=false):=hide (by rw [letB,decide_eq_false (fun h=>h2 h.2)])
   go_enter Tryz.func182,Tryz.ntmps182
   go_wp2
   go_ret;rw [HO.out];exact ⟨rfl,rfl⟩
 ·have d1:decide ((97:Int)<=(y:Int))=false:=by simp;omega
  have HO:Hid (letB y=false):=hide (by rw [letB,decide_eq_false (fun h=>h1 h.1)])
  go_enter Tryz.func182,Tryz.ntmps182
  go_wp2
  go_ret;rw [HO.out];exact ⟨rfl,rfl⟩
theorem isName_letter (s:ByteArray) (hs:s.size<=1048576) (most:Nat) (w:World):
  Calls Tryz.prog 181 #[.string s,.int .i64 (most:Int),.func (.func 182) #[] #[]] w fun e w'=>e= .returned (.bool (nameB letB s most))/\w=w':=by
 by_cases h1:s.size<1
 ·have HO:Hid (nameB letB s most=false):=hide (by rw [nameB,decide_eq_false (show ¬(1<=s.size/\s.size<=most) from by omega)];simp)
  have d1:decide ((s.size:Int)<1)=true:=by simp;omega
  go_enter Tryz.func181,Tryz.ntmps181
  go_wp2
  go_ret;rw [HO.out];exact ⟨rfl,rfl⟩
 ·have d1:decide ((s.size:Int)<1)=false:=by simp;omega
  by_cases h2:most<s.size
  ·have HO:Hid (nameB letB s most=false):=hide (by rw [nameB,decide_eq_false (show ¬(1<=s.size/\s.size<=most) from by omega)];simp)
   have d2:decide ((most:Int)<(s.size:Int))=true:=by simp;omega
   go_enter Tryz.func181,Tryz.ntmps181
   go_wp2
   go_ret;rw [HO.out];exact ⟨rfl,rfl⟩
  ·have d2:decide ((most:Int)<(s.size:Int))=false:=by simp;omega
   go_enter Tryz.func181,Tryz.ntmps181
   go_wp2
   clear d1 d2
   go_loopg [7] s.size (fun g iv wr=>∃k:Nat,k<=s.size/\iv= .int .i64 (k:Int)/\g+k=s.size/\Hid (∀i,i<k->letB (byt s i)=true)/\w=wr)
   case atStart=>exact ⟨0,Nat.zero_le _,rfl,rfl,hide (fun i h=>by omega),rfl⟩
   case round=>
    obtain ⟨k,hk,rfl,hg,HA,rfl⟩:=hrel;have HG:=hide hg;clear hg
    by_cases hlt:k<s.size
    ·obtain ⟨y,hy⟩:∃y,y=byt s k:=⟨_,rfl⟩
     have hyb:y<256:=by rw [hy];exact byt_lt s _
     have hs1:s[k].toNat=y:=by rw [hy];exact byt_eq s _ hlt
     have HY:=hide hy
     have hk0:(0:Int)<=(k:Int):=by omega
     have hk1:(k:Int)<(s.size:Int):=by omega
     have HC:=hide (isLetter_any y hyb w);clear hy
     by_cases g1:letB y=true
     ·rw [g1] at HC
      have HA2:Hid (∀i,i<k+1->letB (byt s i)=true):=hide (fun i hi=>by
       by_cases e:i=k
       ·subst e;rw [<-HY.out];exact g1
       ·exact HA.out i (by omega))
      clear g1
      go_wp2_with (go_at_call 182;refine HC.out.mono ?_;rintro e w1 ⟨rfl,rfl⟩)
      go_roundg (gk - 1)
      case measure=>have:=HG.out;omega
      case rel=>exact ⟨k+1,by omega,by go_num,by have:=HG.out;omega,HA2,rfl⟩
     ·have g1:letB y=false:=by simpa using g1
      rw [g1] at HC
      have HO:Hid (nameB letB s most=false):=hide (name_bad hlt (by rw [<-HY.out];exact g1))
      clear g1
      go_wp2_with (go_at_call 182;refine HC.out.mono ?_;rintro e w1 ⟨rfl,rfl⟩)
      go_ret;rw [HO.out];exact ⟨rfl,rfl⟩
    ·have HO:Hid (nameB letB s most=true):=hide (by rw [name_all (fun i hi=>HA.out i (by omega)),decide_eq_true (by omega)])
     go_wp2
     go_ret;rw [HO.out];exact ⟨rfl,rfl⟩
open Go.RowKit
theorem implFieldAt_any (fs:List (ByteArray×Int)) (_hl:fs.length<=1048576) (name:ByteArray) (v:Value) (w:World) (hr:RowAt w 2 v fs.length (flds fs)):
  Calls Tryz.prog 150 #[v,.string name] w fun e w'=>e= .returned (.int .i64 (placeL name 0 fs))/\Below w.heap.size w w':=by
 obtain ⟨-,a,cap,rfl,h2⟩:=hr;have HR:=hide h2;clear h2;go_enter Tryz.func150,Tryz.ntmps150
 go_wp2
 go_loopg [9] fs.length (fun g iv wr=>∃k:Nat,k<=fs.length/\iv= .int .i64 (k:Int)/\g+k=fs.length/\Hid (placeL name 0 fs=placeL name k (fs.drop k))/\Hid (Below w.heap.size w wr))
 case atStart=>exact ⟨0,Nat.zero_le _,rfl,rfl,hide rfl,hide (Below.refl _ _)⟩
 case round=>
  obtain ⟨k,hk,rfl,hg,HA,HB⟩:=hrel;have HG:=hide hg;clear hg
  by_cases hlt:k<fs.length
  ·rcases HR.out with h0 | ⟨b,off,rfl,hbl,hc⟩
   ·omega
   ·obtain ⟨x,hx⟩:∃x,x=fs[k].1:=⟨_,rfl⟩
    obtain ⟨q,hq⟩:∃q,q=fs[k].2:=⟨_,rfl⟩
    have hc0:wr.cell? ⟨b,off+k * 2,none⟩=some (.string x):=by rw [HB.out.cell (by exact hbl),hc (k * 2) (by omega),(flds_at fs k hlt).1,hx]
    have hc1:wr.cell? ⟨b,off+k * 2+1,none⟩=some (.int .i64 q):=by rw [HB.out.cell (by exact hbl),Nat.add_assoc,hc (k * 2+1) (by omega),(flds_at fs k hlt).2,hq]
    have hk0:(0:Int)<=(k:Int):=by omega
    have hk1:(k:Int)<(fs.length:Int):=by omega
    have HX:=hide hx
    have HB2:Hid (∀o,Below w.heap.size w (wr.alloc o)):=hide (fun o=>HB.out.alloc HB.out.size _)
    clear hc hx hq;have hbq:=ba_beq x name
    by_cases hxn:x=name
    ·have HO:Hid (placeL name 0 fs=(k:Int)):=hide (by rw [HA.out];exact place_hit hlt (by rw [<-HX.out];exact hxn))
     rw [decide_eq_true hxn] at hbq;clear hxn
     go_wp2
     go_ret;rw [HO.out];exact ⟨rfl,HB2.out _⟩
    ·have HA2:Hid (placeL name 0 fs=placeL name (k+1) (fs.drop (k+1))):=hide (by rw [HA.out];exact place_miss hlt (by rw [<-HX.out];exact hxn))
     rw [decide_eq_false hxn] at hbq;clear hxn
     go_wp2
     go_roundg (gk - 1)
     case measure=>have:=HG.out;omega
     case rel=>exact ⟨k+1,by omega,by go_num,by have:=HG.out;omega,HA2,hide (HB2.out _)⟩
  ·have HO:Hid (placeL name 0 fs= -1):=hide (by rw [HA.out];exact place_end (by omega))
   go_wp2
   go_ret;rw [HO.out];exact ⟨rfl,HB.out⟩
theorem field_word (s:ByteArray) (q:Int):fieldB (s,q)=(nameB letB s 4 && (decide (q=1) || decide (q=2))):=by
 rw [name_word,fieldB]
 congr 1
 by_cases e1:q=1
 ·subst e1;rfl
 ·by_cases e2:q=2
  ·subst e2;rfl
  ·rw [decide_eq_false e1,decide_eq_false e2,decide_eq_false (show ¬(1<=(s,q).2/\(s,q).2<=2) from by show ¬(1<=q/\q<=2);omega)];rfl
theorem fieldOk_any (s:ByteArray) (q:Int) (hs:s.size<=1048576) (w:World):
  Calls Tryz.prog 149 #[.agg #[.string s,.int .i64 q]] w fun e w'=>e= .returned (.bool (fieldB (s,q)))/\Below w.heap.size w w':=by
 obtain ⟨w0,hw0⟩:∃w0,w0=w.alloc (Obj.cells #[.string s,.int .i64 q] 146):=⟨_,rfl⟩
 have hb0:Below w.heap.size w w0:=by rw [hw0];exact (Below.refl w.heap.size w).alloc (Nat.le_refl _) _
 have hblk:w0.heap[w.heap.size]?=some (Obj.cells #[.string s,.int .i64 q] 146):=by rw [hw0];exact heap_alloc_new w _
 have HB:=hide hb0;have cb0:w0.cell? ⟨w.heap.size,0,none⟩=some (.string s):=(cell_at hblk 0).1;have cb1:w0.cell? ⟨w.heap.size,1,none⟩=some (.int .i64 q):=(cell_at hblk 1).1;rw [hw0] at cb0 cb1 HB;clear hb0 hblk hw0;have HC:=hide (isName_letter s hs 4);have HF:=hide (field_word s q)
 by_cases h1:nameB letB s 4=true
 ·rw [h1] at HC HF
  clear h1
  by_cases e1:q=1
  ·subst e1
   have HO:Hid (fieldB (s,1)=true):=hide (by rw [HF.out];rfl)
   go_enter Tryz.func149,Tryz.ntmps149
   go_wp2_with (go_at_call 181;refine (HC.out _).mono ?_;rintro e w1 ⟨rfl,rfl⟩)
   go_ret;rw [HO.out];exact ⟨rfl,HB.out⟩
  ·have n1:(q ==1)=false:=by simp [e1]
   have n2:decide (q=1)=false:=by simp [e1]
   by_cases e2:q=2
   ·subst e2
    have HO:Hid (fieldB (s,2)=true):=hide (by rw [HF.out];rfl)
    go_enter Tryz.func149,Tryz.ntmps149
    go_wp2_with (go_at_call 181;refine (HC.out _).mono ?_;rintro e w1 ⟨rfl,rfl⟩)
    go_ret;rw [HO.out];exact ⟨rfl,HB.out⟩
   ·have n3:(q ==2)=false:=by simp [e2]
    have n4:decide (q=2)=false:=by simp [e2]
    have HO:Hid (fieldB (s,q)=false):=hide (by rw [HF.out,n2,n4];rfl)
    go_enter Tryz.func149,Tryz.ntmps149
    go_wp2_with (go_at_call 181;refine (HC.out _).mono ?_;rintro e w1 ⟨rfl,rfl⟩)
    go_ret;rw [HO.out];exact ⟨rfl,HB.out⟩
 ·have h1:nameB letB s 4=false:=by simpa using h1
  rw [h1] at HC HF
  have HO:Hid (fieldB (s,q)=false):=hide (by rw [HF.out];rfl)
  clear h1;go_enter Tryz.func149,Tryz.ntmps149
  go_wp2_with (go_at_call 181;refine (HC.out _).mono ?_;rintro e w1 ⟨rfl,rfl⟩)
  go_ret;rw [HO.out];exact ⟨rfl,HB.out⟩
theorem place_first {fs:List (ByteArray×Int)} {name:ByteArray} (k:Nat) (hk:k<=fs.length) (h:∀j (hj:j<k),(fs[j]'(by omega)).1≠name):placeL name 0 fs=placeL name k (fs.drop k):=by
 induction k with
 | zero=>rfl
 | succ k ih=>rw [ih (by omega) (fun j hj=>h j (by omega))];exact place_miss (by omega) (h k (by omega))
theorem placeL_own {fs:List (ByteArray×Int)} {i:Nat} (hi:i<fs.length):placeL fs[i].1 0 fs=(i:Int)↔∀k (hk:k<i),(fs[k]'(by omega)).1≠fs[i].1:=by
 constructor
 ·intro h
  by_cases hall:∀k (hk:k<i),(fs[k]'(by omega)).1≠fs[i].1
  ·exact hall
  ·exfalso
   have key:∀(l:List (ByteArray×Int)) (c k:Nat) (hk:k<l.length),l[k].1=fs[i].1->placeL fs[i].1 c l<=(c+k:Nat):=by
    intro l
    induction l with
    | nil=>intro c k hk;simp at hk
    | cons f l ih=>
     intro c k hk he;rw [placeL]
     split
     ·omega
     ·next hne=>
      cases k with
      | zero=>exact absurd he hne
      | succ k=>
       have:=ih (c+1) k (by simpa using hk) (by simpa using he)
       omega
   simp only [Classical.not_forall,Decidable.not_not] at hall
   obtain ⟨k,hk,he⟩:=hall
   have:=key fs 0 k (by omega) he
   omega
 ·intro h
  rw [place_first i (by omega) h]
  exact place_hit hi rfl
theorem schema_len {fs:List (ByteArray×Int)} (h:¬(1<=fs.length/\fs.length<=3)):schemaOkB fs=false:=by
 rw [schemaOkB,decide_eq_false h];simp
theorem implSchemaOk_any (fs:List (ByteArray×Int)) (hl:fs.length<=1048576) (hn:∀f∈fs,f.1.size<=1048576) (v:Value) (w:World) (hr:RowAt w 2 v fs.length (flds fs)):
  Calls Tryz.prog 123 #[v] w fun e w'=>e= .returned (.bool (schemaOkB fs))/\Below w.heap.size w w':=by
 have HF:=hide (fun name wx h=>implFieldAt_any fs hl name v wx h)
 have HRv:=hide hr;obtain ⟨-,a,cap,rfl,h2⟩:=hr;have HR:=hide h2;have HN:=hide hn;clear h2 hn
 by_cases h1:fs.length<1
 ·have HO:=hide (schema_len (fs:=fs) (by omega))
  have d1:decide ((fs.length:Int)<1)=true:=by simp;omega
  clear h1;go_enter Tryz.func123,Tryz.ntmps123;go_wp2_with fail;go_ret;rw [HO.out];exact ⟨rfl,Below.refl _ _⟩
 ·have d1:decide ((fs.length:Int)<1)=false:=by simp;omega
  by_cases h2:3<fs.length
  ·have HO:=hide (schema_len (fs:=fs) (by omega))
   have d2:decide ((3:Int)<(fs.length:Int))=true:=by simp;omega
   go_enter Tryz.func123,Tryz.ntmps123;go_wp2_with fail;go_ret;rw [HO.out];exact ⟨rfl,Below.refl _ _⟩
  ·have d2:decide ((3:Int)<(fs.length:Int))=false:=by simp;omega
   have HL:Hid (1<=fs.length/\fs.length<=3):=hide (by omega)
   clear h1 h2;go_enter Tryz.func123,Tryz.ntmps123;go_wp2_with fail;clear d1 d2
   go_loopg [15] fs.length (fun g iv wr=>∃i:Nat,i<=fs.length/\iv= .int .i64 (i:Int)/\g+i=fs.length/\Hid ((∀j (h:j<fs.length),j<i->fieldB fs[j]=true)/\∀j (h:j<fs.length),j<i->∀k (hk:k<j),(fs[k]'(by omega)).1≠fs[j].1)/\Hid (Below w.heap.size w wr))
   case atStart=>exact ⟨0,Nat.zero_le _,rfl,rfl,hide ⟨fun j h h0=>by omega,fun j h h0=>by omega⟩,hide (Below.refl _ _)⟩
   case round=>
    obtain ⟨i,hi,rfl,hg,HA,HB⟩:=hrel;have HG:=hide hg;clear hg
    by_cases hlt:i<fs.length
    ·rcases HR.out with h0 | ⟨b,off,rfl,hbl,hc⟩
     ·omega
     ·obtain ⟨x,hx⟩:∃x,x=fs[i].1:=⟨_,rfl⟩
      obtain ⟨q,hq⟩:∃q,q=fs[i].2:=⟨_,rfl⟩
      have hc0:wr.cell? ⟨b,off+i * 2,none⟩=some (.string x):=by rw [HB.out.cell (by exact hbl),hc (i * 2) (by omega),(flds_at fs i hlt).1,hx]
      have hc1:wr.cell? ⟨b,off+i * 2+1,none⟩=some (.int .i64 q):=by rw [HB.out.cell (by exact hbl),Nat.add_assoc,hc (i * 2+1) (by omega),(flds_at fs i hlt).2,hq]
      have hxs:x.size<=1048576:=by rw [hx];exact HN.out _ (List.getElem_mem hlt)
      have hi0:(0:Int)<=(i:Int):=by omega
      have hi1:(i:Int)<(fs.length:Int):=by omega
      have HX:Hid ((x,q)=fs[i]):=hide (by rw [hx,hq])
      have HX1:=hide hx;have HFo:=hide (fieldOk_any x q hxs)
      have HFa:=hide (fun wx h=>HF.out x wx h)
      obtain ⟨wa,hwa⟩:∃wa,wa=wr.alloc (Obj.cells #[.string x,.int .i64 q] 146):=⟨_,rfl⟩
      have HVa:Hid (wa.heap[wr.heap.size]?=some (Obj.cells #[.string x,.int .i64 q] 146)):=hide (by rw [hwa];exact heap_alloc_new wr _)
      have HWa:Hid (Below w.heap.size w wa):=hide (by rw [hwa];exact HB.out.alloc HB.out.size _)
      clear hc hx hq
      cases hfb:fieldB (x,q) with
      | false=>
       rw [hfb] at HFo
       have HO:Hid (schemaOkB fs=false):=hide (schema_field hlt (by rw [<-HX.out];exact hfb))
       clear hfb;go_wp2_with fail;rw [<-hwa];refine (HFo.out _).mono ?_;rintro e w2 ⟨rfl,hb2⟩;have HB2:Hid (Below w.heap.size w w2):=hide (HWa.out.trans (hb2.mono HWa.out.size));clear hb2 hwa hc0 hc1;go_wp2_with fail;go_ret;rw [HO.out];exact ⟨rfl,HB2.out⟩
      | true=>
       rw [hfb] at HFo;have HFb:=hide hfb;clear hfb
       by_cases hp:placeL x 0 fs=(i:Int)
       ·rw [hp] at HFa
        have HA2:Hid ((∀j (h:j<fs.length),j<i+1->fieldB fs[j]=true)/\∀j (h:j<fs.length),j<i+1->∀k (hk:k<j),(fs[k]'(by omega)).1≠fs[j].1):=hide ⟨fun j h hj=>by
         by_cases e:j=i
         ·subst e;rw [<-HX.out];exact HFb.out
         ·exact HA.out.1 j h (by omega),fun j h hj k hk=>by
         by_cases e:j=i
         ·subst e;exact (placeL_own hlt).1 (by rw [<-HX1.out];exact hp) k hk
         ·exact HA.out.2 j h (by omega) k hk⟩
        clear hp;go_wp2_with fail;rw [<-hwa];refine (HFo.out _).mono ?_;rintro e w2 ⟨rfl,hb2⟩;have HB2:Hid (Below w.heap.size w w2):=hide (HWa.out.trans (hb2.mono HWa.out.size));have cv0:w2.cell? ⟨wr.heap.size,0,none⟩=some (.string x):=(cell_at ((hb2.block _ (Array.getElem?_eq_some_iff.1 HVa.out).1).trans HVa.out) 0).1;clear hb2 hwa hc0 hc1;go_wp2_with fail;refine (HFa.out _ (row_below HRv.out HB2.out)).mono ?_;rintro e w3 ⟨rfl,hb3⟩;have HB3:Hid (Below w.heap.size w w3):=hide (HB2.out.trans (hb3.mono HB2.out.size));clear hb3 cv0;go_wp2_with fail
        go_roundg (gk - 1)
        case measure=>have:=HG.out;omega
        case rel=>exact ⟨i+1,by omega,by go_num,by have:=HG.out;omega,HA2,HB3⟩
       ·obtain ⟨p,hpp⟩:∃p,p=placeL x 0 fs:=⟨_,rfl⟩
        rw [<-hpp] at hp HFa
        have d1:(p !=(i:Int))=true:=by simp [hp]
        have HO:Hid (schemaOkB fs=false):=hide (by
         by_cases hall:∀k (hk:k<i),(fs[k]'(by omega)).1≠fs[i].1
         ·exact absurd (by rw [hpp,HX1.out];exact (placeL_own hlt).2 hall) hp
         ·simp only [Classical.not_forall,Decidable.not_not] at hall
          obtain ⟨k,hk,he⟩:=hall
          exact schema_twice hlt hk he)
        clear hp hpp;go_wp2_with fail;rw [<-hwa];refine (HFo.out _).mono ?_;rintro e w2 ⟨rfl,hb2⟩;have HB2:Hid (Below w.heap.size w w2):=hide (HWa.out.trans (hb2.mono HWa.out.size));have cv0:w2.cell? ⟨wr.heap.size,0,none⟩=some (.string x):=(cell_at ((hb2.block _ (Array.getElem?_eq_some_iff.1 HVa.out).1).trans HVa.out) 0).1;clear hb2 hwa hc0 hc1;go_wp2_with fail;refine (HFa.out _ (row_below HRv.out HB2.out)).mono ?_;rintro e w3 ⟨rfl,hb3⟩;have HB3:Hid (Below w.heap.size w w3):=hide (HB2.out.trans (hb3.mono HB2.out.size));clear hb3 cv0;go_wp2_with fail;go_ret;rw [HO.out];exact ⟨rfl,HB3.out⟩
    ·have HO:Hid (schemaOkB fs=true):=hide (by
      have hA:=HA.out
      rw [schema_all (fun j h=>hA.1 j h (by omega)) (fun j h k hk=>hA.2 j h (by omega) k hk)]
      exact decide_eq_true HL.out)
     go_wp2_with fail;go_ret;rw [HO.out];exact ⟨rfl,HB.out⟩
end Go.Proofs.YtjmgdmdleamenaaGreatDoor
