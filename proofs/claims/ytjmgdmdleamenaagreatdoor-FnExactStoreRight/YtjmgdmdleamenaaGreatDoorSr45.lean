/-
  Facts and contracts that the law's own text rests on, by their texts' names: ChkKeysJ.
-/
import Derived.Lib.IndexLaws
import Derived.Sort.OwnSorted
import Derived.Test.YtjmgdmdleamenaaGreatDoorSr44
import Derived.Test.YtjmgdmdleamenaaGreatDoorSr14
set_option maxHeartbeats 16000000
set_option maxRecDepth 100000
namespace Go.Proofs.YtjmgdmdleamenaaGreatDoor
open Go.RowKit
theorem idx_no {l:List UInt8} (h:Lib.indexByte l 0= -1):cutZ l=none:=by
 refine cutZ_none l (fun b hb e=> ?_)
 obtain ⟨k,hk,rfl⟩:=List.getElem_of_mem hb
 exact Lib.indexByte_none h k (by rw [List.getElem?_eq_getElem hk,e])
theorem idx_yes {l:List UInt8} {o:Nat} (h:Lib.indexByte l 0=(o:Int)):o<l.length/\cutZ l=some (l.take o,l.drop (o+1)):=by
 obtain ⟨h1,h2⟩:=Lib.indexByte_some h;obtain ⟨ho,e⟩:=List.getElem?_eq_some_iff.1 h1;refine ⟨ho,?_⟩
 have hl:l=l.take o++0 :: l.drop (o+1):=by
  conv=>lhs;rw [<-List.take_append_drop o l]
  rw [List.drop_eq_getElem_cons ho,e]
 conv=>lhs;rw [hl]
 refine cutZ_at _ _ (fun b hb e0=> ?_)
 obtain ⟨k,hk,rfl⟩:=List.getElem_of_mem hb;rw [List.length_take] at hk;rw [List.getElem_take] at e0
 exact h2 k (by omega) (by rw [List.getElem?_eq_getElem (by omega),e0])
def cutO (s:ByteArray):ByteArray×ByteArray×Bool:=match cutZ s.data.toList with | some p=>(⟨p.1.toArray⟩,⟨p.2.toArray⟩,true) | none=>(s,⟨#[]⟩,false)
theorem cutLite_any (s:ByteArray) (hs:s.size<=1048576) (w:World):
  Calls Tryz.prog 119 #[.string s,.string ⟨#[0]⟩] w fun e w'=>e= .returned (.tuple #[.string (cutO s).1,.string (cutO s).2.1,.bool (cutO s).2.2])/\Below w.heap.size w w':=by
 have HI:=hide (fun wx=>Tryz.stringslite_Index_one s 0 wx)
 have hge:=Lib.indexByte_ge s.data.toList 0
 by_cases hn:Lib.indexByte s.data.toList 0= -1
 ·have HO:Hid (cutO s=(s,⟨#[]⟩,false)):=hide (by rw [cutO,idx_no hn])
  rw [hn] at HI;clear hn hge;go_enter Tryz.func119,Tryz.ntmps119;go_wp2_with fail;refine (HI.out _).mono ?_;rintro e w1 ⟨rfl,rfl⟩;go_wp2_with fail;go_ret3;rw [HO.out];exact ⟨rfl,Below.refl _ _⟩
 ·obtain ⟨o,ho⟩:∃o:Nat,Lib.indexByte s.data.toList 0=(o:Int):=⟨(Lib.indexByte s.data.toList 0).toNat,by omega⟩
  obtain ⟨hol,hc⟩:=idx_yes ho;have hlen:s.data.toList.length=s.size:=ba_len s
  have HO:Hid (cutO s=(s.extract 0 o,s.extract (o+1) s.size,true)):=hide (by
   rw [cutO,hc];refine Prod.ext (ba_same ?_) (Prod.ext (ba_same ?_) rfl)
   ·rw [ext_list];simp
   ·rw [ext_list,List.take_of_length_le (l:=s.data.toList) (i:=s.size) (by omega)])
  rw [ho] at HI;rw [hlen] at hol
  have hwr:IntKind.i64.wrap ((o:Int)+1)=(o:Int)+1:=IntWalk.i64_in _ ⟨by omega,by omega⟩
  have hg:decide ((0:Int)<=(o:Int))=true:=by simp
  have hsl:∀wx:World,(Instr.slice 9 (.string s) none (some (.int .i64 (o:Int))) none).run Tryz.prog wx= .ok (.string (s.extract 0 o)) wx:=fun wx=>by
   have:=run_slice_string_h (P:=Tryz.prog) wx 9 s Tryz.underlying9 .i64 (o:Int) (by omega) (by omega)
   rw [this,Int.toNat_natCast]
  have hsm:∀wx:World,(Instr.slice 9 (.string s) (some (.int .i64 ((o:Int)+1))) none none).run Tryz.prog wx= .ok (.string (s.extract (o+1) s.size)) wx:=fun wx=>by
   have:=run_slice_string_l (P:=Tryz.prog) wx 9 s Tryz.underlying9 .i64 ((o:Int)+1) (by omega) (by omega)
   rw [this,show ((o:Int)+1).toNat=o+1 from by omega]
  clear hn hge ho hc hlen;go_enter Tryz.func119,Tryz.ntmps119;go_wp2_with fail;refine (HI.out _).mono ?_;rintro e w1 ⟨rfl,rfl⟩;go_wp2_with fail
  go_region
  go_wp2_with fail;go_ret3;rw [HO.out];exact ⟨rfl,(Below.refl _ _).drew⟩
theorem cut_any (s:ByteArray) (hs:s.size<=1048576) (w:World):
  Calls Tryz.prog 85 #[.string s,.string ⟨#[0]⟩] w fun e w'=>e= .returned (.tuple #[.string (cutO s).1,.string (cutO s).2.1,.bool (cutO s).2.2])/\Below w.heap.size w w':=by
 have HI:=hide (fun wx=>cutLite_any s hs wx)
 obtain ⟨r,hr⟩:∃r,r=cutO s:=⟨_,rfl⟩;rw [<-hr] at HI⊢;obtain ⟨a,b,f⟩:=r;dsimp only at HI⊢;clear hr;go_enter Tryz.func85,Tryz.ntmps85;go_wp2_with fail;refine (HI.out _).mono ?_;rintro e w1 ⟨rfl,hb⟩;have HB:=hide hb;clear hb;go_wp2_with fail;go_ret3;exact ⟨rfl,HB.out⟩
theorem cutO_key (k:ByteArray):(∀c n,cutK k=some (c,n)->cutO (k.extract 1 k.size)=(c,n,true))/\(cutK k=none->(cutO (k.extract 1 k.size)).2.2=false):=by
 have hl:(k.extract 1 k.size).data.toList=k.data.toList.drop 1:=by rw [ext_list,List.take_of_length_le (Nat.le_of_eq (ba_len k))]
 unfold cutO cutK;rw [hl]
 cases e:cutZ (k.data.toList.drop 1) with
 | none=>exact ⟨fun c n h=>(by cases h),fun _=>rfl⟩
 | some p=>exact ⟨fun c n h=>by
   simp only [Option.map_some,Option.some.injEq,Prod.mk.injEq] at h
   obtain ⟨rfl,rfl⟩:=h
   rfl,fun h=>by cases h⟩
theorem cutO_sizes (s:ByteArray):(cutO s).1.size<=s.size/\(cutO s).2.1.size<=s.size:=by
 unfold cutO
 cases e:cutZ s.data.toList with
 | none=>exact ⟨Nat.le_refl _,Nat.zero_le _⟩
 | some p=>
  have:=cutZ_sizes (x:=p.1) (y:=p.2) e;have hl:=ba_len s;dsimp only
  simp only [ByteArray.size,List.size_toArray]
  have hs:s.data.size=s.size:=rfl
  omega
theorem implIndexKeysOf_any (ps:List ByteArray) (ls:List (Int×ByteArray)) (hp:ps.length<=1048576) (hl:ls.length<=1048576) (hps:∀s∈ps,s.size<=1048576) (hls:∀p∈ls,p.2.size<=1048576) (vd:Value) (root:Int) (k x:ByteArray) (hk:k.size<=24) (hx:x.size<=24) (hh:headK k=some 111) (w:World) (hT:SumTab w) (hd:DiskAt w vd ps ls):
  Calls Tryz.prog 57 #[vd,.int .i64 root,.agg #[.string k,.string x]] w fun e w'=>((∃u ks,e= .returned (.tuple #[u,.bool true])/\w'.ownsRow w.heap.size 9 1 u ks.length (strs ks)/\ks.length<=3/\PairIs (readD ps ls) root (k,x) ks [])\/(e= .returned (.tuple #[.slice none 0 0,.bool false])/\PairNo (readD ps ls) root (k,x)))/\Below w.heap.size w w':=by
 obtain ⟨vp,vl,rfl,-,-⟩:=id hd
 have hk1:1<=k.size:=by
  by_cases h:k.size=0
  ·rw [head_none h] at hh;cases hh
  ·omega
 have HSc:=hide (fun c hc wx ht h=>implSchemaIn_any (.agg #[vp,vl]) ps ls hp hl hps hls root c hc wx ht h)
 have HD:=hide hd;have HT:=hide hT
 have HCu:=hide (fun wx=>cut_any (k.extract 1 k.size) (by rw [ByteArray.size_extract];omega) wx)
 have hsz:=cutO_sizes (k.extract 1 k.size);rw [ByteArray.size_extract] at hsz
 have HYes:Hid (∀fs vs,(cutO (k.extract 1 k.size)).2.2=true->SchIn (getK (readD ps ls) root (schK (cutO (k.extract 1 k.size)).1)) fs true->ReadTh fs x vs true->PairIs (readD ps ls) root (k,x) (keysL (cutO (k.extract 1 k.size)).1 (cutO (k.extract 1 k.size)).2.1 fs vs) []):=hide (fun fs vs h1 h2 h3=>by
  cases e:cutK k with
  | none=>rw [(cutO_key k).2 e] at h1;cases h1
  | some p=>
   obtain ⟨c,n⟩:=p;have he:=(cutO_key k).1 c n e;rw [he] at h2⊢;unfold PairIs;rw [if_pos hh]
   exact ⟨rfl,c,n,fs,vs,e,h2,h3,rfl⟩)
 have HNo:Hid (∀fs ok vs ko,SchIn (getK (readD ps ls) root (schK (cutO (k.extract 1 k.size)).1)) fs ok->ReadTh fs x vs ko->((cutO (k.extract 1 k.size)).2.2 && ok && ko)=false->PairNo (readD ps ls) root (k,x)):=hide (fun fs ok vs ko h2 h3 h1=>by
  unfold PairNo;rw [if_pos hh]
  cases e:cutK k with
  | none=>exact Or.inl rfl
  | some p=>
   obtain ⟨c,n⟩:=p;have he:=(cutO_key k).1 c n e;rw [he] at h1 h2
   exact Or.inr ⟨c,n,fs,ok,vs,ko,rfl,h2,h3,by simpa using h1⟩)
 obtain ⟨r,hr⟩:∃r,r=cutO (k.extract 1 k.size):=⟨_,rfl⟩;rw [<-hr] at HCu HYes HNo hsz;obtain ⟨c,m,rt⟩:=r;dsimp only at HCu HYes HNo hsz;obtain ⟨D,hD⟩:∃D,D=readD ps ls:=⟨_,rfl⟩;rw [<-hD] at HSc HYes HNo⊢;obtain ⟨w0,hw0⟩:∃w0,w0=(w.alloc (Obj.cells #[vp,vl] 41)).alloc (Obj.cells #[.string k,.string x] 91):=⟨_,rfl⟩
 have hb0:Below w.heap.size w w0:=by rw [hw0];exact ((Below.refl _ _).alloc (Nat.le_refl _) _).alloc (by simp) _
 have hq1:w0.heap[w.heap.size]?=some (Obj.cells #[vp,vl] 41):=by rw [hw0];exact (two_allocs w _ _).1
 have hq2:w0.heap[w.heap.size+1]?=some (Obj.cells #[.string k,.string x] 91):=by rw [hw0];exact (two_allocs w _ _).2.1
 have HCe:Hid (∀wx,Below w0.heap.size w0 wx->wx.cell? ⟨w.heap.size,0,none⟩=some vp/\wx.cell? ⟨w.heap.size,1,none⟩=some vl/\wx.cell? ⟨w.heap.size+1,1,none⟩=some (.string x)):=hide (fun wx hb=>by
  have h1:=(hb.block w.heap.size (Array.getElem?_eq_some_iff.1 hq1).1).trans hq1;have h2:=(hb.block (w.heap.size+1) (Array.getElem?_eq_some_iff.1 hq2).1).trans hq2
  exact ⟨(cell_at h1 0).1,(cell_at h1 1).1,(cell_at h2 1).1⟩)
 have HB0:=hide hb0
 have hsl:∀wx:World,(Instr.slice 9 (.string k) (some (.int .i64 1)) none none).run Tryz.prog wx= .ok (.string (k.extract 1 k.size)) wx:=fun wx=>run_slice_string_l (P:=Tryz.prog) wx 9 k Tryz.underlying9 .i64 1 (by omega) (by omega)
 have HScc:=hide (fun wx ht h=>HSc.out c (by omega) wx ht h)
 clear hp hl hps hls hd hT hr hD hb0 hq1 hq2 hh;go_enter Tryz.func57,Tryz.ntmps57;go_wp2_with fail;rw [<-hw0];clear hw0 hsl;refine (HCu.out _).mono ?_;rintro e w1 ⟨rfl,hb1⟩;have HA1:=hide hb1;have HB1:Hid (Below w.heap.size w w1):=hide (HB0.out.trans (hb1.mono HB0.out.size));obtain ⟨f0,f1,f2⟩:=HCe.out w1 hb1;clear hb1;go_wp2_with fail;refine (HScc.out w1 (sumTab_below HT.out HB1.out) (disk_below HD.out HB1.out)).mono ?_;rintro e w2 ⟨u,fs,ok,rfl,hfo,hsc,hb2⟩;obtain ⟨hf3,hfn⟩:=sch_sizes hsc;have hA2:Below w0.heap.size w0 w2:=HA1.out.trans (hb2.mono HA1.out.size);have HB2:Hid (Below w.heap.size w w2):=hide (HB0.out.trans (hA2.mono HB0.out.size));obtain ⟨g0,g1,g2⟩:=HCe.out w2 hA2;have HFo:=hide (row_of_own hfo);have HSch:=hide hsc
 have HRt:=hide (fun wx h=>implReadThing_any fs (by omega) hfn x (by omega) u wx h)
 obtain ⟨uf,cf,rfl⟩:=own_slice hfo;clear f0 f1 f2 hfo hsc hb2 hfn hA2;go_wp2_with fail;refine (HRt.out w2 HFo.out).mono ?_;rintro e w3 ⟨u2,vs,ko,rfl,hvo,hrd,hb3⟩;have HB3:Hid (Below w.heap.size w w3):=hide (HB2.out.trans (hb3.mono HB2.out.size));have HFo3:=hide (row_below HFo.out hb3);have HVo:=hide (row_of_own hvo);have HRd:=hide hrd;have HNn:=hide (HNo.out fs ok vs ko HSch.out hrd);obtain ⟨uv,cv,rfl⟩:=own_slice hvo;clear g0 g1 g2 hb3 hvo hrd HRt HNo
 cases rt with
 | false=>
  have HF:=hide (HNn.out rfl);clear HNn HYes;go_wp2_with fail;go_ret2;exact ⟨Or.inr ⟨rfl,HF.out⟩,HB3.out⟩
 | true=>
  cases ok with
  | false=>
   have HF:=hide (HNn.out rfl);clear HNn HYes;go_wp2_with fail;go_ret2;exact ⟨Or.inr ⟨rfl,HF.out⟩,HB3.out⟩
  | true=>
   cases ko with
   | false=>
    have HF:=hide (HNn.out rfl);clear HNn HYes;go_wp2_with fail;go_ret2;exact ⟨Or.inr ⟨rfl,HF.out⟩,HB3.out⟩
   | true=>
    have HP:=hide (HYes.out fs vs rfl HSch.out HRd.out);have hth:=thing_of HRd.out
    have HKy:=hide (implIndexKeys_any fs vs hth c m (by omega) (by omega) (.slice uf fs.length cf) (.slice uv vs.length cv) w3 HFo3.out HVo.out)
    have hkl:(keysL c m fs vs).length<=3:=by rw [keysL_len];omega
    obtain ⟨ks,hks⟩:∃ks,ks=keysL c m fs vs:=⟨_,rfl⟩;rw [<-hks] at HKy HP hkl;clear HNn HYes hth HSch HRd hks;go_wp2_with fail;refine HKy.out.mono ?_;rintro e w4 ⟨u4,rfl,hko,hb4⟩;have HB4:Hid (Below w.heap.size w w4):=hide (HB3.out.trans (hb4.mono HB3.out.size));have HKo:=hide (own_down hko HB3.out.size);clear hko hb4;go_wp2_with fail;go_ret2;exact ⟨Or.inl ⟨u4,ks,rfl,HKo.out,hkl,HP.out⟩,HB4.out⟩
def lsts (W:List ByteArray):List Bs:=W.map fun b=>b.data.toList
theorem strs_enc (W:List ByteArray):strs W=(lsts W).map encStr:=by
 rw [strs,lsts,List.map_map]
 refine List.map_congr_left (fun b _=> ?_)
 show Value.string b=Value.string ⟨b.data.toList.toArray⟩
 rw [Array.toArray_toList]
theorem lsts_mem (W:List ByteArray) (b:ByteArray):b.data.toList∈lsts W↔b∈W:=by
 rw [lsts,List.mem_map]
 exact ⟨fun ⟨c,hc,e⟩=>by rw [<-ba_same e];exact hc,fun h=>⟨b,h,rfl⟩⟩
theorem cano_sets (W H:List ByteArray):cano (lsts W)=cano (lsts H)↔∀x,x∈W↔x∈H:=by
 rw [cano_same]
 constructor
 ·exact fun h x=>by rw [<-lsts_mem W,<-lsts_mem H];exact h _
 ·intro h x
  have e:x=(⟨x.toArray⟩:ByteArray).data.toList:=by simp
  rw [e,lsts_mem,lsts_mem];exact h _
theorem ascending_any (W:List ByteArray) (hl:W.length<=1048576) (B n c:Nat) (x:Option Addr) (w:World) (h:w.ownsRow B 9 1 (.slice x n c) n (strs W)):
  Calls Tryz.prog 59 #[.slice x n c] w fun e w'=>e= .returned (.slice x (cano (lsts W)).length c)/\(∀g,x=some ⟨g,0,none⟩->∀j,j<(cano (lsts W)).length->w'.cell? ⟨g,0+j,none⟩=some (encStr ((cano (lsts W)).getD j [])))/\KeptC (fun k=>(Value.slice x n c).ownBlock=some k) w w':=by
 have hn:n=W.length:=row_nS h
 rcases h.2 with ⟨e0,h0⟩ | ⟨g,c',cur,e0,hg,hb,h1,h2,h3,h4⟩
 ·injection e0 with e1 e2 e3
  subst e1 e3;subst h0;obtain rfl:W= []:=List.eq_nil_of_length_eq_zero hn.symm;clear h hn hl
  have HS:=hide (fun wx=>Tryz.slices_Sort_string_none none 0 wx)
  have HC:=hide (fun wx=>Tryz.slices_Compact_string_empty none 0 wx)
  go_enter Tryz.func59,Tryz.ntmps59
  go_wp2_with (first | (go_at_call 89;refine (HS.out _).mono ?_;rintro e w1 ⟨rfl,rfl⟩) | (go_at_call 90;refine (HC.out _).mono ?_;rintro e w1 ⟨rfl,rfl⟩))
  go_ret;have he:cano (lsts [])= []:=List.eq_nil_of_length_eq_zero (Nat.le_zero.1 (cano_len []))
  refine ⟨?_,fun g hg=>(by cases hg),keptC_refl _ _⟩
  rw [he]
  rfl
 ·injection e0 with e1 e2 e3
  subst e1 e3
  have hln:(lsts W).length=n:=by rw [hn,lsts,List.length_map]
  rw [Nat.mul_one,strs_enc] at h4;have hgl:=(Array.getElem?_eq_some_iff.1 hb).1
  have hH:=holds_of_block hb (ss:=lsts W) (by rw [hln];exact h4)
  have hS:=Tryz.slices_Sort_string g 0 c (lsts W) w hH hgl (by omega)
  rw [hln] at hS;have HS:=hide hS
  obtain ⟨ss,hss⟩:∃ss,ss=(lsts W).mergeSort fun x y=>decide (x<=y):=⟨_,rfl⟩
  have hsl:ss.length=n:=by rw [hss,List.length_mergeSort,hln]
  have HCn:Hid (cano (lsts W)=Lib.compact ss):=hide (by rw [hss];rfl)
  rw [<-hss] at HS
  have hcl:(Lib.compact ss).length<=n:=by rw [<-HCn.out];exact Nat.le_trans (cano_len _) (by omega)
  have HAf:Hid (∀n1 os,(Sort.Holds encStr (Sort.grow (Sort.putRow encStr (Sort.ahead w n1) g 0 ss.toArray) os) g 0 ss.toArray)/\(∃cur',cur'.size=cur.size/\(Sort.grow (Sort.putRow encStr (Sort.ahead w n1) g 0 ss.toArray) os).heap[g]?=some (.cells cur' 9 (0,0)))/\KeptC (fun k=>(Value.slice (some ⟨g,0,none⟩) n c).ownBlock=some k) w (Sort.grow (Sort.putRow encStr (Sort.ahead w n1) g 0 ss.toArray) os)):=hide (fun n1 os=>by
   have hb1:=heap_sorted (n:=n1) (os:=os) ss.toArray hb;have gb:=grownBy_sorted (w:=w) (g:=g) (n:=n1) (os:=os) ss.toArray
   exact ⟨holds_of_block hb1 (take_putCells cur ss (by omega)),⟨_,by simp [Sort.putCells],hb1⟩,⟨gb.os,gb.tape,gb.output,gb.size,fun k hk hne=>gb.block k hk (fun e=>hne e.symm)⟩⟩)
  have hsz:cur.size=c:=by rw [h3,Nat.mul_one]
  have HFc:Hid (n<=c/\c<=maxLen/\cur.size=c/\ss.length=n/\(Lib.compact ss).length<=n):=hide ⟨h1,h2,hsz,hsl,hcl⟩;clear hS hss hH hb h4 h hsz hsl hcl hln hn hl h1 h2 h3 hgl hg;go_enter Tryz.func59,Tryz.ntmps59;go_wp2_with fail;refine HS.out.mono ?_;rintro e w1 ⟨rfl,n1,os,hw1⟩;obtain ⟨hH1,⟨cur',hcs,hb1⟩,hk1⟩:=HAf.out n1 os;rw [<-hw1] at hH1 hb1 hk1
  have hC:=Tryz.slices_Compact_string g 0 c ss w1 hH1 (by obtain ⟨f1,f2,f3,f4,f5⟩:=HFc.out;unfold maxLen at f2;omega) (by obtain ⟨f1,f2,f3,f4,f5⟩:=HFc.out;omega)
  rw [HFc.out.2.2.2.1] at hC;have HC:=hide hC;have HK1:=hide hk1;have HB1:=hide hb1;have HCs:=hide hcs;clear hC hw1 hH1 hk1 hb1 hcs HS HAf;go_wp2_with fail;refine HC.out.mono ?_;rintro e w2 ⟨rfl,q,hw2⟩;have HW2:=hide hw2;clear hw2;go_wp2_with fail;go_ret;obtain ⟨f1,f2,f3,f4,f5⟩:=HFc.out;obtain ⟨zs,hzs⟩:∃zs,zs=Lib.compact ss++List.replicate (n - (Lib.compact ss).length) []:=⟨_,rfl⟩
  have hzl:zs.length=n:=by rw [hzs,List.length_append,List.length_replicate];omega
  have hw2:=HW2.out;rw [<-hzs,<-Sort.grow_empty (Sort.putRow encStr (Sort.ahead w1 q) g 0 zs.toArray)] at hw2;have hb2:=heap_sorted (n:=q) (os:= #[]) zs.toArray HB1.out;have gb:=grownBy_sorted (w:=w1) (g:=g) (n:=q) (os:= #[]) zs.toArray;rw [<-hw2] at hb2 gb
  have hH2:=holds_of_block hb2 (take_putCells cur' zs (by rw [HCs.out];omega))
  rw [HCn.out]
  refine ⟨rfl,fun g' hg' j hj=> ?_,keptC_trans HK1.out ⟨gb.os,gb.tape,gb.output,gb.size,fun k hk hne=>gb.block k hk (fun e=>hne e.symm)⟩ (fun k hk=>Or.inl hk)⟩
  injection hg' with hg'
  injection hg' with hg' _
  subst hg'
  rw [(hH2 j (by rw [List.size_toArray];omega)).1]
  congr 2
  have hj2:j<zs.length:=by omega
  rw [List.getD_eq_getElem?_getD,List.getElem?_eq_getElem hj,Option.getD_some]
  simp only [hzs,List.getElem!_toArray]
  rw [List.getElem!_eq_getElem?_getD,List.getElem?_append_left hj,List.getElem?_eq_getElem hj]
  rfl
end Go.Proofs.YtjmgdmdleamenaaGreatDoor
