/-
  Facts and contracts that the law's own text rests on, by their texts' names: ChkSplit.
-/
import Derived.Test.YtjmgdmdleamenaaGreatDoorSr5
import Derived.Test.YtjmgdmdleamenaaGreatDoorSr37
set_option maxHeartbeats 16000000
set_option maxRecDepth 100000
namespace Go.Proofs.YtjmgdmdleamenaaGreatDoor
open Go.RowKit
theorem ext_list (k:ByteArray) (a b:Nat):(k.extract a b).data.toList=(k.data.toList.take b).drop a:=by
 rw [Lib.extract_data]
 simp [List.drop_take]
theorem byt_mem {k:ByteArray} {j:Nat} (hj:j<k.data.toList.length):(k.data.toList[j]).toNat=byt k j:=by
 have hj2:j<k.size:=by rw [Array.length_toList] at hj;exact hj
 rw [<-byt_eq k j hj2]
 simp [ByteArray.getElem_eq_getElem_data]
theorem cut_at {k:ByteArray} {j:Nat} (h1:1<=j) (hj:j<k.size) (h0:∀i,1<=i->i<j->byt k i≠0) (hz:byt k j=0):cutK k=some (k.extract 1 j,k.extract (j+1) k.size):=by
 have hlen:k.data.toList.length=k.size:=ba_len k
 have hz2:k.data.toList[j]'(by omega)=0:=UInt8.toNat_inj.1 (by rw [byt_mem (by omega),hz];rfl)
 have e:k.data.toList.drop 1=(k.extract 1 j).data.toList++0 :: (k.extract (j+1) k.size).data.toList:=by
  rw [ext_list,ext_list,List.take_of_length_le (by omega:k.data.toList.length<=k.size)]
  have h2:k.data.toList.drop 1=(k.data.toList.take j).drop 1++k.data.toList.drop j:=by
   conv=>lhs;rw [<-List.take_append_drop j k.data.toList]
   rw [List.drop_append_of_le_length (by simp;omega)]
  rw [h2,List.drop_eq_getElem_cons (by omega:j<k.data.toList.length),hz2]
 rw [cutK,e,cutZ_at]
 ·rfl
 ·intro b hb
  rw [ext_list] at hb;obtain ⟨i,hi,rfl⟩:=List.getElem_of_mem hb;rw [List.length_drop,List.length_take] at hi;rw [List.getElem_drop,List.getElem_take];intro e0
  have h3:=byt_mem (k:=k) (j:=1+i) (by omega)
  rw [e0] at h3
  exact h0 (1+i) (by omega) (by omega) h3.symm
theorem cut_not {k:ByteArray} (h0:∀i,1<=i->i<k.size->byt k i≠0):cutK k=none:=by
 have hlen:k.data.toList.length=k.size:=ba_len k;rw [cutK,cutZ_none]
 ·rfl
 ·intro b hb
  obtain ⟨i,hi,rfl⟩:=List.getElem_of_mem hb;rw [List.length_drop] at hi;rw [List.getElem_drop];intro e0
  have h3:=byt_mem (k:=k) (j:=1+i) (by omega)
  rw [e0] at h3
  exact h0 (1+i) (by omega) (by omega) h3.symm
def splO (k:ByteArray):ByteArray×ByteArray×Bool:=match cutK k with | some (c,n)=>(c,n,true) | none=>(⟨#[]⟩,⟨#[]⟩,false)
theorem l14Split_any (k:ByteArray) (hk:k.size<=1048576) (w:World):
  Calls Tryz.prog 41 #[.string k] w fun e w'=>e= .returned (.tuple #[.string (splO k).1,.string (splO k).2.1,.bool (splO k).2.2])/\Below w.heap.size w w':=by
 go_enter Tryz.func41,Tryz.ntmps41
 go_wp2
 go_loopg [5] (k.size+1) (fun g iv wr=>∃j:Nat,1<=j/\j<=k.size+1/\iv= .int .i64 (j:Int)/\g+j=k.size+2/\Hid (∀i,1<=i->i<j->byt k i≠0)/\w=wr)
 case atStart=>exact ⟨1,Nat.le_refl _,by omega,rfl,by omega,hide (fun i h1 h2=>by omega),rfl⟩
 case round=>
  obtain ⟨j,hj1,hj,rfl,hg,HA,rfl⟩:=hrel;have HG:=hide hg;clear hg
  by_cases hlt:j<k.size
  ·obtain ⟨y,hy⟩:∃y,y=byt k j:=⟨_,rfl⟩
   have hyb:y<256:=by rw [hy];exact byt_lt k _
   have hs1:k[j].toNat=y:=by rw [hy];exact byt_eq k _ hlt
   have HY:=hide hy
   have hk0:(0:Int)<=(j:Int):=by omega
   have hk1:(j:Int)<(k.size:Int):=by omega
   clear hy
   by_cases h1:y=0
   ·have HO:Hid (splO k=(k.extract 1 j,k.extract (j+1) k.size,true)):=hide (by rw [splO,cut_at hj1 hlt HA.out (by rw [<-HY.out];exact h1)])
    subst h1
    have hwr:IntKind.i64.wrap ((j:Int)+1)=(j:Int)+1:=IntWalk.i64_in _ ⟨by omega,by omega⟩
    have hsl:∀wx:World,(Instr.slice 9 (.string k) (some (.int .i64 1)) (some (.int .i64 (j:Int))) none).run Tryz.prog wx= .ok (.string (k.extract 1 j)) wx:=fun wx=>by
     have:=run_slice_string (P:=Tryz.prog) wx 9 k .i64 .i64 1 (j:Int) Tryz.underlying9 (by omega) (by omega) (by omega)
     rw [this,Int.toNat_natCast];rfl
    have hsm:∀wx:World,(Instr.slice 9 (.string k) (some (.int .i64 ((j:Int)+1))) none none).run Tryz.prog wx= .ok (.string (k.extract (j+1) k.size)) wx:=fun wx=>by
     have:=run_slice_string_l (P:=Tryz.prog) wx 9 k Tryz.underlying9 .i64 ((j:Int)+1) (by omega) (by omega)
     rw [this,show ((j:Int)+1).toNat=j+1 from by omega]
    go_wp2_with fail
    go_region
    go_wp2_with fail;go_ret3;rw [HO.out];exact ⟨rfl,(Below.refl _ _).drew⟩
   ·have d1:((y:Int) ==0)=false:=by simp;omega
    have HA2:Hid (∀i,1<=i->i<j+1->byt k i≠0):=hide (fun i h2 h3=>by
     by_cases e:i=j
     ·rw [e,<-HY.out];exact h1
     ·exact HA.out i h2 (by omega))
    clear HA
    go_wp2
    go_roundg (gk - 1)
    case measure=>have:=HG.out;omega
    case rel=>exact ⟨j+1,by omega,by omega,by go_num,by have:=HG.out;omega,HA2,rfl⟩
  ·have HO:Hid (splO k=(⟨#[]⟩,⟨#[]⟩,false)):=hide (by rw [splO,cut_not (fun i h1 h2=>HA.out i h1 (by omega))])
   clear HA
   go_wp2
   go_ret3;rw [HO.out];exact ⟨rfl,Below.refl _ _⟩
theorem thing_small {fs:List (ByteArray×Int)} {vs:List (Int×ByteArray)} (h:thingOkB fs vs=true):vs.length=fs.length/\fs.length<=3/\(∀i (hf:i<fs.length),fs[i].1.size<=4)/\∀i (hf:i<fs.length) (hv:i<vs.length),valueB fs[i].2 vs[i].1 vs[i].2=true/\vs[i].2.size<=6/\(keyO fs[i].2 vs[i].1 vs[i].2).size<=7:=by
 rw [thingOkB,Bool.and_eq_true,Bool.and_eq_true,decide_eq_true_eq,decide_eq_true_eq] at h;obtain ⟨⟨h1,h2⟩,h3⟩:=h;rw [schemaOkB,Bool.and_eq_true,Bool.and_eq_true,decide_eq_true_eq,List.all_eq_true] at h1
 refine ⟨h2,(of_decide_eq_true h1.2).2,fun i hf=> ?_,fun i hf hv=> ?_⟩
 ·have:=h1.1.1 _ (List.getElem_mem hf)
  rw [fieldB,Bool.and_eq_true,wordB,Bool.and_eq_true,decide_eq_true_eq,decide_eq_true_eq] at this;exact this.1.2.2
 ·have hb:valueB fs[i].2 vs[i].1 vs[i].2=true:=by
   have:=h3 i hv
   simpa [List.getD,hf,hv] using this
  have hb2:=hb;rw [keyO,if_pos hb2,keyT];rw [valueB] at hb
  by_cases hk:fs[i].2=1
  ·rw [if_pos hk,Bool.and_eq_true,decide_eq_true_eq,decide_eq_true_eq] at hb
   rw [if_pos hk]
   exact ⟨hb2,by rw [hb.2];decide,by simp [ByteArray.size]⟩
  ·rw [if_neg hk,Bool.and_eq_true,decide_eq_true_eq,decide_eq_true_eq] at hb
   rw [if_neg hk,ByteArray.size_append];have:=hb.2.2.2
   exact ⟨hb2,this,by show vs[i].2.size+1<=7;omega⟩
theorem keysL_at {c k:ByteArray} {fs:List (ByteArray×Int)} {vs:List (Int×ByteArray)} (i:Nat) (hf:i<fs.length) (hv:i<vs.length):(keysL c k fs vs).take (i+1)=(keysL c k fs vs).take i++ [idxK c fs[i].1 (keyO fs[i].2 vs[i].1 vs[i].2) k]:=by
 have hl:i<(keysL c k fs vs).length:=by rw [keysL,List.length_map,List.length_zip];omega
 rw [List.take_succ_eq_append_getElem hl]
 congr 2
 simp only [keysL,List.getElem_map,List.getElem_zip]
theorem keysL_len (c k:ByteArray) (fs:List (ByteArray×Int)) (vs:List (Int×ByteArray)):(keysL c k fs vs).length=min fs.length vs.length:=by rw [keysL,List.length_map,List.length_zip]
theorem Tryz.infoStrK:(Tryz.prog.info? 9).map (fun i=>(i.zero,i.size,i.bytes))=some (some (.string ⟨#[]⟩),1,16):=by kernel_rfl
theorem l13Keys_any (fs:List (ByteArray×Int)) (vs:List (Int×ByteArray)) (hth:thingOkB fs vs=true) (c k:ByteArray) (hc:c.size<=1000000) (hk:k.size<=1000000) (vf vv:Value) (w:World) (hrf:RowAt w 2 vf fs.length (flds fs)) (hrv:RowAt w 2 vv vs.length (puts vs)):
  Calls Tryz.prog 44 #[vf,.string c,.string k,vv] w fun e w'=>∃u,e= .returned u/\w'.ownsRow w.heap.size 9 1 u (keysL c k fs vs).length (strs (keysL c k fs vs))/\Below w.heap.size w w':=by
 obtain ⟨i0,hi,hz0,hz1,hz2⟩:=info_parts Tryz.infoStrK;obtain ⟨hvl,hf3,hns,hvs⟩:=thing_small hth;obtain ⟨-,fa,fcap,rfl,h2⟩:=hrf;obtain ⟨-,va,vcap,rfl,h3⟩:=hrv;have HR:=hide h2;have HQ:=hide h3;have HNs:=hide hns;have HVs:=hide hvs;obtain ⟨w1,hw1⟩:∃w1,w1=w.alloc (Obj.cells #[] 9):=⟨_,rfl⟩
 have HB1:Hid (Below w.heap.size w w1):=hide (by rw [hw1];exact (Below.refl _ _).alloc (Nat.le_refl _) _)
 have HO1:Hid (w1.ownsRow w.heap.size 9 1 (.slice (some ⟨w.heap.size,0,none⟩) 0 0) 0 (strs [])):=hide (by rw [hw1];exact ⟨rfl,Or.inr ⟨_,0,#[],rfl,Nat.le_refl _,heap_alloc_new w _,Nat.le_refl _,Nat.zero_le _,rfl,rfl⟩⟩)
 obtain ⟨n,hn⟩:∃n,n=fs.length:=⟨_,rfl⟩;have HN:Hid (n=fs.length/\vs.length=fs.length):=hide ⟨hn,hvl⟩
 have HKl:Hid ((keysL c k fs vs).length=n):=hide (by rw [keysL_len,hn,hvl];omega)
 rw [hvl];rw [<-hn] at hf3⊢;clear h2 h3 hth hns hvs hvl hn;go_enter Tryz.func44,Tryz.ntmps44;go_wp2_with fail;rw [<-hw1];clear hw1
 go_loopg [9,10] n (fun q ov iv wr=>∃(i:Nat) (x:Option Addr) (d:Nat),i<=n/\q+i=n/\ov= .slice x i d/\iv= .int .i64 (i:Int)/\Hid (wr.ownsRow w.heap.size 9 1 (.slice x i d) i (strs ((keysL c k fs vs).take i)))/\Hid (Below w.heap.size w wr))
 case atStart=>exact ⟨0,_,_,Nat.zero_le _,by omega,rfl,rfl,HO1,HB1⟩
 case round=>
  clear HO1 HB1;obtain ⟨i,x,d,hin,hq,rfl,rfl,HO,HB⟩:=hrel;have HG:=hide hq;clear hq
  by_cases hlt:i<n
  ·have hlf:i<fs.length:=by rw [<-HN.out.1];exact hlt
   have hlv:i<vs.length:=by rw [HN.out.2];exact hlf
   rcases HR.out with h0 | ⟨b,off,rfl,hbl,hcf⟩
   ·omega
   rcases HQ.out with h0 | ⟨b',off',rfl,hbl',hcv⟩
   ·omega
   obtain ⟨y,hy⟩:∃y,y=fs[i].1:=⟨_,rfl⟩;obtain ⟨q,hq⟩:∃q,q=fs[i].2:=⟨_,rfl⟩;obtain ⟨p,hp⟩:∃p,p=vs[i].1:=⟨_,rfl⟩;obtain ⟨t,ht⟩:∃t,t=vs[i].2:=⟨_,rfl⟩
   have hc0:wr.cell? ⟨b,off+i * 2,none⟩=some (.string y):=by rw [HB.out.cell (by exact hbl),hcf (i * 2) (by omega),(flds_at fs i hlf).1,hy]
   have hc1:wr.cell? ⟨b,off+i * 2+1,none⟩=some (.int .i64 q):=by rw [HB.out.cell (by exact hbl),Nat.add_assoc,hcf (i * 2+1) (by omega),(flds_at fs i hlf).2,hq]
   have hd0:wr.cell? ⟨b',off'+i * 2,none⟩=some (.int .i64 p):=by rw [HB.out.cell (by exact hbl'),hcv (i * 2) (by omega),(puts_at vs i hlv).1,hp]
   have hd1:wr.cell? ⟨b',off'+i * 2+1,none⟩=some (.string t):=by rw [HB.out.cell (by exact hbl'),Nat.add_assoc,hcv (i * 2+1) (by omega),(puts_at vs i hlv).2,ht]
   have hbw:b<wr.heap.size:=Nat.lt_of_lt_of_le hbl HB.out.size;have hbw':b'<wr.heap.size:=Nat.lt_of_lt_of_le hbl' HB.out.size;obtain ⟨hvb,hts,hos⟩:=HVs.out i hlf hlv;have hys:=HNs.out i hlf;rw [<-hy] at hys;rw [<-hq,<-hp,<-ht] at hvb hos;rw [<-ht] at hts
   have HV:=hide (fun wx=>specKeyText_any q p t (by omega) wx)
   obtain ⟨o,ho⟩:∃o,o=keyO q p t:=⟨_,rfl⟩;rw [<-ho] at HV hos;rw [hvb] at HV
   have HIx:=hide (fun wx=>specIndexKey_any c y o k (by omega) (by omega) (by omega) (by omega) wx)
   obtain ⟨z,hz⟩:∃z,z=idxK c y o k:=⟨_,rfl⟩;rw [<-hz] at HIx
   have HUp:Hid ((keysL c k fs vs).take (i+1)=(keysL c k fs vs).take i++ [z]):=hide (by rw [keysL_at i hlf hlv,hz,ho,hy,hq,hp,ht])
   have hk0:(0:Int)<=(i:Int):=by omega
   have hk1:(i:Int)<(n:Int):=by omega
   have hS:∀wx,Below wr.heap.size wr wx->wx.cell? ⟨b,off+i * 2,none⟩=some (.string y):=fun wx hb=>(hb.cell (by exact hbw)).trans hc0
   have HS:=hide hS;clear hcf hcv hy hq hp ht hvb ho hz hlf hlv hbl hbl' hc0 hS hys hts hos;go_wp2_with fail
   go_region_held3 (fun wx=>wx.cell? ⟨b,off+i * 2+1,none⟩=some (.int .i64 q)/\wx.cell? ⟨b',off'+i * 2,none⟩=some (.int .i64 p)/\wx.cell? ⟨b',off'+i * 2+1,none⟩=some (.string t)) (first | exact ⟨hc1,hd0,hd1⟩ | exact hS2) ((go_at_call 75;(with_reducible refine (HV.out _).mono ?_);rintro e w2 ⟨rfl,hb2⟩;have hA2:Below wr.heap.size wr w2:=(Below.refl _ _).drew.trans hb2;have hS2:=(⟨(hA2.cell (by exact hbw)).trans hc1,(hA2.cell (by exact hbw')).trans hd0,(hA2.cell (by exact hbw')).trans hd1⟩:w2.cell? ⟨b,off+i * 2+1,none⟩=some (.int .i64 q)/\w2.cell? ⟨b',off'+i * 2,none⟩=some (.int .i64 p)/\w2.cell? ⟨b',off'+i * 2+1,none⟩=some (.string t))))
   have hc0:=HS.out w2 hA2;have HB2:Hid (Below w.heap.size w w2):=hide (HB.out.trans (hA2.mono HB.out.size));have HO2:Hid (w2.ownsRow w.heap.size 9 1 (.slice x i d) i (strs ((keysL c k fs vs).take i))):=hide (own_stays HO.out hA2);have hws2:=HB2.out.size;clear hA2 hS2 hb2 hc1 hd0 hd1 HS HO HB;go_wp2_with fail;refine (HIx.out _).mono ?_;rintro e w3 ⟨rfl,rfl⟩
   go_wp2_with (at_builtin;refine wpList_append_own _ rfl _ _ 22 rfl w.heap.size 9 i0 (.string ⟨#[]⟩) 1 16 Tryz.underlying22 hi hz0 hz1 hz2 rfl (by decide) _ _ _ rfl (HO2.out.alloc _) ⟨w2.heap.size,0,none⟩ 1 1 [.string z] rfl rfl ?c1 ?c2 ?c3 ?c4 ?c5 ?_)
   case c1=>
    intro j u hj
    match j,hj with
    | 0,hj=>simp at hj;subst hj;simp [Addr.add]
   case c2=>intro u hu;simp at hu;subst hu;rfl
   case c3=>unfold maxLen;omega
   case c4=>omega
   case c5=>simp;omega
   intro v' w4 hown3 hgrow _;obtain ⟨x4,d4,rfl⟩:=own_slice hown3
   have HO4:Hid (w4.ownsRow w.heap.size 9 1 (.slice x4 (i+1) d4) (i+1) (strs ((keysL c k fs vs).take (i+1)))):=hide (by rw [HUp.out,show strs ((keysL c k fs vs).take i++ [z])=strs ((keysL c k fs vs).take i)++ [.string z] from by simp [strs]];exact hown3)
   have HB4:Hid (Below w.heap.size w w4):=hide ((HB2.out.alloc hws2 _).grown hgrow (by simp;omega) (fun k hk=>(HO2.out.lt k hk).1))
   clear hown3 hgrow;go_wp2_with fail
   go_roundg (gk - 1)
   case measure=>have:=HG.out;omega
   case rel=>exact ⟨i+1,x4,d4,by omega,by have:=HG.out;omega,rfl,by go_num,HO4,HB4⟩
  ·have HE:Hid ((keysL c k fs vs).take i=keysL c k fs vs/\i=(keysL c k fs vs).length):=hide ⟨List.take_of_length_le (by have:=HKl.out;omega),by have:=HKl.out;omega⟩
   rw [HE.out.1] at HO;go_wp2_with fail;go_ret;refine ⟨_,rfl,?_,HB.out⟩;rw [<-HE.out.2];exact HO.out
end Go.Proofs.YtjmgdmdleamenaaGreatDoor
