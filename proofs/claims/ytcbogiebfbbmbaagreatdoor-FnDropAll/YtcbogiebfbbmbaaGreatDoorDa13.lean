/-
  Facts and contracts that the law's own text rests on, by their texts' names: DiskMoreN.
-/
import Derived.Test.YtcbogiebfbbmbaaGreatDoorDa1
import Derived.Test.YtcbogiebfbbmbaaGreatDoorDa9
import Derived.Test.YtcbogiebfbbmbaaGreatDoorDa5
set_option maxHeartbeats 16000000
set_option maxRecDepth 100000
namespace Go.Proofs.YtcbogiebfbbmbaaGreatDoor
open Go.RowKit
theorem zbp {ps:List ByteArray} {ls:List (Int×ByteArray)} {page:Int} {text:ByteArray} (h:¬(diskOkB ps ls=true/\(0<=page/\page<=(ps.length:Int) - 1)/\text.size<=240/\ls.length≠200)):writeOk ps ls page text=false/\writeL ps ls page text=ls:=by
 have e:writeOk ps ls page text=false:=by
  rw [<-Bool.not_eq_true,writeOk]
  simp only [Bool.and_eq_true,decide_eq_true_eq]
  intro hh;exact h ⟨hh.1.1.1,hh.1.1.2,hh.1.2,hh.2⟩
 exact ⟨e,by rw [writeL,e];rfl⟩
theorem zgq {ps:List ByteArray} {ls:List (Int×ByteArray)} {page:Int} {text:ByteArray} (h:diskOkB ps ls=true) (h1:0<=page/\page<=(ps.length:Int) - 1) (h2:text.size<=240) (h3:ls.length≠200):writeOk ps ls page text=true/\writeL ps ls page text=ls++ [(page,text)]:=by
 have e:writeOk ps ls page text=true:=by
  rw [writeOk]
  simp only [Bool.and_eq_true,decide_eq_true_eq]
  exact ⟨⟨⟨h,h1⟩,h2⟩,h3⟩
 exact ⟨e,by rw [writeL,e];rfl⟩
theorem ziw (ls:List (Int×ByteArray)) (p:Int) (t:ByteArray):puts ls++ [.int .i64 p,.string t]=puts (ls++ [(p,t)]):=by simp [puts]
theorem zgr (n:Int) (w:World):
  Calls Tryz.prog 7 #[.int .i64 n] w fun e w'=>∃v',e= .returned (.tuple #[v',.bool (decide (4<=n/\n<=40))])/\DiskOwn w' w.heap.size v' (newP n) []/\Below w.heap.size w w':=by
 obtain ⟨i0,hi,hz0,hz1,hz2⟩:=info_parts Tryz.infoStrR;have HC:=hide (zda n 4 40)
 by_cases hin:4<=n/\n<=40
 ·obtain ⟨k,rfl⟩:=Int.eq_ofNat_of_zero_le (show 0<=n by omega)
  have hk:k<=40:=by omega
  have HN:Hid (newP (k:Int)=List.replicate k ⟨#[]⟩):=hide (by rw [newP,if_pos hin,Int.toNat_natCast])
  rw [decide_eq_true hin] at HC⊢;clear hin;go_enter Tryz.func7,Tryz.ntmps7;go_wp2_with fail;refine (HC.out _).mono ?_;rintro e w1 ⟨rfl,rfl⟩
  go_wp2_with (at_make;refine wpList_make_full _ rfl _ _ 26 rfl (w.heap.size+1) 9 i0 (.string ⟨#[]⟩) 1 Tryz.underlying26 hi hz0 hz1 .i64 .i64 _ _ k rfl rfl rfl rfl (by rw [hz2];omega) (by unfold maxLen;omega) (by simp) ?_)
  intro w2 hown2' hg2;have hown2:w2.ownsRow (w.heap.size+1) 9 1 (.slice (some ⟨w.heap.size+1,0,none⟩) k k) k (strs (List.replicate k ⟨#[]⟩)):=own_n hown2' rfl (zl7 k)
  have hblk:=(hg2.block w.heap.size (by simp) (by simp)).trans (heap_alloc_new w (Obj.cells #[.slice none 0 0,.slice none 0 0] 29))
  have c0:w2.cell? ⟨w.heap.size,0,none⟩=some (.slice none 0 0):=(za0 hblk 0).1;have c1:w2.cell? ⟨w.heap.size,1,none⟩=some (.slice none 0 0):=(za0 hblk 1).1;have f0:=(za0 hblk 0).2;have f1:=(za0 hblk 1).2
  have hb2:Below w.heap.size w w2:=((Below.refl w.heap.size w).alloc (Nat.le_refl _) _).grown hg2 (by simp) (fun j hj=>by cases hj)
  have HBk:=hide hblk;have HO:=hide hown2;have HB:=hide hb2;clear hown2' hg2 hblk hown2 hb2;go_wp2_with fail;have y1:(w2.setCell ⟨w.heap.size,0,none⟩ (.slice (some ⟨w.heap.size+1,0,none⟩) k k)).heap[w.heap.size]?=some (Obj.cells #[.slice (some ⟨w.heap.size+1,0,none⟩) k k,.slice none 0 0] 29):=heap_setCell_same _ _ 0 _ _ _ HBk.out;have y2:((w2.setCell ⟨w.heap.size,0,none⟩ (.slice (some ⟨w.heap.size+1,0,none⟩) k k)).setCell ⟨w.heap.size,1,none⟩ (.slice none 0 0)).heap[w.heap.size]?=some (Obj.cells #[.slice (some ⟨w.heap.size+1,0,none⟩) k k,.slice none 0 0] 29):=heap_setCell_same _ _ 1 _ _ _ y1
  have k2:Kept w2 ((w2.setCell ⟨w.heap.size,0,none⟩ (.slice (some ⟨w.heap.size+1,0,none⟩) k k)).setCell ⟨w.heap.size,1,none⟩ (.slice none 0 0)) (fun j=>j=w.heap.size):=kept_trans (za9 _ _ _ _) (za9 _ _ _ _) (fun j _ h=>h)
  refine bodyPost_ret (v:= .tuple #[.agg #[.slice (some ⟨w.heap.size+1,0,none⟩) k k,.slice none 0 0],.bool true]) (by simp [results,Tryz.results7,go_sem,(za0 y2 0).1,(za0 y2 1).1]) rfl ⟨_,rfl,?_,(HB.out.setCell (Nat.le_refl _) _).setCell (Nat.le_refl _) _⟩
  rw [HN.out];refine ⟨_,_,rfl,?_,⟨rfl,Or.inl ⟨rfl,rfl⟩⟩⟩;rw [List.length_replicate]
  exact zad (za6 HO.out k2 (fun j hj=>by have:=(HO.out.lt j hj).1;omega)) (by omega)
 ·rw [decide_eq_false hin] at HC⊢
  have HN:Hid (newP n= []):=hide (by rw [newP,if_neg hin])
  clear hin;go_enter Tryz.func7,Tryz.ntmps7;go_wp2_with fail;refine (HC.out _).mono ?_;rintro e w1 ⟨rfl,rfl⟩;go_wp2_with fail;have hblk:=heap_alloc_new w (Obj.cells #[.slice none 0 0,.slice none 0 0] 29)
  refine bodyPost_ret (v:= .tuple #[.agg #[.slice none 0 0,.slice none 0 0],.bool false]) (by simp [results,Tryz.results7,go_sem,(za0 hblk 0).1,(za0 hblk 1).1]) rfl ⟨_,rfl,?_,(Below.refl w.heap.size w).alloc (Nat.le_refl _) _⟩
  rw [HN.out];exact ⟨_,_,rfl,⟨rfl,Or.inl ⟨rfl,rfl⟩⟩,⟨rfl,Or.inl ⟨rfl,rfl⟩⟩⟩
theorem zf8 (v:Value) (ps:List ByteArray) (ls:List (Int×ByteArray)) (page:Int) (text:ByteArray) (ht:text.size<=1048576) (hp:ps.length<=1048576) (hl:ls.length<=1048576) (hps:∀s∈ps,s.size<=1048576) (hls:∀p∈ls,p.2.size<=1048576) (w:World) (hd:DiskAt w v ps ls):
  Calls Tryz.prog 47 #[v,.int .i64 page,.string text] w fun e w'=>∃v',e= .returned (.tuple #[v',.bool (writeOk ps ls page text)])/\DiskOwn w' w.heap.size v' ps (writeL ps ls page text)/\Below w.heap.size w w':=by
 obtain ⟨i1,hj,hy0,hy1,hy2⟩:=info_parts Tryz.infoPut
 have HCo:=hide (fun u wx h=>zdc u ps ls hp hl wx h)
 have HOk:=hide (fun u wx h=>zgS u ps ls hp hl hps hls wx h)
 have HIn:=hide (zda page 0 ((ps.length:Int) - 1));have HD:=hide hd;obtain ⟨vp,vl,rfl,h1,h2⟩:=hd
 obtain ⟨x1,c1,rfl⟩:∃a cap,vp= .slice a ps.length cap:=by obtain ⟨-,a,cap,e,-⟩:=h1;exact ⟨a,cap,e⟩
 obtain ⟨x2,c2,rfl⟩:∃a cap,vl= .slice a ls.length cap:=by obtain ⟨-,a,cap,e,-⟩:=h2;exact ⟨a,cap,e⟩
 clear h1 h2 hps hls;obtain ⟨w0,hw0⟩:∃w0,w0=(w.alloc (Obj.cells #[.slice x1 ps.length c1,.slice x2 ls.length c2] 29)).alloc (Obj.cells #[.slice none 0 0,.slice none 0 0] 29):=⟨_,rfl⟩;obtain ⟨q0,q1,hs0⟩:=zaE w (Obj.cells #[.slice x1 ps.length c1,.slice x2 ls.length c2] 29) (Obj.cells #[.slice none 0 0,.slice none 0 0] 29);rw [<-hw0] at q0 q1 hs0
 have HB_w0:Hid (Below w.heap.size w w0):=hide (by rw [hw0];exact ((Below.refl w.heap.size w).alloc (Nat.le_refl _) _).alloc (by simp) _)
 obtain ⟨a0,ha0⟩:∃a,a=w.heap.size:=⟨_,rfl⟩;obtain ⟨a1,ha1⟩:∃a,a=a0+1:=⟨_,rfl⟩;rw [<-ha0] at q0 q1 hs0;rw [<-ha1] at q1;have Hbox_w0:=hide (zek q0);have Hres_w0:=hide (zek q1);have HA:=hide (⟨ha0,ha1,hs0⟩:a0=w.heap.size/\a1=a0+1/\w0.heap.size=a0+2);clear q0 q1 hs0;go_enter Tryz.func47,Tryz.ntmps47;go_wp2_with fail;rw [<-hw0,<-ha0,<-ha1];clear hw0 ha0 ha1;refine (HCo.out _ _ (zak HD.out HB_w0.out)).mono ?_;rintro e w1 ⟨u1,rfl,hown,hb⟩;have HZ1:Hid (w0.heap.size<=w1.heap.size):=hide hb.size;have HB_w1:Hid (Below w.heap.size w w1):=hide (HB_w0.out.trans (hb.mono HB_w0.out.size));have Hbox_w1:=hide (za1 Hbox_w0.out hb);have Hres_w1:=hide (za1 Hres_w0.out hb);have Hd_w1:=hide (zia hown);obtain ⟨x3,c3,y3,d3,rfl⟩:=zbb hown;clear hown hb;obtain ⟨g,hg⟩:∃g,g=w1.heap.size:=⟨_,rfl⟩;obtain ⟨w2,hnw⟩:∃wx,wx=w1.alloc (Obj.cells #[.slice x3 ps.length c3,.slice y3 ls.length d3] 29):=⟨_,rfl⟩;have hnv:=zla w1 (.slice x3 ps.length c3) (.slice y3 ls.length d3) 29;rw [<-hnw,<-hg] at hnv
 have hbv:Below w1.heap.size w1 w2:=by rw [<-hg];exact hnv.1
 have Hg_w2:=hide hnv.2;have HGt:Hid (w1.heap.size=g):=hide hg.symm;have HB_w2:Hid (Below w.heap.size w w2):=hide (HB_w1.out.trans (hbv.mono HB_w1.out.size));have Hbox_w2:=hide (za1 Hbox_w1.out hbv);have Hres_w2:=hide (za1 Hres_w1.out hbv);have Hd_w2:=hide (za1 Hd_w1.out hbv);clear hnv hbv;obtain ⟨cb0,cb1⟩:=zaF Hbox_w2.out;rw [hnw] at cb0 cb1;go_wp2_with fail;rw [<-hnw,<-hg];clear hnw hg cb0 cb1;refine (HOk.out _ _ (zak HD.out HB_w2.out)).mono ?_;rintro e w3 ⟨rfl,hb⟩;have HB_w3:Hid (Below w.heap.size w w3):=hide (HB_w2.out.trans (hb.mono HB_w2.out.size));have Hbox_w3:=hide (za1 Hbox_w2.out hb);have Hres_w3:=hide (za1 Hres_w2.out hb);have Hd_w3:=hide (za1 Hd_w2.out hb);have Hg_w3:=hide (za1 Hg_w2.out hb);clear hb;obtain ⟨cb0,cb1⟩:=zaF Hbox_w3.out;obtain ⟨cg0,cg1⟩:=zaF Hg_w3.out;obtain ⟨cr0,cr1⟩:=zaF Hres_w3.out;have fr0:=(za0 Hres_w3.out.is 0).2;have fr1:=(za0 Hres_w3.out.is 1).2
 by_cases hok:diskOkB ps ls=true
 ·rw [hok]
  by_cases hin:0<=page/\page<=(ps.length:Int) - 1
  ·rw [decide_eq_true hin] at HIn
   go_wp2_with fail;refine (HIn.out _).mono ?_;rintro e w4 ⟨rfl,rfl⟩
   by_cases ht2:text.size<=240
   ·by_cases h200:ls.length=200
    ·have HNo:=hide (zbp (page:=page) (text:=text) (ps:=ps) (ls:=ls) (fun h=>h.2.2.2 h200))
     have hdl:decide ((240:Int)<(text.size:Int))=false:=by simp;omega
     have hd2:((ls.length:Int)=200):=by omega
     go_wp2_with fail
     have hfin:=zbw Hres_w3.out.is Hd_w3.out.is.1 (by have:=HA.out;omega) (by have:=HA.out;omega) HB_w3.out
     rw [h200] at hfin
     refine bodyPost_ret (v:= .tuple #[.agg #[.slice x3 ps.length c3,.slice y3 200 d3],.bool false]) (by simp [results,Tryz.results47,go_sem,hfin.1,hfin.2.1]) rfl ⟨_,by rw [HNo.out.1],by rw [HNo.out.2];exact hfin.2.2.1,hfin.2.2.2⟩
    ·have HYes:=hide (zgq hok hin ht2 h200)
     have hdl:decide ((240:Int)<(text.size:Int))=false:=by simp;omega
     have hd2:¬((ls.length:Int)=200):=by omega
     obtain ⟨o1,o2⟩:=zdk Hd_w3.out.is.1;have HO1:=hide o1
     have HU:Hid (∀k,(Value.slice y3 ls.length d3).ownBlock=some k->w0.heap.size<=k/\k<w1.heap.size):=hide (fun k hk=>⟨(o2.lt k hk).1,Hd_w3.out.is.2 k ⟨_,_,rfl,Or.inr hk⟩⟩)
     clear o1
     go_wp2_with (at_builtin;refine wpList_append_own _ rfl _ _ 27 rfl w0.heap.size 90 i1 (.agg #[.int .i64 0,.string ⟨#[]⟩]) 2 24 Tryz.underlying27 hj hy0 hy1 hy2 rfl (by decide) _ _ _ rfl (o2.alloc _) ⟨w3.heap.size,0,none⟩ 1 1 [.int .i64 page,.string text] rfl rfl ?c1 ?c2 ?c3 ?c4 ?c5 ?_)
     case c1=>exact World.news_of_block (cs:= #[.int .i64 page,.string text]) (t:=90) (fr:=(0,0)) (heap_alloc_new w3 _)
     case c2=>intro u hu;simp at hu;rcases hu with rfl | rfl <;> rfl
     case c3=>unfold maxLen;omega
     case c4=>omega
     case c5=>have:=Hd_w3.out.le;have:=HZ1.out;simp;omega
     intro v5 w5 hown5 hg5 _;obtain ⟨y5,d5,rfl⟩:=za4 hown5;rw [ziw] at hown5;have hA:=HA.out;have hu:=HU.out;have hz:=HZ1.out;have hgt:=HGt.out;have hle:=Hg_w3.out.le
     have hkeep:∀k,k<w3.heap.size->(∀j,(Value.slice y3 ls.length d3).ownBlock=some j->k≠j)->w5.heap[k]?=w3.heap[k]?:=fun k hk hn=>(hg5.block k (by simp;omega) (fun e=>hn k e.symm rfl)).trans (Below.heap_alloc w3 _ k hk)
     have hr5:w5.heap[a1]?=some (Obj.cells #[.slice none 0 0,.slice none 0 0] 29):=(hkeep a1 Hres_w3.out.le (fun j hj=>by have:=hu j hj;omega)).trans Hres_w3.out.is
     have hg5':w5.heap[g]?=some (Obj.cells #[.slice x3 ps.length c3,.slice y3 ls.length d3] 29):=(hkeep g Hg_w3.out.le (fun j hj=>by have:=hu j hj;omega)).trans Hg_w3.out.is
     have ho5:w5.ownsRow w0.heap.size 9 1 (.slice x3 ps.length c3) ps.length (strs ps):=zis (HO1.out.alloc _) (o2.alloc _) Tryz.types_part hg5;obtain ⟨w6,hw6⟩:∃w6,w6=w5.setCell ⟨g,1,none⟩ (.slice y5 (ls.length+1) d5):=⟨_,rfl⟩
     have e6:w6.heap[g]?=some (Obj.cells #[.slice x3 ps.length c3,.slice y5 (ls.length+1) d5] 29):=by rw [hw6];exact heap_setCell_same _ g 1 _ _ _ hg5'
     have r6:w6.heap[a1]?=some (Obj.cells #[.slice none 0 0,.slice none 0 0] 29):=by rw [hw6,heap_setCell_other _ ⟨g,1,none⟩ a1 _ (by show a1≠g;omega)];exact hr5
     have hd6:DiskOwn w6 w0.heap.size (.agg #[.slice x3 ps.length c3,.slice y5 (ls.length+1) d5]) ps (ls++ [(page,text)]):=by
      have k6:Kept w5 w6 (fun k=>k=g):=by rw [hw6];exact za9 _ _ _ _
      refine ⟨_,_,rfl,za6 ho5 k6 (fun k hk e=>zaZ ho5 hg5' (by decide) (by rw [hk,e])),?_⟩
      rw [List.length_append]
      exact za6 hown5 k6 (fun k hk e=>zaZ hown5 hg5' (by decide) (by rw [hk,e]))
     have hb6:Below w.heap.size w w6:=by
      rw [hw6]
      exact (((HB_w3.out.alloc HB_w3.out.size _).grown hg5 (by simp;have:=HB_w3.out.size;omega) (fun k hk=>by have:=hu k hk;omega))).setCell (by show _<=g;omega) _
     have cg50:w5.cell? ⟨g,0,none⟩=some (.slice x3 ps.length c3):=(za0 hg5' 0).1;have cg51:w5.cell? ⟨g,1,none⟩=some (.slice y3 ls.length d3):=(za0 hg5' 1).1;have fg51:=(za0 hg5' 1).2;have c60:w6.cell? ⟨g,0,none⟩=some (.slice x3 ps.length c3):=(za0 e6 0).1;have c61:w6.cell? ⟨g,1,none⟩=some (.slice y5 (ls.length+1) d5):=(za0 e6 1).1;have d60:w6.cell? ⟨a1,0,none⟩=some (.slice none 0 0):=(za0 r6 0).1;have d61:w6.cell? ⟨a1,1,none⟩=some (.slice none 0 0):=(za0 r6 1).1;have f60:=(za0 r6 0).2;have f61:=(za0 r6 1).2;have HR6:=hide r6;have HD6:=hide hd6;have HB6:=hide hb6;have HW6:=hide hw6;rw [hw6] at c60 c61 d60 d61 f60 f61;clear hown5 hg5 hkeep hr5 hg5' ho5 e6 r6 hd6 hb6 hw6 o2 hA hu hz hgt hle cb0 cb1 cg0 cg1 cr0 cr1 fr0 fr1;go_wp2_with fail;rw [<-HW6.out]
     have hfin:=zbw HR6.out HD6.out (by have:=HA.out;omega) (by have:=HA.out;omega) HB6.out
     refine bodyPost_ret (v:= .tuple #[.agg #[.slice x3 ps.length c3,.slice y5 (ls.length+1) d5],.bool true]) (by simp [results,Tryz.results47,go_sem,hfin.1,hfin.2.1]) rfl ⟨_,by rw [HYes.out.1],by rw [HYes.out.2];exact hfin.2.2.1,hfin.2.2.2⟩
   ·have HNo:=hide (zbp (page:=page) (text:=text) (ps:=ps) (ls:=ls) (fun h=>ht2 h.2.2.1))
    have hdl:decide ((240:Int)<(text.size:Int))=true:=by simp;omega
    go_wp2_with fail
    have hfin:=zbw Hres_w3.out.is Hd_w3.out.is.1 (by have:=HA.out;omega) (by have:=HA.out;omega) HB_w3.out
    refine bodyPost_ret (v:= .tuple #[.agg #[.slice x3 ps.length c3,.slice y3 ls.length d3],.bool false]) (by simp [results,Tryz.results47,go_sem,hfin.1,hfin.2.1]) rfl ⟨_,by rw [HNo.out.1],by rw [HNo.out.2];exact hfin.2.2.1,hfin.2.2.2⟩
  ·rw [decide_eq_false hin] at HIn
   have HNo:=hide (zbp (text:=text) (ls:=ls) (fun h=>hin h.2.1))
   go_wp2_with fail;refine (HIn.out _).mono ?_;rintro e w4 ⟨rfl,rfl⟩;go_wp2_with fail
   have hfin:=zbw Hres_w3.out.is Hd_w3.out.is.1 (by have:=HA.out;omega) (by have:=HA.out;omega) HB_w3.out
   refine bodyPost_ret (v:= .tuple #[.agg #[.slice x3 ps.length c3,.slice y3 ls.length d3],.bool false]) (by simp [results,Tryz.results47,go_sem,hfin.1,hfin.2.1]) rfl ⟨_,by rw [HNo.out.1],by rw [HNo.out.2];exact hfin.2.2.1,hfin.2.2.2⟩
 ·have hok':diskOkB ps ls=false:=by rw [<-Bool.not_eq_true];exact hok
  have HNo:=hide (zbp (page:=page) (text:=text) (fun h=>hok h.1))
  rw [hok'];go_wp2_with fail
  have hfin:=zbw Hres_w3.out.is Hd_w3.out.is.1 (by have:=HA.out;omega) (by have:=HA.out;omega) HB_w3.out
  refine bodyPost_ret (v:= .tuple #[.agg #[.slice x3 ps.length c3,.slice y3 ls.length d3],.bool false]) (by simp [results,Tryz.results47,go_sem,hfin.1,hfin.2.1]) rfl ⟨_,by rw [HNo.out.1],by rw [HNo.out.2];exact hfin.2.2.1,hfin.2.2.2⟩
end Go.Proofs.YtcbogiebfbbmbaaGreatDoor
