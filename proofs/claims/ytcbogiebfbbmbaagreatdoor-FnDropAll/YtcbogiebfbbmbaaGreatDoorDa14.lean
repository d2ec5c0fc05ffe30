/-
  Facts and contracts that the law's own text rests on, by their texts' names: ImplWriteN.
-/
import Derived.Test.YtcbogiebfbbmbaaGreatDoorDa13
import Derived.Test.YtcbogiebfbbmbaaGreatDoorDa12
set_option maxHeartbeats 16000000
set_option maxRecDepth 100000
namespace Go.Proofs.YtcbogiebfbbmbaaGreatDoor
open Go.RowKit
theorem put_new (w:World) (q:Int) (t:ByteArray):RowAt (w.alloc (Obj.cells #[.int .i64 q,.string t] 90)) 2 (.slice (some ⟨w.heap.size,0,none⟩) 1 1) 1 (puts [(q,t)]):=by
 refine ⟨rfl,_,_,rfl,Or.inr ⟨w.heap.size,0,rfl,by simp,fun j hj=> ?_⟩⟩
 rw [Nat.zero_add,(za0 (heap_alloc_new w _) j).1]
 simp [puts]
theorem zlE {w w4 w5 w6:World} {a1 B U g:Nat} {x3 y3 y6:Option Addr} {c3 d3 d6:Nat} {ps:List ByteArray} {ls:List (Int×ByteArray)} {page:Int} {text:ByteArray} {o:Obj}
  (hres:w4.heap[a1]?=some (Obj.cells #[.slice none 0 0,.slice none 0 0] 29)) (hvar:w4.heap[g]?=some (Obj.cells #[.slice x3 ps.length c3,.slice y3 ls.length d3] 29))
  (o1:w4.ownsRow B 9 1 (.slice x3 ps.length c3) ps.length (strs ps)) (o2:w4.ownsRow B 90 2 (.slice y3 ls.length d3) ls.length (puts ls)) (hB:Below w.heap.size w w4)
  (hu:∀k,(Value.slice y3 ls.length d3).ownBlock=some k->B<=k/\k<U) (ho1:w.heap.size<=a1/\a1<B) (ho2:U<=g/\B<=U) (_ho3:w.heap.size<=B)
  (hb5:Below w4.heap.size w4 w5) (hg6:(w5.alloc o).grownBy w6 (Value.slice y3 ls.length d3).ownBlock) (hown6:w6.ownsRow B 90 2 (.slice y6 (ls.length+1) d6) (ls.length+1) (puts ls++puts [(page,text)])):
  (w6.cell? ⟨g,0,none⟩=some (.slice x3 ps.length c3)/\w6.cell? ⟨g,1,none⟩=some (.slice y3 ls.length d3)/\w6.frozen? ⟨g,1,none⟩=false)/\
  ((w6.setCell ⟨g,1,none⟩ (.slice y6 (ls.length+1) d6)).heap[g]?=some (Obj.cells #[.slice x3 ps.length c3,.slice y6 (ls.length+1) d6] 29))/\
  ((w6.setCell ⟨g,1,none⟩ (.slice y6 (ls.length+1) d6)).heap[a1]?=some (Obj.cells #[.slice none 0 0,.slice none 0 0] 29))/\
  DiskOwn (w6.setCell ⟨g,1,none⟩ (.slice y6 (ls.length+1) d6)) B (.agg #[.slice x3 ps.length c3,.slice y6 (ls.length+1) d6]) ps (ls++ [(page,text)])/\Below w.heap.size w (w6.setCell ⟨g,1,none⟩ (.slice y6 (ls.length+1) d6)):=by
 have hlg:g<w4.heap.size:=(Array.getElem?_eq_some_iff.1 hvar).1;have hla:a1<w4.heap.size:=(Array.getElem?_eq_some_iff.1 hres).1;have hsz:=hb5.size
 have hkeep:∀k,k<w4.heap.size->(∀j,(Value.slice y3 ls.length d3).ownBlock=some j->k≠j)->w6.heap[k]?=w4.heap[k]?:=fun k hk hn=>((hg6.block k (by simp;omega) (fun e=>hn k e.symm rfl)).trans (Below.heap_alloc w5 _ k (by omega))).trans (hb5.block k hk)
 have hr6:=(hkeep a1 hla (fun j hj=>by have:=hu j hj;omega)).trans hres
 have hv6:=(hkeep g hlg (fun j hj=>by have:=hu j hj;omega)).trans hvar
 have p5:=zaf o1 hb5;have q5:=zaf o2 hb5;have ho6:w6.ownsRow B 9 1 (.slice x3 ps.length c3) ps.length (strs ps):=zis (p5.alloc _) (q5.alloc _) Tryz.types_part hg6
 have k7:Kept w6 (w6.setCell ⟨g,1,none⟩ (.slice y6 (ls.length+1) d6)) (fun k=>k=g):=za9 _ _ _ _
 refine ⟨⟨(za0 hv6 0).1,(za0 hv6 1).1,(za0 hv6 1).2⟩,heap_setCell_same _ g 1 _ _ _ hv6,?_,?_,?_⟩
 ·rw [heap_setCell_other _ ⟨g,1,none⟩ a1 _ (by show a1≠g;omega)]
  exact hr6
 ·refine ⟨_,_,rfl,za6 ho6 k7 (fun k hk e=>zaZ ho6 hv6 (by decide) (by rw [hk,e])),?_⟩
  rw [List.length_append,<-ziw ls page text]
  exact za6 hown6 k7 (fun k hk e=>zaZ hown6 hv6 (by decide) (by rw [hk,e]))
 ·exact ((((hB.trans (hb5.mono hB.size)).alloc (by have:=hB.size;omega) _).grown hg6 (by simp;have:=hB.size;omega) (fun k hk=>by have:=hu k hk;omega))).setCell (by show _<=g;have:=hB.size;omega) _
theorem zf9 (v:Value) (ps:List ByteArray) (ls:List (Int×ByteArray)) (page:Int) (text:ByteArray) (ht:text.size<=1048576) (hp:ps.length<=1048576) (hl:ls.length<=1048576) (hps:∀s∈ps,s.size<=1048576) (hls:∀p∈ls,p.2.size<=1048576) (w:World) (hd:DiskAt w v ps ls):
  Calls Tryz.prog 54 #[v,.int .i64 page,.string text] w fun e w'=>∃v',e= .returned (.tuple #[v',.bool (writeOk ps ls page text)])/\DiskOwn w' w.heap.size v' ps (writeL ps ls page text)/\Below w.heap.size w w':=by
 obtain ⟨i1,hj,hy0,hy1,hy2⟩:=info_parts Tryz.infoPut
 have HCo:=hide (fun u wx h=>zft u ps ls hp hl hps hls wx h)
 have HOk:=hide (fun u wx h=>zgX u ps ls hp hl hps hls wx h)
 have HCl:=hide (zcj text (by omega))
 have HD:=hide hd;obtain ⟨vp,vl,rfl,h1,h2⟩:=hd
 obtain ⟨x1,c1,rfl⟩:∃a cap,vp= .slice a ps.length cap:=by obtain ⟨-,a,cap,e,-⟩:=h1;exact ⟨a,cap,e⟩
 obtain ⟨x2,c2,rfl⟩:∃a cap,vl= .slice a ls.length cap:=by obtain ⟨-,a,cap,e,-⟩:=h2;exact ⟨a,cap,e⟩
 have HIn:=hide (ze9 x1 ps.length c1 (.slice x2 ls.length c2) page);clear h1 h2 hps hls;obtain ⟨w0,hw0⟩:∃w0,w0=(w.alloc (Obj.cells #[.slice x1 ps.length c1,.slice x2 ls.length c2] 29)).alloc (Obj.cells #[.slice none 0 0,.slice none 0 0] 29):=⟨_,rfl⟩;obtain ⟨q0,q1,hs0⟩:=zaE w (Obj.cells #[.slice x1 ps.length c1,.slice x2 ls.length c2] 29) (Obj.cells #[.slice none 0 0,.slice none 0 0] 29);rw [<-hw0] at q0 q1 hs0
 have HB_w0:Hid (Below w.heap.size w w0):=hide (by rw [hw0];exact ((Below.refl w.heap.size w).alloc (Nat.le_refl _) _).alloc (by simp) _)
 obtain ⟨a0,ha0⟩:∃a,a=w.heap.size:=⟨_,rfl⟩;obtain ⟨a1,ha1⟩:∃a,a=a0+1:=⟨_,rfl⟩;rw [<-ha0] at q0 q1 hs0;rw [<-ha1] at q1;have Hbox_w0:=hide (zek q0);have Hres_w0:=hide (zek q1);have HA:=hide (⟨ha0,ha1,hs0⟩:a0=w.heap.size/\a1=a0+1/\w0.heap.size=a0+2);clear q0 q1 hs0;go_enter Tryz.func54,Tryz.ntmps54;go_wp2_with fail;rw [<-hw0,<-ha0,<-ha1];clear hw0 ha0 ha1;refine (HCo.out _ _ (zak HD.out HB_w0.out)).mono ?_;rintro e w1 ⟨u1,rfl,hown,hb⟩;have HZ1:Hid (w0.heap.size<=w1.heap.size):=hide hb.size;have HB_w1:Hid (Below w.heap.size w w1):=hide (HB_w0.out.trans (hb.mono HB_w0.out.size));have Hbox_w1:=hide (za1 Hbox_w0.out hb);have Hres_w1:=hide (za1 Hres_w0.out hb);have Hd_w1:=hide (zia hown);obtain ⟨x3,c3,y3,d3,rfl⟩:=zbb hown;clear hown hb;obtain ⟨g,hg⟩:∃g,g=w1.heap.size:=⟨_,rfl⟩;obtain ⟨w2,hnw⟩:∃wx,wx=w1.alloc (Obj.cells #[.slice x3 ps.length c3,.slice y3 ls.length d3] 29):=⟨_,rfl⟩;have hnv:=zla w1 (.slice x3 ps.length c3) (.slice y3 ls.length d3) 29;rw [<-hnw,<-hg] at hnv
 have hbv:Below w1.heap.size w1 w2:=by rw [<-hg];exact hnv.1
 have Hg_w2:=hide hnv.2;have HGt:Hid (w1.heap.size=g):=hide hg.symm;have HB_w2:Hid (Below w.heap.size w w2):=hide (HB_w1.out.trans (hbv.mono HB_w1.out.size));have Hbox_w2:=hide (za1 Hbox_w1.out hbv);have Hres_w2:=hide (za1 Hres_w1.out hbv);have Hd_w2:=hide (za1 Hd_w1.out hbv);clear hnv hbv;obtain ⟨cb0,cb1⟩:=zaF Hbox_w2.out;rw [hnw] at cb0 cb1;go_wp2_with fail;rw [<-hnw,<-hg];clear hnw hg cb0 cb1;refine (HOk.out _ _ (zak HD.out HB_w2.out)).mono ?_;rintro e w3 ⟨rfl,hb⟩;have HB_w3:Hid (Below w.heap.size w w3):=hide (HB_w2.out.trans (hb.mono HB_w2.out.size));have Hbox_w3:=hide (za1 Hbox_w2.out hb);have Hres_w3:=hide (za1 Hres_w2.out hb);have Hd_w3:=hide (za1 Hd_w2.out hb);have Hg_w3:=hide (za1 Hg_w2.out hb);clear hb;obtain ⟨cb0,cb1⟩:=zaF Hbox_w3.out;obtain ⟨cg0,cg1⟩:=zaF Hg_w3.out;obtain ⟨cr0,cr1⟩:=zaF Hres_w3.out;have fr0:=(za0 Hres_w3.out.is 0).2;have fr1:=(za0 Hres_w3.out.is 1).2
 by_cases hok:diskOkB ps ls=true
 ·rw [hok]
  by_cases hin:0<=page/\page<(ps.length:Int)
  ·rw [decide_eq_true hin] at HIn
   go_wp2_with fail;refine (HIn.out _).mono ?_;rintro e w4 ⟨rfl,hb⟩;have HB_w4:Hid (Below w.heap.size w w4):=hide (HB_w3.out.trans (hb.mono HB_w3.out.size));have Hbox_w4:=hide (za1 Hbox_w3.out hb);have Hres_w4:=hide (za1 Hres_w3.out hb);have Hd_w4:=hide (za1 Hd_w3.out hb);have Hg_w4:=hide (za1 Hg_w3.out hb);clear hb cb0 cb1 cg0 cg1 cr0 cr1 fr0 fr1;obtain ⟨cb0,cb1⟩:=zaF Hbox_w4.out;obtain ⟨cg0,cg1⟩:=zaF Hg_w4.out;obtain ⟨cr0,cr1⟩:=zaF Hres_w4.out;have fr0:=(za0 Hres_w4.out.is 0).2;have fr1:=(za0 Hres_w4.out.is 1).2
   by_cases ht2:text.size<=240
   ·by_cases h200:ls.length=200
    ·have HNo:=hide (zbp (page:=page) (text:=text) (ps:=ps) (ls:=ls) (fun h=>h.2.2.2 h200))
     have hdl:decide ((240:Int)<(text.size:Int))=false:=by simp;omega
     have hd2:((ls.length:Int)=200):=by omega
     go_wp2_with fail
     have hfin:=zbw Hres_w4.out.is Hd_w4.out.is.1 (by have:=HA.out;omega) (by have:=HA.out;omega) HB_w4.out
     rw [h200] at hfin
     refine bodyPost_ret (v:= .tuple #[.agg #[.slice x3 ps.length c3,.slice y3 200 d3],.bool false]) (by simp [results,Tryz.results54,go_sem,hfin.1,hfin.2.1]) rfl ⟨_,by rw [HNo.out.1],by rw [HNo.out.2];exact hfin.2.2.1,hfin.2.2.2⟩
    ·have HYes:=hide (zgq hok (show 0<=page/\page<=(ps.length:Int) - 1 by omega) ht2 h200)
     have hdl:decide ((240:Int)<(text.size:Int))=false:=by simp;omega
     have hd2:¬((ls.length:Int)=200):=by omega
     have HU:Hid (∀k,(Value.slice y3 ls.length d3).ownBlock=some k->w0.heap.size<=k/\k<w1.heap.size):=hide (fun k hk=>⟨((zdk Hd_w4.out.is.1).2.lt k hk).1,Hd_w4.out.is.2 k ⟨_,_,rfl,Or.inr hk⟩⟩)
     have HO2:=hide (zdk Hd_w4.out.is.1).2;have HG4:Hid (w4.heap[g]?=some (Obj.cells #[.slice x3 ps.length c3,.slice y3 ls.length d3] 29)):=hide Hg_w4.out.is;go_wp2_with fail
     go_region_law (first | (refine zaG _ ?_ 64 Tryz.f64 Tryz.func64 ?_ ?_ (.tmp 35) #[9] ?_ (.string text) ?_ _ (HCl.out _) ?_;exact rfl;decide;exact Option.some_ne_none _;exact rfl;exact rfl;rintro e w5 ⟨rfl,hb2⟩;refine ⟨_,rfl,?_⟩;have hb5:Below w4.heap.size w4 w5:=(Below.refl _ _).drew.trans hb2;have cg5:w5.cell? ⟨g,1,none⟩=some (.slice y3 ls.length d3):=(za0 ((hb5.block _ (Array.getElem?_eq_some_iff.1 HG4.out).1).trans HG4.out) 1).1;have cg5a:=zcQ ((hb5.block _ (Array.getElem?_eq_some_iff.1 HG4.out).1).trans HG4.out)) | (refine zaI _ ?_ (.tmp 33) (.tmp 38) 27 ?_ w0.heap.size 90 i1 (.agg #[.int .i64 0,.string ⟨#[]⟩]) 2 24 Tryz.underlying27 hj hy0 hy1 hy2 ?_ ?_ (.slice y3 ls.length d3) ls.length (puts ls) ?_ ((zaf HO2.out hb5).alloc _) (.slice (some ⟨w5.heap.size,0,none⟩) 1 1) 1 (puts [(page,text)]) ?_ (put_new w5 page text) (zgp page text) ?_ ?_ ?_ ?_;exact rfl;exact rfl;exact rfl;decide;exact rfl;exact rfl;(unfold maxLen;omega);omega;(simp;exact Nat.le_succ_of_le (Nat.le_trans (Nat.le_trans HZ1.out Hd_w4.out.le) hb5.size));intro y6 d6 w6 hown6 hg6;have hW:=zlE (w:=w) (a1:=a1) (B:=w0.heap.size) (U:=w1.heap.size) (g:=g) Hres_w4.out.is HG4.out (zdk Hd_w4.out.is.1).1 HO2.out HB_w4.out HU.out (by have:=HA.out;omega) (by have:=HZ1.out;have:=HGt.out;omega) (by have:=HA.out;omega) hb5 hg6 hown6;obtain ⟨e60,e61,f61⟩:=hW.1))
     all_goals
      have HW2:=hide hW.2;have c60:=(za0 hW.2.1 0).1;have c61:=(za0 hW.2.1 1).1;have d60:=(za0 hW.2.2.1 0).1;have d61:=(za0 hW.2.2.1 1).1;have f60:=(za0 hW.2.2.1 0).2;have f61:=(za0 hW.2.2.1 1).2;clear hW hown6 hg6 hb5 hb2 cg5 cg5a cb0 cb1 cg0 cg1 cr0 cr1 fr0 fr1;go_wp2_with fail
      have hfin:=zbw HW2.out.2.1 HW2.out.2.2.1 (by have:=HA.out;omega) (by have:=HA.out;omega) HW2.out.2.2.2
      exact bodyPost_ret (v:= .tuple #[.agg #[.slice x3 ps.length c3,.slice y6 (ls.length+1) d6],.bool true]) (by simp [results,Tryz.results54,go_sem,hfin.1,hfin.2.1]) rfl ⟨_,by rw [HYes.out.1],by rw [HYes.out.2];exact hfin.2.2.1,hfin.2.2.2⟩
   ·have HNo:=hide (zbp (page:=page) (text:=text) (ps:=ps) (ls:=ls) (fun h=>ht2 h.2.2.1))
    have hdl:decide ((240:Int)<(text.size:Int))=true:=by simp;omega
    go_wp2_with fail
    have hfin:=zbw Hres_w4.out.is Hd_w4.out.is.1 (by have:=HA.out;omega) (by have:=HA.out;omega) HB_w4.out
    refine bodyPost_ret (v:= .tuple #[.agg #[.slice x3 ps.length c3,.slice y3 ls.length d3],.bool false]) (by simp [results,Tryz.results54,go_sem,hfin.1,hfin.2.1]) rfl ⟨_,by rw [HNo.out.1],by rw [HNo.out.2];exact hfin.2.2.1,hfin.2.2.2⟩
  ·rw [decide_eq_false hin] at HIn
   have HNo:=hide (zbp (text:=text) (ls:=ls) (ps:=ps) (page:=page) (fun h=>hin (by omega)))
   go_wp2_with fail;refine (HIn.out _).mono ?_;rintro e w4 ⟨rfl,hb⟩;have HB_w4:Hid (Below w.heap.size w w4):=hide (HB_w3.out.trans (hb.mono HB_w3.out.size));have Hres_w4:=hide (za1 Hres_w3.out hb);have Hd_w4:=hide (za1 Hd_w3.out hb);have Hg_w4:=hide (za1 Hg_w3.out hb);clear hb cb0 cb1 cg0 cg1 cr0 cr1 fr0 fr1;obtain ⟨cg0,cg1⟩:=zaF Hg_w4.out;obtain ⟨cr0,cr1⟩:=zaF Hres_w4.out;have fr0:=(za0 Hres_w4.out.is 0).2;have fr1:=(za0 Hres_w4.out.is 1).2;go_wp2_with fail
   have hfin:=zbw Hres_w4.out.is Hd_w4.out.is.1 (by have:=HA.out;omega) (by have:=HA.out;omega) HB_w4.out
   refine bodyPost_ret (v:= .tuple #[.agg #[.slice x3 ps.length c3,.slice y3 ls.length d3],.bool false]) (by simp [results,Tryz.results54,go_sem,hfin.1,hfin.2.1]) rfl ⟨_,by rw [HNo.out.1],by rw [HNo.out.2];exact hfin.2.2.1,hfin.2.2.2⟩
 ·have hok':diskOkB ps ls=false:=by rw [<-Bool.not_eq_true];exact hok
  have HNo:=hide (zbp (page:=page) (text:=text) (fun h=>hok h.1))
  rw [hok'];go_wp2_with fail
  have hfin:=zbw Hres_w3.out.is Hd_w3.out.is.1 (by have:=HA.out;omega) (by have:=HA.out;omega) HB_w3.out
  refine bodyPost_ret (v:= .tuple #[.agg #[.slice x3 ps.length c3,.slice y3 ls.length d3],.bool false]) (by simp [results,Tryz.results54,go_sem,hfin.1,hfin.2.1]) rfl ⟨_,by rw [HNo.out.1],by rw [HNo.out.2];exact hfin.2.2.1,hfin.2.2.2⟩
end Go.Proofs.YtcbogiebfbbmbaaGreatDoor
