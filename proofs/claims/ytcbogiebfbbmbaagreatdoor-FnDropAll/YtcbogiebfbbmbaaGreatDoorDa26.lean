/-
  Facts and contracts that the law's own text rests on, by their texts' names: SpecKids.
-/
import Derived.Test.YtcbogiebfbbmbaaGreatDoorDa24
set_option maxHeartbeats 16000000
set_option maxRecDepth 100000
namespace Go.Proofs.YtcbogiebfbbmbaaGreatDoor
open Go.RowKit
theorem zh2 (t s:ByteArray) (ht:t.size<=1048576) (hsl:isSealed t.data.toList=true) (hse:s=t.extract 0 (t.size - 4)) (hs2:2<=s.size) (hy:false=decide (byt s 0=108)) (w:World):
  Calls Tryz.prog 65 #[.string t] w fun e w'=>RsPost w t e w':=by
 obtain ⟨i0,HI_string1,HI_string2,HI_string3,HI_string4⟩:=info_parts Tryz.infoStrR;obtain ⟨i1,HI_int1,HI_int2,HI_int3,HI_int4⟩:=info_parts Tryz.infoIntR
 have hss:s.size<=1048576:=by rw [hse,ByteArray.size_extract];omega
 obtain ⟨wa,hwa⟩:∃wa,wa=w.alloc (Obj.cells #[.bool false,.slice none 0 0,.slice none 0 0,.slice none 0 0] 71):=⟨_,rfl⟩
 have HBa:Hid (Below w.heap.size w wa):=hide (by rw [hwa];exact (Below.refl _ _).alloc (Nat.le_refl _) _)
 have HVa:Hid (wa.heap[w.heap.size]?=some (.cells #[.bool false,.slice none 0 0,.slice none 0 0,.slice none 0 0] 71 (0,0))):=hide (by rw [hwa];exact heap_alloc_new w _)
 have HSa:Hid (wa.heap.size=w.heap.size+1):=hide (by rw [hwa];simp)
 have HU:=hide (zbW t ht);rw [unOut,if_pos hsl,<-hse] at HU
 have HSl:Hid (∀m,IsNd t m↔IsIn s m):=hide (fun m=>by rw [hse];exact zbB hsl m)
 have HSe:=hide hse;obtain ⟨y,hyy⟩:∃y,y=byt s 0:=⟨_,rfl⟩
 have h0:0<s.size:=by omega
 have hyb:y<256:=by rw [hyy];exact zeg s _
 have hs1:s[0].toNat=y:=by rw [hyy];exact zd8 s _ h0
 have hq:((y:Int) ==108)=false:=by
  rw [hyy]
  have:=of_decide_eq_false hy.symm;exact beq_eq_false_iff_ne.2 (by omega)
 have d2:decide ((s.size:Int)<2)=false:=decide_eq_false (by omega)
 have hp1:(0:Int)<(s.size:Int):=by omega
 have HR0:=hide (fun g=>zlZ g hss false hy)
 clear hsl hse hyy hy;go_enter Tryz.func65,Tryz.ntmps65;go_wp2_with fail;rw [<-hwa];clear hwa;refine (HU.out _).mono ?_;rintro e w1 ⟨rfl,hb1⟩;have HB1:=hide hb1;clear hb1;go_wp2_with fail;obtain ⟨g,hg⟩:∃g,g=w1.heap.size:=⟨_,rfl⟩;obtain ⟨wb,hwb⟩:∃wb,wb=(w1.alloc (Obj.cells #[.string s,.int .i64 1,.bool false] 138)).alloc (Obj.cells #[.bool false,.slice none 0 0,.slice none 0 0,.slice none 0 0] 71):=⟨_,rfl⟩;obtain ⟨gn,hgn⟩:∃gn,gn=g+1:=⟨_,rfl⟩;rw [<-hwb,<-hg,<-hgn];obtain ⟨t1,t2,t3⟩:=zaE w1 (Obj.cells #[.string s,.int .i64 1,.bool false] 138) (Obj.cells #[.bool false,.slice none 0 0,.slice none 0 0,.slice none 0 0] 71);rw [<-hwb] at t1 t2 t3;rw [<-hg] at t1 t2 t3;rw [<-hgn] at t2
 have HNb:Hid (NSt wb gn ⟨false,[],[],[]⟩ (.slice none 0 0) (.slice none 0 0) (.slice none 0 0)):=hide ⟨t2,⟨rfl,Or.inl ⟨rfl,rfl⟩⟩,⟨rfl,Or.inl ⟨rfl,rfl⟩⟩,⟨rfl,Or.inl ⟨rfl,rfl⟩⟩,fun k e=>by cases e⟩
 have HCb:Hid (CurT wb g s 1 false):=hide t1
 have hb1b:Below w1.heap.size w1 wb:=by rw [hwb];exact ((Below.refl _ _).alloc (Nat.le_refl _) _).alloc (by simp) _
 have HBb:Hid (Below w.heap.size w wb):=hide ((HBa.out.trans (HB1.out.mono HBa.out.size)).trans (hb1b.mono (by have:=HB1.out.size;have:=HBa.out.size;omega)))
 have HVb:Hid (wb.heap[w.heap.size]?=some (.cells #[.bool false,.slice none 0 0,.slice none 0 0,.slice none 0 0] 71 (0,0))):=hide ((hb1b.block _ (by have:=HB1.out.size;rw [HSa.out] at this;omega)).trans ((HB1.out.block _ (by rw [HSa.out];omega)).trans HVa.out))
 have HLt:Hid (g<gn):=hide (by omega)
 have HLg:Hid (w.heap.size<g):=hide (by have:=HB1.out.size;rw [HSa.out] at this;omega)
 have HLw:Hid (w.heap.size<gn):=hide (by have:=HLg.out;omega)
 obtain ⟨cnt,q,bad0,hC0,hcb,hT0⟩:=HR0.out g;have HC0:=hide hC0;have HT0:=hide hT0;clear hwb hg hgn t1 t2 t3 hb1b hC0 hT0 HR0 HBa HVa HSa HB1;refine (HC0.out wb HCb.out).mono ?_;rintro e w3 ⟨rfl,hr3,hg3⟩;have HR3:=hide hr3;have HN3:=hide (zb1 HNb.out hg3 HLt.out)
 have HB3:=hide (HBb.out.grown hg3 HBb.out.size (fun k e=>by have:=HLg.out;injection e with e;omega))
 have HV3:Hid (w3.heap[w.heap.size]?=some (.cells #[.bool false,.slice none 0 0,.slice none 0 0,.slice none 0 0] 71 (0,0))):=hide ((hg3.block _ (Array.getElem?_eq_some_iff.1 HVb.out).1 (fun e=>by have:=HLg.out;injection e with e;omega)).trans HVb.out)
 clear hr3 hg3 HNb HCb HBb HVb;go_wp2_with fail
 go_loopg [9] 10 (fun q iv wr=>∃(n:Nd) (v1 v2 v3:Value) (p:Nat) (bad:Bool),iv= .int .i64 (n.ks.length:Int)/\q+n.ks.length=10/\n.lf=false/\Hid n.even/\Hid (NSt wr gn n v1 v2 v3)/\Hid (CurT wr g s p bad)/\Hid (Below w.heap.size w wr)/\Hid ((bad=false->NTry s cnt n p)/\(bad=true->∀m,¬IsIn s m))/\Hid ((∀k∈n.ks,k.size<=20000)/\∀k∈n.vs,k.size<=20000)/\Hid (wr.heap[w.heap.size]?=some (.cells #[.bool false,.slice none 0 0,.slice none 0 0,.slice none 0 0] 71 (0,0))))
 case atStart=>exact ⟨⟨false,[],[],[]⟩,_,_,_,q,bad0,rfl,rfl,rfl,hide ⟨fun _=>⟨rfl,rfl⟩,fun _=>⟨rfl,rfl⟩⟩,HN3,HR3,HB3,HT0,hide ⟨fun k h=>by simp at h,fun k h=>by simp at h⟩,HV3⟩
 case round=>
  obtain ⟨n,v1,v2,v3,p,bad,rfl,hgk,hlf,HEv,HNs,HCu,HBw,HTr,HSz,HVw⟩:=hrel;have HG:=hide hgk;have HLf:=hide hlf
  have HNk:Hid (n.ks.length<=10/\n.vs.length<=10/\n.cs.length<=10):=hide (by
   obtain ⟨e1,e2⟩:=HEv.out
   rw [(e2 HLf.out).1,(e2 HLf.out).2];simp;omega)
  have hkl:n.ks.length<=10:=HNk.out.1;obtain ⟨a1,c1,rfl⟩:=za4 HNs.out.2.1;obtain ⟨a2,c2,rfl⟩:=za4 HNs.out.2.2.1;obtain ⟨a3,c3,rfl⟩:=za4 HNs.out.2.2.2.1;have x1:wr.cell? ⟨gn,1,none⟩=some (.slice a1 n.ks.length c1):=(za0 HNs.out.1 1).1;have xb:wr.cell? ⟨g,2,none⟩=some (.bool bad):=(za0 HCu.out 2).1;clear hgk hlf
  by_cases hgo:n.ks.length<cnt/\n.ks.length<10/\bad=false
  ·obtain ⟨hlt,hl10,rfl⟩:=hgo
   obtain ⟨x,q1,b1,y2,r,b2,hc1,hc2,hxs,hyb2,hnx⟩:=round_C g hss (HTr.out.1 rfl) HEv.out hlt HLf.out;have HC1:=hide hc1;have HC2:=hide hc2;have HNx:=hide hnx
   have HZ9:Hid ((∀k∈n.ks++ [x],k.size<=20000)/\∀k∈n.vs,k.size<=20000):=hide ⟨fun k hk=>by
    rcases List.mem_append.1 hk with hk | hk
    ·exact HSz.out.1 k hk
    ·obtain rfl:=List.mem_singleton.1 hk;exact hxs,HSz.out.2⟩
   have HE9:=hide (zdI HEv.out HLf.out x y2)
   have hi1:(n.ks.length:Int)<(cnt:Int):=by omega
   have hi2:(n.ks.length:Int)<10:=by omega
   have e1:decide ((n.ks.length:Int)<(cnt:Int))=true:=decide_eq_true hi1;have e2:decide ((n.ks.length:Int)<10)=true:=decide_eq_true hi2;clear hc1 hc2 hnx;go_wp2_with fail
   go_region_law (first | (refine zaG _ ?_ 92 Tryz.f92 Tryz.func92 ?_ ?_ (.tmp 52) #[136] ?_ (.pointer (some ⟨g,0,none⟩)) ?_ _ (HC1.out _ ?_) ?_;exact rfl;decide;exact Option.some_ne_none _;exact rfl;exact rfl;exact HCu.out;rintro e w2 ⟨rfl,hrd2,hg2⟩;refine ⟨_,rfl,?_⟩;have HN2:=hide (zb1 (show NSt wr.drew gn _ _ _ _ from HNs.out) hg2 HLt.out);have HR2:=hide hrd2;have HG2:=hide ((HBw.out.drew).grown hg2 (by have:=HBw.out.size;simpa using this) (fun k e=>by have:=HLg.out;injection e with e;omega));have HV2:Hid (w2.heap[w.heap.size]?=some (.cells #[.bool false,.slice none 0 0,.slice none 0 0,.slice none 0 0] 71 (0,0))):=hide ((hg2.block _ (Array.getElem?_eq_some_iff.1 HVw.out).1 (fun e=>by have:=HLg.out;injection e with e;omega)).trans HVw.out);have cl2:w2.cell? ⟨gn,1,none⟩=some (.slice a1 n.ks.length c1):=(za0 HN2.out.1 1).1;have cm2:=fun o=>(za0 (zas HN2.out ((Below.refl _ _).alloc (Nat.le_refl _) o)).1 1).1;clear hrd2 hg2) | (refine step_append_lies _ ?_ (.tmp 51) (.tmp 54) 26 ?_ (gn+1) 9 i0 (.string ⟨#[]⟩) 1 16 Tryz.underlying26 HI_string1 HI_string2 HI_string3 HI_string4 ?_ ?_ (.slice a1 n.ks.length c1) n.ks.length (strs n.ks) ?_ ((HN2.out.2.1).alloc _) ⟨w2.heap.size,0,none⟩ 1 1 [.string x] ?_ ?_ (zdj w2 _ rfl _ _) ?_ ?_ ?_ ?_ ?_ _ rfl ?_;exact rfl;exact rfl;exact rfl;decide;exact rfl;exact rfl;exact rfl;(intro u hu;simp at hu;subst hu;rfl);decide;(have:=HNk.out;unfold maxLen;omega);(have:=HNk.out;omega);(have:=zb9 HN2.out;simp;omega);intro b4 d4 w4 hown4 hg4 hb4 hl4;have HS4:=hide (zfT HN2.out hown4 hg4 hb4);have cc4:=HS4.out.2.2.1;have cf4:=HS4.out.2.2.2;clear hown4 hg4 hb4 hl4))
   all_goals
    obtain ⟨w5,hw5⟩:∃w5,w5=w4.setCell ⟨gn,1,none⟩ (.slice (some ⟨b4,0,none⟩) (n.ks.length+1) d4):=⟨_,rfl⟩;rw [<-hw5];have hst:=HS4.out;rw [<-hw5] at hst;have HN5:=hide hst.1;have HR5:=hide (zfX HR2.out hst.2.1 HLt.out)
    have HG5:=hide (HG2.out.trans (hst.2.1.mono (by have:=HLw.out;omega)))
    have x0:w5.cell? ⟨gn,0,none⟩=some (.bool false):=by rw [(za0 hst.1.1 0).1,HLf.out];rfl
    have x2:w5.cell? ⟨gn,3,none⟩=some (.slice a3 n.cs.length c3):=(za0 hst.1.1 3).1;have HV5:Hid (w5.heap[w.heap.size]?=some (.cells #[.bool false,.slice none 0 0,.slice none 0 0,.slice none 0 0] 71 (0,0))):=hide ((hst.2.1.block _ HLw.out).trans HV2.out);clear hw5 hst HS4 cc4 cf4 HN2 HR2 HG2 HV2 cl2 cm2 x1 xb;go_wp2_with fail
    go_region_law (first | (refine zaG _ ?_ 91 Tryz.f91 Tryz.func91 ?_ ?_ (.tmp 68) #[136] ?_ (.pointer (some ⟨g,0,none⟩)) ?_ _ (HC2.out _ ?_) ?_;exact rfl;decide;exact Option.some_ne_none _;exact rfl;exact rfl;exact HR5.out;rintro e w6 ⟨rfl,hrd2,hg2⟩;refine ⟨_,rfl,?_⟩;have HN6:=hide (zb1 (show NSt w5.drew gn _ _ _ _ from HN5.out) hg2 HLt.out);have HR6:=hide hrd2;have HG6:=hide ((HG5.out.drew).grown hg2 (by have:=HG5.out.size;simpa using this) (fun k e=>by have:=HLg.out;injection e with e;omega));have HV6:Hid (w6.heap[w.heap.size]?=some (.cells #[.bool false,.slice none 0 0,.slice none 0 0,.slice none 0 0] 71 (0,0))):=hide ((hg2.block _ (Array.getElem?_eq_some_iff.1 HV5.out).1 (fun e=>by have:=HLg.out;injection e with e;omega)).trans HV5.out);have cl6:w6.cell? ⟨gn,3,none⟩=some (.slice a3 n.cs.length c3):=(za0 HN6.out.1 3).1;have cm6:=fun o=>(za0 (zas HN6.out ((Below.refl _ _).alloc (Nat.le_refl _) o)).1 3).1;clear hrd2 hg2) | (refine step_append_lies _ ?_ (.tmp 67) (.tmp 70) 32 ?_ (gn+1) 3 i1 (.int .i64 0) 1 8 Tryz.underlying32 HI_int1 HI_int2 HI_int3 HI_int4 ?_ ?_ (.slice a3 n.cs.length c3) n.cs.length (ints n.cs) ?_ ((HN6.out.2.2.2.1).alloc _) ⟨w6.heap.size,0,none⟩ 1 1 [.int .i64 (y2:Int)] ?_ ?_ (zdj w6 _ rfl _ _) ?_ ?_ ?_ ?_ ?_ _ rfl ?_;exact rfl;exact rfl;exact rfl;decide;exact rfl;exact rfl;exact rfl;(intro u hu;simp at hu;subst hu;rfl);decide;(have:=HNk.out;unfold maxLen;omega);(have:=HNk.out;omega);(have:=zb9 HN6.out;simp;omega);intro b7 d7 w7 hown4 hg4 hb4 hl4;have HS7:=hide (zk1 HN6.out hown4 hg4 hb4);have cc7:=HS7.out.2.2.1;have cf7:=HS7.out.2.2.2;clear hown4 hg4 hb4 hl4))
    all_goals
     obtain ⟨w8,hw8⟩:∃w8,w8=w7.setCell ⟨gn,3,none⟩ (.slice (some ⟨b7,0,none⟩) (n.cs.length+1) d7):=⟨_,rfl⟩;rw [<-hw8];have hst:=HS7.out;rw [<-hw8] at hst;have HN8:=hide hst.1;have HR8:=hide (zfX HR6.out hst.2.1 HLt.out)
     have HG8:=hide (HG6.out.trans (hst.2.1.mono (by have:=HLw.out;omega)))
     have HV8:Hid (w8.heap[w.heap.size]?=some (.cells #[.bool false,.slice none 0 0,.slice none 0 0,.slice none 0 0] 71 (0,0))):=hide ((hst.2.1.block _ HLw.out).trans HV6.out);clear hw8 hst HS7 cc7 cf7 HN6 HR6 HG6 HV6 cl6 cm6 x0 x2;go_wp2_with fail
     go_roundg (gk - 1)
     case measure=>have:=HG.out;omega
     case rel=>exact ⟨n.snocC x y2,_,_,_,r,b2,by simp [Nd.snocC],by have:=HG.out;simp [Nd.snocC];omega,HLf.out,HE9,HN8,HR8,HG8,HNx,HZ9,HV8⟩
  ·have HEn:Hid (bad=false->∀m,IsIn s m->m=n):=hide (fun hb m hm=>by
    by_cases hc:cnt<=n.ks.length
    ·exact (zh7 (HTr.out.1 hb) HEv.out hc m hm).1
    ·exact absurd hm (zjO (HTr.out.1 hb) (by
      by_cases h10:n.ks.length<10
      ·exact absurd ⟨by omega,h10,hb⟩ hgo
      ·omega) m))
   have HNt:=hide (fun wx h=>zbX (.agg #[.bool false,.slice a1 n.ks.length c1,.slice a2 n.vs.length c2,.slice a3 n.cs.length c3]) false n.ks n.vs n.cs (by have:=HNk.out;omega) (by have:=HNk.out;omega) (by have:=HNk.out;omega) (fun k hk=>by have:=HSz.out.1 k hk;omega) (fun k hk=>by have:=HSz.out.2 k hk;omega) wx h)
   have HAt:Hid (NodeAt wr (.agg #[.bool false,.slice a1 n.ks.length c1,.slice a2 n.vs.length c2,.slice a3 n.cs.length c3]) false n.ks n.vs n.cs):=hide (by have:=zbi (zbg HNs.out);rw [HLf.out] at this;exact this)
   have y0:wr.cell? ⟨gn,0,none⟩=some (.bool false):=by rw [(za0 HNs.out.1 0).1,HLf.out];rfl
   have y2:wr.cell? ⟨gn,2,none⟩=some (.slice a2 n.vs.length c2):=(za0 HNs.out.1 2).1;have y3:wr.cell? ⟨gn,3,none⟩=some (.slice a3 n.cs.length c3):=(za0 HNs.out.1 3).1
   by_cases hx1:n.ks.length<cnt
   ·have e1:decide ((n.ks.length:Int)<(cnt:Int))=true:=decide_eq_true (by omega)
    by_cases hx2:n.ks.length<10
    ·have e2:decide ((n.ks.length:Int)<10)=true:=decide_eq_true (by omega)
     have hbt:bad=true:=by
      cases bad with
      | true=>rfl
      | false=>exact absurd ⟨hx1,hx2,rfl⟩ hgo
     rw [hbt] at xb;clear hgo hbt;go_wp2_with fail;refine (HNt.out _ HAt.out).mono ?_;rintro e w6 ⟨rfl,hb6⟩;have HB6:=hide hb6;have HN6:=hide (zas HNs.out hb6);have hc6:CurT w6 g s p bad:=(hb6.block _ (zcz HCu.out)).trans HCu.out;have u2:w6.cell? ⟨g,2,none⟩=some (.bool bad):=(za0 hc6 2).1;have hv6:w6.heap[w.heap.size]?=_:=(hb6.block _ (Array.getElem?_eq_some_iff.1 HVw.out).1).trans HVw.out
     have q0:w6.cell? ⟨gn,0,none⟩=some (.bool false):=by rw [(za0 HN6.out.1 0).1,HLf.out];rfl
     have q1:w6.cell? ⟨gn,1,none⟩=some (.slice a1 n.ks.length c1):=(za0 HN6.out.1 1).1;have q2:w6.cell? ⟨gn,2,none⟩=some (.slice a2 n.vs.length c2):=(za0 HN6.out.1 2).1;have q3:w6.cell? ⟨gn,3,none⟩=some (.slice a3 n.cs.length c3):=(za0 HN6.out.1 3).1;have o0:w6.cell? ⟨w.heap.size,0,none⟩=some (.bool false):=(za0 hv6 0).1;have o1:w6.cell? ⟨w.heap.size,1,none⟩=some (.slice none 0 0):=(za0 hv6 1).1;have o2:w6.cell? ⟨w.heap.size,2,none⟩=some (.slice none 0 0):=(za0 hv6 2).1;have o3:w6.cell? ⟨w.heap.size,3,none⟩=some (.slice none 0 0):=(za0 hv6 3).1;have z0:=(za0 hv6 0).2;have z1:=(za0 hv6 1).2;have z2:=(za0 hv6 2).2;have z3:=(za0 hv6 3).2;have hnw:=zbg HN6.out;rw [HLf.out] at hnw
     have HRt:=hide (zaO hv6 hnw (by have:=HLw.out;omega))
     have HRz:=hide (zaO hv6 (zba w6 (w.heap.size+1)) (Nat.lt_succ_self _));have HBw6:Hid (Below w.heap.size w w6):=hide (HBw.out.trans (hb6.mono HBw.out.size));clear hb6 hc6 hnw hv6 x1
     by_cases hgood:bad=false/\nodeOkB false n.ks n.vs n.cs=true/\nodeO false n.ks n.vs n.cs=t
     ·obtain ⟨rfl,hok,hbk⟩:=hgood
      have d1:((nodeO false n.ks n.vs n.cs).toList !=t.toList)=false:=by rw [hbk];simp
      have d1':((nodeO false n.ks n.vs n.cs).toList ==t.toList)=true:=by rw [hbk];simp
      have HEu:=hide (HEn.out rfl)
      have HIs:Hid (IsNd t n):=hide ⟨by rw [Nd.ok,HLf.out];exact hok,by rw [HLf.out,<-hbk,nodeO,hok];rfl⟩
      rw [hok];clear hok hbk;go_wp2_with fail;have hrt:=HRt.out;have t0:=(za0 hrt.1 0).1;have t1:=(za0 hrt.1 1).1;have t2:=(za0 hrt.1 2).1;have t3:=(za0 hrt.1 3).1
      refine bodyPost_ret (v:= .tuple #[.agg #[.bool false,.slice a1 n.ks.length c1,.slice a2 n.vs.length c2,.slice a3 n.cs.length c3],.bool true]) (by simp [results,Tryz.results65,go_sem,t0,t1,t2,t3]) rfl ⟨n,_,true,rfl,Or.inl ⟨rfl,HIs.out,fun m hm=>HEu.out m ((HSl.out m).1 hm)⟩,?_,HBw6.out.trans hrt.2.2⟩
      rw [HLf.out]
      exact zax hrt.2.1 (by have:=HLw.out;omega)
     ·have HNo:Hid (∀m,¬IsNd t m):=hide (fun m hm=>by
       cases bad with
       | true=>exact HTr.out.2 rfl m ((HSl.out m).1 hm)
       | false=>
        have e:=HEn.out rfl m ((HSl.out m).1 hm);subst e;have h1:=hm.1;have h2:=hm.2;rw [Nd.ok,HLf.out] at h1;rw [HLf.out] at h2
        exact hgood ⟨rfl,h1,by rw [nodeO,h1,if_pos rfl];exact h2⟩)
      have hend:∀(wF:World),wF=((((w6.setCell ⟨w.heap.size,0,none⟩ (.bool false)).setCell ⟨w.heap.size,1,none⟩ (.slice none 0 0)).setCell ⟨w.heap.size,2,none⟩ (.slice none 0 0)).setCell ⟨w.heap.size,3,none⟩ (.slice none 0 0))->RsPost w t (.returned (.tuple #[.agg #[.bool false,.slice none 0 0,.slice none 0 0,.slice none 0 0],.bool false])) wF:=fun wF hF=>by
       rw [hF];exact ⟨Nd.none,_,false,rfl,Or.inr ⟨rfl,rfl,HNo.out⟩,zba _ _,HBw6.out.trans HRz.out.2.2⟩
      have HEd:=hide hend;have HCl:=hide (⟨(za0 HRz.out.1 0).1,(za0 HRz.out.1 1).1,(za0 HRz.out.1 2).1,(za0 HRz.out.1 3).1⟩:_/\_/\_/\_);clear hend
      cases bad with
      | true=>
       clear hgood;go_wp2_with fail;obtain ⟨t0,t1,t2,t3⟩:=HCl.out
       exact bodyPost_ret (v:= .tuple #[.agg #[.bool false,.slice none 0 0,.slice none 0 0,.slice none 0 0],.bool false]) (by simp [results,Tryz.results65,go_sem,t0,t1,t2,t3]) rfl (HEd.out _ rfl)
      | false=>
       cases hok:nodeOkB false n.ks n.vs n.cs with
       | false=>
        clear hgood hok;go_wp2_with fail;obtain ⟨t0,t1,t2,t3⟩:=HCl.out
        exact bodyPost_ret (v:= .tuple #[.agg #[.bool false,.slice none 0 0,.slice none 0 0,.slice none 0 0],.bool false]) (by simp [results,Tryz.results65,go_sem,t0,t1,t2,t3]) rfl (HEd.out _ rfl)
       | true=>
        have d1:((nodeO false n.ks n.vs n.cs).toList !=t.toList)=true:=by
         rw [bne_iff_ne];intro e;refine hgood ⟨rfl,hok,?_⟩;rw [zaz,zaz] at e;exact ByteArray.ext (Array.toList_inj.1 e)
        have d1':((nodeO false n.ks n.vs n.cs).toList ==t.toList)=false:=by
         rw [bne] at d1
         cases hq:((nodeO false n.ks n.vs n.cs).toList ==t.toList) with
         | false=>rfl
         | true=>rw [hq] at d1;cases d1
        clear hgood hok;go_wp2_with fail;obtain ⟨t0,t1,t2,t3⟩:=HCl.out
        exact bodyPost_ret (v:= .tuple #[.agg #[.bool false,.slice none 0 0,.slice none 0 0,.slice none 0 0],.bool false]) (by simp [results,Tryz.results65,go_sem,t0,t1,t2,t3]) rfl (HEd.out _ rfl)
    ·have e2:decide ((n.ks.length:Int)<10)=false:=decide_eq_false (by omega)
     clear hgo;go_wp2_with fail;refine (HNt.out _ HAt.out).mono ?_;rintro e w6 ⟨rfl,hb6⟩;have HB6:=hide hb6;have HN6:=hide (zas HNs.out hb6);have hc6:CurT w6 g s p bad:=(hb6.block _ (zcz HCu.out)).trans HCu.out;have u2:w6.cell? ⟨g,2,none⟩=some (.bool bad):=(za0 hc6 2).1;have hv6:w6.heap[w.heap.size]?=_:=(hb6.block _ (Array.getElem?_eq_some_iff.1 HVw.out).1).trans HVw.out
     have q0:w6.cell? ⟨gn,0,none⟩=some (.bool false):=by rw [(za0 HN6.out.1 0).1,HLf.out];rfl
     have q1:w6.cell? ⟨gn,1,none⟩=some (.slice a1 n.ks.length c1):=(za0 HN6.out.1 1).1;have q2:w6.cell? ⟨gn,2,none⟩=some (.slice a2 n.vs.length c2):=(za0 HN6.out.1 2).1;have q3:w6.cell? ⟨gn,3,none⟩=some (.slice a3 n.cs.length c3):=(za0 HN6.out.1 3).1;have o0:w6.cell? ⟨w.heap.size,0,none⟩=some (.bool false):=(za0 hv6 0).1;have o1:w6.cell? ⟨w.heap.size,1,none⟩=some (.slice none 0 0):=(za0 hv6 1).1;have o2:w6.cell? ⟨w.heap.size,2,none⟩=some (.slice none 0 0):=(za0 hv6 2).1;have o3:w6.cell? ⟨w.heap.size,3,none⟩=some (.slice none 0 0):=(za0 hv6 3).1;have z0:=(za0 hv6 0).2;have z1:=(za0 hv6 1).2;have z2:=(za0 hv6 2).2;have z3:=(za0 hv6 3).2;have hnw:=zbg HN6.out;rw [HLf.out] at hnw
     have HRt:=hide (zaO hv6 hnw (by have:=HLw.out;omega))
     have HRz:=hide (zaO hv6 (zba w6 (w.heap.size+1)) (Nat.lt_succ_self _));have HBw6:Hid (Below w.heap.size w w6):=hide (HBw.out.trans (hb6.mono HBw.out.size));clear hb6 hc6 hnw hv6 x1
     by_cases hgood:bad=false/\nodeOkB false n.ks n.vs n.cs=true/\nodeO false n.ks n.vs n.cs=t
     ·obtain ⟨rfl,hok,hbk⟩:=hgood
      have d1:((nodeO false n.ks n.vs n.cs).toList !=t.toList)=false:=by rw [hbk];simp
      have d1':((nodeO false n.ks n.vs n.cs).toList ==t.toList)=true:=by rw [hbk];simp
      have HEu:=hide (HEn.out rfl)
      have HIs:Hid (IsNd t n):=hide ⟨by rw [Nd.ok,HLf.out];exact hok,by rw [HLf.out,<-hbk,nodeO,hok];rfl⟩
      rw [hok];clear hok hbk;go_wp2_with fail;have hrt:=HRt.out;have t0:=(za0 hrt.1 0).1;have t1:=(za0 hrt.1 1).1;have t2:=(za0 hrt.1 2).1;have t3:=(za0 hrt.1 3).1
      refine bodyPost_ret (v:= .tuple #[.agg #[.bool false,.slice a1 n.ks.length c1,.slice a2 n.vs.length c2,.slice a3 n.cs.length c3],.bool true]) (by simp [results,Tryz.results65,go_sem,t0,t1,t2,t3]) rfl ⟨n,_,true,rfl,Or.inl ⟨rfl,HIs.out,fun m hm=>HEu.out m ((HSl.out m).1 hm)⟩,?_,HBw6.out.trans hrt.2.2⟩
      rw [HLf.out]
      exact zax hrt.2.1 (by have:=HLw.out;omega)
     ·have HNo:Hid (∀m,¬IsNd t m):=hide (fun m hm=>by
       cases bad with
       | true=>exact HTr.out.2 rfl m ((HSl.out m).1 hm)
       | false=>
        have e:=HEn.out rfl m ((HSl.out m).1 hm);subst e;have h1:=hm.1;have h2:=hm.2;rw [Nd.ok,HLf.out] at h1;rw [HLf.out] at h2
        exact hgood ⟨rfl,h1,by rw [nodeO,h1,if_pos rfl];exact h2⟩)
      have hend:∀(wF:World),wF=((((w6.setCell ⟨w.heap.size,0,none⟩ (.bool false)).setCell ⟨w.heap.size,1,none⟩ (.slice none 0 0)).setCell ⟨w.heap.size,2,none⟩ (.slice none 0 0)).setCell ⟨w.heap.size,3,none⟩ (.slice none 0 0))->RsPost w t (.returned (.tuple #[.agg #[.bool false,.slice none 0 0,.slice none 0 0,.slice none 0 0],.bool false])) wF:=fun wF hF=>by
       rw [hF];exact ⟨Nd.none,_,false,rfl,Or.inr ⟨rfl,rfl,HNo.out⟩,zba _ _,HBw6.out.trans HRz.out.2.2⟩
      have HEd:=hide hend;have HCl:=hide (⟨(za0 HRz.out.1 0).1,(za0 HRz.out.1 1).1,(za0 HRz.out.1 2).1,(za0 HRz.out.1 3).1⟩:_/\_/\_/\_);clear hend
      cases bad with
      | true=>
       clear hgood;go_wp2_with fail;obtain ⟨t0,t1,t2,t3⟩:=HCl.out
       exact bodyPost_ret (v:= .tuple #[.agg #[.bool false,.slice none 0 0,.slice none 0 0,.slice none 0 0],.bool false]) (by simp [results,Tryz.results65,go_sem,t0,t1,t2,t3]) rfl (HEd.out _ rfl)
      | false=>
       cases hok:nodeOkB false n.ks n.vs n.cs with
       | false=>
        clear hgood hok;go_wp2_with fail;obtain ⟨t0,t1,t2,t3⟩:=HCl.out
        exact bodyPost_ret (v:= .tuple #[.agg #[.bool false,.slice none 0 0,.slice none 0 0,.slice none 0 0],.bool false]) (by simp [results,Tryz.results65,go_sem,t0,t1,t2,t3]) rfl (HEd.out _ rfl)
       | true=>
        have d1:((nodeO false n.ks n.vs n.cs).toList !=t.toList)=true:=by
         rw [bne_iff_ne];intro e;refine hgood ⟨rfl,hok,?_⟩;rw [zaz,zaz] at e;exact ByteArray.ext (Array.toList_inj.1 e)
        have d1':((nodeO false n.ks n.vs n.cs).toList ==t.toList)=false:=by
         rw [bne] at d1
         cases hq:((nodeO false n.ks n.vs n.cs).toList ==t.toList) with
         | false=>rfl
         | true=>rw [hq] at d1;cases d1
        clear hgood hok;go_wp2_with fail;obtain ⟨t0,t1,t2,t3⟩:=HCl.out
        exact bodyPost_ret (v:= .tuple #[.agg #[.bool false,.slice none 0 0,.slice none 0 0,.slice none 0 0],.bool false]) (by simp [results,Tryz.results65,go_sem,t0,t1,t2,t3]) rfl (HEd.out _ rfl)
   ·have e1:decide ((n.ks.length:Int)<(cnt:Int))=false:=decide_eq_false (by omega)
    clear hgo;go_wp2_with fail;refine (HNt.out _ HAt.out).mono ?_;rintro e w6 ⟨rfl,hb6⟩;have HB6:=hide hb6;have HN6:=hide (zas HNs.out hb6);have hc6:CurT w6 g s p bad:=(hb6.block _ (zcz HCu.out)).trans HCu.out;have u2:w6.cell? ⟨g,2,none⟩=some (.bool bad):=(za0 hc6 2).1;have hv6:w6.heap[w.heap.size]?=_:=(hb6.block _ (Array.getElem?_eq_some_iff.1 HVw.out).1).trans HVw.out
    have q0:w6.cell? ⟨gn,0,none⟩=some (.bool false):=by rw [(za0 HN6.out.1 0).1,HLf.out];rfl
    have q1:w6.cell? ⟨gn,1,none⟩=some (.slice a1 n.ks.length c1):=(za0 HN6.out.1 1).1;have q2:w6.cell? ⟨gn,2,none⟩=some (.slice a2 n.vs.length c2):=(za0 HN6.out.1 2).1;have q3:w6.cell? ⟨gn,3,none⟩=some (.slice a3 n.cs.length c3):=(za0 HN6.out.1 3).1;have o0:w6.cell? ⟨w.heap.size,0,none⟩=some (.bool false):=(za0 hv6 0).1;have o1:w6.cell? ⟨w.heap.size,1,none⟩=some (.slice none 0 0):=(za0 hv6 1).1;have o2:w6.cell? ⟨w.heap.size,2,none⟩=some (.slice none 0 0):=(za0 hv6 2).1;have o3:w6.cell? ⟨w.heap.size,3,none⟩=some (.slice none 0 0):=(za0 hv6 3).1;have z0:=(za0 hv6 0).2;have z1:=(za0 hv6 1).2;have z2:=(za0 hv6 2).2;have z3:=(za0 hv6 3).2;have hnw:=zbg HN6.out;rw [HLf.out] at hnw
    have HRt:=hide (zaO hv6 hnw (by have:=HLw.out;omega))
    have HRz:=hide (zaO hv6 (zba w6 (w.heap.size+1)) (Nat.lt_succ_self _));have HBw6:Hid (Below w.heap.size w w6):=hide (HBw.out.trans (hb6.mono HBw.out.size));clear hb6 hc6 hnw hv6 x1
    by_cases hgood:bad=false/\nodeOkB false n.ks n.vs n.cs=true/\nodeO false n.ks n.vs n.cs=t
    ·obtain ⟨rfl,hok,hbk⟩:=hgood
     have d1:((nodeO false n.ks n.vs n.cs).toList !=t.toList)=false:=by rw [hbk];simp
     have d1':((nodeO false n.ks n.vs n.cs).toList ==t.toList)=true:=by rw [hbk];simp
     have HEu:=hide (HEn.out rfl)
     have HIs:Hid (IsNd t n):=hide ⟨by rw [Nd.ok,HLf.out];exact hok,by rw [HLf.out,<-hbk,nodeO,hok];rfl⟩
     rw [hok];clear hok hbk;go_wp2_with fail;have hrt:=HRt.out;have t0:=(za0 hrt.1 0).1;have t1:=(za0 hrt.1 1).1;have t2:=(za0 hrt.1 2).1;have t3:=(za0 hrt.1 3).1
     refine bodyPost_ret (v:= .tuple #[.agg #[.bool false,.slice a1 n.ks.length c1,.slice a2 n.vs.length c2,.slice a3 n.cs.length c3],.bool true]) (by simp [results,Tryz.results65,go_sem,t0,t1,t2,t3]) rfl ⟨n,_,true,rfl,Or.inl ⟨rfl,HIs.out,fun m hm=>HEu.out m ((HSl.out m).1 hm)⟩,?_,HBw6.out.trans hrt.2.2⟩
     rw [HLf.out]
     exact zax hrt.2.1 (by have:=HLw.out;omega)
    ·have HNo:Hid (∀m,¬IsNd t m):=hide (fun m hm=>by
      cases bad with
      | true=>exact HTr.out.2 rfl m ((HSl.out m).1 hm)
      | false=>
       have e:=HEn.out rfl m ((HSl.out m).1 hm);subst e;have h1:=hm.1;have h2:=hm.2;rw [Nd.ok,HLf.out] at h1;rw [HLf.out] at h2
       exact hgood ⟨rfl,h1,by rw [nodeO,h1,if_pos rfl];exact h2⟩)
     have hend:∀(wF:World),wF=((((w6.setCell ⟨w.heap.size,0,none⟩ (.bool false)).setCell ⟨w.heap.size,1,none⟩ (.slice none 0 0)).setCell ⟨w.heap.size,2,none⟩ (.slice none 0 0)).setCell ⟨w.heap.size,3,none⟩ (.slice none 0 0))->RsPost w t (.returned (.tuple #[.agg #[.bool false,.slice none 0 0,.slice none 0 0,.slice none 0 0],.bool false])) wF:=fun wF hF=>by
      rw [hF];exact ⟨Nd.none,_,false,rfl,Or.inr ⟨rfl,rfl,HNo.out⟩,zba _ _,HBw6.out.trans HRz.out.2.2⟩
     have HEd:=hide hend;have HCl:=hide (⟨(za0 HRz.out.1 0).1,(za0 HRz.out.1 1).1,(za0 HRz.out.1 2).1,(za0 HRz.out.1 3).1⟩:_/\_/\_/\_);clear hend
     cases bad with
     | true=>
      clear hgood;go_wp2_with fail;obtain ⟨t0,t1,t2,t3⟩:=HCl.out
      exact bodyPost_ret (v:= .tuple #[.agg #[.bool false,.slice none 0 0,.slice none 0 0,.slice none 0 0],.bool false]) (by simp [results,Tryz.results65,go_sem,t0,t1,t2,t3]) rfl (HEd.out _ rfl)
     | false=>
      cases hok:nodeOkB false n.ks n.vs n.cs with
      | false=>
       clear hgood hok;go_wp2_with fail;obtain ⟨t0,t1,t2,t3⟩:=HCl.out
       exact bodyPost_ret (v:= .tuple #[.agg #[.bool false,.slice none 0 0,.slice none 0 0,.slice none 0 0],.bool false]) (by simp [results,Tryz.results65,go_sem,t0,t1,t2,t3]) rfl (HEd.out _ rfl)
      | true=>
       have d1:((nodeO false n.ks n.vs n.cs).toList !=t.toList)=true:=by
        rw [bne_iff_ne];intro e;refine hgood ⟨rfl,hok,?_⟩;rw [zaz,zaz] at e;exact ByteArray.ext (Array.toList_inj.1 e)
       have d1':((nodeO false n.ks n.vs n.cs).toList ==t.toList)=false:=by
        rw [bne] at d1
        cases hq:((nodeO false n.ks n.vs n.cs).toList ==t.toList) with
        | false=>rfl
        | true=>rw [hq] at d1;cases d1
       clear hgood hok;go_wp2_with fail;obtain ⟨t0,t1,t2,t3⟩:=HCl.out
       exact bodyPost_ret (v:= .tuple #[.agg #[.bool false,.slice none 0 0,.slice none 0 0,.slice none 0 0],.bool false]) (by simp [results,Tryz.results65,go_sem,t0,t1,t2,t3]) rfl (HEd.out _ rfl)
end Go.Proofs.YtcbogiebfbbmbaaGreatDoor
