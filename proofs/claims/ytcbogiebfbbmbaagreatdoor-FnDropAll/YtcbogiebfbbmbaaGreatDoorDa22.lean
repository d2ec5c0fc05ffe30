/-
  Facts and contracts that the law's own text rests on, by their texts' names: ReadLeaf.
-/
import Derived.Test.YtcbogiebfbbmbaaGreatDoorDa21
set_option maxHeartbeats 16000000
set_option maxRecDepth 100000
namespace Go.Proofs.YtcbogiebfbbmbaaGreatDoor
open Go.RowKit
theorem zkO (g:Nat) (s:ByteArray) (hs:s.size<=1048576) (h0:0<s.size) (hy:byt s 0=108) (w:World) (hc:RdT w g s 0):
  Calls Tryz.prog 83 #[.pointer (some ⟨g,0,none⟩)] w fun e w'=>RnPost w g s e w':=by
 obtain ⟨i0,HI_string1,HI_string2,HI_string3,HI_string4⟩:=info_parts Tryz.infoStrR;obtain ⟨i1,HI_int1,HI_int2,HI_int3,HI_int4⟩:=info_parts Tryz.infoIntR;have hgl:=zfv hc;obtain ⟨wa,hwa⟩:∃wa,wa=w.alloc (Obj.cells #[.bool false,.slice none 0 0,.slice none 0 0,.slice none 0 0] 71):=⟨_,rfl⟩
 have HRa:Hid (RdT wa g s 0):=hide (by rw [hwa];exact zcI hc _)
 have HGa:Hid (w.grownBy wa (some g)):=hide (by rw [hwa];exact World.grownBy_alloc w _ _)
 have HVa:Hid (wa.heap[w.heap.size]?=some (.cells #[.bool false,.slice none 0 0,.slice none 0 0,.slice none 0 0] 71 (0,0))):=hide (by rw [hwa];exact heap_alloc_new w _)
 have HSa:Hid (wa.heap.size=w.heap.size+1):=hide (by rw [hwa];simp)
 have HM:=hide (zgB g s hs h0 wa HRa.out)
 rw [hy,show ((108:Nat):Int)=108 from rfl] at HM
 have HHd:Hid (∀cnt q,rdV s 1=some (cnt,q)->NTry s cnt ⟨true,[],[],[]⟩ q/\NHas s cnt ⟨true,[],[],[]⟩ q):=hide (fun cnt q ho=>⟨zfN (by rw [hy];rfl) ho,zjP (by rw [hy];rfl) ho⟩)
 clear hy hc;go_enter Tryz.func83,Tryz.ntmps83;go_wp2_with fail;rw [<-hwa];clear hwa;refine HM.out.mono ?_;rintro e w1 ⟨rfl,hr1,hg1⟩;have HR1:=hide hr1;have HG1:=hide hg1
 have HS1:Hid (w.heap.size<w1.heap.size):=hide (by have:=hg1.size;rw [HSa.out] at this;omega)
 clear hr1 hg1;go_wp2_with fail;refine (zbI g _).mono ?_;rintro e w2 ⟨rfl,rfl⟩;go_wp2_with fail;obtain ⟨gn,hgn⟩:∃gn,gn=w1.heap.size:=⟨_,rfl⟩;obtain ⟨wb,hwb⟩:∃wb,wb=w1.alloc (Obj.cells #[.bool true,.slice none 0 0,.slice none 0 0,.slice none 0 0] 71):=⟨_,rfl⟩;rw [<-hgn,<-hwb]
 have HNb:Hid (NSt wb gn ⟨true,[],[],[]⟩ (.slice none 0 0) (.slice none 0 0) (.slice none 0 0)):=hide ⟨by rw [hwb,hgn];exact heap_alloc_new w1 _,⟨rfl,Or.inl ⟨rfl,rfl⟩⟩,⟨rfl,Or.inl ⟨rfl,rfl⟩⟩,⟨rfl,Or.inl ⟨rfl,rfl⟩⟩,fun k e=>by cases e⟩
 have HRb:Hid (RdT wb g s 1):=hide (by rw [hwb];exact zcI HR1.out _)
 have HGb:Hid (wa.grownBy wb (some g)):=hide (by rw [hwb];exact ze8 HG1.out _)
 have HLt:Hid (g<gn):=hide (by have:=HS1.out;omega)
 have HLw:Hid (wa.heap.size<=gn):=hide (by have:=HG1.out.size;omega)
 clear hwb hgn HR1 HG1 HS1 HRa HM
 cases ho:rdV s 1 with
 | none=>
  refine (zff g s hs 1 ho wb HRb.out).mono ?_;rintro e w3 ⟨rfl,hg3⟩;exact ⟨rfl,zcx (za3 HGa.out (za3 HGb.out hg3)) (zhD ho)⟩
 | some r=>
  obtain ⟨cnt,q⟩:=r;have HT0:=hide (HHd.out cnt q ho).1;have HH0:=hide (HHd.out cnt q ho).2;have hcb:=(zcs ho).2.2.1;refine (zec g s hs 1 cnt q ho wb HRb.out).mono ?_;rintro e w3 ⟨rfl,hr3,hg3⟩;have HR3:=hide hr3;have HN3:=hide (zb1 HNb.out hg3 HLt.out);have HG3:=hide (za3 HGb.out hg3);clear hr3 hg3 ho HNb HRb HGb
  by_cases hcnt:cnt<=4
  ·have d4:decide ((cnt:Int)<=4)=true:=decide_eq_true (by omega)
   go_wp2_with fail;refine (zbI g _).mono ?_;rintro e w4 ⟨rfl,rfl⟩;go_wp2_with fail
   go_loopg [26] cnt (fun q iv wr=>∃(n:Nd) (v1 v2 v3:Value) (p:Nat),iv= .int .i64 (n.ks.length:Int)/\q+n.ks.length=cnt/\n.lf=true/\Hid n.even/\Hid (NSt wr gn n v1 v2 v3)/\Hid (RdT wr g s p)/\Hid (wa.grownBy wr (some g))/\Hid (NTry s cnt n p)/\Hid (NHas s cnt n p)/\Hid ((∀k∈n.ks,k.size<=20000)/\∀k∈n.vs,k.size<=20000))
   case atStart=>exact ⟨⟨true,[],[],[]⟩,_,_,_,q,rfl,rfl,rfl,hide ⟨fun _=>⟨rfl,rfl⟩,fun _=>⟨rfl,rfl⟩⟩,HN3,HR3,HG3,HT0,HH0,hide ⟨fun k h=>by simp at h,fun k h=>by simp at h⟩⟩
   case round=>
    obtain ⟨n,v1,v2,v3,p,rfl,hgk,hlf,HEv,HNs,HRd,HGr,HTy,HHs,HSz⟩:=hrel;have HG:=hide hgk;have HLf:=hide hlf
    have HNk:Hid (n.ks.length<=4/\n.vs.length<=4/\n.cs.length<=4):=hide (by
     obtain ⟨e1,e2⟩:=HEv.out
     rw [(e1 HLf.out).1,(e1 HLf.out).2];simp;omega)
    have hkl:n.ks.length<=4:=HNk.out.1;obtain ⟨a1,c1,rfl⟩:=za4 HNs.out.2.1;obtain ⟨a2,c2,rfl⟩:=za4 HNs.out.2.2.1;obtain ⟨a3,c3,rfl⟩:=za4 HNs.out.2.2.2.1;have x1:wr.cell? ⟨gn,1,none⟩=some (.slice a1 n.ks.length c1):=(za0 HNs.out.1 1).1
    by_cases hlt:n.ks.length<cnt
    ·clear hgk hlf
     cases ho:rdS s p with
     | none=>
      have HDie:=hide (zfO HTy.out HEv.out hlt ho);have HBad:=hide (zgA g s hs p ho);clear ho;go_wp2_with fail
      go_region_dies
      all_goals
       refine (HBad.out wr.drew (show RdT wr.drew g s p from HRd.out)).mono ?_
       rintro e w9 ⟨rfl,hg9⟩;exact ⟨rfl,zcx (za3 HGa.out (za3 (zbK HGr.out) hg9)) HDie.out⟩
     | some r=>
      obtain ⟨x,q1⟩:=r;have HX:=hide ho;have HSh:=hide (zfg g s hs p x q1 ho);clear ho;go_wp2_with fail
      go_region_law (first | (refine zaG _ ?_ 111 Tryz.f111 Tryz.func111 ?_ ?_ (.tmp 30) #[156] ?_ (.pointer (some ⟨g,0,none⟩)) ?_ _ (HSh.out _ ?_) ?_;exact rfl;decide;exact Option.some_ne_none _;exact rfl;exact rfl;exact HRd.out;rintro e w2 ⟨rfl,hrd2,hg2⟩;refine ⟨_,rfl,?_⟩;have HN2:=hide (zb1 (show NSt wr.drew gn _ _ _ _ from HNs.out) hg2 HLt.out);have HR2:=hide hrd2;have HG2:=hide (za3 (zbK HGr.out) hg2);have cl2:w2.cell? ⟨gn,1,none⟩=some (.slice a1 n.ks.length c1):=(za0 HN2.out.1 1).1;have cm2:=fun o=>(za0 (zas HN2.out ((Below.refl _ _).alloc (Nat.le_refl _) o)).1 1).1;clear hrd2 hg2) | (refine step_append_lies _ ?_ (.tmp 29) (.tmp 32) 26 ?_ (gn+1) 9 i0 (.string ⟨#[]⟩) 1 16 Tryz.underlying26 HI_string1 HI_string2 HI_string3 HI_string4 ?_ ?_ (.slice a1 n.ks.length c1) n.ks.length (strs n.ks) ?_ ((HN2.out.2.1).alloc _) ⟨w2.heap.size,0,none⟩ 1 1 [.string x] ?_ ?_ (zdj w2 _ rfl _ _) ?_ ?_ ?_ ?_ ?_ _ rfl ?_;exact rfl;exact rfl;exact rfl;decide;exact rfl;exact rfl;exact rfl;(intro u hu;simp at hu;subst hu;rfl);decide;(have:=HNk.out;unfold maxLen;omega);(have:=HNk.out;omega);(have:=zb9 HN2.out;simp;omega);intro b4 d4 w4 hown4 hg4 hb4 hl4;have HS4:=hide (zfT HN2.out hown4 hg4 hb4);have cc4:=HS4.out.2.2.1;have cf4:=HS4.out.2.2.2;clear hown4 hg4 hb4 hl4))
      all_goals
       obtain ⟨w5,hw5⟩:∃w5,w5=w4.setCell ⟨gn,1,none⟩ (.slice (some ⟨b4,0,none⟩) (n.ks.length+1) d4):=⟨_,rfl⟩;rw [<-hw5];have hst:=HS4.out;rw [<-hw5] at hst;have HN5:=hide hst.1;have HR5:=hide (zhQ HR2.out hst.2.1 HLt.out);have HG5:=hide (zcE HG2.out hst.2.1 HLw.out)
       have x0:w5.cell? ⟨gn,0,none⟩=some (.bool true):=by rw [(za0 hst.1.1 0).1,HLf.out];rfl
       have x2:w5.cell? ⟨gn,2,none⟩=some (.slice a2 n.vs.length c2):=(za0 hst.1.1 2).1;clear hw5 hst HS4 cc4 cf4 HN2 HR2 HG2 cl2 cm2 x1;go_wp2_with fail
       cases ho:rdS s q1 with
       | none=>
        have HDie:=hide (zjM HTy.out HEv.out hlt HLf.out HX.out ho);have HBad:=hide (zgA g s hs q1 ho);clear ho
        go_region_dies
        all_goals
         refine (HBad.out w5.drew (show RdT w5.drew g s q1 from HR5.out)).mono ?_
         rintro e w9 ⟨rfl,hg9⟩;exact ⟨rfl,zcx (za3 HGa.out (za3 (zbK HG5.out) hg9)) HDie.out⟩
       | some r=>
        obtain ⟨y,r⟩:=r;have HT9:=hide (zlj HTy.out HEv.out hlt HLf.out HX.out ho);have HH9:=hide (nh_val HHs.out HEv.out HLf.out HX.out ho)
        have HZ9:Hid ((∀k∈n.ks++ [x],k.size<=20000)/\∀k∈n.vs++ [y],k.size<=20000):=hide ⟨fun k hk=>by
         rcases List.mem_append.1 hk with hk | hk
         ·exact HSz.out.1 k hk
         ·obtain rfl:=List.mem_singleton.1 hk;exact (zbf HX.out).2.2.1,fun k hk=>by rcases List.mem_append.1 hk with hk | hk;exact HSz.out.2 k hk;obtain rfl:=List.mem_singleton.1 hk;exact (zbf ho).2.2.1⟩
        have HSh2:=hide (zfg g s hs q1 y r ho);have HE9:=hide (zdH HEv.out HLf.out x y);have hyb:y.size<=20000:=(zbf ho).2.2.1;clear ho HTy HHs HSz
        go_region_law (first | (refine zaG _ ?_ 111 Tryz.f111 Tryz.func111 ?_ ?_ (.tmp 39) #[156] ?_ (.pointer (some ⟨g,0,none⟩)) ?_ _ (HSh2.out _ ?_) ?_;exact rfl;decide;exact Option.some_ne_none _;exact rfl;exact rfl;exact HR5.out;rintro e w6 ⟨rfl,hrd2,hg2⟩;refine ⟨_,rfl,?_⟩;have HN6:=hide (zb1 (show NSt w5.drew gn _ _ _ _ from HN5.out) hg2 HLt.out);have HR6:=hide hrd2;have HG6:=hide (za3 (zbK HG5.out) hg2);have cl6:w6.cell? ⟨gn,2,none⟩=some (.slice a2 n.vs.length c2):=(za0 HN6.out.1 2).1;have cm6:=fun o=>(za0 (zas HN6.out ((Below.refl _ _).alloc (Nat.le_refl _) o)).1 2).1;clear hrd2 hg2) | (refine step_append_lies _ ?_ (.tmp 38) (.tmp 41) 26 ?_ (gn+1) 9 i0 (.string ⟨#[]⟩) 1 16 Tryz.underlying26 HI_string1 HI_string2 HI_string3 HI_string4 ?_ ?_ (.slice a2 n.vs.length c2) n.vs.length (strs n.vs) ?_ ((HN6.out.2.2.1).alloc _) ⟨w6.heap.size,0,none⟩ 1 1 [.string y] ?_ ?_ (zdj w6 _ rfl _ _) ?_ ?_ ?_ ?_ ?_ _ rfl ?_;exact rfl;exact rfl;exact rfl;decide;exact rfl;exact rfl;exact rfl;(intro u hu;simp at hu;subst hu;rfl);decide;(have:=HNk.out;unfold maxLen;omega);(have:=HNk.out;omega);(have:=zb9 HN6.out;simp;omega);intro b7 d7 w7 hown4 hg4 hb4 hl4;have HS7:=hide (zk0 HN6.out hown4 hg4 hb4);have cc7:=HS7.out.2.2.1;have cf7:=HS7.out.2.2.2;clear hown4 hg4 hb4 hl4))
        all_goals
         obtain ⟨w8,hw8⟩:∃w8,w8=w7.setCell ⟨gn,2,none⟩ (.slice (some ⟨b7,0,none⟩) (n.vs.length+1) d7):=⟨_,rfl⟩;rw [<-hw8];have hst:=HS7.out;rw [<-hw8] at hst;have HN8:=hide hst.1;have HR8:=hide (zhQ HR6.out hst.2.1 HLt.out);have HG8:=hide (zcE HG6.out hst.2.1 HLw.out);clear hw8 hst HS7 cc7 cf7 HN6 HR6 HG6 cl6 cm6 x0 x2;go_wp2_with fail
         go_roundg (gk - 1)
         case measure=>have:=HG.out;omega
         case rel=>exact ⟨n.snocV x y,_,_,_,r,by simp [Nd.snocV],by have:=HG.out;simp [Nd.snocV];omega,HLf.out,HE9,HN8,HR8,HG8,HT9,HH9,HZ9⟩
    ·have hend:=zh7 HTy.out HEv.out (Nat.le_of_not_lt hlt)
     have hcn:n.ks.length=cnt:=by omega
     have HHe:Hid (NHas s n.ks.length n p):=hide (by rw [hcn];exact HHs.out)
     have HEn:=hide hend
     have HOk:=hide (fun wx h=>zbF (.agg #[.bool true,.slice a1 n.ks.length c1,.slice a2 n.vs.length c2,.slice a3 n.cs.length c3]) true n.ks n.vs n.cs (by have:=HNk.out;omega) (by have:=HNk.out;omega) (by have:=HNk.out;omega) (fun k hk=>by have:=HSz.out.1 k hk;omega) (fun k hk=>by have:=HSz.out.2 k hk;omega) wx h)
     have HAt:Hid (NodeAt wr.drew (.agg #[.bool true,.slice a1 n.ks.length c1,.slice a2 n.vs.length c2,.slice a3 n.cs.length c3]) true n.ks n.vs n.cs):=hide (by have:=zbi (zbg (show NSt wr.drew gn _ _ _ _ from HNs.out));rw [HLf.out] at this;exact this)
     have HOe:Hid (n.ok=nodeOkB true n.ks n.vs n.cs):=hide (by rw [Nd.ok,HLf.out])
     have r0:wr.cell? ⟨g,0,none⟩=some (.string s):=(za0 HRd.out 0).1;have r1:wr.cell? ⟨g,1,none⟩=some (.int .i64 (p:Int)):=(za0 HRd.out 1).1
     have y0:wr.cell? ⟨gn,0,none⟩=some (.bool true):=by rw [(za0 HNs.out.1 0).1,HLf.out];rfl
     have y2:wr.cell? ⟨gn,2,none⟩=some (.slice a2 n.vs.length c2):=(za0 HNs.out.1 2).1;have y3:wr.cell? ⟨gn,3,none⟩=some (.slice a3 n.cs.length c3):=(za0 HNs.out.1 3).1;clear hend hgk hlf hcn HTy HHs HSz
     by_cases hp:p=s.size
     ·have e1:((p:Int) ==(s.size:Int))=true:=by rw [hp];exact beq_self_eq_true _
      have HPe:=hide hp;clear hp
      cases hok:nodeOkB true n.ks n.vs n.cs with
      | true=>
       rw [hok] at HOk;have HIs:=hide (nh_end HHe.out HPe.out (HOe.out.trans hok));clear hok;go_wp2_with fail
       go_region_law (first | (refine zcZ _ ?_ 74 Tryz.f74 Tryz.func74 ?_ ?_ (.tmp 64) #[71] ?_ (.agg #[.bool true,.slice a1 n.ks.length c1,.slice a2 n.vs.length c2,.slice a3 n.cs.length c3]) ?_ _ (HOk.out _ ?_) ?_;exact rfl;decide;exact Option.some_ne_none _;exact rfl;exact rfl;exact HAt.out;rintro e w6 ⟨rfl,hb6⟩;refine ⟨_,rfl,?_⟩;have HB6:=hide (show Below wr.heap.size wr w6 from (Below.refl _ _).drew.trans hb6);clear hb6) | (refine zbz _ ?_ 82 Tryz.f82 Tryz.func82 ?_ ?_ (.tmp 52) (.tmp 66) #[156,4] ?_ (.pointer (some ⟨g,0,none⟩)) (.bool true) ?_ ?_ _ (zbI g _) ?_;exact rfl;decide;exact Option.some_ne_none _;exact rfl;exact rfl;exact rfl;rintro e w7 ⟨rfl,rfl⟩;refine ⟨_,rfl,?_⟩))
       all_goals
        have HN6:=hide (zas HNs.out HB6.out)
        have hv6:w6.heap[w.heap.size]?=_:=(HB6.out.block _ (by have:=HGr.out.size;rw [HSa.out] at this;omega)).trans ((HGr.out.block w.heap.size (by rw [HSa.out];omega) (fun e=>by injection e with e;omega)).trans HVa.out)
        have q0:w6.cell? ⟨gn,0,none⟩=some (.bool true):=by rw [(za0 HN6.out.1 0).1,HLf.out];rfl
        have q1:w6.cell? ⟨gn,1,none⟩=some (.slice a1 n.ks.length c1):=(za0 HN6.out.1 1).1;have q2:w6.cell? ⟨gn,2,none⟩=some (.slice a2 n.vs.length c2):=(za0 HN6.out.1 2).1;have q3:w6.cell? ⟨gn,3,none⟩=some (.slice a3 n.cs.length c3):=(za0 HN6.out.1 3).1;have o0:w6.cell? ⟨w.heap.size,0,none⟩=some (.bool false):=(za0 hv6 0).1;have o1:w6.cell? ⟨w.heap.size,1,none⟩=some (.slice none 0 0):=(za0 hv6 1).1;have o2:w6.cell? ⟨w.heap.size,2,none⟩=some (.slice none 0 0):=(za0 hv6 2).1;have o3:w6.cell? ⟨w.heap.size,3,none⟩=some (.slice none 0 0):=(za0 hv6 3).1;have z0:=(za0 hv6 0).2;have z1:=(za0 hv6 1).2;have z2:=(za0 hv6 2).2;have z3:=(za0 hv6 3).2;have hnw:=zbg HN6.out;rw [HLf.out] at hnw
        have HRt:=hide (zaO hv6 hnw (by have:=HLw.out;rw [HSa.out] at this;omega))
        clear hnw hv6 r0 r1 y0 y2 y3 x1;go_wp2_with fail;have hrt:=HRt.out;have t0:=(za0 hrt.1 0).1;have t1:=(za0 hrt.1 1).1;have t2:=(za0 hrt.1 2).1;have t3:=(za0 hrt.1 3).1;have hG6:=za3 HGa.out (za3 HGr.out (zah HB6.out _))
        refine bodyPost_ret (v:= .agg #[.bool true,.slice a1 n.ks.length c1,.slice a2 n.vs.length c2,.slice a3 n.cs.length c3]) (by simp [results,Tryz.results83,go_sem,t0,t1,t2,t3]) rfl ⟨zcE hG6 hrt.2.2 (Nat.le_refl _),Or.inl ⟨n,_,rfl,HIs.out,fun m hm=>(HEn.out m hm).1,?_⟩⟩
        rw [HLf.out]
        exact zax hrt.2.1 (by have:=HLw.out;rw [HSa.out] at this;omega)
      | false=>
       rw [hok] at HOk
       have HDie:Hid (∀m,¬IsIn s m):=hide (fun m hm=>by
        have h1:=(HEn.out m hm).1;have h2:=hm.1;rw [h1,HOe.out,hok] at h2
        cases h2)
       clear hok;go_wp2_with fail
       go_region_law (first | (refine zcZ _ ?_ 74 Tryz.f74 Tryz.func74 ?_ ?_ (.tmp 64) #[71] ?_ (.agg #[.bool true,.slice a1 n.ks.length c1,.slice a2 n.vs.length c2,.slice a3 n.cs.length c3]) ?_ _ (HOk.out _ ?_) ?_;exact rfl;decide;exact Option.some_ne_none _;exact rfl;exact rfl;exact HAt.out;rintro e w6 ⟨rfl,hb6⟩;refine ⟨_,rfl,?_⟩;have HB6:=hide (show Below wr.heap.size wr w6 from (Below.refl _ _).drew.trans hb6);clear hb6) | (refine zbJ _ ?_ 82 Tryz.f82 Tryz.func82 ?_ ?_ (.tmp 52) (.tmp 66) #[156,4] ?_ (.pointer (some ⟨g,0,none⟩)) (.bool false) ?_ ?_ _ (zcn g _) ?_ ?_;exact rfl;decide;exact Option.some_ne_none _;exact rfl;exact rfl;exact rfl;(rintro e w7 ⟨rfl,rfl⟩;exact ⟨_,rfl,rfl,zcx (za3 HGa.out (za3 HGr.out (zah HB6.out _))) HDie.out⟩);intro hF))
       all_goals exact hF.out.elim
     ·have e1:((p:Int) ==(s.size:Int))=false:=beq_eq_false_iff_ne.2 (by omega)
      have HDie:Hid (∀m,¬IsIn s m):=hide (fun m hm=>hp (HEn.out m hm).2)
      clear hp;go_wp2_with fail
      go_region_law (refine zbJ _ ?_ 82 Tryz.f82 Tryz.func82 ?_ ?_ (.tmp 52) (.tmp 66) #[156,4] ?_ (.pointer (some ⟨g,0,none⟩)) (.bool false) ?_ ?_ _ (zcn g _) ?_ ?_;exact rfl;decide;exact Option.some_ne_none _;exact rfl;exact rfl;exact rfl;(rintro e w7 ⟨rfl,rfl⟩;exact ⟨_,rfl,rfl,zcx (za3 HGa.out (zbK HGr.out)) HDie.out⟩);intro hF)
      all_goals exact hF.out.elim
  ·have d4:decide ((cnt:Int)<=4)=false:=decide_eq_false (by omega)
   go_wp2_with fail;refine (zcn g _).mono ?_;rintro e w4 ⟨rfl,rfl⟩
   exact ⟨rfl,zcx (za3 HGa.out HG3.out) (zjO HT0.out (by omega))⟩
end Go.Proofs.YtcbogiebfbbmbaaGreatDoor
