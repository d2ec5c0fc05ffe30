/-
  Facts and contracts that the law's own text rests on, by their texts' names: LawDropAllW.
-/
import Derived.Test.YtcbogiebfbbmbaaGreatDoorDa48
import Derived.Test.YtcbogiebfbbmbaaGreatDoorDa47
import Derived.Test.YtcbogiebfbbmbaaGreatDoorDa40
import Derived.Test.YtcbogiebfbbmbaaGreatDoorDa20
import Derived.Test.YtcbogiebfbbmbaaGreatDoorDa37
set_option maxHeartbeats 16000000
set_option maxRecDepth 100000
namespace Go.Proofs.YtcbogiebfbbmbaaGreatDoor
open Go.RowKit
theorem zmu (l:Prs) (key:ByteArray):modelD l key=dropL l key:=by
 have e:(fun p:ByteArray×ByteArray=> !(p.1.toList ==key.toList))=fun p=>lessB p.1 key || lessB key p.1:=by
  funext p
  rw [<-zlM p.1 key]
  show _=(Op.bytesLess p.1.toList key.toList || _)
  cases h1:Op.bytesLess p.1.toList key.toList with
  | true=>
   cases h2:(p.1.toList ==key.toList) with
   | true=>
    have e:=eq_of_beq h2;rw [e,zbm] at h1
    cases h1
   | false=>rfl
  | false=>cases (p.1.toList ==key.toList) <;> rfl
 unfold modelD dropL;rw [e]
theorem lawDropAll (a:Option Addr) (len cap:Nat) (w:World) (hT:SumTab w) (h:1048576<len\/CodeIn w w.heap.size a len):
  Calls Tryz.prog 4 #[.slice a len cap] w fun e w'=>e= .returned (.bool true)/\Below w.heap.size w w':=by
 rcases h with hbig | hd
 ·clear hT
  go_enter Tryz.func4,Tryz.ntmps4;go_wp2_with fail;refine (big_yes a len cap hbig w).mono ?_;rintro e w1 ⟨rfl,rfl⟩;go_wp2_with fail;go_ret;exact ⟨rfl,Below.refl _ _⟩
 have HD:=hide hd;have hlen:=hd.1;have HT:=hide hT;clear hd hT;go_enter Tryz.func4,Tryz.ntmps4;go_wp2_with fail;refine (big_no a len cap hlen w).mono ?_;rintro e w1 ⟨rfl,rfl⟩;go_wp2_with fail;refine (zhW a len cap w HD.out).mono ?_;rintro e w1 ⟨L,lv,rfl,hL,ho,hb1⟩;obtain ⟨x,c,rfl⟩:=za4 ho;obtain ⟨n,hn⟩:∃n,n=L.length:=⟨_,rfl⟩;rw [<-hn] at ho⊢;have HN:=hide hn;have HL:=hide hL;have HB1:=hide hb1
 have HR:=hide (fun wx (hb:Below w1.heap.size w1 wx)=>za8 (zaa ho) hb)
 clear hn hL hb1;go_wp2_with fail;refine (zgr 40 w1).mono ?_;rintro e w2 ⟨vd,rfl,hdo,hb2⟩;obtain ⟨vp,vl,rfl,o1,o2⟩:=id hdo;obtain ⟨ap,cp,rfl⟩:=za4 o1;obtain ⟨al,cl,rfl⟩:=za4 o2;have HDo:=hide hdo;have HB2:=hide hb2
 have hx2:∀o,Below w2.heap.size w2 (w2.alloc o):=fun o=>(Below.refl _ _).alloc (Nat.le_refl _) o
 have HX2:=hide hx2;clear hdo hb2 o1 o2 hx2;go_wp2_with fail;obtain ⟨w3,hw3⟩:∃x,x=w2.alloc (Obj.cells #[.slice ap (newP 40).length cp,.slice al 0 cl] 29):=⟨_,rfl⟩
 have hb3:Below w2.heap.size w2 w3:=by rw [hw3];exact HX2.out _
 have HB3:Hid (Below w1.heap.size w1 w3):=hide (HB2.out.trans (hb3.mono HB2.out.size));rw [<-hw3]
 have HWn:=hide (zgI (.agg #[.slice ap (newP 40).length cp,.slice al 0 cl]) (.agg #[.int .i64 0,.int .i64 0,.int .i64 2,.slice none 0 0]) (newP 40) [] ⟨0,0,2,[]⟩ 0 (by decide) (by decide) (by decide) (by decide) w3 (zak (zg2 HDo.out) hb3) ⟨_,rfl,ziS w3⟩)
 clear hw3 hb3;refine HWn.out.mono ?_;rintro e w4 ⟨v4,rfl,hnw,hb4⟩;obtain ⟨a1,e1,a2,e2,a3,e3,a4,e4,a5,e5,rfl⟩:=zaR hnw;have HB4:Hid (Below w1.heap.size w1 w4):=hide (HB3.out.trans (hb4.mono HB3.out.size));obtain ⟨k0,hk0⟩:∃k0,k0=newS (newP 40) [] ⟨0,0,2,[]⟩ 0:=⟨_,rfl⟩;rw [<-hk0] at hnw⊢;have HK0:=hide hk0;have HNw:=hide (zeZ hnw HB3.out.size)
 have hx4:∀o,Below w4.heap.size w4 (w4.alloc o):=fun o=>(Below.refl _ _).alloc (Nat.le_refl _) o
 have HX4:=hide hx4;clear hnw hb4 hk0 hx4 HWn;go_wp2_with fail;obtain ⟨gw,hgw⟩:∃g,g=w4.heap.size:=⟨_,rfl⟩;obtain ⟨w5,hw5⟩:∃x,x=w4.alloc (Obj.cells #[.slice a1 k0.ps.length e1,.slice a2 k0.ls.length e2,.int .i64 k0.next,.slice a3 k0.us.length e3,.slice a4 k0.gs.length e4,.slice a5 k0.fs.length e5] 34):=⟨_,rfl⟩
 have hb5:Below w4.heap.size w4 w5:=by rw [hw5];exact HX4.out _
 have hg5:w5.heap[gw]?=some (.cells #[.slice a1 k0.ps.length e1,.slice a2 k0.ls.length e2,.int .i64 k0.next,.slice a3 k0.us.length e3,.slice a4 k0.gs.length e4,.slice a5 k0.fs.length e5] 34 (0,0)):=by rw [hw5,hgw];exact heap_alloc_new w4 _
 rw [<-hw5,<-hgw];have HB5:Hid (Below w1.heap.size w1 w5):=hide (HB4.out.trans (hb5.mono HB4.out.size))
 have HLp5:Hid (LpSt w1 gw w5 k0):=hide ⟨_,hg5,zbu (zaJ HNw.out) hb5,fun j hj e=>by have:=(zal (zaJ HNw.out) j hj).2;omega,by rw [hgw];exact HB4.out.size⟩
 have HG5:=hide hg5
 have HGs:=hide (⟨(Array.getElem?_eq_some_iff.1 hg5).1,by rw [hgw];exact HB4.out.size⟩:gw<w5.heap.size/\w1.heap.size<=gw)
 have HBs:Hid ((bldS k0 L).2.2=true/\∃P,DropSt (bldS k0 L).1 (bldS k0 L).2.1 L P L.length):=hide (by
  rw [HK0.out]
  exact znl HL.out.1 HL.out.2.1 (fun p hp=>⟨Nat.le_trans (HL.out.2.2 p hp).1 (by omega),Nat.le_trans (HL.out.2.2 p hp).2 (by omega)⟩))
 have HBd:=hide (zfa (.agg #[.slice a1 k0.ps.length e1,.slice a2 k0.ls.length e2,.int .i64 k0.next,.slice a3 k0.us.length e3,.slice a4 k0.gs.length e4,.slice a5 k0.fs.length e5]) k0 (by
  obtain ⟨s1,s2,s3,s4,s5,s6,s7⟩:=(zho [] 0).sm;have e0:(manyS [] 0 0).1=k0:=HK0.out.symm;rw [e0] at s1 s2 s3 s4 s5 s6 s7
  exact ⟨s1,s2,by omega,s4,by omega,by omega,by omega⟩) L (by have:=HL.out.2.1;omega) (fun p hp=>⟨Nat.le_trans (HL.out.2.2 p hp).1 (by omega),Nat.le_trans (HL.out.2.2 p hp).2 (by omega)⟩) (.slice x n c) w5 (zae (zap (zaJ HNw.out)) hb5) (by rw [<-HN.out];exact HR.out w5 HB5.out))
 obtain ⟨k1,hk1⟩:∃k1,k1=(bldS k0 L).1:=⟨_,rfl⟩;obtain ⟨r1,hr1⟩:∃r1,r1=(bldS k0 L).2.1:=⟨_,rfl⟩;rw [HBs.out.1] at HBd
 have HBs2:Hid (∃P,DropSt k1 r1 L P L.length):=hide (by rw [hk1,hr1];exact HBs.out.2)
 rw [<-hk1,<-hr1] at HBd;clear hw5 hgw hb5 hg5 hk1 hr1 HBs;refine HBd.out.mono ?_;rintro e w6 ⟨v6,rfl,ho6,hb6⟩;obtain ⟨m1,x1,m2,x2,m3,x3,m4,x4,m5,x5,rfl⟩:=zaH ho6;have hg6:=stays HG5.out hb6;obtain ⟨t0,t1,t2,t3,t4,t5⟩:=blk6c hg6;have y0:=(za0 hg6 0).2;have y1:=(za0 hg6 1).2;have y2:=(za0 hg6 2).2;have y3:=(za0 hg6 3).2;have y4:=(za0 hg6 4).2;have y5:=(za0 hg6 5).2;have HLx:=hide (zkr (w1:=w1) hg6 ho6 HGs.out.1 HGs.out.2 (HB5.out.trans (hb6.mono HB5.out.size)));clear ho6 hb6 hg6 HBd;go_wp2_with fail;obtain ⟨w7,hw7⟩:∃x,x=(((((w6.setCell ⟨gw,0,none⟩ (.slice m1 k1.ps.length x1)).setCell ⟨gw,1,none⟩ (.slice m2 k1.ls.length x2)).setCell ⟨gw,2,none⟩ (.int .i64 k1.next)).setCell ⟨gw,3,none⟩ (.slice m3 k1.us.length x3)).setCell ⟨gw,4,none⟩ (.slice m4 k1.gs.length x4)).setCell ⟨gw,5,none⟩ (.slice m5 k1.fs.length x5):=⟨_,rfl⟩
 have HLp7:Hid (LpSt w1 gw w7 k1/\Below w1.heap.size w1 w7):=hide (by rw [hw7];exact HLx.out)
 rw [<-hw7];clear hw7 HLx y0 y1 y2 y3 y4 y5 t0 t1 t2 t3 t4 t5;have HPl:=hide (zh3 a len cap w7 (zjv HD.out (HB1.out.trans (HLp7.out.2.mono HB1.out.size))));refine HPl.out.mono ?_;rintro e w8 ⟨v8,zs,hzl,hzz,rfl,ho8,hb8⟩
 obtain ⟨gp,cp,hpv⟩:∃gp cp,v8= .slice (some ⟨gp,0,none⟩) 12 cp:=by
  rcases ho8.2 with ⟨_,h0⟩ | ⟨g,c,cur,e1,_⟩
  ·omega
  ·exact ⟨g,c,e1⟩
 subst hpv
 obtain ⟨z,hz⟩:∃z,zs[0]?=some z:=⟨zs[0],by simp⟩
 have hz1:z<10000:=hzz z (List.mem_of_getElem? hz)
 have c0:w8.cell? ⟨gp,0,none⟩=some (.int .i64 (z:Int)):=by rw [ho8.cellAt 0 (by omega),intVs,List.getElem?_map,hz];rfl
 have HB8:Hid (Below w1.heap.size w1 w8):=hide (HLp7.out.2.trans (hb8.mono HLp7.out.2.size));have HLp8:Hid (LpSt w1 gw w8 k1):=hide (zdS HLp7.out.1 hb8)
 have HG8:Hid (gw<w8.heap.size):=hide (by obtain ⟨cs,h1,-⟩:=HLp8.out;exact (Array.getElem?_eq_some_iff.1 h1).1)
 clear ho8 hb8 hzz hzl hz HPl;have HS0:Hid (Sep w8.heap.size (w8.alloc (Obj.cells #[] 41)) [rowA w8.heap.size 41 2 (.slice (some ⟨w8.heap.size,0,none⟩) 0 0) 0 []]):=hide (zg1 (zaB (zcV w8.heap.size w8) _ (Nat.le_refl _)));have HA0:Hid (Below w8.heap.size w8 (w8.alloc (Obj.cells #[] 41))):=hide ((Below.refl w8.heap.size w8).alloc (Nat.le_refl _) _)
 have HZ0:Hid (w8.heap.size<=(w8.alloc (Obj.cells #[] 41)).heap.size):=hide (by simp)
 have hn20:n<=20:=by rw [HN.out];exact HL.out.2.1
 go_wp2_with (at_builtin;refine zkU HS0.out 0 rfl (Nat.le_refl _) HZ0.out HZ0.out rfl (.tmp 40) (.tmp 41) rfl rfl _ n (prq L) rfl (HR.out _ (HB8.out.trans (HA0.out.mono HB8.out.size))) (zmg L) (by omega) ?_)
 intro y9 c9 W9 hs9 hb9;have HB9a:Hid (Below w8.heap.size w8 W9):=hide (HA0.out.trans hb9);have HB9:Hid (Below w1.heap.size w1 W9):=hide (HB8.out.trans (HB9a.out.mono HB8.out.size))
 have HOw9:Hid (W9.ownsRow (gw+1) 41 2 (.slice y9 n c9) n (prq L)):=hide (by
  have h1:=za2 hs9 0 rfl
  (try rw [Nat.zero_add] at h1)
  (try rw [List.nil_append] at h1)
  exact zad h1 HG8.out)
 have HLp9:Hid (LpSt w1 gw W9 k1):=hide (zdS HLp8.out HB9a.out);clear hs9 hb9 c0;go_wp2_with fail
 go_loopg [7,10] n (fun q rv lv wr=>∃(k:Wk) (root:Int) (l:Prs) (y:Option Addr) (c:Nat),q<=20/\rv= .int .i64 root/\lv= .slice y q c/\Hid (l.length=q)/\Hid (∃P,DropSt k root l P q)/\Hid (LpSt w1 gw wr k)/\Hid (wr.ownsRow (gw+1) 41 2 (.slice y q c) q (prq l))/\Hid (Below w1.heap.size w1 wr))
 case atStart=>exact ⟨k1,r1,L,y9,c9,hn20,rfl,rfl,hide HN.out.symm,hide (by rw [HN.out];exact HBs2.out),HLp9,HOw9,HB9⟩
 case round=>
  obtain ⟨k,root,l,y,c9,hq20,rfl,rfl,HQl,HSt,HLp,HOw,HW⟩:=hrel
  by_cases hlt:0<gk
  ·obtain ⟨M,hM⟩:∃M,gk=M+1:=⟨gk - 1,by omega⟩
   have HM:=hide hM
   have hn0:¬((gk:Int)=0):=by omega
   have hzl:z % gk<gk:=Nat.mod_lt _ (by omega)
   have g1a:(0:Int)<=(z:Int) % (gk:Int):=Int.emod_nonneg _ hn0
   have g1b:(z:Int) % (gk:Int)<(gk:Int):=Int.emod_lt_of_pos _ (by omega)
   clear hM
   obtain ⟨⟨xk,xv⟩,hp⟩:∃p,l[z % gk]?=some p:=⟨_,List.getElem?_eq_getElem (by rw [HQl.out];exact hzl)⟩
   have HMem:Hid (∃q∈l,q.1=xk):=hide ⟨_,List.mem_of_getElem? hp,rfl⟩;obtain ⟨g,off,rfl,c7a,c7b⟩:=zcM (zaa HOw.out) (Below.refl _ _) hzl hp;clear hp c7b;obtain ⟨cs,hgw,hown,hap,hgle⟩:=HLp.out;obtain ⟨b1,f1,b2,f2,b3,f3,b4,f4,b5,f5,ecs⟩:=zaH hown
   injection ecs with ecs
   subst ecs;have HOwn:=hide (⟨hgw,hown,hap,hgle⟩:_/\_/\_/\_)
   have HDk:Hid (∃(T:Wk×Int) (P':List Int),DropSt T.1 T.2 (dropL l xk) P' M/\Calls Tryz.prog 16 #[.agg #[.slice b1 k.ps.length f1,.slice b2 k.ls.length f2,.int .i64 k.next,.slice b3 k.us.length f3,.slice b4 k.gs.length f4,.slice b5 k.fs.length f5],.int .i64 root,.string xk] wr fun e w'=>∃v',e= .returned (.tuple #[v',.int .i64 T.2,.bool true])/\WorkOwn w' wr.heap.size v' T.1/\Below wr.heap.size wr w'):=hide (by
    obtain ⟨P,hst⟩:=HSt.out;rw [HM.out] at hst
    exact zgQ _ hst xk HMem.out wr (zag HT.out (HB1.out.trans (HW.out.mono HB1.out.size))) (zap hown))
   obtain ⟨t0,t1,t2,t3,t4,t5⟩:=blk6c hgw;clear hown hap hgle hgw;obtain ⟨T,P',hst',hcall⟩:=HDk.out;have HSt':=hide hst';have HCall:=hide hcall;clear hst' hcall HDk;go_wp2_with fail;clear t0 t1 t2 t3 t4 t5 c7a;refine HCall.out.mono ?_;rintro e w7 ⟨v',rfl,ho,hb7⟩;obtain ⟨m1,x1,m2,x2,m3,x3,m4,x4,m5,x5,rfl⟩:=zaH ho;have HO2:=hide ho;have hq7:=stays HOwn.out.1 hb7
   have hx7:∀o,Below w7.heap.size w7 (w7.alloc o):=fun o=>(Below.refl _ _).alloc (Nat.le_refl _) o
   have hq3:=fun o=>stays hq7 (hx7 o)
   have t0:=fun o=>(za0 (hq3 o) 0).1
   have t1:=fun o=>(za0 (hq3 o) 1).1
   have t2:=fun o=>(za0 (hq3 o) 2).1
   have t3:=fun o=>(za0 (hq3 o) 3).1
   have t4:=fun o=>(za0 (hq3 o) 4).1
   have t5:=fun o=>(za0 (hq3 o) 5).1
   have y0:=fun o=>(za0 (hq3 o) 0).2
   have y1:=fun o=>(za0 (hq3 o) 1).2
   have y2:=fun o=>(za0 (hq3 o) 2).2
   have y3:=fun o=>(za0 (hq3 o) 3).2
   have y4:=fun o=>(za0 (hq3 o) 4).2
   have y5:=fun o=>(za0 (hq3 o) 5).2
   have HQ3:=hide hq3;have HX7:=hide hx7;have HB7:=hide hb7;clear ho hb7 hq7 hq3 hx7;go_wp2_with fail;clear y0 y1 y2 y3 y4 y5 t0 t1 t2 t3 t4 t5;have HLx:=hide (zkr (w1:=w1) (HQ3.out (Obj.cells #[.slice m1 T.1.ps.length x1,.slice m2 T.1.ls.length x2,.int .i64 T.1.next,.slice m3 T.1.us.length x3,.slice m4 T.1.gs.length x4,.slice m5 T.1.fs.length x5] 34)) (zbu HO2.out (HX7.out _)) (Array.getElem?_eq_some_iff.1 HOwn.out.1).1 HOwn.out.2.2.2 ((HW.out.trans (HB7.out.mono HW.out.size)).trans ((HX7.out _).mono (HW.out.trans (HB7.out.mono HW.out.size)).size)))
   have HOv:=hide (za6 (zaf (zaf HOw.out HB7.out) (HX7.out (Obj.cells #[.slice m1 T.1.ps.length x1,.slice m2 T.1.ls.length x2,.int .i64 T.1.next,.slice m3 T.1.us.length x3,.slice m4 T.1.gs.length x4,.slice m5 T.1.fs.length x5] 34))) (zaQ _ gw (.slice m1 T.1.ps.length x1) (.slice m2 T.1.ls.length x2) (.int .i64 T.1.next) (.slice m3 T.1.us.length x3) (.slice m4 T.1.gs.length x4) (.slice m5 T.1.fs.length x5)) (fun j hj e=>by have:=(HOw.out.lt j hj).1;omega))
   obtain ⟨w9,hw9⟩:∃x,x=((((((w7.alloc (Obj.cells #[.slice m1 T.1.ps.length x1,.slice m2 T.1.ls.length x2,.int .i64 T.1.next,.slice m3 T.1.us.length x3,.slice m4 T.1.gs.length x4,.slice m5 T.1.fs.length x5] 34)).setCell ⟨gw,0,none⟩ (.slice m1 T.1.ps.length x1)).setCell ⟨gw,1,none⟩ (.slice m2 T.1.ls.length x2)).setCell ⟨gw,2,none⟩ (.int .i64 T.1.next)).setCell ⟨gw,3,none⟩ (.slice m3 T.1.us.length x3)).setCell ⟨gw,4,none⟩ (.slice m4 T.1.gs.length x4)).setCell ⟨gw,5,none⟩ (.slice m5 T.1.fs.length x5):=⟨_,rfl⟩
   have HLp9b:Hid (LpSt w1 gw w9 T.1/\Below w1.heap.size w1 w9):=hide (by rw [hw9];exact HLx.out)
   have HOv9:Hid (w9.ownsRow (gw+1) 41 2 (.slice (some ⟨g,off,none⟩) gk c9) gk (prq l)):=hide (by rw [hw9];exact HOv.out)
   rw [<-hw9];clear hw9 HLx HOv
   have HMd:=hide (zfj l (by have:=HQl.out;omega) xk (.slice (some ⟨g,off,none⟩) gk c9) w9 (by rw [HQl.out];exact zaa HOv9.out))
   rw [zmu] at HMd;refine HMd.out.mono ?_;rintro e w10 ⟨u,rfl,ho10,hb10⟩;obtain ⟨y2,d2,rfl⟩:=za4 ho10;obtain ⟨q2,hq2⟩:∃q2,q2=(dropL l xk).length:=⟨_,rfl⟩;rw [<-hq2] at ho10⊢;have HQ2:=hide hq2
   have HLt:Hid (q2<=M/\q2<gk):=hide (by have h1:=znk HMem.out;have h2:=HQl.out;have h3:=HM.out;omega)
   have HLp10:=hide (zdS HLp9b.out.1 hb10);have HW10:Hid (Below w1.heap.size w1 w10):=hide (HLp9b.out.2.trans (hb10.mono HLp9b.out.2.size))
   have HOw10:Hid (w10.ownsRow (gw+1) 41 2 (.slice y2 q2 d2) q2 (prq (dropL l xk))):=hide (zad ho10 (by obtain ⟨cs,h1,-⟩:=HLp9b.out.1;exact (Array.getElem?_eq_some_iff.1 h1).1))
   clear hq2 ho10 hb10 HMd;obtain ⟨cs,hgw,hown,hap,hgle⟩:=HLp10.out;obtain ⟨p1,n1,p2,n2,p3,n3,p4,n4,p5,n5,ecs⟩:=zaH hown
   injection ecs with ecs
   subst ecs;have HSm:Hid T.1.small:=hide (zct HSt'.out.sm)
   have HAl:Hid (allS (fun q=>rdN (readD T.1.ps T.1.ls q)) T.2=(dropL l xk,true)):=hide ((zmE _ (zgL _ _) T.2).symm.trans (znd HSt'.out.tree HSt'.out.nd).1)
   have HPr:=hide (zhX T.1.ps T.1.ls HSm.out.1 HSm.out.2.2.1 HSm.out.2.1 HSm.out.2.2.2.1 (.agg #[.slice p1 T.1.ps.length n1,.slice p2 T.1.ls.length n2]) T.2 (dropL l xk) HAl.out w10 (zn8 (zap hown)) (zh4 hown));have t0:=(za0 hgw 0).1;have t1:=(za0 hgw 1).1;clear hgw hown hap hgle;go_wp2_with fail;clear t0 t1;refine HPr.out.mono ?_;rintro e w11 ⟨u3,rfl,ho11,hb11⟩;have HW11:Hid (Below w10.heap.size w10 w11):=hide hb11
   have HSp:=hide (zfk (dropL l xk) (dropL l xk) (by have:=HLt.out;have:=HQ2.out;omega) (by have:=HLt.out;have:=HQ2.out;omega) u3 (.slice y2 q2 d2) w11 (zaa ho11) (by rw [<-HQ2.out];exact za8 (zaa HOw10.out) hb11))
   rw [decide_eq_true rfl] at HSp;clear ho11 hb11 HPr;go_wp2_with fail;refine HSp.out.mono ?_;rintro e w12 ⟨rfl,hb12⟩;have HB12:Hid (Below w10.heap.size w10 w12):=hide (HW11.out.trans (hb12.mono HW11.out.size));clear hb12 HSp;go_wp2_with fail
   go_roundg q2
   case measure=>exact HLt.out.2
   case rel=>exact ⟨T.1,T.2,dropL l xk,y2,d2,by have:=HLt.out.2;omega,rfl,rfl,hide HQ2.out.symm,hide ⟨P',zjF HSt'.out HLt.out.1⟩,hide (zdS HLp10.out HB12.out),hide (zaf HOw10.out HB12.out),hide (HW10.out.trans (HB12.out.mono HW10.out.size))⟩
  ·obtain rfl:gk=0:=by omega
   have HEnd:Hid (l= []/\root=0/\k.fs.length=0/\k.gs.length=0/\(k.us.length:Int)=k.next - 2/\k.next<=40/\∃P,DropSt k 0 [] P 0):=hide (by
    obtain ⟨P,hst⟩:=HSt.out;obtain rfl:l= []:=List.eq_nil_of_length_eq_zero HQl.out;obtain ⟨h1,h2,h3,h4⟩:=znj hst;have h5:=hst.rq.wok.nl;rw [hst.ps] at h5;subst h1
    exact ⟨rfl,rfl,by rw [h2];rfl,by rw [h3];rfl,h4,h5,P,hst⟩)
   obtain rfl:root=0:=HEnd.out.2.1;obtain ⟨cs,hgw,hown,hap,hgle⟩:=HLp.out;obtain ⟨b1,f1,b2,f2,b3,f3,b4,f4,b5,f5,ecs⟩:=zaH hown
   injection ecs with ecs
   subst ecs
   have HDk:=hide (by
    obtain ⟨P,hst⟩:=HEnd.out.2.2.2.2.2.2
    exact zfG (.agg #[.slice b1 k.ps.length f1,.slice b2 k.ls.length f2,.int .i64 k.next,.slice b3 k.us.length f3,.slice b4 k.gs.length f4,.slice b5 k.fs.length f5]) hst ⟨#[97]⟩ wr (zag HT.out (HB1.out.trans (HW.out.mono HB1.out.size))) (zap hown))
   have HGw:=hide hgw;rw [HEnd.out.2.2.1,HEnd.out.2.2.2.1] at HDk HGw;obtain ⟨nu,hnu⟩:∃m,m=k.us.length:=⟨_,rfl⟩;obtain ⟨nx,hnx⟩:∃m,m=k.next:=⟨_,rfl⟩;rw [<-hnu,<-hnx] at HDk HGw
   have hnn:(nu:Int)=nx - 2:=by rw [hnu,hnx];exact HEnd.out.2.2.2.2.1
   have hnx40:nx<=40:=by rw [hnx];exact HEnd.out.2.2.2.2.2.1
   obtain rfl:nx=(nu:Int)+2:=by omega
   have hnu38:nu<=38:=by omega
   obtain ⟨t0,t1,t2,t3,t4,t5⟩:=blk6c HGw.out;clear hgw hown hap hgle hnu hnx hnn hnx40;go_wp2_with fail;clear t0 t1 t2 t3 t4 t5;refine HDk.out.mono ?_;rintro e w7 ⟨v',rfl,hnw,hb7⟩;obtain ⟨m1,x1,m2,x2,m3,x3,m4,x4,m5,x5,rfl⟩:=zaR hnw;have HB7:=hide hb7
   have hx7:∀o,Below w7.heap.size w7 (w7.alloc o):=fun o=>(Below.refl _ _).alloc (Nat.le_refl _) o
   have hq3:=fun o=>stays (stays HGw.out hb7) (hx7 o)
   have t2:=fun o=>(za0 (hq3 o) 2).1
   have t3:=fun o=>(za0 (hq3 o) 3).1
   have t4:=fun o=>(za0 (hq3 o) 4).1
   have t5:=fun o=>(za0 (hq3 o) 5).1
   have HX7:=hide hx7;clear hnw hb7 hq3 hx7 HDk;go_wp2_with fail;go_ret;exact ⟨rfl,(HB1.out.trans (HW.out.mono HB1.out.size)).trans ((HB7.out.trans ((HX7.out _).mono HB7.out.size)).mono (HB1.out.trans (HW.out.mono HB1.out.size)).size)⟩
end Go.Proofs.YtcbogiebfbbmbaaGreatDoor
