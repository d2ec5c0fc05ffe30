/-
  Facts and contracts that the law's own text rests on, by their texts' names: LawPutManyW.
-/
import Derived.Test.YtcbogiebfbbmbaaGreatDoorPm49
import Derived.Test.YtcbogiebfbbmbaaGreatDoorPm46
import Derived.Test.YtcbogiebfbbmbaaGreatDoorPm51
set_option maxHeartbeats 16000000
set_option maxRecDepth 100000
namespace Go.Proofs.YtcbogiebfbbmbaaGreatDoor
open Go.RowKit
theorem zlo {w w1 w2:World} {B:Nat} {a:Option Addr} {len cap:Nat} (h:Below w.heap.size w w1) (hd:Drawn w1 w2 w.heap.size B a len cap):Below w.heap.size w w2:=
 h.grown hd.2.1 h.size (fun k hk=>by injection hk with hk;omega)
theorem zhY (a:Option Addr) (len cap:Nat) (w:World) (hd:CodeIn w w.heap.size a len):
  Calls Tryz.prog 6 #[.slice a len cap] w fun e w'=>∃(L:List (ByteArray×ByteArray)) (v:Value),e= .returned v/\DrwP L/\w'.ownsRow w.heap.size 41 2 v L.length (prq L)/\Below w.heap.size w w':=by
 have HD:=hide hd;clear hd;go_enter Tryz.func6,Tryz.ntmps6;go_wp2_with fail;refine (zgY a len cap w HD.out).mono ?_;rintro e w1 ⟨rfl,hc1,hd1,hb1⟩;have HC:=hide (⟨hc1,hd1,hb1⟩:_/\_/\_);clear hc1 hd1 hb1;go_wp2_with fail;refine (zj1 w.heap.size w.heap.size a len cap w1 HC.out.1 HC.out.2.1 (Nat.le_refl _)).mono ?_;rintro e w2 ⟨L,v,rfl,hp,ho,hd3⟩;have HP:=hide (⟨hp,zaa ho HC.out.2.2.size,zlo HC.out.2.2 hd3⟩:_/\_/\_);clear hp ho hd3;go_wp2_with fail
 refine bodyPost_ret (v:=v) (by simp [results,Tryz.results6,go_sem]) rfl ⟨L,v,rfl,HP.out.1,HP.out.2.1,HP.out.2.2⟩
theorem zjN {w w':World} {a:Option Addr} {len:Nat} (h:CodeIn w w.heap.size a len) (hb:Below w.heap.size w w'):CodeIn w' w'.heap.size a len:=by
 refine ⟨h.1,?_⟩
 rcases h.2 with h0 | ⟨b,off,e,hlt,hz⟩
 ·exact Or.inl h0
 ·refine Or.inr ⟨b,off,e,Nat.lt_of_lt_of_le hlt hb.size,fun j hj=> ?_⟩
  obtain ⟨z,h1,h2⟩:=hz j hj
  exact ⟨z,h1,by rw [hb.cell (by exact hlt)];exact h2⟩
theorem zj6 (w:World):FreesAt w (.slice none 0 0) []:=⟨[],rfl,⟨rfl,none,0,rfl,Or.inl rfl⟩,by simp⟩
def LpSt (w1:World) (g:Nat) (w:World) (k:Wk):Prop:=
 ∃cs,w.heap[g]?=some (.cells cs 34 (0,0))/\WorkOwn w w1.heap.size (.agg cs) k/\(∀j,workBlocks (.agg cs) j->j≠g)/\w1.heap.size<=g
theorem zlp {w1 w w':World} {g:Nat} {k:Wk} (h:LpSt w1 g w k) (hb:Below w.heap.size w w'):LpSt w1 g w' k:=by
 obtain ⟨cs,h1,h2,h3,h4⟩:=h;exact ⟨cs,stays h1 hb,zaC h2 hb,h3,h4⟩
theorem zkJ {w1 wx:World} {g B:Nat} {k:Wk} {u0 u1 u2 u3 u4 u5 r0 r1 r2 r3 r4 r5:Value} (hg:wx.heap[g]?=some (.cells #[r0,r1,r2,r3,r4,r5] 34 (0,0))) (ho:WorkOwn wx B (.agg #[u0,u1,u2,u3,u4,u5]) k) (hgB:g<B) (hle:w1.heap.size<=g) (hb:Below w1.heap.size w1 wx):LpSt w1 g (set6 wx g u0 u1 u2 u3 u4 u5) k/\Below w1.heap.size w1 (set6 wx g u0 u1 u2 u3 u4 u5):=by
 have hk:=zaw wx g u0 u1 u2 u3 u4 u5
 have hne:∀j,workBlocks (.agg #[u0,u1,u2,u3,u4,u5]) j->j≠g:=fun j hj=>by have:=(zam ho j hj).1;omega
 exact ⟨⟨_,zb4 hg,zb1 (zaz ho hk (fun j hj e=>hne j hj e)) (by omega),hne,hle⟩,hb.trans (zae hk hb.size (fun j e=>by omega))⟩
theorem zmR {L:List (ByteArray×ByteArray)} (hL:DrwP L) (z i:Nat) (hi:i<L.length) (pk pv:ByteArray) (hp:(pk,pv)=L.getD (manyI L.length z i) (⟨#[]⟩,⟨#[]⟩)) (v:Value) (w:World) (hT:SumTab w) (hd:WorkAt w v (manyS L z i).1):
  Calls Tryz.prog 10 #[v,.int .i64 (manyS L z i).2,.string pk,.string pv] w fun e w'=>∃v',e= .returned (.tuple #[v',.int .i64 (manyS L z (i+1)).2,.bool true])/\WorkOwn w' w.heap.size v' (manyS L z (i+1)).1/\Below w.heap.size w w':=by
 have hz:∀p∈L,p.1.size<=24/\p.2.size<=24:=fun p hp=>⟨Nat.le_trans (hL.2.2 p hp).1 (by omega),Nat.le_trans (hL.2.2 p hp).2 (by omega)⟩
 obtain ⟨l,P,h1,-⟩:=zjM (l:=L) hL.1 hL.2.1 hz z i (by omega)
 have h20:=hL.2.1
 rw [show 20 - i=(19 - i)+1 by omega] at h1
 have hm:(pk,pv)∈L:=by rw [hp,getD_lt _ _ (zhV (by omega))];exact List.getElem_mem _
 have h:=zgK v h1 pk pv (hz _ hm).1 (hz _ hm).2 w hT hd
 have e:manyS L z (i+1)=((putS (manyS L z i).1 (manyS L z i).2 pk pv).1,(putS (manyS L z i).1 (manyS L z i).2 pk pv).2.1):=by
  rw [manyS,<-hp]
 rw [e];exact h
theorem zhZ (ps:List ByteArray) (ls:List (Int×ByteArray)) (hp:ps.length<=1048576) (hl:ls.length<=1048576) (hps:∀s∈ps,s.size<=1048576) (hls:∀p∈ls,p.2.size<=1048576) (v:Value) (root:Int) (L:List (ByteArray×ByteArray)) (hL:allS (fun q=>rdN (readD ps ls q)) root=(L,true)) (w:World) (hd:DiskAt w v ps ls) (hdk:∀k,diskBlocks v k->k<w.heap.size):
  Calls Tryz.prog 12 #[v,.int .i64 root] w fun e w'=>∃u,e= .returned u/\w'.ownsRow w.heap.size 41 2 u L.length (prq L)/\Below w.heap.size w w':=by
 have hx:∀o,Below w.heap.size w (w.alloc o):=fun o=>(Below.refl _ _).alloc (Nat.le_refl _) o
 have HA:=hide (fun o=>zfd ps ls hp hl hps hls v root (w.alloc o) (zak hd (hx o)) (fun k hk=>Nat.lt_of_lt_of_le (hdk k hk) (hx o).size))
 rw [hL] at HA;obtain ⟨v1,v2,rfl,-,-⟩:=id hd;have HX:=hide hx;clear hd hdk hL hx;go_enter Tryz.func12,Tryz.ntmps12;go_wp2_with fail;refine (HA.out _).mono ?_;rintro e w1 ⟨u,rfl,ho,hb⟩;have HO:=hide (⟨zaa ho (HX.out _).size,(HX.out _).trans (hb.mono (HX.out _).size)⟩:_/\_);clear ho hb;go_wp2_with fail
 refine bodyPost_ret (v:=u) (by simp [results,Tryz.results12,go_sem]) rfl ⟨u,rfl,HO.out.1,HO.out.2⟩
theorem zfe (v u:Value) (k:Wk) (hk:k.small) (w:World) (hd:WorkAt w v k) (hu:WorkAt w u k):
  Calls Tryz.prog 14 #[v,u] w fun e w'=>e= .returned (.bool true)/\Below w.heap.size w w':=by
 obtain ⟨d1,d2,d3,d4,d5,rfl,h1,h2,h3,h4,-⟩:=hd;obtain ⟨u1,u2,u3,u4,u5,rfl,k1,k2,k3,k4,-⟩:=hu;obtain ⟨wa,hwa⟩:∃wa,wa=(w.alloc (Obj.cells #[d1,d2,.int .i64 k.next,d3,d4,d5] 34)).alloc (Obj.cells #[u1,u2,.int .i64 k.next,u3,u4,u5] 34):=⟨_,rfl⟩;obtain ⟨t1,t2,t3⟩:=zaQ w (Obj.cells #[d1,d2,.int .i64 k.next,d3,d4,d5] 34) (Obj.cells #[u1,u2,.int .i64 k.next,u3,u4,u5] 34);rw [<-hwa] at t1 t2 t3
 have hba:Below w.heap.size w wa:=by rw [hwa];exact ((Below.refl _ _).alloc (Nat.le_refl _) _).alloc (by simp) _
 have HR:=hide (fun wx (hb:Below wa.heap.size wa wx)=>(⟨zak (zak h1 hba) hb,zak (zak k1 hba) hb,za1 (za1 h2 hba) hb,za1 (za1 k2 hba) hb,za1 (za1 h3 hba) hb,za1 (za1 k3 hba) hb,za1 (za1 h4 hba) hb,za1 (za1 k4 hba) hb⟩:_/\_/\_/\_/\_/\_/\_/\_))
 have HD:=hide (fun wx h h'=>zj3 (.agg #[d1,d2]) (.agg #[u1,u2]) k.ps k.ls hk.1 hk.2.2.1 wx h h')
 have HU:=hide (fun wx h h'=>zcW k.us k.us (Nat.le_trans hk.2.2.2.2.1 (by omega)) (Nat.le_trans hk.2.2.2.2.1 (by omega)) d3 u3 wx h h')
 have HG:=hide (fun wx h h'=>zcW k.gs k.gs (Nat.le_trans hk.2.2.2.2.2.1 (by omega)) (Nat.le_trans hk.2.2.2.2.2.1 (by omega)) d4 u4 wx h h')
 have HF:=hide (fun wx h h'=>zcW k.fs k.fs (Nat.le_trans hk.2.2.2.2.2.2 (by omega)) (Nat.le_trans hk.2.2.2.2.2.2 (by omega)) d5 u5 wx h h')
 rw [decide_eq_true rfl] at HU HG HF;have HBa:=hide hba;have HT:=hide (⟨t1,t2⟩:_/\_);have p0:=(za0 t1 0).1;have p1:=(za0 t1 1).1;have q0:=(za0 t2 0).1;have q1:=(za0 t2 1).1;clear h1 h2 h3 h4 k1 k2 k3 k4 hba t3 t1 t2 hk;go_enter Tryz.func14,Tryz.ntmps14;go_wp2_with fail;rw [<-hwa];clear hwa p0 p1 q0 q1;refine (HD.out _ (HR.out _ (Below.refl _ _)).1 (HR.out _ (Below.refl _ _)).2.1).mono ?_;rintro e w1 ⟨rfl,hb⟩;have HQ1:Hid (Below wa.heap.size wa w1):=hide hb;have t1:=stays HT.out.1 HQ1.out;have t2:=stays HT.out.2 HQ1.out;have p2:=(za0 t1 2).1;have q2:=(za0 t2 2).1;have p3:=(za0 t1 3).1;have q3:=(za0 t2 3).1;clear hb t1 t2;go_wp2_with fail;clear p2 q2 p3 q3;refine (HU.out _ (HR.out _ HQ1.out).2.2.1 (HR.out _ HQ1.out).2.2.2.1).mono ?_;rintro e w2 ⟨rfl,hb⟩;have HQ2:Hid (Below wa.heap.size wa w2):=hide (HQ1.out.trans (hb.mono HQ1.out.size));have t1:=stays HT.out.1 HQ2.out;have t2:=stays HT.out.2 HQ2.out;have p4:=(za0 t1 4).1;have q4:=(za0 t2 4).1;clear hb t1 t2;go_wp2_with fail;clear p4 q4;refine (HG.out _ (HR.out _ HQ2.out).2.2.2.2.1 (HR.out _ HQ2.out).2.2.2.2.2.1).mono ?_;rintro e w3 ⟨rfl,hb⟩;have HQ3:Hid (Below wa.heap.size wa w3):=hide (HQ2.out.trans (hb.mono HQ2.out.size));have t1:=stays HT.out.1 HQ3.out;have t2:=stays HT.out.2 HQ3.out;have p5:=(za0 t1 5).1;have q5:=(za0 t2 5).1;clear hb t1 t2;go_wp2_with fail;clear p5 q5;refine (HF.out _ (HR.out _ HQ3.out).2.2.2.2.2.2.1 (HR.out _ HQ3.out).2.2.2.2.2.2.2).mono ?_;rintro e w4 ⟨rfl,hb⟩;have HQ4:Hid (Below wa.heap.size wa w4):=hide (HQ3.out.trans (hb.mono HQ3.out.size));have t1:=stays HT.out.1 HQ4.out;have t2:=stays HT.out.2 HQ4.out;clear hb t1 t2;go_wp2_with fail;go_ret;exact ⟨rfl,HBa.out.trans (HQ4.out.mono HBa.out.size)⟩
theorem zlq {k:Wk} {root:Int} {L:Prs} {P:List Int} {M:Nat} (h:PutSt k root L P M):IsRoot k.rd root L P:=by
 rcases h.tree with h' | ⟨hh,f,h0,h1,h2⟩
 ·exact Or.inl h'
 ·exact Or.inr ⟨hh,f,by have:=(zgo h1 h2 (by have:=h.len;omega)).2.1;omega,h0,h1⟩
theorem zgN {w:World} {B:Nat} {a b c d e f:Value} {k:Wk} (h:WorkOwn w B (.agg #[a,b,c,d,e,f]) k):∀j,diskBlocks (.agg #[a,b]) j->j<w.heap.size:=fun j hj=>
 (zam h j ⟨_,_,_,_,_,_,rfl,Or.inl hj⟩).2
theorem lawPutMany (a:Option Addr) (len cap:Nat) (w:World) (hT:SumTab w) (h:1048576<len\/CodeIn w w.heap.size a len):
  Calls Tryz.prog 3 #[.slice a len cap] w fun e w'=>e= .returned (.bool true)/\Below w.heap.size w w':=by
 rcases h with hbig | hd
 ·clear hT
  go_enter Tryz.func3,Tryz.ntmps3;go_wp2_with fail;refine (big_yes a len cap hbig w).mono ?_;rintro e w1 ⟨rfl,rfl⟩;go_wp2_with fail;go_ret;exact ⟨rfl,Below.refl _ _⟩
 have HD:=hide hd;have hlen:=hd.1;have HT:=hide hT;clear hd hT;go_enter Tryz.func3,Tryz.ntmps3;go_wp2_with fail;refine (big_no a len cap hlen w).mono ?_;rintro e w1 ⟨rfl,rfl⟩;go_wp2_with fail;refine (zhY a len cap w HD.out).mono ?_;rintro e w1 ⟨L,lv,rfl,hL,ho,hb1⟩;obtain ⟨x,c,rfl⟩:=za4 ho;obtain ⟨n,hn⟩:∃n,n=L.length:=⟨_,rfl⟩;rw [<-hn] at ho⊢;have HN:=hide hn;have HL:=hide hL;have HB1:=hide hb1
 have HR:=hide (fun wx (hb:Below w1.heap.size w1 wx)=>za1 (zac ho) hb)
 clear hn hL hb1;go_wp2_with fail;refine (zgj 40 w1).mono ?_;rintro e w2 ⟨vd,rfl,hdo,hb2⟩;obtain ⟨vp,vl,rfl,o1,o2⟩:=id hdo;obtain ⟨ap,cp,rfl⟩:=za4 o1;obtain ⟨al,cl,rfl⟩:=za4 o2;have HDo:=hide hdo;have HB2:=hide hb2
 have hx2:∀o,Below w2.heap.size w2 (w2.alloc o):=fun o=>(Below.refl _ _).alloc (Nat.le_refl _) o
 have HX2:=hide hx2;clear hdo hb2 o1 o2 hx2;go_wp2_with fail;obtain ⟨w3,hw3⟩:∃x,x=w2.alloc (Obj.cells #[.slice ap (newP 40).length cp,.slice al 0 cl] 29):=⟨_,rfl⟩
 have hb3:Below w2.heap.size w2 w3:=by rw [hw3];exact HX2.out _
 have HB3:Hid (Below w1.heap.size w1 w3):=hide (HB2.out.trans (hb3.mono HB2.out.size));rw [<-hw3]
 have HWn:=hide (zgt (.agg #[.slice ap (newP 40).length cp,.slice al 0 cl]) (.agg #[.int .i64 0,.int .i64 0,.int .i64 2,.slice none 0 0]) (newP 40) [] ⟨0,0,2,[]⟩ 0 (by decide) (by decide) (by decide) (by decide) w3 (zak (zfA HDo.out) hb3) ⟨_,rfl,zj6 w3⟩)
 clear hw3 hb3;refine HWn.out.mono ?_;rintro e w4 ⟨v4,rfl,hnw,hb4⟩;obtain ⟨a1,e1,a2,e2,a3,e3,a4,e4,a5,e5,rfl⟩:=zb7 hnw;have HB4:Hid (Below w1.heap.size w1 w4):=hide (HB3.out.trans (hb4.mono HB3.out.size));obtain ⟨k0,hk0⟩:∃k0,k0=newS (newP 40) [] ⟨0,0,2,[]⟩ 0:=⟨_,rfl⟩;rw [<-hk0] at hnw⊢;have HK0:=hide hk0;have HNw:=hide (zfF hnw HB3.out.size)
 have hx4:∀o,Below w4.heap.size w4 (w4.alloc o):=fun o=>(Below.refl _ _).alloc (Nat.le_refl _) o
 have HX4:=hide hx4;clear hnw hb4 hk0 hx4 HWn;go_wp2_with fail;obtain ⟨gw,hgw⟩:∃g,g=w4.heap.size:=⟨_,rfl⟩;obtain ⟨w5,hw5⟩:∃x,x=w4.alloc (Obj.cells #[.slice a1 k0.ps.length e1,.slice a2 k0.ls.length e2,.int .i64 k0.next,.slice a3 k0.us.length e3,.slice a4 k0.gs.length e4,.slice a5 k0.fs.length e5] 34):=⟨_,rfl⟩
 have hb5:Below w4.heap.size w4 w5:=by rw [hw5];exact HX4.out _
 have hg5:w5.heap[gw]?=some (.cells #[.slice a1 k0.ps.length e1,.slice a2 k0.ls.length e2,.int .i64 k0.next,.slice a3 k0.us.length e3,.slice a4 k0.gs.length e4,.slice a5 k0.fs.length e5] 34 (0,0)):=by rw [hw5,hgw];exact heap_alloc_new w4 _
 rw [<-hw5,<-hgw];have HB5:Hid (Below w1.heap.size w1 w5):=hide (HB4.out.trans (hb5.mono HB4.out.size))
 have HLp5:Hid (LpSt w1 gw w5 k0):=hide ⟨_,hg5,zaC (zbN HNw.out) hb5,fun j hj e=>by have:=(zam (zbN HNw.out) j hj).2;omega,by rw [hgw];exact HB4.out.size⟩
 have HPl:=hide (zgL a len cap w5 (zjN HD.out (HB1.out.trans (HB5.out.mono HB1.out.size))));clear hw5 hgw hb5 hg5;refine HPl.out.mono ?_;rintro e w6 ⟨v6,zs,hzl,hzz,rfl,ho6,hb6⟩
 obtain ⟨gp,cp,hpv⟩:∃gp cp,v6= .slice (some ⟨gp,0,none⟩) 12 cp:=by
  rcases ho6.2 with ⟨_,h0⟩ | ⟨g,c,cur,e1,_⟩
  ·omega
  ·exact ⟨g,c,e1⟩
 subst hpv
 obtain ⟨z,hz⟩:∃z,zs[0]?=some z:=⟨zs[0],by simp⟩
 have hz1:z<10000:=hzz z (List.mem_of_getElem? hz)
 have c0:w6.cell? ⟨gp,0,none⟩=some (.int .i64 (z:Int)):=by rw [ho6.cellAt 0 (by omega),intVs,List.getElem?_map,hz];rfl
 have HB6:Hid (Below w1.heap.size w1 w6):=hide (HB5.out.trans (hb6.mono HB5.out.size));have HLp6:Hid (LpSt w1 gw w6 k0):=hide (zlp HLp5.out hb6);clear ho6 hb6 hzz hzl hz;go_wp2_with fail;clear c0
 go_loopg [7,9] n (fun q rv iv wr=>∃(i:Nat),i<=n/\q+i=n/\rv= .int .i64 (manyS L z i).2/\iv= .int .i64 (i:Int)/\Hid (LpSt w1 gw wr (manyS L z i).1)/\Hid (Below w1.heap.size w1 wr))
 case atStart=>exact ⟨0,Nat.zero_le _,rfl,rfl,rfl,hide (by rw [show (manyS L z 0).1=k0 from HK0.out.symm];exact HLp6.out),HB6⟩
 case round=>
  obtain ⟨i,hin,hq,rfl,rfl,HLp,HW⟩:=hrel;obtain ⟨root,hroot⟩:∃r,r=(manyS L z i).2:=⟨_,rfl⟩;obtain ⟨k,hk⟩:∃k,k=(manyS L z i).1:=⟨_,rfl⟩;rw [<-hk] at HLp;rw [<-hroot];have HQ:=hide (⟨hq,hroot,hk⟩:_/\_/\_);clear hq hroot hk
  by_cases hlt:i<n
  ·have h20:n<=20:=by rw [HN.out];exact HL.out.2.1
   have hn0:¬((n:Int)=0):=by omega
   have hl7:(i * 7+z) % n<n:=Nat.mod_lt _ (by omega)
   have hl1:(i+z) % n<n:=Nat.mod_lt _ (by omega)
   have g7a:(0:Int)<=((i:Int) * 7+(z:Int)) % (n:Int):=Int.emod_nonneg _ hn0
   have g7b:((i:Int) * 7+(z:Int)) % (n:Int)<(n:Int):=Int.emod_lt_of_pos _ (by omega)
   have g1a:(0:Int)<=((i:Int)+(z:Int)) % (n:Int):=Int.emod_nonneg _ hn0
   have g1b:((i:Int)+(z:Int)) % (n:Int)<(n:Int):=Int.emod_lt_of_pos _ (by omega)
   obtain ⟨⟨xk,xv⟩,hp7⟩:∃p,L[(i * 7+z) % n]?=some p:=⟨_,List.getElem?_eq_getElem (by have:=HN.out;omega)⟩
   obtain ⟨⟨yk,yv⟩,hp1⟩:∃p,L[(i+z) % n]?=some p:=⟨_,List.getElem?_eq_getElem (by have:=HN.out;omega)⟩
   have HJ:=hide (⟨hp7,hp1⟩:_/\_);obtain ⟨g,off,rfl,c7a,c7b⟩:=zcF (HR.out w1 (Below.refl _ _)) HW.out hl7 hp7
   have HC1:Hid (∀wx,Below w1.heap.size w1 wx->wx.cell? ⟨g,off+(i+z) % n * 2,none⟩=some (.string yk)/\wx.cell? ⟨g,off+(i+z) % n * 2+1,none⟩=some (.string yv)):=hide (fun wx hb=>by
    obtain ⟨g',off',e',c1,c2⟩:=zcF (HR.out w1 (Below.refl _ _)) hb hl1 HJ.out.2
    injection e' with e'
    injection e' with ea eb
    subst ea eb
    exact ⟨c1,c2⟩)
   have hbx:∀o,Below w1.heap.size w1 (wr.alloc o):=fun o=>HW.out.alloc HW.out.size o
   have HBx:=hide hbx;clear hp7 hp1 hl7 hl1 hbx;obtain ⟨cs,hgw,hown,hap,hgle⟩:=HLp.out;obtain ⟨b1,f1,b2,f2,b3,f3,b4,f4,b5,f5,ecs⟩:=zaX hown
   injection ecs with ecs
   subst ecs;have HOwn:=hide (⟨hgw,hown,hap,hgle⟩:_/\_/\_/\_)
   have hx:∀o,Below wr.heap.size wr (wr.alloc o):=fun o=>(Below.refl _ _).alloc (Nat.le_refl _) o
   have hgl:∀o,(wr.alloc o).heap[gw]?=_:=fun o=>stays hgw (hx o)
   have HGl:=hide hgl;have HX:=hide hx;clear hown hap hgle hx
   have t0:=fun o=>(za0 (hgl o) 0).1
   have t1:=fun o=>(za0 (hgl o) 1).1
   have t2:=fun o=>(za0 (hgl o) 2).1
   have t3:=fun o=>(za0 (hgl o) 3).1
   have t4:=fun o=>(za0 (hgl o) 4).1
   have t5:=fun o=>(za0 (hgl o) 5).1
   have c1a:=fun o=>(HC1.out _ (HBx.out o)).1
   have c1b:=fun o=>(HC1.out _ (HBx.out o)).2
   clear hgw hgl;obtain ⟨np,hnp⟩:∃m,m=k.ps.length:=⟨_,rfl⟩;obtain ⟨nl,hnl⟩:∃m,m=k.ls.length:=⟨_,rfl⟩;obtain ⟨nu,hnu⟩:∃m,m=k.us.length:=⟨_,rfl⟩;obtain ⟨ng,hng⟩:∃m,m=k.gs.length:=⟨_,rfl⟩;obtain ⟨nf,hnf⟩:∃m,m=k.fs.length:=⟨_,rfl⟩;obtain ⟨nx,hnx⟩:∃m,m=k.next:=⟨_,rfl⟩;rw [<-hnp,<-hnl,<-hnu,<-hng,<-hnf,<-hnx] at HGl HOwn
   simp only [<-hnp,<-hnl,<-hnu,<-hng,<-hnf,<-hnx] at t0 t1 t2 t3 t4 t5
   clear hnp hnl hnu hng hnf hnx;obtain ⟨k2,hk2⟩:∃x,x=(manyS L z (i+1)).1:=⟨_,rfl⟩;obtain ⟨r2,hr2⟩:∃x,x=(manyS L z (i+1)).2:=⟨_,rfl⟩
   have HPut:Hid (∀pk pv,(pk,pv)=L.getD (manyI L.length z i) (⟨#[]⟩,⟨#[]⟩)->∀o,Calls Tryz.prog 10 #[.agg #[.slice b1 np f1,.slice b2 nl f2,.int .i64 nx,.slice b3 nu f3,.slice b4 ng f4,.slice b5 nf f5],.int .i64 root,.string pk,.string pv] (wr.alloc o) fun e w'=>∃v',e= .returned (.tuple #[v',.int .i64 r2,.bool true])/\WorkOwn w' (wr.alloc o).heap.size v' k2/\Below (wr.alloc o).heap.size (wr.alloc o) w'):=hide (fun pk pv hp o=>by
    rw [hk2,hr2,HQ.out.2.1]
    refine zmR HL.out z i (by have:=HN.out;omega) pk pv hp _ _ (zah HT.out (HB1.out.trans ((HBx.out o).mono HB1.out.size))) ?_
    rw [<-HQ.out.2.2]
    exact zaf (zaF HOwn.out.2.1) (HX.out o))
   have HK2:=hide (⟨hk2,hr2⟩:_/\_);clear hk2 hr2
   by_cases h7:n % 7=0
   ·have hr7:(n:Int) % 7=0:=by omega
    have HE:Hid ((yk,yv)=L.getD (manyI L.length z i) (⟨#[]⟩,⟨#[]⟩)):=hide (by rw [<-HN.out,manyI,if_pos h7,List.getD_eq_getElem?_getD,HJ.out.2];rfl)
    go_wp2_with fail;clear c1a c1b t0 t1 t2 t3 t4 t5 c7a c7b;refine (HPut.out _ _ HE.out _).mono ?_;rintro e w7 ⟨v',rfl,ho,hb7⟩;obtain ⟨wa,hwa⟩:∃x,x=wr.alloc (Obj.cells #[.string yk,.string yv] 41):=⟨_,rfl⟩;have HBo:=hide (⟨HBx.out (Obj.cells #[.string yk,.string yv] 41),HGl.out (Obj.cells #[.string yk,.string yv] 41),hb7⟩:_/\_/\_);rw [<-hwa] at HBo ho hb7;clear hwa;have HBq:Hid (Below w1.heap.size w1 w7):=hide (HBo.out.1.trans (hb7.mono HBo.out.1.size));obtain ⟨m1,x1,m2,x2,m3,x3,m4,x4,m5,x5,rfl⟩:=zaX ho;have HO2:=hide ho;have hq7:=stays HBo.out.2.1 hb7
    have hx7:∀o,Below w7.heap.size w7 (w7.alloc o):=fun o=>(Below.refl _ _).alloc (Nat.le_refl _) o
    have hq3:=fun o=>stays hq7 (hx7 o)
    have t0:=fun o=>(za0 (hq3 o) 0).1
    have t1:=fun o=>(za0 (hq3 o) 1).1
    have t2:=fun o=>(za0 (hq3 o) 2).1
    have t3:=fun o=>(za0 (hq3 o) 3).1
    have t4:=fun o=>(za0 (hq3 o) 4).1
    have t5:=fun o=>(za0 (hq3 o) 5).1
    have y0:=fun o=>(za0 (hq3 o) 0).2
    have y1:=fun o=>(za0 (hq3 o) 1).2
    have y2:=fun o=>(za0 (hq3 o) 2).2
    have y3:=fun o=>(za0 (hq3 o) 3).2
    have y4:=fun o=>(za0 (hq3 o) 4).2
    have y5:=fun o=>(za0 (hq3 o) 5).2
    have HQ3:=hide hq3;have HX7:=hide hx7;clear ho hb7 hq7 hq3 hx7;obtain ⟨p1,hp1⟩:∃m,m=k2.ps.length:=⟨_,rfl⟩;obtain ⟨p2,hp2⟩:∃m,m=k2.ls.length:=⟨_,rfl⟩;obtain ⟨p3,hp3⟩:∃m,m=k2.us.length:=⟨_,rfl⟩;obtain ⟨p4,hp4⟩:∃m,m=k2.gs.length:=⟨_,rfl⟩;obtain ⟨p5,hp5⟩:∃m,m=k2.fs.length:=⟨_,rfl⟩;obtain ⟨p6,hp6⟩:∃m,m=k2.next:=⟨_,rfl⟩;rw [<-hp1,<-hp2,<-hp3,<-hp4,<-hp5,<-hp6] at HO2⊢;have HLx:=hide (zkJ (w1:=w1) (HQ3.out (Obj.cells #[.slice m1 p1 x1,.slice m2 p2 x2,.int .i64 p6,.slice m3 p3 x3,.slice m4 p4 x4,.slice m5 p5 x5] 34)) (zaC HO2.out (HX7.out _)) (Array.getElem?_eq_some_iff.1 HBo.out.2.1).1 HOwn.out.2.2.2 (HBq.out.trans ((HX7.out _).mono HBq.out.size)));clear hp1 hp2 hp3 hp4 hp5 hp6;go_wp2_with fail
    go_roundg (gk - 1)
    case measure=>have:=HQ.out.1;omega
    case rel=>exact ⟨i+1,by omega,by have:=HQ.out.1;omega,by rw [HK2.out.2],by go_num,hide (by rw [<-HK2.out.1];exact HLx.out.1),hide HLx.out.2⟩
   ·have hr7:¬(n:Int) % 7=0:=by omega
    have hr8:(((n:Int) % 7) ==0)=false:=by rw [beq_eq_false_iff_ne];exact hr7
    have HE:Hid ((xk,xv)=L.getD (manyI L.length z i) (⟨#[]⟩,⟨#[]⟩)):=hide (by rw [<-HN.out,manyI,if_neg h7,List.getD_eq_getElem?_getD,HJ.out.1];rfl)
    go_wp2_with fail;clear c1a c1b t0 t1 t2 t3 t4 t5 c7a c7b;refine (HPut.out _ _ HE.out _).mono ?_;rintro e w7 ⟨v',rfl,ho,hb7⟩;obtain ⟨wa,hwa⟩:∃x,x=wr.alloc (Obj.cells #[.string xk,.string xv] 41):=⟨_,rfl⟩;have HBo:=hide (⟨HBx.out (Obj.cells #[.string xk,.string xv] 41),HGl.out (Obj.cells #[.string xk,.string xv] 41),hb7⟩:_/\_/\_);rw [<-hwa] at HBo ho hb7;clear hwa;have HBq:Hid (Below w1.heap.size w1 w7):=hide (HBo.out.1.trans (hb7.mono HBo.out.1.size));obtain ⟨m1,x1,m2,x2,m3,x3,m4,x4,m5,x5,rfl⟩:=zaX ho;have HO2:=hide ho;have hq7:=stays HBo.out.2.1 hb7
    have hx7:∀o,Below w7.heap.size w7 (w7.alloc o):=fun o=>(Below.refl _ _).alloc (Nat.le_refl _) o
    have hq3:=fun o=>stays hq7 (hx7 o)
    have t0:=fun o=>(za0 (hq3 o) 0).1
    have t1:=fun o=>(za0 (hq3 o) 1).1
    have t2:=fun o=>(za0 (hq3 o) 2).1
    have t3:=fun o=>(za0 (hq3 o) 3).1
    have t4:=fun o=>(za0 (hq3 o) 4).1
    have t5:=fun o=>(za0 (hq3 o) 5).1
    have y0:=fun o=>(za0 (hq3 o) 0).2
    have y1:=fun o=>(za0 (hq3 o) 1).2
    have y2:=fun o=>(za0 (hq3 o) 2).2
    have y3:=fun o=>(za0 (hq3 o) 3).2
    have y4:=fun o=>(za0 (hq3 o) 4).2
    have y5:=fun o=>(za0 (hq3 o) 5).2
    have HQ3:=hide hq3;have HX7:=hide hx7;clear ho hb7 hq7 hq3 hx7;obtain ⟨p1,hp1⟩:∃m,m=k2.ps.length:=⟨_,rfl⟩;obtain ⟨p2,hp2⟩:∃m,m=k2.ls.length:=⟨_,rfl⟩;obtain ⟨p3,hp3⟩:∃m,m=k2.us.length:=⟨_,rfl⟩;obtain ⟨p4,hp4⟩:∃m,m=k2.gs.length:=⟨_,rfl⟩;obtain ⟨p5,hp5⟩:∃m,m=k2.fs.length:=⟨_,rfl⟩;obtain ⟨p6,hp6⟩:∃m,m=k2.next:=⟨_,rfl⟩;rw [<-hp1,<-hp2,<-hp3,<-hp4,<-hp5,<-hp6] at HO2⊢;have HLx:=hide (zkJ (w1:=w1) (HQ3.out (Obj.cells #[.slice m1 p1 x1,.slice m2 p2 x2,.int .i64 p6,.slice m3 p3 x3,.slice m4 p4 x4,.slice m5 p5 x5] 34)) (zaC HO2.out (HX7.out _)) (Array.getElem?_eq_some_iff.1 HBo.out.2.1).1 HOwn.out.2.2.2 (HBq.out.trans ((HX7.out _).mono HBq.out.size)));clear hp1 hp2 hp3 hp4 hp5 hp6;go_wp2_with fail
    go_roundg (gk - 1)
    case measure=>have:=HQ.out.1;omega
    case rel=>exact ⟨i+1,by omega,by have:=HQ.out.1;omega,by rw [HK2.out.2],by go_num,hide (by rw [<-HK2.out.1];exact HLx.out.1),hide HLx.out.2⟩
  ·obtain rfl:i=n:=by omega
   have HLn:=hide HN.out
   obtain ⟨P,hst⟩:=znO (l:=L) HL.out.1 HL.out.2.1 (fun p hp=>⟨Nat.le_trans (HL.out.2.2 p hp).1 (by omega),Nat.le_trans (HL.out.2.2 p hp).2 (by omega)⟩) z
   rw [<-HN.out,<-HQ.out.2.1,<-HQ.out.2.2] at hst;have HSt:=hide hst;have HWn:Hid (Below w.heap.size w wr):=hide (HB1.out.trans (HW.out.mono HB1.out.size));obtain ⟨cs,hgw,hown,hap,hgle⟩:=HLp.out;obtain ⟨b1,f1,b2,f2,b3,f3,b4,f4,b5,f5,ecs⟩:=zaX hown
   injection ecs with ecs
   subst ecs;obtain ⟨np,hnp⟩:∃m,m=k.ps.length:=⟨_,rfl⟩;obtain ⟨nl,hnl⟩:∃m,m=k.ls.length:=⟨_,rfl⟩;obtain ⟨nu,hnu⟩:∃m,m=k.us.length:=⟨_,rfl⟩;obtain ⟨ng,hng⟩:∃m,m=k.gs.length:=⟨_,rfl⟩;obtain ⟨nf,hnf⟩:∃m,m=k.fs.length:=⟨_,rfl⟩;obtain ⟨nx,hnx⟩:∃m,m=k.next:=⟨_,rfl⟩;rw [<-hnp,<-hnl,<-hnu,<-hng,<-hnf,<-hnx] at hgw hown
   have hng0:ng=0:=by rw [hng,HSt.out.gn];rfl
   subst hng0;have HLen:=hide (⟨hnp,hnl,hnu,hng,hnf,hnx⟩:_/\_/\_/\_/\_/\_)
   have hx:∀o,Below wr.heap.size wr (wr.alloc o):=fun o=>(Below.refl _ _).alloc (Nat.le_refl _) o
   have HX:=hide hx;have t0:=(za0 hgw 0).1;have t1:=(za0 hgw 1).1;have t2:=(za0 hgw 2).1;have t3:=(za0 hgw 3).1;have t4:=(za0 hgw 4).1;have t5:=(za0 hgw 5).1;have HGw:=hide hgw;have HOw:=hide hown
   have HLong:=hide (zjJ (.agg #[.slice b1 np f1,.slice b2 nl f2,.int .i64 nx,.slice b3 nu f3,.slice b4 0 f4,.slice b5 nf f5]) k (zbW HSt.out.sm) root ⟨#[48,49,50,51,52,53,54,55,56,57,48,49,50,51,52,53,54,55,56,57,48,49,50,51,52]⟩ ⟨#[120]⟩ (by decide) wr (zaF HOw.out))
   clear hst hown hap hgle hgw hx hnp hnl hnu hng hnf hnx;go_wp2_with fail;clear t0 t1 t2 t3 t4 t5;refine HLong.out.mono ?_;rintro e w7 ⟨v',rfl,hnw,hb7⟩;obtain ⟨m1,x1,m2,x2,m3,x3,m4,x4,m5,x5,rfl⟩:=zb7 hnw;have HB7:=hide hb7;have hq7:=stays HGw.out hb7
   have hx7:∀o,Below w7.heap.size w7 (w7.alloc o):=fun o=>(Below.refl _ _).alloc (Nat.le_refl _) o
   have hq8:=fun o=>stays hq7 (hx7 o)
   have t0:=fun o=>(za0 (hq8 o) 0).1
   have t1:=fun o=>(za0 (hq8 o) 1).1
   have HQ8:=hide hq8;have HX7:=hide hx7;have HNw:=hide hnw;rw [<-HLen.out.1,<-HLen.out.2.1,<-HLen.out.2.2.1,<-HLen.out.2.2.2.1,<-HLen.out.2.2.2.2.1,<-HLen.out.2.2.2.2.2] at HNw⊢;clear hb7 hq7 hx7 hq8 hnw
   have HRt:Hid (allS (fun q=>rdN (readD k.ps k.ls q)) root=(L,true)/\treeS (fun q=>rdN (readD k.ps k.ls q)) root=true):=hide (by
    have hr:=zlq HSt.out
    exact ⟨(zn7 _ (zey _ _) root).symm.trans (znP hr HSt.out.nd).1,(zjm _ (zey _ _) root).symm.trans (zmQ hr HSt.out.nd)⟩)
   have HSm:Hid k.small:=hide (zbW HSt.out.sm)
   have HDk:Hid (∀wx,Below wr.heap.size wr wx->DiskAt wx (.agg #[.slice b1 np f1,.slice b2 nl f2]) k.ps k.ls/\∀j,diskBlocks (.agg #[.slice b1 np f1,.slice b2 nl f2]) j->j<wx.heap.size):=hide (fun wx hb=>⟨zhT (zaf (zaF HOw.out) hb),fun j hj=>Nat.lt_of_lt_of_le (zgN HOw.out j hj) hb.size⟩)
   go_wp2_with fail;clear t0 t1;obtain ⟨gv,hgv⟩:∃x,x=w7.heap.size:=⟨_,rfl⟩;obtain ⟨w8,hw8⟩:∃x,x=w7.alloc (Obj.cells #[.slice m1 np x1,.slice m2 nl x2,.int .i64 nx,.slice m3 nu x3,.slice m4 0 x4,.slice m5 nf x5] 34):=⟨_,rfl⟩
   have h8b:Below w7.heap.size w7 w8:=by rw [hw8];exact HX7.out _
   have h8g:=stays (stays HGw.out HB7.out) h8b
   have h8v:w8.heap[gv]?=some (.cells #[.slice m1 np x1,.slice m2 nl x2,.int .i64 nx,.slice m3 nu x3,.slice m4 0 x4,.slice m5 nf x5] 34 (0,0)):=by rw [hw8,hgv];exact heap_alloc_new w7 _
   rw [<-hw8,<-hgv];have HB8:Hid (Below wr.heap.size wr w8):=hide (HB7.out.trans (h8b.mono HB7.out.size));have HG8:=hide (⟨h8g,h8v⟩:_/\_);have HV8:=hide (zaf (zaF (zbN HNw.out)) h8b);clear hw8 hgv h8b h8g h8v;refine (zhZ k.ps k.ls HSm.out.1 HSm.out.2.2.1 HSm.out.2.1 HSm.out.2.2.2.1 _ root L HRt.out.1 w8 (HDk.out w8 HB8.out).1 (HDk.out w8 HB8.out).2).mono ?_;rintro e w9 ⟨u,rfl,ho,hb9⟩;have HB9:Hid (Below wr.heap.size wr w9):=hide (HB8.out.trans (hb9.mono HB8.out.size));have HG9:=hide (⟨stays HG8.out.1 hb9,stays HG8.out.2 hb9⟩:_/\_);have HV9:=hide (zaf HV8.out hb9)
   have HSp:=hide (zeV L L (by have:=HL.out.2.1;omega) (by have:=HL.out.2.1;omega) u (.slice x i c) w9 (zac ho) (by rw [<-HLn.out];exact HR.out w9 (HW.out.trans (HB9.out.mono HW.out.size))))
   rw [decide_eq_true rfl] at HSp;clear ho hb9;go_wp2_with fail;refine HSp.out.mono ?_;rintro e w10 ⟨rfl,hb10⟩;have HB10:Hid (Below wr.heap.size wr w10):=hide (HB9.out.trans (hb10.mono HB9.out.size));have hg:=stays HG9.out.1 hb10;have HG10:=hide (⟨hg,stays HG9.out.2 hb10⟩:_/\_);have HV10:=hide (zaf HV9.out hb10);have t0:=(za0 hg 0).1;have t1:=(za0 hg 1).1;clear hb10 hg HSp;go_wp2_with fail;clear t0 t1;refine (zgM k.ps k.ls HSm.out.1 HSm.out.2.2.1 HSm.out.2.1 HSm.out.2.2.2.1 _ root w10 (HDk.out w10 HB10.out).1 (HDk.out w10 HB10.out).2).mono ?_;rintro e w11 ⟨rfl,hb11⟩;rw [HRt.out.2];have HB11:Hid (Below wr.heap.size wr w11):=hide (HB10.out.trans (hb11.mono HB10.out.size));have hg:=stays HG10.out.1 hb11;have hg2:=stays HG10.out.2 hb11;have HG11:=hide (⟨hg,hg2⟩:_/\_);have HV11:=hide (zaf HV10.out hb11);have t0:=(za0 hg 0).1;have t1:=(za0 hg 1).1;have t2:=(za0 hg 2).1;have t3:=(za0 hg 3).1;have t4:=(za0 hg 4).1;have t5:=(za0 hg 5).1;have s0:=(za0 hg2 0).1;have s1:=(za0 hg2 1).1;have s2:=(za0 hg2 2).1;have s3:=(za0 hg2 3).1;have s4:=(za0 hg2 4).1;have s5:=(za0 hg2 5).1;clear hb11 hg hg2;go_wp2_with fail;clear t0 t1 t2 t3 t4 t5 s0 s1 s2 s3 s4 s5;refine (zfe _ _ k HSm.out w11 HV11.out (zaf (zaF HOw.out) HB11.out)).mono ?_;rintro e w12 ⟨rfl,hb12⟩;have HB12:Hid (Below wr.heap.size wr w12):=hide (HB11.out.trans (hb12.mono HB11.out.size));have hg:=stays HG11.out.1 hb12;have t4:=(za0 hg 4).1;clear hb12 hg;go_wp2_with fail;go_ret;exact ⟨rfl,HWn.out.trans (HB12.out.mono HWn.out.size)⟩
end Go.Proofs.YtcbogiebfbbmbaaGreatDoor
