/-
  Facts and contracts that the law's own text rests on, by their texts' names: StRightI.
-/
import Derived.Deep.Cut
import Derived.Laws.EntriesVeiled
import Derived.Test.YtjmgdmdleamenaaGreatDoorSr46
import Derived.Test.YtjmgdmdleamenaaGreatDoorSr49
import Derived.Test.YtjmgdmdleamenaaGreatDoorSr44
import Derived.Test.YtjmgdmdleamenaaGreatDoorSr12
import Derived.Test.YtjmgdmdleamenaaGreatDoorSr40
import Derived.Test.YtjmgdmdleamenaaGreatDoorSr14
import Derived.Test.YtjmgdmdleamenaaGreatDoorSr48
set_option maxHeartbeats 16000000
set_option maxRecDepth 100000
namespace Go.Proofs.YtjmgdmdleamenaaGreatDoor
open Go.RowKit
theorem implHold_any (v:Value) (s:St) (hs:s.small) (w:World) (hTb:SumTab w) (hd:StAt w v s):
  Calls Tryz.prog 25 #[.agg #[.func (.func 21) #[] #[],.func (.func 22) #[] #[],.func (.func 23) #[] #[],.func (.func 24) #[] #[]],v] w fun e w'=>∃b,e= .returned (.bool b)/\StTold s (treeS fun q=>rdN (readD s.ps s.ls q)) (fun W H b=>b=true↔∀x,x∈W↔x∈H) b/\Below w.heap.size w w':=by
 obtain ⟨vp,vl,vf,vR,vr,up,ul,uu,ug,uf,rfl,h1,h2,h3,-⟩:=hd;obtain ⟨a,cap,rfl⟩:=rds_slice h3
 obtain ⟨ap,cp,al,cl,rfl,rfl⟩:∃ap cp al cl,vp= .slice ap s.ps.length cp/\vl= .slice al s.ls.length cl:=by
  obtain ⟨x,y,e,r1,r2⟩:=h1
  simp only [Value.agg.injEq,Array.mk.injEq,List.cons.injEq,and_true] at e
  obtain ⟨rfl,rfl⟩:=e;obtain ⟨ap,cp,e1⟩:=rowForm r1;obtain ⟨al,cl,e2⟩:=rowForm r2;exact ⟨ap,cp,al,cl,e1,e2⟩
 obtain ⟨⟨hp,hps,hl,hls⟩,⟨hf,hfs⟩,⟨hr,-⟩,-⟩:=hs;obtain ⟨L,hL⟩:∃n,n=s.rs.length:=⟨_,rfl⟩;obtain ⟨np,hnp⟩:∃n,n=s.ps.length:=⟨_,rfl⟩;obtain ⟨nl,hnl⟩:∃n,n=s.ls.length:=⟨_,rfl⟩
 obtain ⟨xf,cf,rfl⟩:∃x c,vf= .slice x s.m.fs.length c:=by
  obtain ⟨u,e,h⟩:=h2
  simp only [Value.agg.injEq,Array.mk.injEq,List.cons.injEq,and_true,true_and] at e
  subst e;exact frees_slice h
 rw [<-hL,<-hnp,<-hnl];rw [<-hL] at hr h3;rw [<-hnp,<-hnl] at h1;obtain ⟨nf,hnf⟩:∃n,n=s.m.fs.length:=⟨_,rfl⟩;rw [<-hnf] at h2⊢;obtain ⟨mt,e1⟩:∃n,n=s.m.tx:=⟨_,rfl⟩;obtain ⟨mr,e2⟩:∃n,n=s.m.root:=⟨_,rfl⟩;obtain ⟨mn,e3⟩:∃n,n=s.m.next:=⟨_,rfl⟩;obtain ⟨cs,hcs⟩:∃cs:Array Value,cs= #[.slice ap np cp,.slice al nl cl,.int .i64 s.m.tx,.int .i64 s.m.root,.int .i64 s.m.next,.slice xf nf cf,.slice a L cap,.int .i64 s.tm.tx,.int .i64 s.tm.root,.int .i64 s.tm.next,vr,up,ul,.int .i64 s.tk.next,uu,ug,uf,.int .i64 s.tr,.bool s.wr,.bool s.fl]:=⟨_,rfl⟩;obtain ⟨fc,hfc⟩:∃fc:Array Value,fc= #[.func (.func 21) #[] #[],.func (.func 22) #[] #[],.func (.func 23) #[] #[],.func (.func 24) #[] #[]]:=⟨_,rfl⟩;obtain ⟨w0,hw0⟩:∃w0,w0=(w.alloc (Obj.cells fc 69)).alloc (Obj.cells cs 51):=⟨_,rfl⟩
 have hb0:Below w.heap.size w w0:=by rw [hw0];exact ((Below.refl w.heap.size w).alloc (Nat.le_refl _) _).alloc (by simp) _
 have hC:w0.heap[w.heap.size]?=some (Obj.cells fc 69):=by rw [hw0];exact (two_allocs w _ _).1
 have hV:w0.heap[w.heap.size+1]?=some (Obj.cells cs 51):=by rw [hw0];exact (two_allocs w _ _).2.1
 have hz0:w0.heap.size=w.heap.size+2:=by rw [hw0];simp
 have HX:Hid (∀wx,Below w0.heap.size w0 wx->(wx.cell? ⟨w.heap.size,0,none⟩=some (.func (.func 21) #[] #[])/\wx.cell? ⟨w.heap.size,1,none⟩=some (.func (.func 22) #[] #[])/\wx.cell? ⟨w.heap.size,2,none⟩=some (.func (.func 23) #[] #[])/\wx.cell? ⟨w.heap.size,3,none⟩=some (.func (.func 24) #[] #[]))/\wx.cell? ⟨w.heap.size+1,0,none⟩=some (.slice ap np cp)/\wx.cell? ⟨w.heap.size+1,1,none⟩=some (.slice al nl cl)/\wx.cell? ⟨w.heap.size+1,2,none⟩=some (.int .i64 mt)/\wx.cell? ⟨w.heap.size+1,3,none⟩=some (.int .i64 mr)/\wx.cell? ⟨w.heap.size+1,4,none⟩=some (.int .i64 mn)/\wx.cell? ⟨w.heap.size+1,5,none⟩=some (.slice xf nf cf)/\wx.cell? ⟨w.heap.size+1,6,none⟩=some (.slice a L cap)):=hide (fun wx hb=>by
  have h:=(hb.block (w.heap.size+1) (by omega)).trans hV
  have g:=(hb.block w.heap.size (by omega)).trans hC
  rw [hcs] at h;rw [hfc] at g;rw [e1,e2,e3]
  exact ⟨⟨(cell_at g 0).1,(cell_at g 1).1,(cell_at g 2).1,(cell_at g 3).1⟩,(cell_at h 0).1,(cell_at h 1).1,(cell_at h 2).1,(cell_at h 3).1,(cell_at h 4).1,(cell_at h 5).1,(cell_at h 6).1⟩)
 have HMo:=hide (fun wx h=>implMetaOk_any (.agg #[.int .i64 mt,.int .i64 mr,.int .i64 mn,.slice xf nf cf]) s.m hf hfs wx h)
 have HTr:=hide (fun r wx t h=>treeOk.implTreeOk_any s.ps s.ls hp hl hps hls ap al np nl cp cl r wx t h)
 have HPg:=hide (fun hok wx t h m=>implPagesRight_any s.ps s.ls hp hl hps hls s.m hok ap al np nl cp cl (.agg #[.int .i64 mt,.int .i64 mr,.int .i64 mn,.slice xf nf cf]) wx t h m)
 have HIx:=hide (fun wx t h=>implIndexRight_any s.ps s.ls hp hl hps hls ap al np nl cp cl mr wx t h)
 rw [both_pages _ (rdN_right2 s.ps s.ls)] at HPg;rw [both_all _ (rdN_right2 s.ps s.ls)] at HIx;have HD:=hide h1
 have HM:Hid (MetaAt w (.agg #[.int .i64 mt,.int .i64 mr,.int .i64 mn,.slice xf nf cf]) s.m):=hide (by rw [e1,e2,e3];exact h2)
 have HR:=hide h3;have HTb:=hide hTb;have HE:Hid (mt=s.m.tx/\mr=s.m.root/\mn=s.m.next/\L=s.rs.length):=hide ⟨e1,e2,e3,hL⟩;have HB0:=hide hb0
 obtain ⟨T,hT⟩:∃T,T=treeS fun q=>rdN (readD s.ps s.ls q):=⟨_,rfl⟩
 have HT2:Hid (∀r,treeI (fun q=>rdN (readD s.ps s.ls q)) r=T r):=hide (fun r=>by rw [hT,both_treeOk _ (rdN_right2 s.ps s.ls) r])
 rw [<-hT];rw [<-hcs,<-hfc];obtain ⟨⟨y0,y1,y2,y3⟩,x0,x1,x2,x3,x4,x5,x6⟩:=HX.out w0 (Below.refl _ _)
 have hl0:w.heap.size<w0.heap.size:=by omega
 have hl1:w.heap.size+1<w0.heap.size:=by omega
 clear hp hl hps hls hf hfs h1 h2 h3 hb0 hV hC hz0 e1 e2 e3 hL hT hcs hfc hTb hnp hnl hnf;go_enter Tryz.func25,Tryz.ntmps25;go_wp2_with fail;rw [<-hw0];clear hw0
 refine wp_scope_jumps 0 (fun a' w'=>(a'.tmps.size=60/\a'.defers= [])/\StTold s T (fun W H b=>b=true↔∀x,x∈W↔x∈H) false/\Below w.heap.size w w') (fun _ _=>0) rfl ?_ ?_
 rotate_left
 ·rintro ⟨T,df⟩ w' ⟨⟨hT,hdf⟩,hN,hb⟩
  dsimp only at hT hdf;subst hdf;go_wp2_with fail
  simp only [Exit.jump]
  go_ret
  exact ⟨false,by simp [hT],hN,hb⟩
 go_upto_region 1 with fail
 go_cut [5,6] from 9 (fun s5 s6 wr=>∃(gd gm:Nat),s5= .pointer (some ⟨gd,0,none⟩)/\s6= .pointer (some ⟨gm,0,none⟩)/\Hid (wr.heap[gd]?=some (Obj.cells #[.slice ap np cp,.slice al nl cl] 41)/\wr.heap[gm]?=some (Obj.cells #[.int .i64 mt,.int .i64 mr,.int .i64 mn,.slice xf nf cf] 44)/\Below w0.heap.size w0 wr))
 case first=>
  go_region
  all_goals go_wp2_with fail
  all_goals go_meet
  all_goals first | exact ⟨w0.heap.size+1,w0.heap.size,rfl,rfl,hide ⟨(two_allocs w0 _ _).2.1,(two_allocs w0 _ _).1,(((Below.refl _ _).alloc (Nat.le_refl _) _).alloc (by simp) _).drew⟩⟩ | exact ⟨w0.heap.size,w0.heap.size+1,rfl,rfl,hide ⟨(two_allocs w0 _ _).1,(two_allocs w0 _ _).2.1,(((Below.refl _ _).alloc (Nat.le_refl _) _).alloc (by simp) _).drew⟩⟩
 case rest=>
  obtain ⟨gd,gm,rfl,rfl,HG⟩:=hcut;clear x0 x1 x2 x3 x4 x5 x6 y0 y1 y2 y3
  have HY:Hid (∀wx,Below wc.heap.size wc wx->(wx.cell? ⟨w.heap.size,0,none⟩=some (.func (.func 21) #[] #[])/\wx.cell? ⟨w.heap.size,1,none⟩=some (.func (.func 22) #[] #[])/\wx.cell? ⟨w.heap.size,2,none⟩=some (.func (.func 23) #[] #[])/\wx.cell? ⟨w.heap.size,3,none⟩=some (.func (.func 24) #[] #[]))/\(wx.cell? ⟨gd,0,none⟩=some (.slice ap np cp)/\wx.cell? ⟨gd,1,none⟩=some (.slice al nl cl))/\(wx.cell? ⟨gm,0,none⟩=some (.int .i64 mt)/\wx.cell? ⟨gm,1,none⟩=some (.int .i64 mr)/\wx.cell? ⟨gm,2,none⟩=some (.int .i64 mn)/\wx.cell? ⟨gm,3,none⟩=some (.slice xf nf cf))/\wx.cell? ⟨w.heap.size+1,6,none⟩=some (.slice a L cap)):=hide (fun wx hb=>by
   obtain ⟨g1,g2,g3⟩:=HG.out;obtain ⟨hy,-,-,-,-,-,-,hx6⟩:=HX.out wx (g3.trans (hb.mono g3.size));have k1:=(hb.block gd (Array.getElem?_eq_some_iff.1 g1).1).trans g1;have k2:=(hb.block gm (Array.getElem?_eq_some_iff.1 g2).1).trans g2
   exact ⟨hy,⟨(cell_at k1 0).1,(cell_at k1 1).1⟩,⟨(cell_at k2 0).1,(cell_at k2 1).1,(cell_at k2 2).1,(cell_at k2 3).1⟩,hx6⟩)
  have HBc:Hid (Below w.heap.size w wc):=hide (HB0.out.trans (HG.out.2.2.mono HB0.out.size));obtain ⟨⟨y0,y1,y2,y3⟩,⟨x0,x1⟩,⟨m0,m1,m2,m3⟩,x6⟩:=HY.out wc (Below.refl _ _);clear hl0 hl1 HX HG
  cases hok:s.m.ok with
  | false=>
   have HO:=hide hok;rw [hok] at HMo;clear hok;go_wp2_with fail;clear y0 y1 y2 y3 x0 x1 x6 m0 m1 m2 m3;refine (HMo.out wc (meta_below HM.out HBc.out)).mono ?_;rintro e w1 ⟨rfl,hb1⟩;have HB1:Hid (Below w.heap.size w w1):=hide (HBc.out.trans (hb1.mono HBc.out.size));clear hb1;go_wp2_with fail;go_step3;exact ⟨rfl,⟨rfl,rfl⟩,Or.inl ⟨HO.out,rfl⟩,HB1.out⟩
  | true=>
   have HO:=hide hok;rw [hok] at HMo;have HPk:=hide (HPg.out hok);clear hok HPg;go_wp2_with fail;clear y0 y1 y2 y3 x0 x1 x6 m0 m1 m2 m3;refine (HMo.out wc (meta_below HM.out HBc.out)).mono ?_;rintro e w1 ⟨rfl,hb1⟩;have HA1:=hide hb1;have HB1:Hid (Below w.heap.size w w1):=hide (HBc.out.trans (hb1.mono HBc.out.size));obtain ⟨⟨y0,y1,y2,y3⟩,⟨x0,x1⟩,⟨m0,m1,m2,m3⟩,x6⟩:=HY.out w1 hb1;clear hb1;go_wp2_with fail;clear y0 y1 y2 y3 x0 x1 x6 m0 m1 m2 m3;refine (HTr.out mr w1 (sumTab_below HTb.out HB1.out) (disk_below HD.out HB1.out)).mono ?_;rintro e w2 ⟨rfl,hb2⟩;rw [HT2.out];have hA2:Below wc.heap.size wc w2:=HA1.out.trans (hb2.mono HA1.out.size);have HA2:=hide hA2;have HB2:Hid (Below w.heap.size w w2):=hide (HBc.out.trans (hA2.mono HBc.out.size));obtain ⟨⟨y0,y1,y2,y3⟩,⟨x0,x1⟩,⟨m0,m1,m2,m3⟩,x6⟩:=HY.out w2 hA2;clear hb2 hA2 HA1 HB1
   cases ht:T mr with
   | false=>
    have HTf:Hid (T s.m.root=false):=hide (by rw [<-HE.out.2.1];exact ht)
    clear ht;go_wp2_with fail;go_step3;exact ⟨rfl,⟨rfl,rfl⟩,Or.inr (Or.inl ⟨HO.out,HTf.out,rfl⟩),HB2.out⟩
   | true=>
    have HTf:Hid (T s.m.root=true):=hide (by rw [<-HE.out.2.1];exact ht)
    clear ht;go_wp2_with fail;clear y0 y1 y2 y3 x0 x1 x6 m0 m1 m2 m3;refine (HPk.out w2 (sumTab_below HTb.out HB2.out) (disk_below HD.out HB2.out) (meta_below HM.out HB2.out)).mono ?_;rintro e w3 ⟨p,rfl,hpt,hb3⟩;have HPt:=hide hpt;have hA3:Below wc.heap.size wc w3:=HA2.out.trans (hb3.mono HA2.out.size);have HA3:=hide hA3;have HB3:Hid (Below w.heap.size w w3):=hide (HBc.out.trans (hA3.mono HBc.out.size));obtain ⟨⟨y0,y1,y2,y3⟩,⟨x0,x1⟩,⟨m0,m1,m2,m3⟩,x6⟩:=HY.out w3 hA3;clear hb3 hA3 hpt HA2 HB2
    cases p with
    | false=>
     go_wp2_with fail;go_step3;exact ⟨rfl,⟨rfl,rfl⟩,Or.inr (Or.inr ⟨HO.out,HTf.out,false,HPt.out,Or.inl ⟨rfl,rfl⟩⟩),HB3.out⟩
    | true=>
     go_wp2_with fail;clear y0 y1 y2 y3 x0 x1 x6 m0 m1 m2 m3;refine (HIx.out w3 (sumTab_below HTb.out HB3.out) (disk_below HD.out HB3.out)).mono ?_;rintro e w4 ⟨i,rfl,hit,hb4⟩;have hA4:Below wc.heap.size wc w4:=HA3.out.trans (hb4.mono HA3.out.size);have HA4:=hide hA4;have HB4:Hid (Below w.heap.size w w4):=hide (HBc.out.trans (hA4.mono HBc.out.size));rw [HE.out.2.1] at hit
     have HFin:Hid (∀b,(i && s.rs.all fun r=>T r.2.root)=b->StTold s T (fun W H b=>b=true↔∀x,x∈W↔x∈H) b):=hide (fun b h=>Or.inr (Or.inr ⟨HO.out,HTf.out,true,HPt.out,Or.inr ⟨rfl,i,hit,h.symm⟩⟩))
     obtain ⟨⟨y0,y1,y2,y3⟩,⟨x0,x1⟩,⟨m0,m1,m2,m3⟩,x6⟩:=HY.out w4 hA4;clear hb4 hA4 hit HA3 HB3
     cases i with
     | false=>
      have HF:=hide (HFin.out false rfl);go_wp2_with fail;go_step3;exact ⟨rfl,⟨rfl,rfl⟩,HF.out,HB4.out⟩
     | true=>
      go_wp2_with fail;clear y0 y1 y2 y3 x0 x1 x6 m0 m1 m2 m3
      go_loopg [47] L (fun q iv wr=>∃j:Nat,j<=L/\q+j=L/\iv= .int .i64 (j:Int)/\Hid (∀(l:Nat) r,l<j->s.rs[l]?=some r->T r.2.root=true)/\Hid (Below wc.heap.size wc wr))
      case atStart=>exact ⟨0,Nat.zero_le _,by omega,rfl,hide (fun l r h=>by omega),HA4⟩
      case round=>
       clear HA4 HB4;obtain ⟨j,hj,hq,rfl,HAl,HA⟩:=hrel;have HQ:=hide hq;have HB:Hid (Below w.heap.size w wr):=hide (HBc.out.trans (HA.out.mono HBc.out.size));clear hq
       by_cases hlt:j<L
       ·obtain ⟨⟨id,m⟩,hrj⟩:∃r,s.rs[j]?=some r:=⟨s.rs[j]'(by rw [<-HE.out.2.2.2];exact hlt),List.getElem?_eq_getElem _⟩
        obtain ⟨b,off,u,rfl,hbb,⟨c0,c1,c2,c3,c4⟩,hfr⟩:=rds_get HR.out hrj;obtain ⟨uu2,cu2,rfl⟩:=frees_slice hfr
        have k0:=(HB.out.cell (by exact hbb)).trans c0
        have k1:=(HB.out.cell (by exact hbb)).trans c1
        have k2:=(HB.out.cell (by exact hbb)).trans c2
        have k3:=(HB.out.cell (by exact hbb)).trans c3
        have k4:=(HB.out.cell (by exact hbb)).trans c4
        obtain ⟨rr,hrr⟩:∃n,n=m.root:=⟨_,rfl⟩;rw [<-hrr] at k2;have HRj:=hide hrj;have HMr:=hide hrr;have hbw:b<wr.heap.size:=Nat.lt_of_lt_of_le hbb HB.out.size
        have hj0:(0:Int)<=(j:Int):=by omega
        have hj1:(j:Int)<(L:Int):=by omega
        have HTj:=hide (fun wx t h=>HTr.out rr wx t h)
        rw [HT2.out rr] at HTj;obtain ⟨G,hG⟩:∃G,G=wr.heap.size:=⟨_,rfl⟩;obtain ⟨wa,hwa⟩:∃wa,wa=wr.alloc (Obj.cells #[.int .i64 id,.int .i64 m.tx,.int .i64 rr,.int .i64 m.next,.slice uu2 m.fs.length cu2] 63):=⟨_,rfl⟩
        have hga:wa.heap[G]?=some (Obj.cells #[.int .i64 id,.int .i64 m.tx,.int .i64 rr,.int .i64 m.next,.slice uu2 m.fs.length cu2] 63):=by rw [hwa,hG];exact heap_alloc_new wr _
        have hba:Below wr.heap.size wr wa:=by rw [hwa];exact (Below.refl _ _).alloc (Nat.le_refl _) _
        have HAa:Hid (Below wc.heap.size wc wa):=hide (HA.out.trans (hba.mono HA.out.size));have HBa:Hid (Below w.heap.size w wa):=hide (HB.out.trans (hba.mono HB.out.size));obtain ⟨⟨-,y1,-,-⟩,⟨x0,x1⟩,-,-⟩:=HY.out wa HAa.out;have g2:=(cell_at hga 2).1;rw [hwa] at y1 x0 x1;rw [hwa,hG] at g2;clear hrj c0 c1 c2 c3 c4 hrr hga hba hfr HB HA;go_wp2_with fail;rw [<-hwa];clear hwa hG y1 x0 x1 g2 k0 k1 k2 k3 k4;refine (HTj.out wa (sumTab_below HTb.out HBa.out) (disk_below HD.out HBa.out)).mono ?_;rintro e w5 ⟨rfl,hb5⟩;have HA5:Hid (Below wc.heap.size wc w5):=hide (HAa.out.trans (hb5.mono HAa.out.size));have HB5:Hid (Below w.heap.size w w5):=hide (HBa.out.trans (hb5.mono HBa.out.size));clear hb5
        cases htr:T rr with
        | false=>
         have HF:=hide (HFin.out false (by rw [Bool.true_and];exact all_one HRj.out (by show T m.root=false;rw [<-HMr.out];exact htr)))
         clear htr;go_wp2_with fail;go_step3;exact ⟨rfl,⟨rfl,rfl⟩,HF.out,HB5.out⟩
        | true=>
         have HA2:Hid (∀(l:Nat) r,l<j+1->s.rs[l]?=some r->T r.2.root=true):=hide (fun l r hl hr=>by
          by_cases e:l=j
          ·subst e
           have:=HRj.out.symm.trans hr
           injection this with this
           subst this
           show T m.root=true
           rw [<-HMr.out];exact htr
          ·exact HAl.out l r (by omega) hr)
         clear htr HAl;go_wp2_with fail
         go_roundg (gk - 1)
         case measure=>have:=HQ.out;omega
         case rel=>exact ⟨j+1,by omega,by have:=HQ.out;omega,by go_num,HA2,HA5⟩
       ·have HF:=hide (HFin.out true (by rw [Bool.true_and];exact all_taken (fun l r h=>HAl.out l r (by have:=(List.getElem?_eq_some_iff.1 h).1;have:=HE.out.2.2.2;omega) h)))
        go_wp2_with fail
        simp only [Exit.jump]
        go_ret;exact ⟨true,rfl,HF.out,HB.out⟩
theorem Tryz.sizeStR:(Tryz.prog.info? 51).map (·.size)=some 20:=by kernel_rfl
theorem implStoreRight_any (v:Value) (s:St) (hs:s.small) (w:World) (hTb:SumTab w) (hd:StAt w v s):
  Calls Tryz.prog 7 #[v] w fun e w'=>∃b,e= .returned (.bool b)/\StTold s (treeS fun q=>rdN (readD s.ps s.ls q)) (fun W H b=>b=true↔∀x,x∈W↔x∈H) b/\Below w.heap.size w w':=by
 have HSt:=hide hd;obtain ⟨cs,rfl,hn⟩:=st_arr hd
 have HN:Hid ((Tryz.prog.info? 51).map (·.size)=some cs.size):=hide (by rw [hn];exact Tryz.sizeStR)
 have HH:=hide (fun wx t h=>implHold_any (.agg cs) s hs wx t h)
 obtain ⟨w0,hw0⟩:∃w0,w0=(w.alloc (Obj.cells cs 51)).alloc (Obj.cells #[.func (.func 21) #[] #[],.func (.func 22) #[] #[],.func (.func 23) #[] #[],.func (.func 24) #[] #[]] 69):=⟨_,rfl⟩
 have hb0:Below w.heap.size w w0:=by rw [hw0];exact ((Below.refl w.heap.size w).alloc (Nat.le_refl _) _).alloc (by simp) _
 have hq1:w0.heap[w.heap.size]?=some (Obj.cells cs 51):=by rw [hw0];exact (two_allocs w _ _).1
 have hq2:w0.heap[w.heap.size+1]?=some (Obj.cells #[.func (.func 21) #[] #[],.func (.func 22) #[] #[],.func (.func 23) #[] #[],.func (.func 24) #[] #[]] 69):=by rw [hw0];exact (two_allocs w _ _).2.1
 have HR0:Hid (w0.rangeAt w.heap.size 0 cs.toList):=hide (range_all hq1);have y0:=(cell_at hq2 0).1;have y1:=(cell_at hq2 1).1;have y2:=(cell_at hq2 2).1;have y3:=(cell_at hq2 3).1;have HB0:=hide hb0;have HTb:=hide hTb
 obtain ⟨Q,hQ⟩:∃Q:Bool->Prop,Q=StTold s (treeS fun q=>rdN (readD s.ps s.ls q)) (fun W H b=>b=true↔∀x,x∈W↔x∈H):=⟨_,rfl⟩
 rw [<-hQ] at HH⊢;clear hs hTb hd hn hb0 hq1 hq2 hQ;go_enter Tryz.func7,Tryz.ntmps7
 go_upto_region 2 with fail
 rw [<-hw0];clear hw0
 go_wp2_with ((with_reducible refine wpList_loadL ?_ 51 (.tmp 1) ?_ w.heap.size 0 ?_ cs HR0.out _ Tryz.underlying51 ?_ ?_ ?_);exact rfl;exact rfl;exact rfl;exact rfl;exact HN.out)
 refine (HH.out w0 (sumTab_below HTb.out HB0.out) (st_below HSt.out HB0.out)).mono ?_;rintro e w1 ⟨b,rfl,hb,hb1⟩;have HBf:=hide hb;have HB1:Hid (Below w.heap.size w w1):=hide (HB0.out.trans (hb1.mono HB0.out.size));clear hb hb1 y0 y1 y2 y3;go_wp2_with fail;go_ret;exact ⟨b,rfl,HBf.out,HB1.out⟩
end Go.Proofs.YtjmgdmdleamenaaGreatDoor
