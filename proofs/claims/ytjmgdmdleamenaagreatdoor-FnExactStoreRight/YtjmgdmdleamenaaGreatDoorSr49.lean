/-
  Facts and contracts that the law's own text rests on, by their texts' names: ImplMeta.
-/
import Derived.Test.YtjmgdmdleamenaaGreatDoorSr8
import Derived.Test.YtjmgdmdleamenaaGreatDoorSr7
import Derived.Test.YtjmgdmdleamenaaGreatDoorSr5
set_option maxHeartbeats 16000000
set_option maxRecDepth 100000
namespace Go.Proofs.YtjmgdmdleamenaaGreatDoor
open Go.RowKit
def TakenAt (w:World) (g:Nat) (seen:List Int):Prop:=∃cs:Array Value,w.heap[g]?=some (.cells cs 155 (0,0))/\cs.size=40/\∀i:Nat,i<40->cs[i]?=some (.bool (decide ((i:Int)∈seen)))
theorem taken_cell {w:World} {g:Nat} {seen:List Int} (h:TakenAt w g seen) {i:Nat} (hi:i<40):w.cell? ⟨g,i,none⟩=some (.bool (decide ((i:Int)∈seen)))/\w.frozen? ⟨g,i,none⟩=false:=by
 obtain ⟨cs,h1,h2,h3⟩:=h;have:=cell_at h1 i;rw [h3 i hi] at this;exact this
theorem taken_set {w:World} {g:Nat} {seen:List Int} (h:TakenAt w g seen) {i:Nat} (hi:i<40):TakenAt (w.setCell ⟨g,i,none⟩ (.bool true)) g (seen++ [(i:Int)]):=by
 obtain ⟨cs,h1,h2,h3⟩:=h
 refine ⟨_,heap_setCell_same w g i _ _ _ h1,by simp [h2],fun j hj=> ?_⟩
 by_cases e:i=j
 ·subst e
  simp [h2,hi]
 ·simp only [Array.getElem?_setIfInBounds_ne e]
  rw [h3 j hj]
  congr 2
  simp
  omega
theorem taken_block {w w':World} {g:Nat} {seen:List Int} (h:TakenAt w g seen) (e:w'.heap[g]?=w.heap[g]?):TakenAt w' g seen:=by
 obtain ⟨cs,h1,h2,h3⟩:=h;exact ⟨cs,e.trans h1,h2,h3⟩
theorem taken_start (w:World) (g:Nat) (hg:g=w.heap.size) (root:Int) (h0:0<=root) (h1:root<40):TakenAt (w.alloc (.cells ((List.replicate 40 (Value.bool false)).set root.toNat (.bool true)).toArray 155 (0,0))) g [root]:=by
 subst hg
 refine ⟨_,heap_alloc_new w _,by simp,fun i hi=> ?_⟩
 rw [List.getElem?_toArray]
 by_cases e:root.toNat=i
 ·rw [e,List.getElem?_set_self (by simpa using hi)]
  simp
  omega
 ·rw [List.getElem?_set_ne e,List.getElem?_replicate,if_pos hi]
  congr 2
  simp
  omega
theorem meta_cells (w:World) (tx root next:Int) (vf:Value) (t:TypeId):∀wx,Below (w.alloc (Obj.cells #[.int .i64 tx,.int .i64 root,.int .i64 next,vf] t)).heap.size (w.alloc (Obj.cells #[.int .i64 tx,.int .i64 root,.int .i64 next,vf] t)) wx->
  wx.cell? ⟨w.heap.size,0,none⟩=some (.int .i64 tx)/\wx.cell? ⟨w.heap.size,1,none⟩=some (.int .i64 root)/\wx.cell? ⟨w.heap.size,2,none⟩=some (.int .i64 next)/\wx.cell? ⟨w.heap.size,3,none⟩=some vf:=fun wx hb=>by
 have hblk:=heap_alloc_new w (Obj.cells #[.int .i64 tx,.int .i64 root,.int .i64 next,vf] t);have hq:=(hb.block _ (Array.getElem?_eq_some_iff.1 hblk).1).trans hblk;exact ⟨(cell_at hq 0).1,(cell_at hq 1).1,(cell_at hq 2).1,(cell_at hq 3).1⟩
theorem freesOk_any (tx root next:Int) (fs:List (Int×List Int)) (hl:fs.length<=1048576) (hs:∀f∈fs,f.2.length<=1048576) (hr0:0<=root) (hr1:root<40) (hn:next<=40) (vf:Value) (w:World) (hd:FreesAt w vf fs):
  Calls Tryz.prog 50 #[.agg #[.int .i64 tx,.int .i64 root,.int .i64 next,vf]] w fun e w'=>e= .returned (.bool (decide (fs.length<=20) && freesB tx next [root] 0 fs))/\Below w.heap.size w w':=by
 obtain ⟨pa,pc,rfl⟩:=frees_slice hd;obtain ⟨L,hL⟩:∃L,L=fs.length:=⟨_,rfl⟩;rw [<-hL] at hl⊢;have HVar:=hide (meta_cells w tx root next (.slice pa L pc) 44);obtain ⟨w0,hw0⟩:∃w0,w0=w.alloc (Obj.cells #[.int .i64 tx,.int .i64 root,.int .i64 next,.slice pa L pc] 44):=⟨_,rfl⟩;rw [<-hw0] at HVar
 have hb0:Below w.heap.size w w0:=by rw [hw0];exact (Below.refl w.heap.size w).alloc (Nat.le_refl _) _
 have hs0:w0.heap.size=w.heap.size+1:=by rw [hw0];simp
 obtain ⟨c0,c1,c2,c3⟩:=HVar.out w0 (Below.refl _ _);have HF:=hide (frees_below hd hb0);rw [<-hL] at HF;have HB0:=hide hb0;have HS:=hide hs;have HL:=hide hL;have HS0:=hide hs0;clear hd hb0 hs hL hs0
 by_cases h4:L<=20
 ·rw [decide_eq_true h4,Bool.true_and]
  have d4:decide ((20:Int)<(L:Int))=false:=decide_eq_false (by omega)
  obtain ⟨ok,hok⟩:∃ok,ok=freesB tx next [root] 0 fs:=⟨_,rfl⟩;rw [<-hok];have HO:=hide hok;clear hok;go_enter Tryz.func50,Tryz.ntmps50;go_wp2_with fail;rw [<-hw0];clear hw0 c0 c1 c2 c3
  go_loopg [4,19] L (fun q lv iv wr=>∃(k:Nat) (seen:List Int) (last:Int),k<=L/\lv= .int .i64 last/\iv= .int .i64 (k:Int)/\q+k=L/\Hid (TakenAt wr (w.heap.size+1) seen)/\Hid (MSt tx root next fs k seen last)/\Hid (Below w0.heap.size w0 wr))
  case atStart=>exact ⟨0,[root],0,Nat.zero_le _,rfl,rfl,by omega,hide (taken_start w0 _ HS0.out.symm root hr0 hr1),hide (mst_start tx root next fs),hide ((Below.refl _ _).alloc (Nat.le_refl _) _)⟩
  case round=>
   obtain ⟨k,seen0,last,hk,rfl,rfl,hg,HTk,HM,HB⟩:=hrel;have HG:=hide hg;clear hg;obtain ⟨gq,hgq⟩:∃gq,gq=gk:=⟨_,rfl⟩;have HGQ:=hide hgq;clear hgq
   by_cases hlt:k<L
   ·obtain ⟨ftx,ps,hf⟩:∃ftx ps,fs[k]?=some (ftx,ps):=⟨_,_,List.getElem?_eq_getElem (by rw [<-HL.out];exact hlt)⟩
    obtain ⟨b,off,x,c,rfl,hbl0,hc00,hc10,hrow⟩:=frees_at HF.out hf
    have hc0:=(HB.out.cell (by exact hbl0)).trans hc00
    have hc1:=(HB.out.cell (by exact hbl0)).trans hc10
    clear hc00 hc10;obtain ⟨n,hn'⟩:∃n,n=ps.length:=⟨_,rfl⟩
    have hnl:n<=1048576:=by rw [hn'];exact HS.out _ (List.mem_of_getElem? hf)
    have HRow:=hide hrow;rw [<-hn'] at hc1 HRow;have HF1:=hide hf;have HN:=hide hn'
    have hk0:(0:Int)<=(k:Int):=by omega
    have hk1:(k:Int)<(L:Int):=by omega
    obtain ⟨w1,hw1⟩:∃w1,w1=wr.alloc (Obj.cells #[.int .i64 ftx,.slice x n c] 83):=⟨_,rfl⟩
    have HB1:Hid (Below w0.heap.size w0 w1):=hide (by rw [hw1];exact HB.out.alloc HB.out.size _)
    have HBl:Hid (w1.heap[wr.heap.size]?=some (Obj.cells #[.int .i64 ftx,.slice x n c] 83)):=hide (by rw [hw1];exact heap_alloc_new wr _)
    have HK1:Hid (Below wr.heap.size wr w1):=hide (by rw [hw1];exact (Below.refl wr.heap.size wr).alloc (Nat.le_refl _) _)
    have HSz:Hid (w.heap.size+1<wr.heap.size):=hide (by obtain ⟨cs,h1,-⟩:=HTk.out;exact (Array.getElem?_eq_some_iff.1 h1).1)
    obtain ⟨p0,p1,p2,p3⟩:=HVar.out w1 HB1.out;rw [hw1] at p0 p1 p2 p3
    have HMB:Hid (¬(last<ftx/\ftx<=tx/\1<=n/\n<=40)->freesB tx next [root] 0 fs=false):=hide (fun h=>mst_bad HM.out HF1.out (by rw [<-HN.out];exact h))
    clear hf hrow hn'
    by_cases hA:ftx<=last
    ·have HT:=hide (HMB.out (by omega))
     have dA:decide (ftx<=last)=true:=decide_eq_true hA;clear hA;go_wp2_with fail;go_ret;rw [HO.out,HT.out,<-hw1];exact ⟨rfl,HB0.out.trans (HB1.out.mono HB0.out.size)⟩
    ·have dA:decide (ftx<=last)=false:=decide_eq_false hA
     by_cases hB:tx<ftx
     ·have HT:=hide (HMB.out (by omega))
      have dB:decide (tx<ftx)=true:=decide_eq_true hB;clear hA hB;go_wp2_with fail;go_ret;rw [HO.out,HT.out,<-hw1];exact ⟨rfl,HB0.out.trans (HB1.out.mono HB0.out.size)⟩
     ·have dB:decide (tx<ftx)=false:=decide_eq_false hB
      by_cases hC:n<1
      ·have HT:=hide (HMB.out (by omega))
       have dC:decide ((n:Int)<1)=true:=decide_eq_true (by omega)
       clear hA hB;go_wp2_with fail;go_ret;rw [HO.out,HT.out,<-hw1];exact ⟨rfl,HB0.out.trans (HB1.out.mono HB0.out.size)⟩
      ·have dC:decide ((n:Int)<1)=false:=decide_eq_false (by omega)
       by_cases hD:40<n
       ·have HT:=hide (HMB.out (by omega))
        have dD:decide ((40:Int)<(n:Int))=true:=decide_eq_true (by omega)
        clear hA hB;go_wp2_with fail;go_ret;rw [HO.out,HT.out,<-hw1];exact ⟨rfl,HB0.out.trans (HB1.out.mono HB0.out.size)⟩
       ·have dD:decide ((40:Int)<(n:Int))=false:=decide_eq_false (by omega)
        have HGood:Hid (last<ftx/\ftx<=tx/\1<=ps.length/\ps.length<=40):=hide (by have:=HN.out;omega)
        clear hA hB hC;go_wp2_with fail;rw [<-hw1];clear hw1;have HC4:Hid (PSt next seen0 ps 0 seen0 1):=hide (pst_start next seen0 ps)
        have HTk1:Hid (TakenAt w1 (w.heap.size+1) seen0):=hide (taken_block HTk.out (HK1.out.block _ (Nat.lt_of_lt_of_le (by have:=HS0.out;have:=HSz.out;omega) (Nat.le_refl _))))
        obtain ⟨gf,hgf⟩:∃gf,gf=wr.heap.size:=⟨_,rfl⟩;rw [<-hgf]
        have HFb:Hid (w1.heap[gf]?=some (Obj.cells #[.int .i64 ftx,.slice x n c] 83)):=hide (by rw [hgf];exact HBl.out)
        have HGt:Hid (w.heap.size+1<gf):=hide (by rw [hgf];exact HSz.out)
        clear hgf HBl HK1 hc0 hc1 p0 p1 p2 p3 dA dB dC dD HB
        go_loopg [51] n (fun q jv wi=>∃(j:Nat) (seen:List Int) (prev:Int),j<=n/\jv= .int .i64 (j:Int)/\q+j=n/\Hid (TakenAt wi (w.heap.size+1) seen)/\Hid (PSt next seen0 ps j seen prev)/\Hid (Below w0.heap.size w0 wi)/\Hid (wi.heap[gf]?=some (Obj.cells #[.int .i64 ftx,.slice x n c] 83)))
        case atStart=>exact ⟨0,seen0,1,Nat.zero_le _,rfl,by omega,HTk1,HC4,HB1,HFb⟩
        case round=>
         clear HFb HTk1 HC4 HB1;obtain ⟨j,seen,prev,hj,rfl,hg2,HTk2,HP,HB2,HFb2⟩:=hrel;have HG2:=hide hg2;clear hg2;obtain ⟨p0,p1,p2,p3⟩:=HVar.out wr HB2.out;have f1:wr.cell? ⟨gf,1,none⟩=some (.slice x n c):=(cell_at HFb2.out 1).1
         by_cases hjn:j<n
         ·obtain ⟨p,hp⟩:∃p,ps[j]?=some p:=⟨_,List.getElem?_eq_getElem (by have:=HN.out;omega)⟩
          obtain ⟨-,a1,cp1,e1,h0 | ⟨bp,op,e0,hbp,hcp⟩⟩:=HRow.out
          ·omega
          injection e1 with e11 _ e12
          subst e11 e12;subst e0
          have HPc:Hid (∀wx,Below w0.heap.size w0 wx->∀t z,ps[t]?=some z->wx.cell? ⟨bp,op+t,none⟩=some (.int .i64 z)):=hide (fun wx hb t z hz=>by
           obtain ⟨ht,e⟩:=List.getElem?_eq_some_iff.1 hz
           rw [hb.cell (by exact hbp),hcp t (by have:=HN.out;omega),ints_at ps t ht,e])
          have hpc:wr.cell? ⟨bp,op+j,none⟩=some (.int .i64 p):=HPc.out wr HB2.out j p hp;have HPj:=hide hp
          have hj0:(0:Int)<=(j:Int):=by omega
          have hj1:(j:Int)<(n:Int):=by omega
          have HBad:Hid (¬(2<=p/\p<next/\prev<p/\p∉seen)->freesB tx next [root] 0 fs=false):=hide (fun h=>mst_none HM.out HF1.out (pst_bad HP.out HPj.out h))
          have hpv0:j=0->prev=1:=HP.out.2.2.1;have hpv1:0<j->prev∈seen:=HP.out.2.2.2.2.1;clear hcp hp
          by_cases hA:p<2
          ·have HT:=hide (HBad.out (by omega))
           have eA:decide (p<2)=true:=decide_eq_true hA;clear hA hpv0 hpv1;go_wp2_with fail;go_ret;rw [HO.out,HT.out];exact ⟨rfl,HB0.out.trans (HB2.out.mono HB0.out.size)⟩
          ·have eA:decide (p<2)=false:=decide_eq_false hA
           by_cases hB:next<=p
           ·have HT:=hide (HBad.out (by omega))
            have eB:decide (next<=p)=true:=decide_eq_true hB;clear hA hB hpv0 hpv1;go_wp2_with fail;go_ret;rw [HO.out,HT.out];exact ⟨rfl,HB0.out.trans (HB2.out.mono HB0.out.size)⟩
           ·have eB:decide (next<=p)=false:=decide_eq_false hB
            have hpn:((p.toNat:Nat):Int)=p:=by omega
            have hpl:p.toNat<40:=by omega
            obtain ⟨tc,tf⟩:=taken_cell HTk2.out hpl;rw [hpn] at tc
            have hp0:(0:Int)<=p:=by omega
            have hp40:p<40:=by omega
            cases hin:decide (p∈seen) with
            | true=>
             rw [hin] at tc
             have HT:=hide (HBad.out (fun h=>h.2.2.2 (of_decide_eq_true hin)))
             clear hin hpv0 hpv1 hA hB hpn;go_wp2_with fail;go_ret;rw [HO.out,HT.out];exact ⟨rfl,HB0.out.trans (HB2.out.mono HB0.out.size)⟩
            | false=>
             rw [hin] at tc
             by_cases hD:0<j/\p<prev
             ·have HT:=hide (HBad.out (by omega))
              have hpos:=hD.1;have eD:decide (p<prev)=true:=decide_eq_true hD.2
              have hpx:ps[j - 1]?=some prev:=by
               obtain ⟨px,hpx⟩:∃px,ps[j - 1]?=some px:=⟨_,List.getElem?_eq_getElem (by have:=HN.out;omega)⟩
               rw [hpx,HP.out.2.2.2.1 px hpos hpx]
              have hpx1:wr.cell? ⟨bp,op+(j - 1),none⟩=some (.int .i64 prev):=HPc.out wr HB2.out (j - 1) prev hpx
              have hpx2:wr.cell? ⟨bp,op+((j:Int) - 1).toNat,none⟩=some (.int .i64 prev):=by rw [show ((j:Int) - 1).toNat=j - 1 from by omega];exact hpx1
              have hwj:IntKind.i64.wrap ((j:Int) - 1)=(j:Int) - 1:=IntWalk.i64_in _ ⟨by omega,by omega⟩
              have hwk:wrap64 ((j:Int) - 1)=(j:Int) - 1:=wrap64_small _ (by omega) (by omega)
              have hq0:(0:Int)<=(j:Int) - 1:=by omega
              have hq1:(j:Int) - 1<(n:Int):=by omega
              have hq2:(1:Int)<=(j:Int):=by omega
              have hq3:(j:Int)<(n:Int)+1:=by omega
              have hq4:(j:Int)<=(n:Int):=by omega
              have hq5:1<=j:=by omega
              have dk:decide ((0:Int)<(j:Int))=true:=decide_eq_true (by omega)
              have dkn:decide (0<j)=true:=decide_eq_true hpos;clear hpx;clear hin hpv0 hpv1 hA hB hD hpn;go_wp2_with fail;go_ret;rw [HO.out,HT.out];exact ⟨rfl,HB0.out.trans (HB2.out.mono HB0.out.size)⟩
             ·have HGd:Hid (2<=p/\p<next/\prev<p/\p∉seen):=hide (by
               have hni:=of_decide_eq_false hin
               refine ⟨by omega,by omega,?_,hni⟩
               by_cases hj9:0<j
               ·have:prev≠p:=fun e=>hni (e▸hpv1 hj9)
                omega
               ·have:=hpv0 (by omega)
                omega)
              have HP3:=hide (pst_next HP.out HPj.out HGd.out)
              have HTk3:Hid (TakenAt (wr.setCell ⟨w.heap.size+1,p.toNat,none⟩ (.bool true)) (w.heap.size+1) (seen++ [p])):=hide (by have:=taken_set HTk2.out hpl;rwa [hpn] at this)
              have HB3:Hid (Below w0.heap.size w0 (wr.setCell ⟨w.heap.size+1,p.toNat,none⟩ (.bool true))):=hide (HB2.out.setCell (by have:=HS0.out;exact Nat.le_of_eq this) _)
              have HFb3:Hid ((wr.setCell ⟨w.heap.size+1,p.toNat,none⟩ (.bool true)).heap[gf]?=some (Obj.cells #[.int .i64 ftx,.slice (some ⟨bp,op,none⟩) n c] 83)):=hide (blk_other HFb2.out (by have:=HGt.out;omega))
              by_cases hpos:0<j
              ·have eD:decide (p<prev)=false:=decide_eq_false (by omega)
               have hpx:ps[j - 1]?=some prev:=by
                obtain ⟨px,hpx⟩:∃px,ps[j - 1]?=some px:=⟨_,List.getElem?_eq_getElem (by have:=HN.out;omega)⟩
                rw [hpx,HP.out.2.2.2.1 px hpos hpx]
               have hpx1:wr.cell? ⟨bp,op+(j - 1),none⟩=some (.int .i64 prev):=HPc.out wr HB2.out (j - 1) prev hpx
               have hpx2:wr.cell? ⟨bp,op+((j:Int) - 1).toNat,none⟩=some (.int .i64 prev):=by rw [show ((j:Int) - 1).toNat=j - 1 from by omega];exact hpx1
               have hwj:IntKind.i64.wrap ((j:Int) - 1)=(j:Int) - 1:=IntWalk.i64_in _ ⟨by omega,by omega⟩
               have hwk:wrap64 ((j:Int) - 1)=(j:Int) - 1:=wrap64_small _ (by omega) (by omega)
               have hq0:(0:Int)<=(j:Int) - 1:=by omega
               have hq1:(j:Int) - 1<(n:Int):=by omega
               have hq2:(1:Int)<=(j:Int):=by omega
               have hq3:(j:Int)<(n:Int)+1:=by omega
               have hq4:(j:Int)<=(n:Int):=by omega
               have hq5:1<=j:=by omega
               have dk:decide ((0:Int)<(j:Int))=true:=decide_eq_true (by omega)
               have dkn:decide (0<j)=true:=decide_eq_true hpos;clear hpx;clear hin hpv0 hpv1 hA hB hD hpn;go_wp2_with fail
               go_roundg (gk - 1)
               case measure=>have:=HG2.out;omega
               case rel=>exact ⟨j+1,seen++ [p],p,by omega,by go_num,by have:=HG2.out;omega,HTk3,HP3,HB3,HFb3⟩
              ·clear hin hpv0 hpv1
               have dk:decide ((0:Int)<(j:Int))=false:=decide_eq_false (by omega)
               have dkn:decide (0<j)=false:=decide_eq_false (by omega)
               clear hA hB hD hpn hpos;go_wp2_with fail
               go_roundg (gk - 1)
               case measure=>have:=HG2.out;omega
               case rel=>exact ⟨j+1,seen++ [p],p,by omega,by go_num,by have:=HG2.out;omega,HTk3,HP3,HB3,HFb3⟩
         ·have hjl:j=ps.length:=by have:=HN.out;omega
          have HM2:=hide (mst_next HM.out HF1.out HGood.out (by rw [<-hjl];exact HP.out))
          clear hjl;go_wp2_with fail
          go_roundg (gq - 1)
          case measure=>have h1:=HGQ.out;have h2:=HG.out;omega
          case rel=>exact ⟨k+1,seen,ftx,by omega,rfl,by go_num,by have h1:=HGQ.out;have h2:=HG.out;omega,HTk2,HM2,HB2⟩
   ·have HT:=hide (mst_end HM.out (by rw [<-HL.out];omega))
    go_wp2_with fail;go_ret;rw [HO.out,HT.out];exact ⟨rfl,HB0.out.trans (HB.out.mono HB0.out.size)⟩
 ·rw [decide_eq_false h4,Bool.false_and]
  have d4:decide ((20:Int)<(L:Int))=true:=decide_eq_true (by omega)
  clear h4;go_enter Tryz.func50,Tryz.ntmps50;go_wp2_with fail;go_ret;rw [<-hw0];exact ⟨rfl,HB0.out⟩
theorem implMetaOk_any (v:Value) (m:Mt) (hl:m.fs.length<=1048576) (hs:∀f∈m.fs,f.2.length<=1048576) (w:World) (hd:MetaAt w v m):
  Calls Tryz.prog 21 #[v] w fun e w'=>e= .returned (.bool m.ok)/\Below w.heap.size w w':=by
 obtain ⟨vf,rfl,hr⟩:=hd;obtain ⟨tx,root,next,fs⟩:=m;dsimp only at hr hl hs⊢;have HDef:Hid (Mt.ok ⟨tx,root,next,fs⟩=(headOkB tx root next fs.length && freesB tx next [root] 0 fs)):=hide rfl;obtain ⟨mk,hmk⟩:∃mk,mk=Mt.ok ⟨tx,root,next,fs⟩:=⟨_,rfl⟩;rw [<-hmk] at HDef⊢;clear hmk;obtain ⟨w0,hw0⟩:∃w0,w0=w.alloc (Obj.cells #[.int .i64 tx,.int .i64 root,.int .i64 next,vf] 44):=⟨_,rfl⟩
 have hb0:Below w.heap.size w w0:=by rw [hw0];exact (Below.refl w.heap.size w).alloc (Nat.le_refl _) _
 have HF:=hide (frees_below hr hb0);have HB0:=hide hb0;clear hr hb0
 have HBad:Hid (¬(0<=tx/\tx<=100000/\2<=next/\next<=40/\(root=0\/2<=root/\root<next))->mk=false):=hide (fun h=>by
  rw [HDef.out,headOkB,decide_eq_false (fun e=>h ⟨e.1,e.2.1,e.2.2.1,e.2.2.2.1,e.2.2.2.2.1⟩)];rfl)
 by_cases hA:tx<0
 ·have dA:decide (tx<0)=true:=decide_eq_true hA
  have HO:=hide (HBad.out (by omega))
  clear hA;go_enter Tryz.func21,Tryz.ntmps21;go_wp2_with fail;go_ret;rw [HO.out,<-hw0];exact ⟨rfl,HB0.out⟩
 ·have dA:decide (tx<0)=false:=decide_eq_false hA
  by_cases hB:100000<tx
  ·have dB:decide (100000<tx)=true:=decide_eq_true hB
   have HO:=hide (HBad.out (by omega))
   clear hA hB;go_enter Tryz.func21,Tryz.ntmps21;go_wp2_with fail;go_ret;rw [HO.out,<-hw0];exact ⟨rfl,HB0.out⟩
  ·have dB:decide (100000<tx)=false:=decide_eq_false hB
   by_cases hC:next<2
   ·have dC:decide (next<2)=true:=decide_eq_true hC
    have HO:=hide (HBad.out (by omega))
    clear hA hB hC;go_enter Tryz.func21,Tryz.ntmps21;go_wp2_with fail;go_ret;rw [HO.out,<-hw0];exact ⟨rfl,HB0.out⟩
   ·have dC:decide (next<2)=false:=decide_eq_false hC
    by_cases hD:40<next
    ·have dD:decide (40<next)=true:=decide_eq_true hD
     have HO:=hide (HBad.out (by omega))
     clear hA hB hC hD;go_enter Tryz.func21,Tryz.ntmps21;go_wp2_with fail;go_ret;rw [HO.out,<-hw0];exact ⟨rfl,HB0.out⟩
    ·have dD:decide (40<next)=false:=decide_eq_false hD
     by_cases hE:root=0
     ·have dE:(root !=0)=false:=by simp [hE]
      have HO:Hid (mk=(decide (fs.length<=20) && freesB tx next [root] 0 fs)):=hide (by
       rw [HDef.out,headOkB]
       congr 1
       rw [decide_eq_decide]
       exact ⟨fun h=>h.2.2.2.2.2,fun h=>⟨by omega,by omega,by omega,by omega,Or.inl hE,h⟩⟩)
      have HC:=hide (fun wx h=>freesOk_any tx root next fs hl hs (by omega) (by omega) (by omega) vf wx h)
      obtain ⟨ok,hok⟩:∃ok,ok=(decide (fs.length<=20) && freesB tx next [root] 0 fs):=⟨_,rfl⟩;rw [<-hok] at HO HC;clear hA hB hC hD hE hok hl hs;go_enter Tryz.func21,Tryz.ntmps21;go_wp2_with fail;rw [<-hw0];clear hw0;refine (HC.out _ HF.out).mono ?_;rintro e w1 ⟨rfl,hb1⟩;have HB1:=hide (HB0.out.trans (hb1.mono HB0.out.size));clear hb1;go_wp2_with fail;go_ret;rw [HO.out];exact ⟨rfl,HB1.out⟩
     ·have dE:(root !=0)=true:=by simp [hE]
      by_cases hG:root<2
      ·have dG:decide (root<2)=true:=decide_eq_true hG
       have HO:=hide (HBad.out (by omega))
       clear hA hB hC hD hE hG;go_enter Tryz.func21,Tryz.ntmps21;go_wp2_with fail;go_ret;rw [HO.out,<-hw0];exact ⟨rfl,HB0.out⟩
      ·have dG:decide (root<2)=false:=decide_eq_false hG
       by_cases hH:next<=root
       ·have dH:decide (next<=root)=true:=decide_eq_true hH
        have HO:=hide (HBad.out (by omega))
        clear hA hB hC hD hE hG hH;go_enter Tryz.func21,Tryz.ntmps21;go_wp2_with fail;go_ret;rw [HO.out,<-hw0];exact ⟨rfl,HB0.out⟩
       ·have dH:decide (next<=root)=false:=decide_eq_false hH
        have HO:Hid (mk=(decide (fs.length<=20) && freesB tx next [root] 0 fs)):=hide (by
         rw [HDef.out,headOkB]
         congr 1
         rw [decide_eq_decide]
         exact ⟨fun h=>h.2.2.2.2.2,fun h=>⟨by omega,by omega,by omega,by omega,Or.inr (by omega),h⟩⟩)
        have HC:=hide (fun wx h=>freesOk_any tx root next fs hl hs (by omega) (by omega) (by omega) vf wx h)
        obtain ⟨ok,hok⟩:∃ok,ok=(decide (fs.length<=20) && freesB tx next [root] 0 fs):=⟨_,rfl⟩;rw [<-hok] at HO HC;clear hA hB hC hD hE hG hH hok hl hs;go_enter Tryz.func21,Tryz.ntmps21;go_wp2_with fail;rw [<-hw0];clear hw0;refine (HC.out _ HF.out).mono ?_;rintro e w1 ⟨rfl,hb1⟩;have HB1:=hide (HB0.out.trans (hb1.mono HB0.out.size));clear hb1;go_wp2_with fail;go_ret;rw [HO.out];exact ⟨rfl,HB1.out⟩
end Go.Proofs.YtjmgdmdleamenaaGreatDoor
