/-
  Facts and contracts that the law's own text rests on, by their texts' names: ImplDiskN.
-/
import Derived.Test.YtcbogiebfbbmbaaGreatDoorDa7
import Derived.Test.YtcbogiebfbbmbaaGreatDoorDa1
import Derived.Test.YtcbogiebfbbmbaaGreatDoorDa5
set_option maxHeartbeats 16000000
set_option maxRecDepth 100000
namespace Go.Proofs.YtcbogiebfbbmbaaGreatDoor
open Go.RowKit
theorem ze9 (a:Option Addr) (n cap:Nat) (vl:Value) (page:Int) (w:World):
  Calls Tryz.prog 79 #[.agg #[.slice a n cap,vl],.int .i64 page] w fun e w'=>e= .returned (.bool (decide (0<=page/\page<(n:Int))))/\Below w.heap.size w w':=by
 have HB:Hid (∀o,Below w.heap.size w (w.alloc o)):=hide (fun o=>(Below.refl w.heap.size w).alloc (Nat.le_refl _) _)
 by_cases h0:0<=page
 ·by_cases h1:page<(n:Int)
  ·rw [decide_eq_true (show 0<=page/\page<(n:Int) from ⟨h0,h1⟩)]
   have h2:decide (0<=page)=true:=decide_eq_true h0;have h3:decide (page<(n:Int))=true:=decide_eq_true h1;go_enter Tryz.func79,Tryz.ntmps79
   go_wp2
   go_ret;exact ⟨rfl,HB.out _⟩
  ·rw [decide_eq_false (show ¬(0<=page/\page<(n:Int)) from fun h=>h1 h.2)]
   have h2:decide (0<=page)=true:=decide_eq_true h0;have h3:decide (page<(n:Int))=false:=decide_eq_false h1;go_enter Tryz.func79,Tryz.ntmps79
   go_wp2
   go_ret;exact ⟨rfl,HB.out _⟩
 ·rw [decide_eq_false (show ¬(0<=page/\page<(n:Int)) from fun h=>h0 h.1)]
  have h2:decide (0<=page)=false:=decide_eq_false h0;go_enter Tryz.func79,Tryz.ntmps79
  go_wp2
  go_ret;exact ⟨rfl,HB.out _⟩
theorem zbY (v:Value) (ps:List ByteArray) (ls:List (Int×ByteArray)) (_hp:ps.length<=1048576) (hl:ls.length<=1048576) (hps:∀s∈ps,s.size<=1048576) (hls:∀p∈ls,p.2.size<=1048576) (page:Int) (w:World) (hd:DiskAt w v ps ls):
  Calls Tryz.prog 56 #[v,.int .i64 page] w fun e w'=>e= .returned (.string (readD ps ls page))/\Below w.heap.size w w':=by
 obtain ⟨vp,vl,rfl,h1,h2⟩:=hd
 obtain ⟨x1,c1,rfl⟩:∃a cap,vp= .slice a ps.length cap:=by obtain ⟨-,a,cap,e,-⟩:=h1;exact ⟨a,cap,e⟩
 obtain ⟨x2,c2,rfl⟩:∃a cap,vl= .slice a ls.length cap:=by obtain ⟨-,a,cap,e,-⟩:=h2;exact ⟨a,cap,e⟩
 have H1:=hide h1;have H2:=hide h2;have HPs:=hide hps;have HLs:=hide hls;clear h1 h2 hps hls;have HC:=hide (ze9 x1 ps.length c1 (.slice x2 ls.length c2) page);obtain ⟨w0,hw0⟩:∃w0,w0=w.alloc (Obj.cells #[.slice x1 ps.length c1,.slice x2 ls.length c2] 29):=⟨_,rfl⟩
 have hb0:Below w.heap.size w w0:=by rw [hw0];exact (Below.refl w.heap.size w).alloc (Nat.le_refl _) _
 have hblk:w0.heap[w.heap.size]?=some (Obj.cells #[.slice x1 ps.length c1,.slice x2 ls.length c2] 29):=by rw [hw0];exact heap_alloc_new w _
 have HB0:=hide hb0;have HBk:=hide hblk;clear hb0 hblk
 by_cases hin:0<=page/\page<(ps.length:Int)
 ·rw [decide_eq_true hin] at HC
  go_enter Tryz.func56,Tryz.ntmps56;go_wp2_with fail;rw [<-hw0];clear hw0;refine (HC.out _).mono ?_;rintro e w1 ⟨rfl,hb1⟩;have hblk1:w1.heap[w.heap.size]?=some (Obj.cells #[.slice x1 ps.length c1,.slice x2 ls.length c2] 29):=(hb1.block _ (Array.getElem?_eq_some_iff.1 HBk.out).1).trans HBk.out;have HB1:Hid (Below w.heap.size w w1):=hide (HB0.out.trans (hb1.mono HB0.out.size));have cb0:w1.cell? ⟨w.heap.size,0,none⟩=some (.slice x1 ps.length c1):=(za0 hblk1 0).1;have cb1:w1.cell? ⟨w.heap.size,1,none⟩=some (.slice x2 ls.length c2):=(za0 hblk1 1).1;clear hb1 hblk1;go_wp2_with fail
  go_loopg [5] ls.length (fun q iv wr=>∃k:Nat,k<=ls.length/\iv= .int .i64 ((k:Int) - 1)/\q=k/\Hid (lateAt ls page ls.length=lateAt ls page k)/\w1=wr)
  case atStart=>exact ⟨ls.length,Nat.le_refl _,rfl,rfl,hide rfl,rfl⟩
  case round=>
   obtain ⟨k,hk,rfl,hgk,HL,rfl⟩:=hrel;have HGk:=hide hgk;clear hgk
   by_cases hk0:k=0
   ·subst hk0
    have HO:Hid (readD ps ls page=ps.getD page.toNat ⟨#[]⟩):=hide (zh6 (by omega) (by rw [HL.out];rfl))
    obtain ⟨n,hn⟩:=Int.eq_ofNat_of_zero_le hin.1
    have hnl:n<ps.length:=by omega
    obtain ⟨x,hx⟩:∃x,x=ps.getD page.toNat ⟨#[]⟩:=⟨_,rfl⟩
    rcases H1.out.2 with ⟨a,cap,e,h0 | ⟨b,off,e2,hbl,hc⟩⟩
    ·omega
    ·injection e with e1 e3 e4
     subst e1 e4;subst e2
     have hxe:x=ps[n]:=by rw [hx,hn];simp [List.getD,hnl]
     have hcell:w1.cell? ⟨b,off+n,none⟩=some (.string x):=by
      rw [HB1.out.cell (by exact hbl),hc n (by omega),zaP ps n hnl,hxe]
     have hxs:x.size<=1048576:=by rw [hxe];exact HPs.out _ (List.getElem_mem hnl)
     have HCl:=hide (zcj x (by omega))
     rw [<-hx] at HO;subst hn
     have hi0:(0:Int)<=(n:Int):=by omega
     have hi1:(n:Int)<(ps.length:Int):=by omega
     clear hx hc hxe;go_wp2_with fail;refine (HCl.out _).mono ?_;rintro e w2 ⟨rfl,hb2⟩;go_wp2_with fail;go_ret;rw [HO.out];exact ⟨rfl,HB1.out.trans (hb2.mono HB1.out.size)⟩
   ·obtain ⟨j,rfl⟩:∃j,k=j+1:=⟨k - 1,by omega⟩
    have hjl:j<ls.length:=by omega
    rcases H2.out.2 with ⟨a,cap,e,h0 | ⟨b,off,e2,hbl,hc⟩⟩
    ·omega
    ·injection e with e1 e3 e4
     subst e1 e4;subst e2;obtain ⟨q,t,hqt⟩:∃q t,(q,t)=ls[j]:=⟨_,_,rfl⟩
     have hget:ls[j]?=some (q,t):=by rw [List.getElem?_eq_getElem hjl,hqt]
     have hts:t.size<=1048576:=by have:=HLs.out _ (List.getElem_mem hjl);rw [<-hqt] at this;exact this
     have hc0:w1.cell? ⟨b,off+j * 2,none⟩=some (.int .i64 q):=by rw [HB1.out.cell (by exact hbl),hc (j * 2) (by omega),(zcy ls j hjl).1,<-hqt]
     have hc1:w1.cell? ⟨b,off+j * 2+1,none⟩=some (.string t):=by rw [HB1.out.cell (by exact hbl),Nat.add_assoc,hc (j * 2+1) (by omega),(zcy ls j hjl).2,<-hqt]
     have hi0:(0:Int)<=(j:Int):=by omega
     have hi1:(j:Int)<(ls.length:Int):=by omega
     have hij:((j+1:Nat):Int) - 1=(j:Int):=by omega
     rw [hij];have HGet:=hide hget;clear hc hqt hget hij
     by_cases hq:q=page
     ·subst hq
      have HO:Hid (readD ps ls q=t):=hide (zeV (by omega) (by rw [HL.out];exact zeU HGet.out))
      have HCl:=hide (zcj t (by omega))
      go_wp2_with fail;refine (HCl.out _).mono ?_;rintro e w2 ⟨rfl,hb2⟩;go_wp2_with fail;go_ret;rw [HO.out];exact ⟨rfl,HB1.out.trans (hb2.mono HB1.out.size)⟩
     ·have HL2:Hid (lateAt ls page ls.length=lateAt ls page j):=hide (by rw [HL.out];exact ze3 HGet.out hq)
      go_wp2_with fail
      go_roundg j
      case measure=>have:=HGk.out;omega
      case rel=>exact ⟨j,by omega,by go_num,rfl,HL2,rfl⟩
 ·rw [decide_eq_false hin] at HC
  have HO:Hid (readD ps ls page=⟨#[]⟩):=hide (zib (by omega))
  go_enter Tryz.func56,Tryz.ntmps56;go_wp2_with fail;rw [<-hw0];refine (HC.out _).mono ?_;rintro e w1 ⟨rfl,hb1⟩;clear hw0;go_wp2_with fail;go_ret;rw [HO.out];exact ⟨rfl,HB0.out.trans (hb1.mono HB0.out.size)⟩
theorem ziv {ps:List ByteArray} {ls:List (Int×ByteArray)} (h:¬(4<=ps.length/\ps.length<=40/\ls.length<=200)):diskOkB ps ls=false:=by
 rw [diskOkB,decide_eq_false h];simp
theorem zgX (v:Value) (ps:List ByteArray) (ls:List (Int×ByteArray)) (hp:ps.length<=1048576) (hl:ls.length<=1048576) (hps:∀s∈ps,s.size<=1048576) (hls:∀p∈ls,p.2.size<=1048576) (w:World) (hd:DiskAt w v ps ls):
  Calls Tryz.prog 78 #[v] w fun e w'=>e= .returned (.bool (diskOkB ps ls))/\Below w.heap.size w w':=by
 obtain ⟨vp,vl,rfl,h1,h2⟩:=hd
 obtain ⟨x1,c1,rfl⟩:∃a cap,vp= .slice a ps.length cap:=by obtain ⟨-,a,cap,e,-⟩:=h1;exact ⟨a,cap,e⟩
 obtain ⟨x2,c2,rfl⟩:∃a cap,vl= .slice a ls.length cap:=by obtain ⟨-,a,cap,e,-⟩:=h2;exact ⟨a,cap,e⟩
 have H1:=hide h1;have H2:=hide h2;have HPs:=hide hps;have HLs:=hide hls;clear h1 h2 hps hls;obtain ⟨w0,hw0⟩:∃w0,w0=w.alloc (Obj.cells #[.slice x1 ps.length c1,.slice x2 ls.length c2] 29):=⟨_,rfl⟩
 have hb0:Below w.heap.size w w0:=by rw [hw0];exact (Below.refl w.heap.size w).alloc (Nat.le_refl _) _
 have hblk:w0.heap[w.heap.size]?=some (Obj.cells #[.slice x1 ps.length c1,.slice x2 ls.length c2] 29):=by rw [hw0];exact heap_alloc_new w _
 have hsz:w.heap.size<w0.heap.size:=(Array.getElem?_eq_some_iff.1 hblk).1;have HB0:=hide hb0;have HBk:=hide hblk;have HSz:=hide hsz;clear hb0 hblk hsz
 by_cases hcnt:4<=ps.length/\ps.length<=40/\ls.length<=200
 ·obtain ⟨n1,n2,n3⟩:=hcnt
  have HT:=hide (decide_eq_true (show 4<=ps.length/\ps.length<=40/\ls.length<=200 from ⟨n1,n2,n3⟩))
  have d1:decide ((ps.length:Int)<4)=false:=by simp;omega
  have d2:decide ((40:Int)<(ps.length:Int))=false:=by simp;omega
  have d3:decide ((200:Int)<(ls.length:Int))=false:=by simp;omega
  go_enter Tryz.func78,Tryz.ntmps78;go_wp2_with fail;rw [<-hw0];clear hw0;have cb0:w0.cell? ⟨w.heap.size,0,none⟩=some (.slice x1 ps.length c1):=(za0 HBk.out 0).1;have cb1:w0.cell? ⟨w.heap.size,1,none⟩=some (.slice x2 ls.length c2):=(za0 HBk.out 1).1
  go_loopg [26] ps.length (fun q iv wr=>∃k:Nat,k<=ps.length/\iv= .int .i64 (k:Int)/\q+k=ps.length/\Hid (∀i (h:i<ps.length),i<k->ps[i].size<=240)/\w0=wr)
  case atStart=>exact ⟨0,Nat.zero_le _,rfl,rfl,hide (fun i h h0=>by omega),rfl⟩
  case round=>
   obtain ⟨k,hk,rfl,hg,HA,rfl⟩:=hrel;have HG:=hide hg;clear hg
   by_cases hlt:k<ps.length
   ·rcases H1.out.2 with ⟨a,cap,e,h0 | ⟨b,off,e2,hbl,hc⟩⟩
    ·omega
    ·injection e with e1 e3 e4
     subst e1 e4;subst e2;obtain ⟨x,hx⟩:∃x,x=ps[k]:=⟨_,rfl⟩
     have hxs:x.size<=1048576:=by rw [hx];exact HPs.out _ (List.getElem_mem hlt)
     have hcell:w0.cell? ⟨b,off+k,none⟩=some (.string x):=by rw [HB0.out.cell (by exact hbl),hc k (by omega),zaP ps k hlt,hx]
     have HX:=hide hx
     have hi0:(0:Int)<=(k:Int):=by omega
     have hi1:(k:Int)<(ps.length:Int):=by omega
     clear hx hc
     by_cases hbig:240<x.size
     ·have HO:Hid (diskOkB ps ls=false):=hide (zg5 hlt (by rw [<-HX.out];exact hbig))
      go_wp2_with fail;go_ret;rw [HO.out];exact ⟨rfl,HB0.out⟩
     ·have HA2:Hid (∀i (h:i<ps.length),i<k+1->ps[i].size<=240):=hide (fun i h hi=>by
       by_cases e:i=k
       ·subst e;rw [<-HX.out];omega
       ·exact HA.out i h (by omega))
      go_wp2_with fail
      go_roundg (gk - 1)
      case measure=>have:=HG.out;omega
      case rel=>exact ⟨k+1,by omega,by go_num,by have:=HG.out;omega,HA2,rfl⟩
   ·have HAll:Hid (∀i (h:i<ps.length),ps[i].size<=240):=hide (fun i h=>HA.out i h (by omega))
    clear HA;go_wp2_with fail
    go_loopg [37] ls.length (fun q iv wr=>∃j:Nat,j<=ls.length/\iv= .int .i64 (j:Int)/\q+j=ls.length/\Hid (∀i (h:i<ls.length),i<j->0<=ls[i].1/\ls[i].1<(ps.length:Int)/\ls[i].2.size<=240)/\Below w0.heap.size w0 wr)
    case atStart=>exact ⟨0,Nat.zero_le _,rfl,rfl,hide (fun i h h0=>by omega),Below.refl _ _⟩
    case round=>
     obtain ⟨j,hj,rfl,hg,HA,hbw⟩:=hrel;have HG2:=hide hg;have HBw:=hide hbw;have HBa:Hid (Below w.heap.size w wr):=hide (HB0.out.trans (hbw.mono HB0.out.size));clear hg
     by_cases hjl:j<ls.length
     ·rcases H2.out.2 with ⟨a,cap,e,h0 | ⟨b,off,e2,hbl,hc⟩⟩
      ·omega
      ·injection e with e1 e3 e4
       subst e1 e4;subst e2;obtain ⟨q,t,hqt⟩:∃q t,(q,t)=ls[j]:=⟨_,_,rfl⟩
       have hts:t.size<=1048576:=by have:=HLs.out _ (List.getElem_mem hjl);rw [<-hqt] at this;exact this
       have hc0:wr.cell? ⟨b,off+j * 2,none⟩=some (.int .i64 q):=by rw [HBa.out.cell (by exact hbl),hc (j * 2) (by omega),(zcy ls j hjl).1,<-hqt]
       have hc1:wr.cell? ⟨b,off+j * 2+1,none⟩=some (.string t):=by rw [HBa.out.cell (by exact hbl),Nat.add_assoc,hc (j * 2+1) (by omega),(zcy ls j hjl).2,<-hqt]
       have hi0:(0:Int)<=(j:Int):=by omega
       have hi1:(j:Int)<(ls.length:Int):=by omega
       have HQT:=hide hqt;have HC:=hide (ze9 x1 ps.length c1 (.slice (some ⟨b,off,none⟩) ls.length c2) q);clear hc hqt
       have cd0:wr.cell? ⟨w.heap.size,0,none⟩=some (.slice x1 ps.length c1):=(hbw.cell (by exact HSz.out)).trans cb0
       have cd1:wr.cell? ⟨w.heap.size,1,none⟩=some (.slice (some ⟨b,off,none⟩) ls.length c2):=(hbw.cell (by exact HSz.out)).trans cb1
       have ca0:∀o,(wr.alloc o).cell? ⟨w.heap.size,0,none⟩=some (.slice x1 ps.length c1):=fun o=>(za0 ((Below.heap_alloc wr o _ (Nat.lt_of_lt_of_le HSz.out hbw.size)).trans ((hbw.block _ HSz.out).trans HBk.out)) 0).1
       have ca1:∀o,(wr.alloc o).cell? ⟨w.heap.size,1,none⟩=some (.slice (some ⟨b,off,none⟩) ls.length c2):=fun o=>(za0 ((Below.heap_alloc wr o _ (Nat.lt_of_lt_of_le HSz.out hbw.size)).trans ((hbw.block _ HSz.out).trans HBk.out)) 1).1
       obtain ⟨wa,hwa⟩:∃wa,wa=wr.alloc (Obj.cells #[.int .i64 q,.string t] 90):=⟨_,rfl⟩
       have hva:wa.heap[wr.heap.size]?=some (Obj.cells #[.int .i64 q,.string t] 90):=by rw [hwa];exact heap_alloc_new wr _
       have HVa:=hide hva
       have HWa:Hid (Below wr.heap.size wr wa):=hide (by rw [hwa];exact (Below.refl _ _).alloc (Nat.le_refl _) _)
       clear hbw cb0 cb1 hva
       by_cases hin:0<=q/\q<(ps.length:Int)
       ·rw [decide_eq_true hin] at HC
        go_wp2_with fail;rw [<-hwa];refine (HC.out _).mono ?_;rintro e w2 ⟨rfl,hb2⟩;have hcp:w2.cell? ⟨wr.heap.size,1,none⟩=some (.string t):=(za0 ((hb2.block _ (Array.getElem?_eq_some_iff.1 HVa.out).1).trans HVa.out) 1).1;have HB2:Hid (Below wr.heap.size wr w2):=hide (HWa.out.trans (hb2.mono HWa.out.size));clear hb2 hwa ca0 ca1 cd0 cd1 hc0 hc1
        by_cases hbig:240<t.size
        ·have HO:Hid (diskOkB ps ls=false):=hide (zcP hjl (by rw [<-HQT.out];show ¬(0<=q/\q<(ps.length:Int)/\t.size<=240);omega))
         have hd1:decide ((240:Int)<(t.size:Int))=true:=by simp;omega
         go_wp2_with fail;go_ret;rw [HO.out];exact ⟨rfl,HBa.out.trans (HB2.out.mono HBa.out.size)⟩
        ·have HA2:Hid (∀i (h:i<ls.length),i<j+1->0<=ls[i].1/\ls[i].1<(ps.length:Int)/\ls[i].2.size<=240):=hide (fun i h hi=>by
          by_cases e:i=j
          ·subst e;rw [<-HQT.out];show 0<=q/\q<(ps.length:Int)/\t.size<=240;omega
          ·exact HA.out i h (by omega))
         have hd1:decide ((240:Int)<(t.size:Int))=false:=by simp;omega
         go_wp2_with fail
         go_roundg (gk - 1)
         case measure=>have:=HG2.out;omega
         case rel=>exact ⟨j+1,by omega,by go_num,by have:=HG2.out;omega,HA2,HBw.out.trans (HB2.out.mono HBw.out.size)⟩
       ·rw [decide_eq_false hin] at HC
        have HO:Hid (diskOkB ps ls=false):=hide (zcP hjl (by rw [<-HQT.out];show ¬(0<=q/\q<(ps.length:Int)/\t.size<=240);omega))
        go_wp2_with fail;rw [<-hwa];refine (HC.out _).mono ?_;rintro e w2 ⟨rfl,hb2⟩;have HB2:Hid (Below wr.heap.size wr w2):=hide (HWa.out.trans (hb2.mono HWa.out.size));clear hb2 hwa ca0 ca1 cd0 cd1 hc0 hc1;go_wp2_with fail;go_ret;rw [HO.out];exact ⟨rfl,HBa.out.trans (HB2.out.mono HBa.out.size)⟩
     ·have HE:Hid (diskOkB ps ls=true):=hide ((zeW HAll.out (fun i h=>HA.out i h (by omega))).trans HT.out)
      clear hbw;go_wp2_with fail;go_ret;rw [HE.out];exact ⟨rfl,HBa.out⟩
 ·have HO:=hide (ziv hcnt)
  by_cases n1:ps.length<4
  ·have d1:decide ((ps.length:Int)<4)=true:=by simp;omega
   go_enter Tryz.func78,Tryz.ntmps78;go_wp2_with fail;rw [<-hw0];go_ret;rw [HO.out];exact ⟨rfl,HB0.out⟩
  ·have d1:decide ((ps.length:Int)<4)=false:=by simp;omega
   by_cases n2:40<ps.length
   ·have d2:decide ((40:Int)<(ps.length:Int))=true:=by simp;omega
    go_enter Tryz.func78,Tryz.ntmps78;go_wp2_with fail;rw [<-hw0];go_ret;rw [HO.out];exact ⟨rfl,HB0.out⟩
   ·have d2:decide ((40:Int)<(ps.length:Int))=false:=by simp;omega
    have d3:decide ((200:Int)<(ls.length:Int))=true:=by simp;omega
    go_enter Tryz.func78,Tryz.ntmps78;go_wp2_with fail;rw [<-hw0];go_ret;rw [HO.out];exact ⟨rfl,HB0.out⟩
end Go.Proofs.YtcbogiebfbbmbaaGreatDoor
