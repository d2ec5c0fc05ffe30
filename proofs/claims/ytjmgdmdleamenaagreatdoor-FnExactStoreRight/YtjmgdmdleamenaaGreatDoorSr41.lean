/-
  Facts and contracts that the law's own text rests on, by their texts' names: ChkIdxW.
-/
import Derived.Test.YtjmgdmdleamenaaGreatDoorSr40
set_option maxHeartbeats 16000000
set_option maxRecDepth 100000
namespace Go.Proofs.YtjmgdmdleamenaaGreatDoor
open Go.RowKit
abbrev TwoS (b:Nat) (w:World) (vw:Value) (nw:Nat) (W:List ByteArray) (vh:Value) (nh:Nat) (H:List ByteArray):Prop:=Sep b w [rowA b 9 1 vw nw (strs W),rowA b 9 1 vh nh (strs H)]
theorem finS_no {W H:List ByteArray} {i:Nat} (hi:i<W.length) (h:(H.any fun y=>decide (y=W.getD i ⟨#[]⟩))=false):finS W H=false:=by
 rw [finS]
 have:(W.all fun x=>H.any fun y=>decide (y=x))=false:=by
  rw [List.all_eq_false];refine ⟨W[i],List.getElem_mem hi,?_⟩;rw [List.getD_eq_getElem?_getD,List.getElem?_eq_getElem hi,Option.getD_some] at h;rw [h];decide
 rw [this,Bool.and_false]
theorem finS_yes {W H:List ByteArray} (hl:W.length=H.length) (h:∀i,i<W.length->(H.any fun y=>decide (y=W.getD i ⟨#[]⟩))=true):finS W H=true:=by
 rw [finS,decide_eq_true hl,Bool.true_and,List.all_eq_true];intro x hx;obtain ⟨i,hi,rfl⟩:=List.getElem_of_mem hx;have:=h i hi;rw [List.getD_eq_getElem?_getD,List.getElem?_eq_getElem hi,Option.getD_some] at this;exact this
theorem any_take {H:List ByteArray} {x:ByteArray} {j:Nat} (hj:j<H.length):((H.take (j+1)).any fun y=>decide (y=x))=(((H.take j).any fun y=>decide (y=x)) || decide (H.getD j ⟨#[]⟩=x)):=by
 rw [List.take_succ_eq_append_getElem hj,List.any_append,List.getD_eq_getElem?_getD,List.getElem?_eq_getElem hj]
 simp
theorem specIndexRight_any (ps:List ByteArray) (ls:List (Int×ByteArray)) (hp:ps.length<=1048576) (hl:ls.length<=1048576) (hps:∀s∈ps,s.size<=1048576) (hls:∀p∈ls,p.2.size<=1048576) (vd:Value) (root:Int) (w:World) (hd:DiskAt w vd ps ls) (hdk:∀k,diskBlocks vd k->k<w.heap.size):
  Calls Tryz.prog 16 #[vd,.int .i64 root] w fun e w'=>∃b,e= .returned (.bool b)/\IdxTold (allS (fun q=>rdN (readD ps ls q)) root) (readD ps ls) root (fun W H b=>b=finS W H) b/\Below w.heap.size w w':=by
 obtain ⟨vp,vl,rfl,-,-⟩:=id hd;obtain ⟨w0,hw0⟩:∃w0,w0=w.alloc (Obj.cells #[vp,vl] 41):=⟨_,rfl⟩
 have hb0:Below w.heap.size w w0:=by rw [hw0];exact (Below.refl _ _).alloc (Nat.le_refl _) _
 have hq:w0.heap[w.heap.size]?=some (Obj.cells #[vp,vl] 41):=by rw [hw0];exact heap_alloc_new w _
 have hz0:w0.heap.size=w.heap.size+1:=by rw [hw0];simp
 have HA:=hide (specAllPairs_any ps ls hp hl hps hls (.agg #[vp,vl]) root w0 (disk_below hd hb0) (fun k hk=>Nat.lt_of_lt_of_le (hdk k hk) hb0.size))
 have HAl:=hide (all_len ps ls root);have HAs:=hide (all_small ps ls root);rw [both_all _ (rdN_right2 ps ls) root] at HAl HAs
 obtain ⟨R,hR⟩:∃R,R=allS (fun q=>rdN (readD ps ls q)) root:=⟨_,rfl⟩
 rw [<-hR] at HA HAl HAs⊢
 have HSc:=hide (fun c hc wx h=>specSchemaIn_any (.agg #[vp,vl]) ps ls hp hl hps hls root c hc wx h)
 have HD:=hide hd;have HB0:=hide hb0
 have HQ0:Hid (∀wx,Below w0.heap.size w0 wx->wx.cell? ⟨w.heap.size,0,none⟩=some vp/\wx.cell? ⟨w.heap.size,1,none⟩=some vl):=hide (fun wx hb=>by
  have h:=(hb.block w.heap.size (by omega)).trans hq
  exact ⟨(cell_at h 0).1,(cell_at h 1).1⟩)
 obtain ⟨D,hD⟩:∃D,D=readD ps ls:=⟨_,rfl⟩;rw [<-hD] at HSc⊢;clear hp hl hps hls hd hdk hb0 hR hq hz0 hD;go_enter Tryz.func16,Tryz.ntmps16;go_wp2_with fail;rw [<-hw0];clear hw0;refine HA.out.mono ?_;rintro e w1 ⟨v,rfl,hown,hb1⟩;obtain ⟨L,rb⟩:=R;dsimp only at hown HAl HAs⊢;obtain ⟨vx,vc,rfl⟩:=own_slice hown;have HRw:=hide (row_of_own hown);have HB1:Hid (Below w.heap.size w w1):=hide (HB0.out.trans (hb1.mono HB0.out.size));have HB01:=hide hb1;have hln:L.length<=100000:=HAl.out;obtain ⟨n,hn⟩:∃n,n=L.length:=⟨_,rfl⟩;rw [<-hn] at hln HRw⊢;have HN:=hide hn;clear hown hb1 hn
 cases rb with
 | false=>
  go_wp2_with fail;go_ret;exact ⟨false,rfl,Or.inl ⟨rfl,rfl⟩,HB1.out⟩
 | true=>
  have hS0:=sep_row0 (sep_new (sep_nil w1.heap.size w1) (Obj.cells #[] 9) (Nat.le_refl _))
  have hS1:=sep_row0 (sep_new hS0 (Obj.cells #[] 9) (by simp))
  obtain ⟨w2,hw2⟩:∃w2,w2=(w1.alloc (Obj.cells #[] 9)).alloc (Obj.cells #[] 9):=⟨_,rfl⟩;rw [<-hw2,World.size_alloc] at hS1;have HS1:Hid (TwoS w1.heap.size w2 (.slice (some ⟨w1.heap.size,0,none⟩) 0 0) 0 [] (.slice (some ⟨w1.heap.size+1,0,none⟩) 0 0) 0 []):=hide (sep_swap hS1)
  have HB2:Hid (Below w1.heap.size w1 w2):=hide (by rw [hw2];exact ((Below.refl _ _).alloc (Nat.le_refl _) _).alloc (by simp) _)
  clear hS0 hS1;go_wp2_with fail;rw [<-hw2];clear hw2
  go_loopg [7,8,9] n (fun q wv hv iv wr=>∃(i nw nh:Nat) (W H:List ByteArray) (xw xh:Option Addr) (cw ch:Nat),i<=n/\q+i=n/\wv= .slice xw nw cw/\hv= .slice xh nh ch/\iv= .int .i64 (i:Int)/\nw<=3 * i/\nh<=i/\Hid (TwoS w1.heap.size wr (.slice xw nw cw) nw W (.slice xh nh ch) nh H)/\Hid (Gath D root (L.take i) W H)/\Hid (Below w1.heap.size w1 wr))
  case atStart=>exact ⟨0,0,0,[],[],_,_,_,_,Nat.zero_le _,by omega,rfl,rfl,rfl,by omega,by omega,HS1,hide ⟨rfl,rfl⟩,HB2⟩
  case round=>
   clear HS1 HB2;obtain ⟨i,nw,nh,W,H,xw,xh,cw,ch,hin,hq,rfl,rfl,rfl,hnw,hnh,HS,HG,HB⟩:=hrel;have HQ:=hide hq;clear hq
   by_cases hlt:i<n
   ·have hli:i<L.length:=by rw [<-HN.out];exact hlt
    rcases HRw.out.2 with ⟨ax,cx,ee,h2⟩
    injection ee with e1 e2 e3
    subst e1 e3
    rcases h2 with h0 | ⟨bp,off,rfl,hbp,hcp⟩
    ·omega
    obtain ⟨k,hk⟩:∃k,k=L[i].1:=⟨_,rfl⟩;obtain ⟨x,hx⟩:∃x,x=L[i].2:=⟨_,rfl⟩;have hws:=HB.out.size
    have HCp:Hid (∀wx,Below w1.heap.size w1 wx->wx.cell? ⟨bp,off+i * 2,none⟩=some (.string k)/\wx.cell? ⟨bp,off+i * 2+1,none⟩=some (.string x)):=hide (fun wx hb=>⟨by rw [hb.cell (by exact hbp),hcp (i * 2) (by omega),(prs_at L i hli).1,hk],by rw [hb.cell (by exact hbp),Nat.add_assoc,hcp (i * 2+1) (by omega),(prs_at L i hli).2,hx]⟩)
    obtain ⟨hc0,hc1⟩:=HCp.out wr HB.out;obtain ⟨hks,hxs⟩:=HAs.out _ (List.getElem_mem hli);rw [<-hk] at hks;rw [<-hx] at hxs
    have HP:Hid (L[i]=(k,x)):=hide (by rw [hk,hx])
    have HGs:Hid (∀ws hs,PairIs D root (k,x) ws hs->Gath D root (L.take (i+1)) (W++ws) (H++hs)):=hide (fun ws hs h=>gath_step hli HG.out (by rw [HP.out];exact h))
    have HNo:Hid (PairNo D root (k,x)->IdxTold (L,true) D root (fun W H b=>b=finS W H) false):=hide (fun h=>Or.inr ⟨rfl,Or.inl ⟨rfl,(k,x),by rw [<-HP.out];exact List.getElem_mem hli,h⟩⟩)
    have hbw:bp<wr.heap.size:=Nat.lt_of_lt_of_le hbp hws
    have hi0:(0:Int)<=(i:Int):=by omega
    have hi1:(i:Int)<(n:Int):=by omega
    have HBw:Hid (Below w.heap.size w wr):=hide (HB1.out.trans (HB.out.mono HB1.out.size));clear hk hx hcp HG HP hli hbp
    by_cases hk0:k.size=0
    ·have d1:decide ((0:Int)<(k.size:Int))=false:=by rw [hk0];rfl
     have d2:((k.size:Int) ==0)=true:=by rw [hk0];rfl
     have HG2:Hid (Gath D root (L.take (i+1)) (W++ []) (H++ [])):=hide (HGs.out [] [] (pair_else (by rw [head_none hk0];decide) (by rw [head_none hk0];decide)))
     rw [List.append_nil,List.append_nil] at HG2;clear hk0;go_wp2_with fail
     go_roundg (gk - 1)
     case measure=>have:=HQ.out;omega
     case rel=>exact ⟨i+1,nw,nh,W,H,xw,xh,cw,ch,by omega,by have:=HQ.out;omega,rfl,rfl,by go_num,by omega,by omega,HS,HG2,HB⟩
    have hkp:0<k.size:=by omega
    obtain ⟨y,hy⟩:∃y,y=byt k 0:=⟨_,rfl⟩
    have hyb:y<256:=by rw [hy];exact byt_lt k _
    have hs1:k[0].toNat=y:=by rw [hy];exact byt_eq k _ hkp
    have HH:Hid (∀b:UInt8,headK k=some b↔y=b.toNat):=hide (fun b=>by rw [hy];exact head_is hkp b)
    have d1:decide ((0:Int)<(k.size:Int))=true:=by simp;omega
    have d2:((k.size:Int) ==0)=false:=beq_eq_false_iff_ne.2 (by omega)
    clear hy hk0
    by_cases h105:y=105
    ·have HHd:=hide ((HH.out 105).2 h105)
     subst h105
     by_cases hx0:x=⟨#[]⟩
     ·have HG2:=hide (HGs.out [] [k] (pair_have HHd.out hx0))
      rw [List.append_nil] at HG2;subst hx0
      go_wp2_with (at_builtin;(with_reducible refine wpList_str1 HS.out 1 rfl (Nat.le_refl _) hws hws rfl _ _ rfl rfl k rfl rfl (by omega) ?_))
      intro b4 c4 w4 hS4 hb4;have HB4:Hid (Below w1.heap.size w1 w4):=hide (HB.out.trans hb4);have HS4:=hide hS4;obtain ⟨hd0,hd1⟩:=HCp.out w4 HB4.out;clear hS4 hb4 hc0 hc1;go_wp2_with fail
      go_roundg (gk - 1)
      case measure=>have:=HQ.out;omega
      case rel=>exact ⟨i+1,nw,nh+1,W,H++ [k],xw,_,cw,_,by omega,by have:=HQ.out;omega,rfl,rfl,by go_num,by omega,by omega,HS4,HG2,HB4⟩
     ·have HNe:=hide (HNo.out (pair_full HHd.out hx0))
      have hxe:x.toList.isEmpty=false:=by rw [<-Bool.not_eq_true,List.isEmpty_iff,ByteArray.toList_eq];exact fun h=>hx0 (ba_same h)
      clear hx0
      go_wp2_with (at_builtin;(with_reducible refine wpList_str1 HS.out 1 rfl (Nat.le_refl _) hws hws rfl _ _ rfl rfl k rfl rfl (by omega) ?_))
      intro b4 c4 w4 hS4 hb4;have HB4:Hid (Below w.heap.size w w4):=hide (HBw.out.trans (hb4.mono HB1.out.size));obtain ⟨hd0,hd1⟩:=HCp.out w4 (HB.out.trans hb4);clear hS4 hb4 hc0 hc1;go_wp2_with fail;go_ret;exact ⟨false,rfl,HNe.out,HB4.out⟩
    ·have d3:((y:Int) ==105)=false:=by simp;omega
     by_cases h111:y=111
     ·have HHd:=hide ((HH.out 111).2 h111)
      subst h111
      have HSp:=hide (fun wx=>l14Split_any k (by omega) wx)
      obtain ⟨hcs,hns⟩:=spl_sizes k
      have HTh:Hid (∀fs vs,(splO k).2.2=true->SchIn (getK D root (schK (splO k).1)) fs true->ReadTh fs x vs true->Gath D root (L.take (i+1)) (W++keysL (splO k).1 (splO k).2.1 fs vs) (H++ [])):=hide (fun fs vs h1 h2 h3=>HGs.out _ _ (pair_thing (p:=(k,x)) HHd.out h1 h2 h3))
      have HBd:Hid (∀fs vs ok ko,SchIn (getK D root (schK (splO k).1)) fs ok->ReadTh fs x vs ko->((splO k).2.2 && ok && ko)=false->IdxTold (L,true) D root (fun W H b=>b=finS W H) false):=hide (fun fs vs ok ko h1 h2 h3=>HNo.out (pair_bad (p:=(k,x)) HHd.out h1 h2 h3))
      obtain ⟨c,hc⟩:∃c,c=(splO k).1:=⟨_,rfl⟩;obtain ⟨m,hm⟩:∃m,m=(splO k).2.1:=⟨_,rfl⟩;obtain ⟨rt,hrt⟩:∃r,r=(splO k).2.2:=⟨_,rfl⟩;rw [<-hc] at hcs;rw [<-hm] at hns;rw [<-hc,<-hm,<-hrt] at HSp HTh;rw [<-hc,<-hrt] at HBd
      have HScc:=hide (fun wx h=>HSc.out c (by omega) wx h)
      clear hc hm hrt HGs HNo HH h105;go_wp2_with fail;refine (HSp.out _).mono ?_;rintro e w3 ⟨rfl,hb3⟩;have HB3:Hid (Below w1.heap.size w1 w3):=hide (HB.out.trans (hb3.mono hws));have HS3:=hide (sep_below HS.out hb3);obtain ⟨f0,f1⟩:=HQ0.out w3 (HB01.out.trans (HB3.out.mono HB01.out.size));clear hb3 hc0 hc1;go_wp2_with fail;refine (HScc.out w3 (disk_below HD.out (HB1.out.trans (HB3.out.mono HB1.out.size)))).mono ?_;rintro e w4 ⟨u,fs,ok,rfl,hfo,hsc,hb4⟩;obtain ⟨hf3,hfn⟩:=sch_sizes hsc;have HB4:Hid (Below w1.heap.size w1 w4):=hide (HB3.out.trans (hb4.mono HB3.out.size));have HS4:=hide (sep_below HS3.out hb4);have HSch:=hide hsc;have HFo:=hide (row_of_own hfo);obtain ⟨hd0,hd1⟩:=HCp.out w4 HB4.out
      have HRt:=hide (fun wx h=>specReadThing_any fs (by omega) hfn x (by omega) u wx h)
      obtain ⟨uf,cf,rfl⟩:=own_slice hfo;clear hb4 hsc hfo hfn f0 f1 HS3;go_wp2_with fail;refine (HRt.out w4 HFo.out).mono ?_;rintro e w5 ⟨u2,vs,ko,rfl,hvo,hrd,hb5⟩;have HB5:Hid (Below w1.heap.size w1 w5):=hide (HB4.out.trans (hb5.mono HB4.out.size));have HS5:=hide (sep_below HS4.out hb5);have HFo5:=hide (row_below HFo.out hb5);have HVo:=hide (row_of_own hvo);have HRd:=hide hrd;have HNn:=hide (HBd.out fs vs ok ko HSch.out hrd);obtain ⟨uv,cv,rfl⟩:=own_slice hvo;have HB5w:Hid (Below w.heap.size w w5):=hide (HB1.out.trans (HB5.out.mono HB1.out.size));clear hb5 hvo hrd hd0 hd1 HS4 HRt HBd
      cases rt with
      | false=>
       have HF:=hide (HNn.out rfl);clear HNn HTh;go_wp2_with fail;go_ret;exact ⟨false,rfl,HF.out,HB5w.out⟩
      | true=>
       cases ok with
       | false=>
        have HF:=hide (HNn.out rfl);clear HNn HTh;go_wp2_with fail;go_ret;exact ⟨false,rfl,HF.out,HB5w.out⟩
       | true=>
        cases ko with
        | false=>
         have HF:=hide (HNn.out rfl);clear HNn HTh;go_wp2_with fail;go_ret;exact ⟨false,rfl,HF.out,HB5w.out⟩
        | true=>
         have HG2:=hide (HTh.out fs vs rfl HSch.out HRd.out);rw [List.append_nil] at HG2;have hth:=thing_of HRd.out
         have HKy:=hide (l13Keys_any fs vs hth c m (by omega) (by omega) (.slice uf fs.length cf) (.slice uv vs.length cv) w5 HFo5.out HVo.out)
         have hkl:(keysL c m fs vs).length<=3:=by rw [keysL_len];omega
         obtain ⟨ks,hks⟩:∃ks,ks=keysL c m fs vs:=⟨_,rfl⟩;rw [<-hks] at HKy HG2 hkl;clear HNn HTh hth HSch HRd hks;go_wp2_with fail;refine HKy.out.mono ?_;rintro e w6 ⟨u6,rfl,hko,hb6⟩;have HB6:Hid (Below w1.heap.size w1 w6):=hide (HB5.out.trans (hb6.mono HB5.out.size));have HS6:=hide (sep_below HS5.out hb6);have HKo:=hide (row_of_own hko);obtain ⟨x6,c6,rfl⟩:=own_slice hko;have hws6:=HB6.out.size;obtain ⟨nk,hnk⟩:∃n,n=ks.length:=⟨_,rfl⟩;rw [<-hnk] at HKo hkl⊢
         have hbd:nw+nk<=3000000:=by omega
         clear hb6 hko HS5 hnk
         go_wp2_with (at_builtin;refine wpList_strR HS6.out 0 rfl (Nat.le_refl _) hws6 hws6 rfl _ _ rfl rfl _ nk ks rfl HKo.out hbd ?_)
         intro b7 c7 w7 hS7 hb7;have HB7:Hid (Below w1.heap.size w1 w7):=hide (HB6.out.trans hb7);have HS7:=hide hS7;clear hS7 hb7;go_wp2_with fail
         go_roundg (gk - 1)
         case measure=>have:=HQ.out;omega
         case rel=>exact ⟨i+1,nw+nk,nh,W++ks,H,_,xh,_,ch,by omega,by have:=HQ.out;omega,rfl,rfl,by go_num,by omega,by omega,HS7,HG2,HB7⟩
     ·have d4:((y:Int) !=111)=true:=by simp;omega
      have HG2:Hid (Gath D root (L.take (i+1)) (W++ []) (H++ [])):=hide (HGs.out [] [] (pair_else (fun h=>h111 ((HH.out 111).1 h)) (fun h=>h105 ((HH.out 105).1 h))))
      rw [List.append_nil,List.append_nil] at HG2;clear h111 h105;go_wp2_with fail
      go_roundg (gk - 1)
      case measure=>have:=HQ.out;omega
      case rel=>exact ⟨i+1,nw,nh,W,H,xw,xh,cw,ch,by omega,by have:=HQ.out;omega,rfl,rfl,by go_num,by omega,by omega,HS,HG2,HB⟩
   ·obtain ⟨wE,rfl⟩:∃wE,wE=wr:=⟨wr,rfl⟩
    have HG2:Hid (Gath D root L W H):=hide (by have h:=HG.out;rwa [List.take_of_length_le (by have:=HN.out;omega)] at h)
    have hlw:=row_nS (sep_get HS.out 0 rfl:wE.ownsRow w1.heap.size 9 1 (.slice xw nw cw) nw (strs W));have hlh:=row_nS (sep_get HS.out 1 rfl:wE.ownsRow w1.heap.size 9 1 (.slice xh nh ch) nh (strs H));have HRW:=hide (row_of_own (sep_get HS.out 0 rfl:wE.ownsRow w1.heap.size 9 1 (.slice xw nw cw) nw (strs W)));have HRH:=hide (row_of_own (sep_get HS.out 1 rfl:wE.ownsRow w1.heap.size 9 1 (.slice xh nh ch) nh (strs H)));have HLn:Hid (nw=W.length/\nh=H.length):=hide ⟨hlw,hlh⟩;have HBw:Hid (Below w.heap.size w wE):=hide (HB1.out.trans (HB.out.mono HB1.out.size))
    have HFin:Hid (∀b,finS W H=b->IdxTold (L,true) D root (fun W H b=>b=finS W H) b):=hide (fun b h=>Or.inr ⟨rfl,Or.inr ⟨W,H,HG2.out,h.symm⟩⟩)
    clear HG HG2 hlw hlh HS
    by_cases hne:nw=nh
    ·subst hne
     have dn:((nw:Int) !=(nw:Int))=false:=by simp
     go_wp2_with fail
     go_loopg [18] nw (fun q iv wq=>∃i:Nat,i<=nw/\q+i=nw/\iv= .int .i64 (i:Int)/\Hid (∀j,j<i->(H.any fun y=>decide (y=W.getD j ⟨#[]⟩))=true)/\Hid (Below wE.heap.size wE wq))
     case atStart=>exact ⟨0,Nat.zero_le _,by omega,rfl,hide (fun j hj=>by omega),hide (Below.refl _ _)⟩
     case round=>
      obtain ⟨i2,hi2,hq2,rfl,HA2,HBq⟩:=hrel;have HQ2:=hide hq2;clear hq2
      by_cases hl2:i2<nw
      ·obtain ⟨go,hgo⟩:∃go,go=gk:=⟨_,rfl⟩
       rw [<-hgo] at HQ2
       obtain ⟨bw,ow,rfl⟩:∃b o,xw=some ⟨b,o,none⟩:=by
        obtain ⟨-,a,cap,e,h2⟩:=HRW.out
        injection e with e1 e2 e3
        rcases h2 with h0 | ⟨b,off,e4,_⟩
        ·omega
        ·exact ⟨b,off,by rw [e1,e4]⟩
       obtain ⟨bh,oh,rfl⟩:∃b o,xh=some ⟨b,o,none⟩:=by
        obtain ⟨-,a,cap,e,h2⟩:=HRH.out
        injection e with e1 e2 e3
        rcases h2 with h0 | ⟨b,off,e4,_⟩
        ·omega
        ·exact ⟨b,off,by rw [e1,e4]⟩
       have HCw:Hid (∀wx,Below wE.heap.size wE wx->wx.cell? ⟨bw,ow+i2,none⟩=some (.string (W.getD i2 ⟨#[]⟩))):=hide (fun wx hb=>rowat_cellS HRW.out hb i2 hl2 HLn.out.1)
       have HCh:Hid (∀wx j,j<nw->Below wE.heap.size wE wx->wx.cell? ⟨bh,oh+j,none⟩=some (.string (H.getD j ⟨#[]⟩))):=hide (fun wx j hj hb=>rowat_cellS HRH.out hb j hj HLn.out.2)
       have HFn:Hid ((H.any fun y=>decide (y=W.getD i2 ⟨#[]⟩))=false->finS W H=false):=hide (fun h=>finS_no (by rw [<-HLn.out.1];exact hl2) h)
       obtain ⟨z,hz⟩:∃z,z=W.getD i2 ⟨#[]⟩:=⟨_,rfl⟩;rw [<-hz] at HCw HFn;have HZ:=hide hz
       have hi0:(0:Int)<=(i2:Int):=by omega
       have hi1:(i2:Int)<(nw:Int):=by omega
       clear hz;go_wp2_with fail
       go_loopg [19,20] nw (fun q fv jv wx=>∃j:Nat,j<=nw/\q+j=nw/\fv= .bool ((H.take j).any fun y=>decide (y=z))/\jv= .int .i64 (j:Int)/\Hid (Below wE.heap.size wE wx))
       case atStart=>exact ⟨0,Nat.zero_le _,by omega,rfl,rfl,HBq⟩
       case round=>
        clear HBq;obtain ⟨j,hj,hq3,hfv,rfl,HBx⟩:=hrel;have HQ3:=hide hq3
        obtain ⟨f,hf⟩:∃f,f=((H.take j).any fun y=>decide (y=z)):=⟨_,rfl⟩
        rw [<-hf] at hfv;subst hfv;have HFv:=hide hf;clear hq3 hf
        by_cases hl3:j<nw
        ·have hcz:=HCw.out wr HBx.out
         have hcy:=HCh.out wr j hl3 HBx.out
         have HStp:Hid (((H.take (j+1)).any fun y=>decide (y=z))=(f || decide (H.getD j ⟨#[]⟩=z))):=hide (by rw [any_take (by rw [<-HLn.out.2];exact hl3),HFv.out])
         obtain ⟨y,hy⟩:∃y,y=H.getD j ⟨#[]⟩:=⟨_,rfl⟩;rw [<-hy] at hcy HStp
         have hj0:(0:Int)<=(j:Int):=by omega
         have hj1:(j:Int)<(nw:Int):=by omega
         clear hy HFv
         cases f with
         | true=>
          go_wp2_with fail
          go_quiet (fail)
          go_wp2_with fail
          go_roundg (gk - 1)
          case measure=>have:=HQ3.out;omega
          case rel=>exact ⟨j+1,by omega,by have:=HQ3.out;omega,by rw [HStp.out];rfl,by go_num,hide (below_drewN HBx.out _)⟩
         | false=>
          go_wp2_with fail
          go_quiet (fail)
          go_wp2_with fail
          go_roundg (gk - 1)
          case measure=>have:=HQ3.out;omega
          case rel=>exact ⟨j+1,by omega,by have:=HQ3.out;omega,by rw [HStp.out,Bool.false_or,<-ba_beq],by go_num,hide (below_drewN HBx.out _)⟩
        ·have HFa:Hid (f=(H.any fun y=>decide (y=z))):=hide (by rw [HFv.out,List.take_of_length_le (by have:=HLn.out.2;omega)])
         clear HFv
         cases f with
         | false=>
          have HF:=hide (HFin.out false (HFn.out HFa.out.symm));go_wp2_with fail;go_ret;exact ⟨false,rfl,HF.out,HBw.out.trans (HBx.out.mono HBw.out.size)⟩
         | true=>
          have HA3:Hid (∀j,j<i2+1->(H.any fun y=>decide (y=W.getD j ⟨#[]⟩))=true):=hide (fun j hj=>by
           by_cases e:j=i2
           ·rw [e,<-HZ.out];exact HFa.out.symm
           ·exact HA2.out j (by omega))
          go_wp2_with fail
          go_roundg (go - 1)
          case measure=>have:=HQ2.out;omega
          case rel=>exact ⟨i2+1,by omega,by have:=HQ2.out;omega,by go_num,HA3,HBx⟩
      ·have HF:=hide (HFin.out true (finS_yes (by rw [<-HLn.out.1,<-HLn.out.2]) (fun j hj=>HA2.out j (by have:=HLn.out.1;omega))))
       go_wp2_with fail;go_ret;exact ⟨true,rfl,HF.out,HBw.out.trans (HBq.out.mono HBw.out.size)⟩
    ·have dn:((nw:Int) !=(nh:Int))=true:=by simp;omega
     have HF:=hide (HFin.out false (by rw [finS,decide_eq_false (by rw [<-HLn.out.1,<-HLn.out.2];exact hne)];rfl))
     clear hne;go_wp2_with fail;go_ret;exact ⟨false,rfl,HF.out,HBw.out⟩
end Go.Proofs.YtjmgdmdleamenaaGreatDoor
