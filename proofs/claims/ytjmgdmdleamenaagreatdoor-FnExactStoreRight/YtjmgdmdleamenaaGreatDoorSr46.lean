/-
  Facts and contracts that the law's own text rests on, by their texts' names: ChkIdxI.
-/
import Derived.ScopeJumps
import Derived.WalkMore
import Derived.Test.YtjmgdmdleamenaaGreatDoorSr31
import Derived.Test.YtjmgdmdleamenaaGreatDoorSr45
set_option maxHeartbeats 16000000
set_option maxRecDepth 100000
namespace Go.Proofs.YtjmgdmdleamenaaGreatDoor
open Go.RowKit
theorem pre_head (k:ByteArray) (b:UInt8):Lib.hasPrefix k.data.toList (⟨#[b]⟩:ByteArray).data.toList=decide (headK k=some b):=by
 rw [Lib.hasPrefix,headK]
 cases k.data.toList with
 | nil=>rfl
 | cons a l=>
  simp only [List.head?_cons,Option.some.injEq]
  by_cases h:a=b
  ·subst h;simp
  ·rw [decide_eq_false h]
   show (b ==a && List.isPrefixOf [] l)=false
   rw [beq_eq_false_iff_ne.2 (fun e=>h e.symm)]
   rfl
abbrev ThreeS (b:Nat) (w:World) (vp:Value) (n:Nat) (L:List (ByteArray×ByteArray)) (vw:Value) (nw:Nat) (W:List ByteArray) (vh:Value) (nh:Nat) (H:List ByteArray):Prop:=Sep b w [rowA b 91 2 vp n (prs L),rowA b 9 1 vw nw (strs W),rowA b 9 1 vh nh (strs H)]
theorem equal_any (W H:List ByteArray) (x:Option Addr) (g c d:Nat) (w:World) (hl:(cano (lsts W)).length<=1048576) (hm:(cano (lsts H)).length<=1048576)
  (h1:∀g',x=some ⟨g',0,none⟩->∀j,j<(cano (lsts W)).length->w.cell? ⟨g',0+j,none⟩=some (encStr ((cano (lsts W)).getD j []))) (hx:(cano (lsts W)).length=0\/∃g',x=some ⟨g',0,none⟩)
  (h2:∀j,j<(cano (lsts H)).length->w.cell? ⟨g,0+j,none⟩=some (encStr ((cano (lsts H)).getD j []))):
  Calls Tryz.prog 58 #[.slice x (cano (lsts W)).length c,.slice (some ⟨g,0,none⟩) (cano (lsts H)).length d] w fun e w'=>∃b,e= .returned (.bool b)/\(b=true↔∀x,x∈W↔x∈H)/\Below w.heap.size w w':=by
 have hset:=cano_sets W H
 generalize cano (lsts W)=Z at *
 generalize cano (lsts H)=Y at *
 by_cases h0:Z.length=0
 ·rw [h0]
  refine (Tryz.slices_Equal_string_empty x (some ⟨g,0,none⟩) c Y.length d w (by omega)).mono ?_
  rintro e w' ⟨rfl,rfl⟩;refine ⟨_,rfl,?_,Below.refl _ _⟩;rw [decide_eq_true_eq,<-hset,List.eq_nil_of_length_eq_zero h0]
  exact ⟨fun h=>(List.eq_nil_of_length_eq_zero h).symm,fun h=>by rw [<-h];rfl⟩
 ·obtain ⟨g',rfl⟩:∃g',x=some ⟨g',0,none⟩:=by
   rcases hx with h | h
   ·exact absurd h h0
   ·exact h
  have hget:∀(X:List Bs) j,j<X.length->encStr (X.getD j [])= .string ((X.map fun l=>(⟨l.toArray⟩:ByteArray)).getD j ByteArray.empty):=fun X j hj=>by
   simp only [List.getD_eq_getElem?_getD,List.getElem?_map,List.getElem?_eq_getElem hj,Option.map_some,Option.getD_some,encStr]
  have:=Tryz.slices_Equal_string g' 0 Z.length c g 0 Y.length d (Z.map fun l=>(⟨l.toArray⟩:ByteArray)) (Y.map fun l=>(⟨l.toArray⟩:ByteArray)) w (by simp) (by simp) (by omega) (by omega)
   (fun j hj=>by rw [List.length_map] at hj;rw [h1 g' rfl j hj,hget Z j hj])
   (fun j hj=>by rw [List.length_map] at hj;rw [h2 j hj,hget Y j hj])
  refine this.mono ?_;rintro e w' ⟨rfl,q,rfl⟩;refine ⟨_,rfl,?_,below_drewN (Below.refl _ _) _⟩
  rw [decide_eq_true_eq,<-hset,List.take_of_length_le (by simp),List.take_of_length_le (by simp)]
  constructor
  ·intro h
   have h3:=congrArg (List.map fun b:ByteArray=>b.data.toList) h
   simpa [List.map_map,Function.comp_def] using h3
  ·intro h;rw [h]
theorem implIndexRight_any (ps:List ByteArray) (ls:List (Int×ByteArray)) (hp:ps.length<=1048576) (hl:ls.length<=1048576) (hps:∀s∈ps,s.size<=1048576) (hls:∀p∈ls,p.2.size<=1048576) (ap al:Option Addr) (np nl cp cl:Nat) (root:Int) (w:World) (hT:SumTab w) (hd:DiskAt w (.agg #[.slice ap np cp,.slice al nl cl]) ps ls):
  Calls Tryz.prog 24 #[.agg #[.slice ap np cp,.slice al nl cl],.int .i64 root] w fun e w'=>∃b,e= .returned (.bool b)/\IdxTold (allI (fun q=>rdN (readD ps ls q)) root) (readD ps ls) root (fun W H b=>b=true↔∀x,x∈W↔x∈H) b/\Below w.heap.size w w':=by
 obtain ⟨w0,hw0⟩:∃w0,w0=w.alloc (Obj.cells #[.slice ap np cp,.slice al nl cl] 41):=⟨_,rfl⟩
 have hb0:Below w.heap.size w w0:=by rw [hw0];exact (Below.refl _ _).alloc (Nat.le_refl _) _
 have hq:w0.heap[w.heap.size]?=some (Obj.cells #[.slice ap np cp,.slice al nl cl] 41):=by rw [hw0];exact heap_alloc_new w _
 have hz0:w0.heap.size=w.heap.size+1:=by rw [hw0];simp
 obtain ⟨b,hbz⟩:∃b,b=w0.heap.size:=⟨_,rfl⟩;have hS0:=sep_row0 (sep_new (sep_nil w0.heap.size w0) (Obj.cells #[] 9) (Nat.le_refl _))
 have hS1:=sep_row0 (sep_new hS0 (Obj.cells #[] 9) (by simp))
 obtain ⟨w2,hw2⟩:∃w2,w2=(w0.alloc (Obj.cells #[] 9)).alloc (Obj.cells #[] 9):=⟨_,rfl⟩;rw [<-hw2,World.size_alloc,<-hbz] at hS1
 have hb2:Below b w0 w2:=by rw [hw2,hbz];exact ((Below.refl _ _).alloc (Nat.le_refl _) _).alloc (by simp) _
 have hbw:Below w.heap.size w w2:=hb0.trans (hb2.mono (by omega))
 have HS2:Hid (Sep b w2 [rowA b 9 1 (.slice (some ⟨b,0,none⟩) 0 0) 0 (strs []),rowA b 9 1 (.slice (some ⟨b+1,0,none⟩) 0 0) 0 (strs [])]):=hide (sep_swap hS1);have HA:=hide (implAllPairs_any ps ls hp hl hps hls ap al np nl cp cl root w2 (sumTab_below hT hbw) (disk_below hd hbw));have HAl:=hide (all_len ps ls root);have HAs:=hide (all_small ps ls root)
 have HKo:=hide (fun k x hk hx hh wx ht h=>implIndexKeysOf_any ps ls hp hl hps hls (.agg #[.slice ap np cp,.slice al nl cl]) root k x hk hx hh wx ht h)
 obtain ⟨R,hR⟩:∃R,R=allI (fun q=>rdN (readD ps ls q)) root:=⟨_,rfl⟩
 rw [<-hR] at HA HAl HAs⊢;have HD:=hide hd;have HT:=hide hT
 have HQ0:Hid (∀wx,Below b w0 wx->wx.cell? ⟨w.heap.size,0,none⟩=some (.slice ap np cp)/\wx.cell? ⟨w.heap.size,1,none⟩=some (.slice al nl cl)):=hide (fun wx hb=>by
  have h:=(hb.block w.heap.size (by omega)).trans hq
  exact ⟨(cell_at h 0).1,(cell_at h 1).1⟩)
 have HB0:Hid (w.heap.size<=b/\Below w.heap.size w w0/\b=w0.heap.size):=hide ⟨by omega,hb0,hbz⟩
 have HB2:=hide hb2;obtain ⟨D,hD⟩:∃D,D=readD ps ls:=⟨_,rfl⟩;rw [<-hD] at HKo⊢;obtain ⟨q0,q1⟩:=HQ0.out w2 hb2;rw [hw2] at q0 q1;clear hp hl hps hls hd hT hb0 hR hq hz0 hD hS0 hS1 hb2 hbw;go_enter Tryz.func24,Tryz.ntmps24;go_wp2_with fail;rw [<-hw0];clear hw0
 refine wp_scope_jumps 0 (fun a' w'=>(a'.tmps.size=63/\a'.defers= [])/\IdxTold R D root (fun W H b=>b=true↔∀x,x∈W↔x∈H) false/\Below w.heap.size w w') (fun _ _=>0) rfl ?_ ?_
 rotate_left
 ·rintro ⟨T,df⟩ w' ⟨⟨hT,hdf⟩,hN,hb⟩
  dsimp only at hT hdf;subst hdf;go_wp2_with fail
  simp only [Exit.jump]
  go_ret
  exact ⟨false,by simp [hT],hN,hb⟩
 go_wp2_with fail;rw [<-hw2,<-hbz];clear hw2 q0 q1 hbz;refine HA.out.mono ?_;rintro e w1 ⟨v,rfl,hown,hb1⟩;obtain ⟨L,rb⟩:=R;dsimp only at hown HAl HAs⊢;obtain ⟨vx,vc,rfl⟩:=own_slice hown
 have hA1:Below b w0 w1:=HB2.out.trans (hb1.mono (by have:=HB0.out.2.2;have:=HB2.out.size;omega))
 have HB1:=hide hA1;have hwb:Below w.heap.size w w1:=HB0.out.2.1.trans (hA1.mono HB0.out.1);have HBw1:=hide hwb;have hln:L.length<=100000:=HAl.out
 have hS1:=sep_add HS2.out hb1 (rowA b 91 2 (.slice vx L.length vc) L.length (prs L)) (own_down hown (by have:=HB0.out.2.2;have:=HB2.out.size;omega)) (fun k hk=>hown.lt k hk) (by have:=HB0.out.2.2;have:=HB2.out.size;omega)
 obtain ⟨n,hn⟩:∃n,n=L.length:=⟨_,rfl⟩;rw [<-hn] at hln hS1⊢;have HS1:Hid (ThreeS b w1 (.slice vx n vc) n L (.slice (some ⟨b,0,none⟩) 0 0) 0 [] (.slice (some ⟨b+1,0,none⟩) 0 0) 0 []):=hide hS1;have HN:=hide hn;clear hown hb1 hn hA1 hwb hS1 HS2
 cases rb with
 | false=>
  go_wp2_with fail;go_step3;exact ⟨rfl,⟨rfl,rfl⟩,Or.inl ⟨rfl,rfl⟩,HBw1.out⟩
 | true=>
  go_wp2_with fail
  go_loopg [5,6,25] n (fun q wv hv iv wr=>∃(i nw nh gh:Nat) (W H:List ByteArray) (xw:Option Addr) (cw ch:Nat),i<=n/\q+i=n/\wv= .slice xw nw cw/\hv= .slice (some ⟨gh,0,none⟩) nh ch/\iv= .int .i64 (i:Int)/\nw<=3 * i/\nh<=i/\Hid (ThreeS b wr (.slice vx n vc) n L (.slice xw nw cw) nw W (.slice (some ⟨gh,0,none⟩) nh ch) nh H)/\Hid (Gath D root (L.take i) W H)/\Hid (Below b w0 wr))
  case atStart=>exact ⟨0,0,0,b+1,[],[],_,_,_,Nat.zero_le _,by omega,rfl,rfl,rfl,by omega,by omega,HS1,hide ⟨rfl,rfl⟩,HB1⟩
  case round=>
   clear HS1 HB1;obtain ⟨i,nw,nh,gh,W,H,xw,cw,ch,hin,hq,rfl,rfl,rfl,hnw,hnh,HS,HG,HB⟩:=hrel;have HQ:=hide hq;clear hq
   have hws:b<=wr.heap.size:=by have:=HB0.out.2.2;have:=HB.out.size;omega
   by_cases hlt:i<n
   ·have hli:i<L.length:=by rw [<-HN.out];exact hlt
    obtain ⟨gp,rfl⟩:∃gp,vx=some ⟨gp,0,none⟩:=by
     rcases (sep_get HS.out 0 rfl:wr.ownsRow b 91 2 (.slice vx n vc) n (prs L)).2 with ⟨e,h0⟩ | ⟨g,cc,cur,e,_⟩
     ·omega
     ·injection e with e1;exact ⟨g,e1⟩
    obtain ⟨k,hk⟩:∃k,k=L[i].1:=⟨_,rfl⟩;obtain ⟨x,hx⟩:∃x,x=L[i].2:=⟨_,rfl⟩
    obtain ⟨hc0,hc1,hgp⟩:wr.cell? ⟨gp,i * 2,none⟩=some (.string k)/\wr.cell? ⟨gp,i * 2+1,none⟩=some (.string x)/\gp<wr.heap.size:=by
     obtain ⟨-,a,cap,ee,h2⟩:=row_of_own (sep_get HS.out 0 rfl:wr.ownsRow b 91 2 (.slice (some ⟨gp,0,none⟩) n vc) n (prs L))
     injection ee with e1 e2 e3
     subst e1
     rcases h2 with h0 | ⟨bp,off,e4,hbp,hcp⟩
     ·omega
     ·injection e4 with e4
      injection e4 with e5 e6
      subst e5 e6
      have z0:=hcp (i * 2) (by omega)
      have z1:=hcp (i * 2+1) (by omega)
      rw [Nat.zero_add] at z0 z1
      exact ⟨by rw [z0,(prs_at L i hli).1,hk],by rw [z1,(prs_at L i hli).2,hx],hbp⟩
    obtain ⟨hks,hxs⟩:=HAs.out _ (List.getElem_mem hli);rw [<-hk] at hks;rw [<-hx] at hxs
    have HP:Hid (L[i]=(k,x)):=hide (by rw [hk,hx])
    have HGs:Hid (∀ws hs,PairIs D root (k,x) ws hs->Gath D root (L.take (i+1)) (W++ws) (H++hs)):=hide (fun ws hs h=>gath_step hli HG.out (by rw [HP.out];exact h))
    have HNo:Hid (PairNo D root (k,x)->IdxTold (L,true) D root (fun W H b=>b=true↔∀x,x∈W↔x∈H) false):=hide (fun h=>Or.inr ⟨rfl,Or.inl ⟨rfl,(k,x),by rw [<-HP.out];exact List.getElem_mem hli,h⟩⟩)
    have hi0:(0:Int)<=(i:Int):=by omega
    have hi1:(i:Int)<(n:Int):=by omega
    obtain ⟨G,hG⟩:∃G,G=wr.heap.size:=⟨_,rfl⟩;obtain ⟨wa,hwa⟩:∃wa,wa=wr.alloc (Obj.cells #[.string k,.string x] 91):=⟨_,rfl⟩
    have hga:wa.heap[G]?=some (Obj.cells #[.string k,.string x] 91):=by rw [hwa,hG];exact heap_alloc_new wr _
    have HBa:Hid (Below b w0 wa):=hide (by rw [hwa];exact HB.out.alloc hws _)
    have HSa:Hid (ThreeS b wa (.slice (some ⟨gp,0,none⟩) n vc) n L (.slice xw nw cw) nw W (.slice (some ⟨gh,0,none⟩) nh ch) nh H):=hide (by rw [hwa];exact sep_alloc HS.out _)
    have HBw:Hid (Below w.heap.size w wa):=hide (HB0.out.2.1.trans (HBa.out.mono HB0.out.1))
    have hwz:b<=wa.heap.size:=by rw [hwa];simp;omega
    have p0:=(cell_at hga 0).1;have p1:=(cell_at hga 1).1;obtain ⟨d0,d1⟩:=HQ0.out wa HBa.out
    have HPo:=hide (fun wx=>Tryz.strings_HasPrefix k ⟨#[111]⟩ wx)
    have HPi:=hide (fun wx=>Tryz.strings_HasPrefix k ⟨#[105]⟩ wx)
    rw [pre_head] at HPo HPi;rw [hwa,hG] at p0 p1;rw [hwa] at d0 d1;clear hk hx HG HP hli hga hgp HS HB
    by_cases h111:headK k=some 111
    ·have HKk:=hide (HKo.out k x hks hxs h111 wa (sumTab_below HT.out HBw.out) (disk_below HD.out HBw.out))
     rw [decide_eq_true h111] at HPo;clear h111
     go_wp2_with (go_at_call 56;refine (HPo.out _).mono ?_;rintro e w4 ⟨rfl,rfl⟩)
     rw [<-hwa,<-hG];clear hwa hG p0 p1 d0 d1 hc0 hc1;refine HKk.out.mono ?_;rintro e w4 ⟨hor,hb4⟩;have HB4:Hid (Below b w0 w4):=hide (HBa.out.trans (hb4.mono hwz));have HS4:=hide (sep_below HSa.out hb4);have HBw4:Hid (Below w.heap.size w w4):=hide (HBw.out.trans (hb4.mono HBw.out.size));have hws4:b<=w4.heap.size:=Nat.le_trans hwz hb4.size;clear hb4
     rcases hor with ⟨u,ks,rfl,hko,hkl,hpi⟩ | ⟨rfl,hno⟩
     ·have HG2:=hide (HGs.out ks [] hpi)
      rw [List.append_nil] at HG2;have HKr:=hide (row_of_own hko);obtain ⟨x6,c6,rfl⟩:=own_slice hko;obtain ⟨nk,hnk⟩:∃n,n=ks.length:=⟨_,rfl⟩;rw [<-hnk] at HKr hkl⊢
      have hbd:nw+nk<=3000000:=by omega
      clear hko hpi hnk HNo
      go_wp2_with (at_builtin;refine wpList_strR HS4.out 1 rfl (Nat.le_refl _) hws4 hws4 rfl _ _ rfl rfl _ nk ks rfl HKr.out hbd ?_)
      intro b7 c7 w7 hS7 hb7;have HB7:Hid (Below b w0 w7):=hide (HB4.out.trans hb7);have HS7:=hide hS7;clear hS7 hb7;go_wp2_with fail
      go_roundg (gk - 1)
      case measure=>have:=HQ.out;omega
      case rel=>exact ⟨i+1,nw+nk,nh,gh,W++ks,H,_,_,ch,by omega,by have:=HQ.out;omega,rfl,rfl,by go_num,by omega,by omega,HS7,HG2,HB7⟩
     ·have HF:=hide (HNo.out hno)
      clear hno;go_wp2_with fail;go_step3;exact ⟨rfl,⟨rfl,rfl⟩,HF.out,HBw4.out⟩
    ·rw [decide_eq_false h111] at HPo
     by_cases h105:headK k=some 105
     ·rw [decide_eq_true h105] at HPi
      by_cases hx0:x=⟨#[]⟩
      ·have HG2:=hide (HGs.out [] [k] (pair_have (p:=(k,x)) h105 hx0))
       rw [List.append_nil] at HG2;subst hx0
       have HZa:Hid (wr.heap.size+1=wa.heap.size):=hide (by rw [hwa];simp)
       have hbd:nh<=3000000:=by omega
       clear h111 h105
       go_wp2_with (first | (go_at_call 56;(with_reducible refine (HPo.out _).mono ?_);rintro e w4 ⟨rfl,rfl⟩) | (go_at_call 56;(with_reducible refine (HPi.out _).mono ?_);rintro e w4 ⟨rfl,rfl⟩) | (at_builtin;rw [<-hwa];refine wpList_str1 HSa.out 2 rfl (Nat.le_refl _) hwz hwz rfl _ _ rfl rfl k HZa.out rfl hbd ?_))
       intro b7 c7 w7 hS7 hb7;rw [<-hwa] at hb7;have HB7:Hid (Below b w0 w7):=hide (HBa.out.trans hb7);have HS7:=hide hS7;clear hS7 hb7 hwa hG p0 p1 d0 d1 hc0 hc1 HZa;go_wp2_with fail
       go_roundg (gk - 1)
       case measure=>have:=HQ.out;omega
       case rel=>exact ⟨i+1,nw,nh+1,_,W,H++ [k],xw,cw,_,by omega,by have:=HQ.out;omega,rfl,rfl,by go_num,by omega,by omega,HS7,HG2,HB7⟩
      ·have HF:=hide (HNo.out (pair_full (p:=(k,x)) h105 hx0))
       have hxe:x.toList.isEmpty=false:=by rw [<-Bool.not_eq_true,List.isEmpty_iff,ByteArray.toList_eq];exact fun h=>hx0 (ba_same h)
       clear hx0 h111 h105
       go_wp2_with (first | (go_at_call 56;(with_reducible refine (HPo.out _).mono ?_);rintro e w4 ⟨rfl,rfl⟩) | (go_at_call 56;(with_reducible refine (HPi.out _).mono ?_);rintro e w4 ⟨rfl,rfl⟩))
       rw [<-hwa];go_step3;exact ⟨rfl,⟨rfl,rfl⟩,HF.out,HBw.out⟩
     ·rw [decide_eq_false h105] at HPi
      have HG2:=hide (HGs.out [] [] (pair_else (p:=(k,x)) h111 h105));rw [List.append_nil,List.append_nil] at HG2;clear h111 h105
      go_wp2_with (first | (go_at_call 56;(with_reducible refine (HPo.out _).mono ?_);rintro e w4 ⟨rfl,rfl⟩) | (go_at_call 56;(with_reducible refine (HPi.out _).mono ?_);rintro e w4 ⟨rfl,rfl⟩))
      rw [<-hwa]
      go_roundg (gk - 1)
      case measure=>have:=HQ.out;omega
      case rel=>exact ⟨i+1,nw,nh,gh,W,H,xw,cw,ch,by omega,by have:=HQ.out;omega,rfl,rfl,by go_num,by omega,by omega,HSa,HG2,HBa⟩
   ·have HG2:Hid (Gath D root L W H):=hide (by have h:=HG.out;rwa [List.take_of_length_le (by have:=HN.out;omega)] at h)
    have hlw:=row_nS (sep_get HS.out 1 rfl:wr.ownsRow b 9 1 (.slice xw nw cw) nw (strs W));have hlh:=row_nS (sep_get HS.out 2 rfl:wr.ownsRow b 9 1 (.slice (some ⟨gh,0,none⟩) nh ch) nh (strs H))
    have HA1:=hide (ascending_any W (by omega) b nw cw xw wr (sep_get HS.out 1 rfl))
    have HA2:Hid (∀wx,KeptC (fun k=>(Value.slice xw nw cw).ownBlock=some k) wr wx->Calls Tryz.prog 59 #[.slice (some ⟨gh,0,none⟩) nh ch] wx fun e w'=>e= .returned (.slice (some ⟨gh,0,none⟩) (cano (lsts H)).length ch)/\(∀g,some ⟨gh,0,none⟩=some (⟨g,0,none⟩:Addr)->∀j,j<(cano (lsts H)).length->w'.cell? ⟨g,0+j,none⟩=some (encStr ((cano (lsts H)).getD j [])))/\KeptC (fun k=>(Value.slice (some ⟨gh,0,none⟩) nh ch).ownBlock=some k) wx w'):=hide (fun wx hk=>by
     refine ascending_any H (by omega) b nh ch (some ⟨gh,0,none⟩) wx ?_
     exact (rowA b 9 1 (.slice (some ⟨gh,0,none⟩) nh ch) nh (strs H)).loc wr wx (sep_get HS.out 2 rfl) (fun k hk2=>hk.2.2.2.2 k (sep_lt HS.out 2 rfl k hk2).2 (fun e=>sep_apart HS.out 1 2 rfl rfl (by omega) k e hk2)))
    have HKp:Hid (∀wx wy,KeptC (fun k=>(Value.slice xw nw cw).ownBlock=some k) wr wx->KeptC (fun k=>(Value.slice (some ⟨gh,0,none⟩) nh ch).ownBlock=some k) wx wy->Below w.heap.size w wy/\∀g,xw=some ⟨g,0,none⟩->∀j,wy.cell? ⟨g,j,none⟩=wx.cell? ⟨g,j,none⟩):=hide (fun wx wy h1 h2=>by
     refine ⟨?_,fun g hg j=> ?_⟩
     ·have b1:Below b wr wx:=⟨h1.1,h1.2.1,h1.2.2.1,h1.2.2.2.1,fun k hk=>h1.2.2.2.2 k (by omega) (fun e=>by have:=(sep_lt HS.out 1 rfl k e).1;omega)⟩
      have b2:Below b wx wy:=⟨h2.1,h2.2.1,h2.2.2.1,h2.2.2.2.1,fun k hk=>h2.2.2.2.2 k (by have:=h1.2.2.2.1;omega) (fun e=>by have:=(sep_lt HS.out 2 rfl k e).1;omega)⟩
      exact HB0.out.2.1.trans (((HB.out.trans b1).trans b2).mono HB0.out.1)
     ·subst hg
      have hlt2:=(sep_lt HS.out 1 rfl g rfl).2
      have hb:=h2.2.2.2.2 g (by have:=h1.2.2.2.1;omega) (fun e=>sep_apart HS.out 1 2 rfl rfl (by omega) g rfl e)
      simp only [World.cell?,hb])
    have HEq:=hide (fun wx h1 h2=>equal_any W H xw gh cw ch wx (Nat.le_trans (cano_len _) (by rw [lsts,List.length_map];omega)) (Nat.le_trans (cano_len _) (by rw [lsts,List.length_map];omega)) h1 (by
     rcases (sep_get HS.out 1 rfl:wr.ownsRow b 9 1 (.slice xw nw cw) nw (strs W)).2 with ⟨e,h0⟩ | ⟨g,cc,cur,e,_⟩
     ·exact Or.inl (Nat.le_zero.1 (Nat.le_trans (cano_len _) (by rw [lsts,List.length_map];omega)))
     ·injection e with e1;exact Or.inr ⟨g,e1⟩) h2)
    have HFin:Hid (∀c,(c=true↔∀x,x∈W↔x∈H)->IdxTold (L,true) D root (fun W H b=>b=true↔∀x,x∈W↔x∈H) c):=hide (fun c h=>Or.inr ⟨rfl,Or.inr ⟨W,H,HG2.out,h⟩⟩)
    clear HG HG2 hlw hlh HS HB;obtain ⟨Zw,hZw⟩:∃Z,Z=cano (lsts W):=⟨_,rfl⟩;obtain ⟨Zh,hZh⟩:∃Z,Z=cano (lsts H):=⟨_,rfl⟩;rw [<-hZw] at HA1 HEq;rw [<-hZh] at HA2 HEq;clear hZw hZh;go_wp2_with fail;refine HA1.out.mono ?_;rintro e w3 ⟨rfl,hc3,hk3⟩;have HC3:=hide hc3;have HK3:=hide hk3;clear hc3 hk3;go_wp2_with fail;refine (HA2.out w3 HK3.out).mono ?_;rintro e w4 ⟨rfl,hc4,hk4⟩;obtain ⟨hb4,hs4⟩:=HKp.out w3 w4 HK3.out hk4;have HB4:=hide hb4
    have HE4:=hide (HEq.out w4 (fun g' hg' j hj=>by rw [hs4 g' hg' (0+j)];exact HC3.out g' hg' j hj) (fun j hj=>hc4 gh rfl j hj))
    clear hc4 hk4 hb4 hs4;go_wp2_with fail;refine HE4.out.mono ?_;rintro e w5 ⟨c,rfl,hc,hb5⟩;have HF:=hide (HFin.out c hc);have HB5:Hid (Below w.heap.size w w5):=hide (HB4.out.trans (hb5.mono HB4.out.size));clear hc hb5;go_wp2_with fail
    simp only [Exit.jump]
    go_ret;exact ⟨c,rfl,HF.out,HB5.out⟩
end Go.Proofs.YtjmgdmdleamenaaGreatDoor
