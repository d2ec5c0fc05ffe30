/-
  Facts and contracts that the law's own text rests on, by their texts' names: WalkSpec.
-/
import Derived.Deep.AppendLies
import Derived.Laws.Cover1
import Derived.Test.YtcbogiebfbbmbaaGreatDoorDa7
import Derived.Test.YtcbogiebfbbmbaaGreatDoorDa1
import Derived.Test.YtcbogiebfbbmbaaGreatDoorDa27
import Derived.Test.YtcbogiebfbbmbaaGreatDoorDa29
set_option maxHeartbeats 16000000
set_option maxRecDepth 100000
namespace Go.Proofs.YtcbogiebfbbmbaaGreatDoor
open Go.RowKit
def InC:Prop:=∀(l:List Int),l.length<=1048576->∀(x:Int) (v:Value) (w:World),RowAt w 1 v l.length (ints l)->Calls Tryz.prog 67 #[v,.int .i64 x] w fun e w'=>e= .returned (.bool (decide (x∈l)))/\w=w'
def WkPost (W:World) (ga:Nat) (a:Al) (vp vg vd:Value) (W':World):Prop:=∃vp' vg' vd',AlIs W' ga a vp' vg' vd'/\KeptC (AlF ga vp vg vd) W W'/\(∀k,AlF ga vp' vg' vd' k->AlF ga vp vg vd k\/W.heap.size<=k)
theorem wk_bad {W X:World} {ga:Nat} {a:Al} {vp vg vd:Value} (h:AlIs W ga a vp vg vd) (hb:Below W.heap.size W X):WkPost W ga {a with bad:=true} vp vg vd (X.setCell ⟨ga,3,none⟩ (.bool true)):=
 ⟨vp,vg,vd,al_bad (zc4 h hb) true,zbk (zbd hb) (zc3 (C:=fun k=>k=ga) X 3 _ rfl) (fun _ e=>Or.inl (Or.inl e)),fun _ hk=>Or.inl hk⟩
theorem zmZ {W X:World} {ga:Nat} {a:Al} {vp vg vd:Value} (h:WkPost W ga a vp vg vd X) (o:Obj):WkPost W ga a vp vg vd (X.alloc o):=by
 obtain ⟨vp',vg',vd',h1,h2,h3⟩:=h
 exact ⟨vp',vg',vd',zc4 h1 ((Below.refl _ _).alloc (Nat.le_refl _) _),zbk h2 (zja (fun _=>False) X o) (fun _ h=>h.elim),h3⟩
theorem ziI (hIn:InC) (ps:List ByteArray) (ls:List (Int×ByteArray)) (hp:ps.length<=1048576) (hl:ls.length<=1048576) (hps:∀s∈ps,s.size<=1048576) (hls:∀p∈ls,p.2.size<=1048576) (v1 v2:Value) (p:Int) (deep:Nat) (low high:ByteArray) (has:Bool) (a:Al) (ga:Nat) (vp vg vd:Value) (W:World)
  (hd:DiskAt W (.agg #[v1,v2]) ps ls) (hA:AlIs W ga a vp vg vd) (hlen:a.pages.length<=100000) (hs:(rdN (readD ps ls p)).2=false\/8<=deep\/p∈a.pages\/a.bad=true):
  Calls Tryz.prog 43 #[.agg #[v1,v2],.int .i64 p,.int .i64 (deep:Int),.string low,.string high,.bool has,.pointer (some ⟨ga,0,none⟩)] W fun e W'=>(∃r,e= .returned r)/\WkPost W ga {a with bad:=true} vp vg vd W':=by
 have HRP:=hide (fun wx h=>zbU (.agg #[v1,v2]) ps ls hp hl p wx h)
 have HRN:=hide (fun wx=>zc0 (readD ps ls p) (zbr hps hls p) wx)
 have HD:=hide hd;have HA:=hide hA
 have HI:=hide (fun v w h=>hIn a.pages (by omega) p v w h)
 obtain ⟨t,ht⟩:∃t,t=readD ps ls p:=⟨_,rfl⟩;rw [<-ht] at HRP HRN hs;obtain ⟨w0,hw0⟩:∃w0,w0=W.alloc (.cells #[v1,v2] 29 (0,0)):=⟨_,rfl⟩
 have hb0:Below W.heap.size W w0:=by rw [hw0];exact (Below.refl _ _).alloc (Nat.le_refl _) _
 have HB0:=hide hb0
 have HV0:Hid (w0.heap[W.heap.size]?=some (.cells #[v1,v2] 29 (0,0))):=hide (by rw [hw0];exact heap_alloc_new W _)
 have HS:=hide hs;clear hp hl hps hls hd hA hlen hs ht hb0;go_enter Tryz.func43,Tryz.ntmps43;go_wp2_with fail;rw [<-hw0];clear hw0;refine (HRP.out _ (zak HD.out HB0.out)).mono ?_;rintro e w1 ⟨rfl,hb1⟩;have HB1:Hid (Below W.heap.size W w1):=hide (HB0.out.trans (hb1.mono HB0.out.size));clear hb1;go_wp2_with fail;refine (HRN.out _).mono ?_;rintro e w2 ⟨n,v,ok,rfl,hrn,hno,hb2⟩;have hr:=zgi hrn;obtain ⟨a1,c1,a2,c2,a3,c3,rfl⟩:=zb8 hno;have HB2:Hid (Below W.heap.size W w2):=hide (HB1.out.trans (hb2.mono HB1.out.size));obtain ⟨w3,hw3⟩:∃w3,w3=w2.alloc (.cells #[.bool n.lf,.slice a1 n.ks.length c1,.slice a2 n.vs.length c2,.slice a3 n.cs.length c3] 71 (0,0)):=⟨_,rfl⟩
 have hb3:Below w2.heap.size w2 w3:=by rw [hw3];exact (Below.refl _ _).alloc (Nat.le_refl _) _
 have HB3:Hid (Below W.heap.size W w3):=hide (HB2.out.trans (hb3.mono HB2.out.size));have HA2:=hide (zc4 HA.out HB2.out);have HA3:=hide (zc4 HA.out HB3.out);rw [hr] at HS;clear hb2 hb3 hno hrn hr;have q1:=(za0 HA2.out.1 1).1;have q3:=(za0 HA2.out.1 3).1;have z3:=(za0 HA2.out.1 3).2;have hlt:ga<w2.heap.size:=(Array.getElem?_eq_some_iff.1 HA2.out.1).1
 have hne:ga≠w2.heap.size:=by omega
 have hEnd:Hid (WkPost W ga {a with bad:=true} vp vg vd ((w2.setCell ⟨ga,3,none⟩ (.bool true)).alloc (.cells #[.bool n.lf,.slice a1 n.ks.length c1,.slice a2 n.vs.length c2,.slice a3 n.cs.length c3] 71 (0,0)))):=hide (zmZ (wk_bad HA.out HB2.out) _)
 have hEnd3:Hid (WkPost W ga {a with bad:=true} vp vg vd (w3.setCell ⟨ga,3,none⟩ (.bool true))):=hide (wk_bad HA.out HB3.out)
 cases ok with
 | false=>
  go_wp2_with fail;exact bodyPost_ret (results_none rfl _ _ _) rfl ⟨⟨_,rfl⟩,hEnd.out⟩
 | true=>
  by_cases hde:8<=deep
  ·have d8:(8:Int)<=(deep:Int):=by omega
   go_wp2_with fail;exact bodyPost_ret (results_none rfl _ _ _) rfl ⟨⟨_,rfl⟩,hEnd.out⟩
  ·have d8:decide ((8:Int)<=(deep:Int))=false:=decide_eq_false (by omega)
   have d9:¬((8:Int)<=(deep:Int)):=by omega
   go_wp2_with fail;rw [<-hw3];clear hw3;refine (HI.out vg _ (zaa HA3.out.2.2.1)).mono ?_;rintro e w4 ⟨rfl,rfl⟩;have r3:=(za0 HA3.out.1 3).1;have y3:=(za0 HA3.out.1 3).2;clear q1 q3 z3 hlt hne
   by_cases hm:p∈a.pages
   ·have dm:decide (p∈a.pages)=true:=decide_eq_true hm
    rw [dm];go_wp2_with fail;exact bodyPost_ret (results_none rfl _ _ _) rfl ⟨⟨_,rfl⟩,hEnd3.out⟩
   ·have dm:decide (p∈a.pages)=false:=decide_eq_false hm
    have hbad:a.bad=true:=by
     rcases HS.out with h | h | h | h
     ·cases h
     ·exact absurd h hde
     ·exact absurd h hm
     ·exact h
    rw [hbad] at r3;rw [dm];go_wp2_with fail;exact bodyPost_ret (results_none rfl _ _ _) rfl ⟨⟨_,rfl⟩,hEnd3.out⟩
structure LoopI (W wr:World) (ga gb gn B:Nat) (v1 v2:Value) (ps:List ByteArray) (ls:List (Int×ByteArray)) (n:Nd) (nk nv nc:Value) (vp vg vd:Value) (a:Al) (vp' vg' vd':Value):Prop where
 al:AlIs wr ga a vp' vg' vd'
 kept:KeptC (AlF ga vp vg vd) W wr
 sub:∀k,AlF ga vp' vg' vd' k->AlF ga vp vg vd k\/W.heap.size<=k
 box:wr.heap[gb]?=some (.cells #[v1,v2] 29 (0,0))
 node:wr.heap[gn]?=some (.cells #[.bool n.lf,nk,nv,nc] 71 (0,0))
 own:NodeOwn wr B (.agg #[.bool n.lf,nk,nv,nc]) n.lf n.ks n.vs n.cs
 disk:DiskAt wr (.agg #[v1,v2]) ps ls
 away:∀k,(k=gb\/k=gn\/nodeBlocks (.agg #[.bool n.lf,nk,nv,nc]) k)->¬AlF ga vp' vg' vd' k
theorem LoopI.step {W wr w':World} {ga gb gn B:Nat} {v1 v2:Value} {ps:List ByteArray} {ls:List (Int×ByteArray)} {n:Nd} {nk nv nc vp vg vd:Value} {a a':Al} {vp' vg' vd' vp2 vg2 vd2:Value} (h:LoopI W wr ga gb gn B v1 v2 ps ls n nk nv nc vp vg vd a vp' vg' vd') (hdk:∀k,diskBlocks (.agg #[v1,v2]) k->k<ga)
  (ha:AlIs w' ga a' vp2 vg2 vd2) (hk:KeptC (AlF ga vp' vg' vd') wr w') (hs:∀k,AlF ga vp2 vg2 vd2 k->AlF ga vp' vg' vd' k\/wr.heap.size<=k):LoopI W w' ga gb gn B v1 v2 ps ls n nk nv nc vp vg vd a' vp2 vg2 vd2:=by
 have hk':Kept wr w' (AlF ga vp' vg' vd'):=hk
 have hlt:∀k,(k=gb\/k=gn\/nodeBlocks (.agg #[.bool n.lf,nk,nv,nc]) k)->k<wr.heap.size:=by
  rintro k (e | e | e)
  ·rw [e];exact (Array.getElem?_eq_some_iff.1 h.box).1
  ·rw [e];exact (Array.getElem?_eq_some_iff.1 h.node).1
  ·exact (zeS h.own k e).2
 exact {
  al:=ha
  kept:=zbk h.kept hk h.sub
  sub:=fun k hx=>by
   rcases hs k hx with hx | hx
   ·exact h.sub k hx
   ·exact Or.inr (Nat.le_trans h.kept.2.2.2.1 hx)
  box:=(hk.2.2.2.2 gb (hlt gb (Or.inl rfl)) (h.away gb (Or.inl rfl))).trans h.box
  node:=(hk.2.2.2.2 gn (hlt gn (Or.inr (Or.inl rfl))) (h.away gn (Or.inr (Or.inl rfl)))).trans h.node
  own:=zbM h.own hk' (fun k e=>h.away k (Or.inr (Or.inr e)))
  disk:=zl9 h.disk hk' (fun k _ e hx=>by have:=hdk k e;have:=(al_lt h.al k hx).1;omega)
  away:=fun k hx hy=>by
   rcases hs k hy with hy | hy
   ·exact h.away k hx hy
   ·have:=hlt k hx;omega}
theorem LoopI.below {W wr w':World} {ga gb gn B:Nat} {v1 v2:Value} {ps:List ByteArray} {ls:List (Int×ByteArray)} {n:Nd} {nk nv nc vp vg vd:Value} {a:Al} {vp' vg' vd':Value} (h:LoopI W wr ga gb gn B v1 v2 ps ls n nk nv nc vp vg vd a vp' vg' vd') (hdk:∀k,diskBlocks (.agg #[v1,v2]) k->k<ga) (hb:Below wr.heap.size wr w'):LoopI W w' ga gb gn B v1 v2 ps ls n nk nv nc vp vg vd a vp' vg' vd':=
 h.step hdk (zc4 h.al hb) (zbd hb) (fun _ hk=>Or.inl hk)
theorem Tryz.infoIntW:(Tryz.prog.info? 3).map (fun i=>(i.zero,i.size,i.bytes))=some (some (.int .i64 0),1,8):=by kernel_rfl
theorem Tryz.infoPair:(Tryz.prog.info? 41).map (fun i=>(i.zero,i.size,i.bytes))=some (some (.agg #[.string ⟨#[]⟩,.string ⟨#[]⟩]),2,32):=by kernel_rfl
theorem zhS (w:World) (n:Nat) (hn:n=w.heap.size) (x:Value) (T:TypeId):∀(j:Nat) (u:Value),[x][j]?=some u->(w.alloc (Obj.cells #[x] T)).cell? ((⟨n,0,none⟩:Addr).add j)=some u:=by
 subst hn;intro j u hj
 obtain rfl:j=0:=by have:=(List.getElem?_eq_some_iff.1 hj).1;simp at this;omega
 simp at hj
 subst hj
 simp [Addr.add]
theorem zd4 (w:World) (n:Nat) (hn:n=w.heap.size) (x y:ByteArray) (T:TypeId):∀(j:Nat) (u:Value),[Value.string x,.string y][j]?=some u->(w.alloc (.cells #[.string x,.string y] T (0,0))).cell? ((⟨n,0,none⟩:Addr).add j)=some u:=by
 subst hn;intro j u hj;have hb:=heap_alloc_new w (Obj.cells #[.string x,.string y] T)
 match j,hj with
 | 0,hj=>simp at hj;subst hj;simp only [Addr.add_lit,Nat.add_zero];exact (za0 hb 0).1
 | 1,hj=>simp at hj;subst hj;simp only [Addr.add_lit];exact (za0 hb 1).1
theorem zcK {w:World} {B:Nat} {b nk nv nc:Value} {lf:Bool} {ks vs:List ByteArray} {cs:List Int} (h:NodeOwn w B (.agg #[b,nk,nv,nc]) lf ks vs cs):w.ownsRow B 9 1 nk ks.length (strs ks)/\w.ownsRow B 9 1 nv vs.length (strs vs)/\w.ownsRow B 3 1 nc cs.length (ints cs):=by
 obtain ⟨vk,vv,vc,e,h1,h2,h3,-⟩:=h;obtain ⟨-,rfl,rfl,rfl⟩:=agg4 e;exact ⟨h1,h2,h3⟩
theorem zdt {w:World} {B g lk c i:Nat} {b nv nc:Value} {lf:Bool} {ks vs:List ByteArray} {cs:List Int} (h:NodeOwn w B (.agg #[b,.slice (some ⟨g,0,none⟩) lk c,nv,nc]) lf ks vs cs) (hl:lk=ks.length) (hi:i<lk):w.cell? ⟨g,i,none⟩=some (.string (ks.getD i ⟨#[]⟩)):=by
 obtain ⟨o1,-,-⟩:=zcK h;rw [<-hl] at o1
 obtain ⟨g',e,hc⟩:=zd0 (i:=i) o1 (by omega) hl
 injection e with e
 injection e with e
 rw [e];exact hc
theorem zeJ {w:World} {B g lv c i:Nat} {b nk nc:Value} {lf:Bool} {ks vs:List ByteArray} {cs:List Int} (h:NodeOwn w B (.agg #[b,nk,.slice (some ⟨g,0,none⟩) lv c,nc]) lf ks vs cs) (hl:lv=vs.length) (hi:i<lv):w.cell? ⟨g,i,none⟩=some (.string (vs.getD i ⟨#[]⟩)):=by
 obtain ⟨-,o1,-⟩:=zcK h;rw [<-hl] at o1
 obtain ⟨g',e,hc⟩:=zd0 (i:=i) o1 (by omega) hl
 injection e with e
 injection e with e
 rw [e];exact hc
theorem zm2 (hIn:InC) (ps:List ByteArray) (ls:List (Int×ByteArray)) (hp:ps.length<=1048576) (hl:ls.length<=1048576) (hps:∀s∈ps,s.size<=1048576) (hls:∀p∈ls,p.2.size<=1048576) (v1 v2:Value) (p:Int) (deep:Nat) (low high:ByteArray) (has:Bool) (a:Al) (ga:Nat) (vp vg vd:Value) (W:World)
  (hd:DiskAt W (.agg #[v1,v2]) ps ls) (hdk:∀k,diskBlocks (.agg #[v1,v2]) k->k<ga) (hA:AlIs W ga a vp vg vd) (hlen:a.pages.length<=100000/\a.pairs.length<=400000/\a.depths.length<=100000) (hs:(rdN (readD ps ls p)).2=true) (hde:deep<8) (hm:¬p∈a.pages) (hbad:a.bad=false) (hlf:(rdN (readD ps ls p)).1.lf=true) (f:Int->Nat->ByteArray->ByteArray->Bool->Al->Al):
  Calls Tryz.prog 43 #[.agg #[v1,v2],.int .i64 p,.int .i64 (deep:Int),.string low,.string high,.bool has,.pointer (some ⟨ga,0,none⟩)] W fun e W'=>(∃r,e= .returned r)/\WkPost W ga {(loopS f (rdN (readD ps ls p)).1 deep low high has {a with pages:=a.pages++ [p]} (rdN (readD ps ls p)).1.ks.length) with depths:=(loopS f (rdN (readD ps ls p)).1 deep low high has {a with pages:=a.pages++ [p]} (rdN (readD ps ls p)).1.ks.length).depths++ [(deep:Int)]} vp vg vd W':=by
 obtain ⟨i0,hi,hz0,hz1,hz2⟩:=info_parts Tryz.infoIntW;obtain ⟨i1,hj,hy0,hy1,hy2⟩:=info_parts Tryz.infoPair
 have HRP:=hide (fun wx h=>zbU (.agg #[v1,v2]) ps ls hp hl p wx h)
 have HRN:=hide (fun wx=>zc0 (readD ps ls p) (zbr hps hls p) wx)
 have HD:=hide hd;have HA:=hide hA
 have HI:=hide (fun v w h=>hIn a.pages (by omega) p v w h)
 have dm:decide (p∈a.pages)=false:=decide_eq_false hm;rw [dm] at HI;obtain ⟨t,ht⟩:∃t,t=readD ps ls p:=⟨_,rfl⟩;rw [<-ht] at HRP HRN hs hlf⊢;obtain ⟨NR,hNR⟩:∃n,n=(rdN t).1:=⟨_,rfl⟩;rw [<-hNR] at hlf⊢;have HNR:=hide hNR;clear hNR;obtain ⟨w0,hw0⟩:∃w0,w0=W.alloc (.cells #[v1,v2] 29 (0,0)):=⟨_,rfl⟩;obtain ⟨gb,hgb⟩:∃g,g=W.heap.size:=⟨_,rfl⟩
 have hb0:Below W.heap.size W w0:=by rw [hw0];exact (Below.refl _ _).alloc (Nat.le_refl _) _
 have HB0:=hide hb0
 have HV0:Hid (w0.heap[gb]?=some (.cells #[v1,v2] 29 (0,0))):=hide (by rw [hw0,hgb];exact heap_alloc_new W _)
 have HGb:=hide hgb;have HS:=hide (⟨hs,hlf⟩:_/\_);have HDk:=hide hdk;have HLn:=hide hlen;have hl1:=hlen.1;have hl2:=hlen.2.1;have hl3:=hlen.2.2;clear hp hl hps hls hd hA hlen hs ht hb0 hdk hm dm hlf;go_enter Tryz.func43,Tryz.ntmps43;go_wp2_with fail;rw [<-hw0,<-hgb];clear hw0 hgb;refine (HRP.out _ (zak HD.out HB0.out)).mono ?_;rintro e w1 ⟨rfl,hb1⟩;have HB1:Hid (Below W.heap.size W w1):=hide (HB0.out.trans (hb1.mono HB0.out.size));have HV1:=hide (stays HV0.out hb1);clear hb1;go_wp2_with fail;refine (HRN.out _).mono ?_;rintro e w2 ⟨n,v,ok,rfl,hrn,hno,hb2⟩;have hr:=zgi hrn;obtain ⟨hok,hlf⟩:=HS.out;have hNR:=HNR.out;rw [hr] at hok hNR;dsimp only at hok hNR;subst hok;have hNR2:=hNR.symm;subst hNR2;have hnok:=zew hr;obtain ⟨a1,c1,a2,c2,a3,c3,rfl⟩:=zb8 hno;have HB2:Hid (Below W.heap.size W w2):=hide (HB1.out.trans (hb2.mono HB1.out.size));have HV2:=hide (stays HV1.out hb2);have HN:=hide (⟨hnok,hlf,hno⟩:_/\_/\_);have HSz:Hid (W.heap.size<=w1.heap.size/\w1.heap.size<=w2.heap.size):=hide ⟨HB1.out.size,hb2.size⟩;obtain ⟨lk,hlk⟩:∃lk,lk=n.ks.length:=⟨_,rfl⟩;obtain ⟨lv,hlv⟩:∃lv,lv=n.vs.length:=⟨_,rfl⟩;obtain ⟨lc,hlc⟩:∃lc,lc=n.cs.length:=⟨_,rfl⟩;rw [<-hlk,<-hlv,<-hlc];have HLk:=hide (⟨hlk,hlv,hlc⟩:_/\_/\_);obtain ⟨w3,hw3⟩:∃w3,w3=w2.alloc (.cells #[.bool n.lf,.slice a1 lk c1,.slice a2 lv c2,.slice a3 lc c3] 71 (0,0)):=⟨_,rfl⟩;obtain ⟨gn,hgn⟩:∃g,g=w2.heap.size:=⟨_,rfl⟩
 have hb3:Below w2.heap.size w2 w3:=by rw [hw3];exact (Below.refl _ _).alloc (Nat.le_refl _) _
 have HB3:Hid (Below W.heap.size W w3):=hide (HB2.out.trans (hb3.mono HB2.out.size));have HA2:=hide (zc4 HA.out HB2.out)
 have HL3:Hid (LoopI W w3 ga gb gn w1.heap.size v1 v2 ps ls n (.slice a1 lk c1) (.slice a2 lv c2) (.slice a3 lc c3) vp vg vd a vp vg vd):=hide {
  al:=zc4 HA.out HB3.out
  kept:=zbd HB3.out
  sub:=fun _ h=>Or.inl h
  box:=stays HV2.out hb3
  node:=by rw [hw3,hgn];exact heap_alloc_new w2 _
  own:=by rw [hlk,hlv,hlc];exact zaV hno hb3
  disk:=zak HD.out HB3.out
  away:=fun k hx hy=>by
   have h1:=(al_lt HA.out k hy).2;have h2:=HSz.out
   rcases hx with hx | hx | hx
   ·have:=HGb.out;omega
   ·omega
   ·rw [hlk,hlv,hlc] at hx
    have:=(zeS hno k hx).1
    omega}
 have q1:=(za0 HA2.out.1 1).1;have hlt:ga<w2.heap.size:=(Array.getElem?_eq_some_iff.1 HA2.out.1).1
 have hne:ga≠w2.heap.size:=by omega
 have d8:decide ((8:Int)<=(deep:Int))=false:=decide_eq_false (by omega)
 have d9:¬((8:Int)<=(deep:Int)):=by omega
 clear hb2 hb3 hno hrn hr hlk hlv hlc hnok hlf hNR;go_wp2_with fail;rw [<-hw3,<-hgn];clear hw3 hgn q1 hlt hne;refine (HI.out vg _ (zaa HL3.out.al.2.2.1)).mono ?_;rintro e w4 ⟨rfl,rfl⟩;have r1:=(za0 HL3.out.al.1 1).1;have r3:=(za0 HL3.out.al.1 3).1;rw [hbad] at r3;obtain ⟨xg,yg,hvg⟩:=za4 HL3.out.al.2.2.1;subst hvg
 go_wp2_with (at_builtin;(refine wpList_append_lies _ rfl _ _ 32 rfl (ga+1) 3 i0 (.int .i64 0) 1 8 Tryz.underlying32 hi hz0 hz1 hz2 rfl (by decide) _ a.pages.length (ints a.pages) rfl (HL3.out.al.2.2.1.alloc _) ⟨w3.heap.size,0,none⟩ 1 1 [.int .i64 p] rfl rfl (zhS w3 _ rfl _ _) ?c1 (by decide) ?c3 ?c4 ?c5 _ rfl ?_))
 case c1=>intro u hu;simp at hu;subst hu;rfl
 case c3=>unfold maxLen;omega
 case c4=>omega
 case c5=>have:=(al_lt HL3.out.al ga (Or.inl rfl)).2;simp;omega
 intro b4 d4 w4 hown4 hg4 hb4 hl4;obtain ⟨st1,st2,st3,st4,st5⟩:=zlt HL3.out.al hown4 hg4 hb4;have HL4:=hide (HL3.out.step HDk.out st1 st2 st3);clear hown4 hg4 hb4 hl4 st1 st2 st3 r1 r3;obtain ⟨w5,hw5⟩:∃w5,w5=w4.setCell ⟨ga,1,none⟩ (.slice (some ⟨b4,0,none⟩) (a.pages.length+1) d4):=⟨_,rfl⟩;rw [<-hw5] at HL4
 obtain ⟨b0,hb0⟩:∃b:Al,b={a with pages:=a.pages++ [p]}:=⟨_,rfl⟩
 have hq1:b0.pairs=a.pairs:=by rw [hb0]
 have hq2:b0.depths=a.depths:=by rw [hb0]
 rw [<-hb0] at HL4;obtain ⟨hnok,hlf,-⟩:=HN.out;obtain ⟨hc1,hc2,hc3,-⟩:=zaX (zam hnok).1;obtain ⟨hlk,hlv,hlc⟩:=HLk.out
 have hlvk:lv=lk:=by have:=(hc3 hlf).1;omega
 obtain ⟨o1,o2,-⟩:=zcK HL4.out.own
 obtain ⟨gk',rfl⟩:∃g,a1=some ⟨g,0,none⟩:=by
  obtain ⟨g,e,-⟩:=zd0 (i:=0) (by rw [<-hlk] at o1;exact o1) (by omega) hlk
  exact ⟨g,e⟩
 obtain ⟨gv,rfl⟩:∃g,a2=some ⟨g,0,none⟩:=by
  obtain ⟨g,e,-⟩:=zd0 (i:=0) (by rw [<-hlv] at o2;exact o2) (by omega) hlv
  exact ⟨g,e⟩
 have hlk4:lk<=4:=by omega
 have HLvk:=hide hlvk;clear hlvk;have HLf:=hide hlf;have HB5:=hide (⟨hb0,hq1,hq2⟩:_/\_/\_);clear o1 o2 hc1 hc2 hc3 hlk hlv hlc hnok hlf hb0 hq1 hq2;go_wp2_with fail;rw [<-hw5];clear hw5 st4 st5
 go_loopg [16] lk (fun q iv wr=>∃(i:Nat) (a':Al) (vp' vg' vd':Value),q+i=lk/\iv= .int .i64 (i:Int)/\Hid (a'=loopS f n deep low high has b0 i)/\Hid (LoopI W wr ga gb gn w1.heap.size v1 v2 ps ls n (.slice (some ⟨gk',0,none⟩) lk c1) (.slice (some ⟨gv,0,none⟩) lv c2) (.slice a3 lc c3) vp (.slice xg a.pages.length yg) vd a' vp' vg' vd')/\Hid (a'.pairs.length=a.pairs.length+i/\a'.depths=a.depths))
 case atStart=>exact ⟨0,b0,_,_,_,by omega,rfl,hide rfl,HL4,hide ⟨by rw [HB5.out.2.1];omega,HB5.out.2.2⟩⟩
 case round=>
  obtain ⟨i,a',vp',vg',vd',hq,rfl,HAi,HQ0,HPi⟩:=hrel;have HQi:=hide hq;have n1:=(za0 HQ0.out.node 1).1
  by_cases hil:i<lk
  ·have hiv:i<lv:=by have:=HLvk.out;omega
   obtain ⟨x,hx⟩:∃x,x=n.ks.getD i ⟨#[]⟩:=⟨_,rfl⟩;obtain ⟨y,hy⟩:∃y,y=n.vs.getD i ⟨#[]⟩:=⟨_,rfl⟩
   have hcx:wr.cell? ⟨gk',i,none⟩=some (.string x):=by rw [hx];exact zdt HQ0.out.own HLk.out.1 hil
   have n0:=(za0 HQ0.out.node 0).1;rw [HLf.out] at n0;have n2:=(za0 HQ0.out.node 2).1;have HX:=hide hx;have HY:=hide hy
   have hi0:(0:Int)<=(i:Int):=by omega
   have hi1:(i:Int)<(lk:Int):=by omega
   have hi2:(i:Int)<(lv:Int):=by omega
   have HSt:Hid (∀o:Bool,outB x low high has=o->stepS f n deep low high has i a'={a' with loose:=a'.loose || o,pairs:=a'.pairs++ [(x,y)]}):=hide (fun o ho=>by rw [stepS,if_pos HLf.out,<-hx,<-hy,ho])
   clear hx hy hq;obtain ⟨l1,h1⟩:∃l,Op.bytesLess x.toList low.toList=l:=⟨_,rfl⟩;obtain ⟨l2,h2⟩:∃l,Op.bytesLess x.toList high.toList=l:=⟨_,rfl⟩
   have HO:Hid (outB x low high has=(l1 || (has && !l2))):=hide (by rw [outB,lessB,lessB,h1,h2])
   cases l1 with
   | true=>
    have m4:=(za0 HQ0.out.al.1 4).1;have z4:=(za0 HQ0.out.al.1 4).2;go_wp2_with fail;clear m4 z4
    obtain ⟨aq,haq⟩:∃b:Al,b={a' with loose:=true}:=⟨_,rfl⟩
    obtain ⟨wq,hwq⟩:∃ws,ws=wr.setCell ⟨ga,4,none⟩ (.bool true):=⟨_,rfl⟩
    have HQ:Hid (LoopI W wq ga gb gn w1.heap.size v1 v2 ps ls n (.slice (some ⟨gk',0,none⟩) lk c1) (.slice (some ⟨gv,0,none⟩) lv c2) (.slice a3 lc c3) vp (.slice xg a.pages.length yg) vd aq vp' vg' vd'):=hide (by rw [hwq,haq];exact HQ0.out.step HDk.out (zjX HQ0.out.al true) (zc3 wr 4 _ (Or.inl rfl)) (fun _ h=>Or.inl h))
    have HPq:Hid (aq.pairs.length=a'.pairs.length):=hide (by rw [haq])
    have HDq:Hid (aq.depths=a.depths):=hide (by rw [haq];exact HPi.out.2)
    have HFin:Hid ({aq with pairs:=aq.pairs++ [(x,y)]}=loopS f n deep low high has b0 (i+1)):=hide (by rw [loopS,<-HAi.out,HSt.out true (by rw [HO.out];rfl),haq,Bool.or_true])
    rw [<-hwq];clear hwq haq;have m0:=(za0 HQ.out.al.1 0).1;obtain ⟨xp,yp,hvp⟩:=za4 HQ.out.al.2.1;subst hvp;have HQd:=hide (HQ.out.below HDk.out (Below.refl _ _).drew)
    have HSw:Hid (∀wx,NodeOwn wx w1.heap.size (.agg #[.bool n.lf,.slice (some ⟨gk',0,none⟩) lk c1,.slice (some ⟨gv,0,none⟩) lv c2,.slice a3 lc c3]) n.lf n.ks n.vs n.cs->wx.heap[gn]?=some (.cells #[.bool n.lf,.slice (some ⟨gk',0,none⟩) lk c1,.slice (some ⟨gv,0,none⟩) lv c2,.slice a3 lc c3] 71 (0,0))->wx.cell? ⟨gn,2,none⟩=some (.slice (some ⟨gv,0,none⟩) lv c2)/\wx.cell? ⟨gv,i,none⟩=some (.string y)):=hide (fun wx ho hn=>⟨(za0 hn 2).1,by rw [HY.out];exact zeJ ho HLk.out.2.1 hiv⟩)
    have hS0:=HSw.out _ HQd.out.own HQd.out.node
    have HLq:Hid (aq.pairs.length<1000000):=hide (by rw [HPq.out];have:=HPi.out.1;omega)
    refine wp_region_held_drew (S:=fun wx=>wx.cell? ⟨gn,2,none⟩=some (.slice (some ⟨gv,0,none⟩) lv c2)/\wx.cell? ⟨gv,i,none⟩=some (.string y)) (by kernel_rfl) hS0 (fun hHeld=> ?_)
    refine tK 0 89 ?_ rfl rfl (by kernel_rfl) (fun _ _ _ h=>h) ⟨by rfl,?_⟩ hHeld ?_
    rotate_left
    ·(intro wx hSw;(try dsimp only at hSw);go_simp;try with_reducible rfl)
    simp only [yA,yB,yC]
    refine tK 1 90 ?_ rfl rfl (by kernel_rfl) (fun _ _ _ h=>h) ⟨by rfl,?_⟩ hHeld ?_
    rotate_left
    ·(intro wx hSw;(try dsimp only at hSw);go_simp;try with_reducible rfl)
    simp only [yA,yB,yC]
    refine tK 2 91 ?_ rfl rfl (by kernel_rfl) (fun _ _ _ h=>h) ⟨by rfl,?_⟩ hHeld ?_
    rotate_left
    ·(intro wx hSw;(try dsimp only at hSw);go_simp;try with_reducible rfl)
    simp only [yA,yB,yC]
    refine tK 3 92 ?_ rfl rfl (by kernel_rfl) (fun _ _ _ h=>h) ⟨by rfl,?_⟩ hHeld ?_
    rotate_left
    ·(intro wx hSw;(try dsimp only at hSw);go_simp;try with_reducible rfl)
    simp only [yA,yB,yC]
    refine tK 5 94 ?_ rfl rfl (by kernel_rfl) (fun _ _ _ h=>h) ⟨by rfl,?_⟩ hHeld ?_
    rotate_left
    ·(intro wx hSw;(try dsimp only at hSw);go_simp;try with_reducible rfl)
    simp only [yA,yB,yC]
    refine tK 6 95 ?_ rfl rfl (by kernel_rfl) (fun _ _ _ h=>h) ⟨by rfl,?_⟩ hHeld ?_
    rotate_left
    ·(intro wx hSw;(try dsimp only at hSw);go_simp;try with_reducible rfl)
    simp only [yA,yB,yC]
    refine tK 7 96 ?_ rfl rfl (by kernel_rfl) (fun _ _ _ h=>h) ⟨by rfl,?_⟩ hHeld ?_
    rotate_left
    ·(intro wx hSw;(try dsimp only at hSw);go_simp;try with_reducible rfl)
    simp only [yA,yB,yC]
    refine tK 8 97 ?_ rfl rfl (by kernel_rfl) (fun _ _ _ h=>h) ⟨by rfl,?_⟩ hHeld ?_
    rotate_left
    ·(intro wx hSw;(try dsimp only at hSw);go_simp;try with_reducible rfl)
    simp only [yA,yB,yC]
    refine tK 9 98 ?_ rfl rfl (by kernel_rfl) (fun _ _ _ h=>h) ⟨by rfl,?_⟩ hHeld ?_
    rotate_left
    ·(intro wx hSw;(try dsimp only at hSw);go_simp;try with_reducible rfl)
    simp only [yA,yB,yC]
    refine tK 10 99 ?_ rfl rfl (by kernel_rfl) (fun _ _ _ h=>h) ⟨by rfl,?_⟩ hHeld ?_
    rotate_left
    ·(intro wx hSw;(try dsimp only at hSw);go_simp;try with_reducible rfl)
    simp only [yA,yB,yC]
    refine tK 11 100 ?_ rfl rfl (by kernel_rfl) (fun _ _ _ h=>h) ⟨by rfl,?_⟩ hHeld ?_
    rotate_left
    ·(intro wx hSw;(try dsimp only at hSw);go_simp;try with_reducible rfl)
    simp only [yA,yB,yC]
    refine wpAnyH_ready (rs:= [4,12]) (by kernel_rfl) (by simp) ?_
    have HQa:Hid (∀o,LoopI W (wq.drew.alloc o) ga gb gn w1.heap.size v1 v2 ps ls n (.slice (some ⟨gk',0,none⟩) lk c1) (.slice (some ⟨gv,0,none⟩) lv c2) (.slice a3 lc c3) vp (.slice xg a.pages.length yg) vd aq (.slice xp aq.pairs.length yp) vg' vd'):=hide (fun o=>HQd.out.below HDk.out ((Below.refl _ _).alloc (Nat.le_refl _) o))
    have HSa:Hid (∀o,(fun wx=>wx.cell? ⟨gn,2,none⟩=some (.slice (some ⟨gv,0,none⟩) lv c2)/\wx.cell? ⟨gv,i,none⟩=some (.string y)) (wq.drew.alloc o)):=hide (fun o=>HSw.out _ (HQa.out o).own (HQa.out o).node)
    have m0a:∀o,(wq.drew.alloc o).cell? ⟨ga,0,none⟩=some (.slice xp aq.pairs.length yp):=fun o=>(za0 (HQa.out o).al.1 0).1
    have m0b:∀o,(wq.alloc o).cell? ⟨ga,0,none⟩=some (.slice xp aq.pairs.length yp):=fun o=>m0a o
    refine ready2 rfl rfl ?_
    apply branch2
    ·intro hG K hK
     go_simp
     refine hK.out _ _ hHeld (fun hHeld=> ?_)
     clear hK K
     refine wpAnyH_ready (rs:= [12]) (by kernel_rfl) (by simp) ?_
     refine AllReadyH.cons rfl (fun K hK=> ?_) AllReadyH.nil
     go_simp
     refine hK.out _ _ (HSa.out _) (fun hHeld=> ?_)
     clear hK K;exact hG
    ·intro hG K hK
     go_simp
     refine hK.out _ _ (HSa.out _) (fun hHeld=> ?_)
     clear hK K
     refine wpAnyH_ready (rs:= [4]) (by kernel_rfl) (by simp) ?_
     refine AllReadyH.cons rfl (fun K hK=> ?_) AllReadyH.nil
     go_simp
     refine hK.out _ _ hHeld (fun hHeld=> ?_)
     clear hK K;exact hG
    refine wpAnyH_ready (rs:= [13]) (by kernel_rfl) (by simp) ?_
    refine AllReadyH.cons rfl (fun K hK=> ?_) AllReadyH.nil
    refine step_append_lies _ ?_ (.tmp 93) (.tmp 101) 24 ?_ (ga+1) 41 i1 (.agg #[.string ⟨#[]⟩,.string ⟨#[]⟩]) 2 32 Tryz.underlying24 hj hy0 hy1 hy2 ?_ ?_ (.slice xp aq.pairs.length yp) aq.pairs.length (prs aq.pairs) ?_ (HQd.out.al.2.1.alloc _) ⟨wq.heap.size,0,none⟩ 1 1 [.string x,.string y] ?_ ?_ (zd4 wq.drew _ rfl _ _ _) ?_ ?_ ?_ ?_ ?_ _ rfl ?_
    ·exact rfl
    ·exact rfl
    ·exact rfl
    ·decide
    ·exact rfl
    ·exact rfl
    ·exact rfl
    ·intro u hu;simp at hu;rcases hu with rfl | rfl <;> rfl
    ·decide
    ·have:=HLq.out;unfold maxLen;omega
    ·have:=HLq.out;omega
    ·have:=(al_lt HQd.out.al ga (Or.inl rfl)).2;simp at this⊢;omega
    intro b6 d6 wB hownB hgB hbB hlB
    obtain ⟨st1,st2,st3,cc,cf⟩:=zhI HQd.out.al hownB hgB (by simpa using hbB)
    have HLn:=hide (HQd.out.step HDk.out st1 st2 st3)
    have hSB:=HSw.out wB (zbM HQd.out.own (zbv (W:=wq.drew) hgB) (fun k e hx=>HQd.out.away k (Or.inr (Or.inr e)) (Or.inr (Or.inl hx)))) (((zbv (W:=wq.drew) hgB).2.2.2.2 gn (Array.getElem?_eq_some_iff.1 HQd.out.node).1 (fun hx=>HQd.out.away gn (Or.inr (Or.inl rfl)) (Or.inr (Or.inl hx)))).trans HQd.out.node)
    have hSC:=HSw.out _ HLn.out.own HLn.out.node
    refine hK.out (Act.put _ (some 102) _) _ hSB (fun hHeld=> ?_)
    clear hK K hownB hgB hbB hlB st1 st2 st3
    simp only [Act.put,yA,yB,yC]
    refine tK 14 103 ?_ rfl rfl (by kernel_rfl) (fun _ _ _ h=>h) ⟨by rfl,?_⟩ hHeld ?_
    rotate_left
    ·(intro wx hSw;(try dsimp only at hSw);go_simp;try with_reducible rfl)
    simp only [yA,yB,yC]
    refine tK 15 104 ?_ rfl rfl (by kernel_rfl) (fun _ _ _ h=>h) ⟨by rfl,?_⟩ hHeld ?_
    rotate_left
    ·(intro wx hSw;(try dsimp only at hSw);go_simp;try with_reducible rfl)
    simp only [yA,yB,yC]
    refine wpAnyH_ready (rs:= [16]) (by kernel_rfl) (by simp) ?_
    refine AllReadyH.cons rfl (fun K hK=> ?_) AllReadyH.nil
    go_simp
    refine hK.out _ _ hSC (fun hHeld=> ?_)
    clear hK K
    refine wpAnyH_done (by kernel_rfl) ?_ _
    go_wp2_with fail
    go_roundg (gk - 1)
    case measure=>have:=HQi.out;omega
    case rel=>exact ⟨i+1,_,_,_,_,by have:=HQi.out;omega,by go_num,HFin,HLn,hide ⟨by simp only [List.length_append,List.length_singleton];have:=HPq.out;have:=HPi.out.1;omega,HDq.out⟩⟩
   | false=>
    cases has with
    | false=>
     go_wp2_with fail;obtain ⟨aq,haq⟩:∃b:Al,b=a':=⟨_,rfl⟩;obtain ⟨wq,hwq⟩:∃ws,ws=wr:=⟨_,rfl⟩
     have HQ:Hid (LoopI W wq ga gb gn w1.heap.size v1 v2 ps ls n (.slice (some ⟨gk',0,none⟩) lk c1) (.slice (some ⟨gv,0,none⟩) lv c2) (.slice a3 lc c3) vp (.slice xg a.pages.length yg) vd aq vp' vg' vd'):=hide (by rw [hwq,haq];exact HQ0.out)
     have HPq:Hid (aq.pairs.length=a'.pairs.length):=hide (by rw [haq])
     have HDq:Hid (aq.depths=a.depths):=hide (by rw [haq];exact HPi.out.2)
     have HFin:Hid ({aq with pairs:=aq.pairs++ [(x,y)]}=loopS f n deep low high false b0 (i+1)):=hide (by rw [loopS,<-HAi.out,HSt.out false (by rw [HO.out];rfl),haq,Bool.or_false])
     rw [<-hwq];clear hwq haq;have m0:=(za0 HQ.out.al.1 0).1;obtain ⟨xp,yp,hvp⟩:=za4 HQ.out.al.2.1;subst hvp;have HQd:=hide (HQ.out.below HDk.out (Below.refl _ _).drew)
     have HSw:Hid (∀wx,NodeOwn wx w1.heap.size (.agg #[.bool n.lf,.slice (some ⟨gk',0,none⟩) lk c1,.slice (some ⟨gv,0,none⟩) lv c2,.slice a3 lc c3]) n.lf n.ks n.vs n.cs->wx.heap[gn]?=some (.cells #[.bool n.lf,.slice (some ⟨gk',0,none⟩) lk c1,.slice (some ⟨gv,0,none⟩) lv c2,.slice a3 lc c3] 71 (0,0))->wx.cell? ⟨gn,2,none⟩=some (.slice (some ⟨gv,0,none⟩) lv c2)/\wx.cell? ⟨gv,i,none⟩=some (.string y)):=hide (fun wx ho hn=>⟨(za0 hn 2).1,by rw [HY.out];exact zeJ ho HLk.out.2.1 hiv⟩)
     have hS0:=HSw.out _ HQd.out.own HQd.out.node
     have HLq:Hid (aq.pairs.length<1000000):=hide (by rw [HPq.out];have:=HPi.out.1;omega)
     refine wp_region_held_drew (S:=fun wx=>wx.cell? ⟨gn,2,none⟩=some (.slice (some ⟨gv,0,none⟩) lv c2)/\wx.cell? ⟨gv,i,none⟩=some (.string y)) (by kernel_rfl) hS0 (fun hHeld=> ?_)
     refine tK 0 89 ?_ rfl rfl (by kernel_rfl) (fun _ _ _ h=>h) ⟨by rfl,?_⟩ hHeld ?_
     rotate_left
     ·(intro wx hSw;(try dsimp only at hSw);go_simp;try with_reducible rfl)
     simp only [yA,yB,yC]
     refine tK 1 90 ?_ rfl rfl (by kernel_rfl) (fun _ _ _ h=>h) ⟨by rfl,?_⟩ hHeld ?_
     rotate_left
     ·(intro wx hSw;(try dsimp only at hSw);go_simp;try with_reducible rfl)
     simp only [yA,yB,yC]
     refine tK 2 91 ?_ rfl rfl (by kernel_rfl) (fun _ _ _ h=>h) ⟨by rfl,?_⟩ hHeld ?_
     rotate_left
     ·(intro wx hSw;(try dsimp only at hSw);go_simp;try with_reducible rfl)
     simp only [yA,yB,yC]
     refine tK 3 92 ?_ rfl rfl (by kernel_rfl) (fun _ _ _ h=>h) ⟨by rfl,?_⟩ hHeld ?_
     rotate_left
     ·(intro wx hSw;(try dsimp only at hSw);go_simp;try with_reducible rfl)
     simp only [yA,yB,yC]
     refine tK 5 94 ?_ rfl rfl (by kernel_rfl) (fun _ _ _ h=>h) ⟨by rfl,?_⟩ hHeld ?_
     rotate_left
     ·(intro wx hSw;(try dsimp only at hSw);go_simp;try with_reducible rfl)
     simp only [yA,yB,yC]
     refine tK 6 95 ?_ rfl rfl (by kernel_rfl) (fun _ _ _ h=>h) ⟨by rfl,?_⟩ hHeld ?_
     rotate_left
     ·(intro wx hSw;(try dsimp only at hSw);go_simp;try with_reducible rfl)
     simp only [yA,yB,yC]
     refine tK 7 96 ?_ rfl rfl (by kernel_rfl) (fun _ _ _ h=>h) ⟨by rfl,?_⟩ hHeld ?_
     rotate_left
     ·(intro wx hSw;(try dsimp only at hSw);go_simp;try with_reducible rfl)
     simp only [yA,yB,yC]
     refine tK 8 97 ?_ rfl rfl (by kernel_rfl) (fun _ _ _ h=>h) ⟨by rfl,?_⟩ hHeld ?_
     rotate_left
     ·(intro wx hSw;(try dsimp only at hSw);go_simp;try with_reducible rfl)
     simp only [yA,yB,yC]
     refine tK 9 98 ?_ rfl rfl (by kernel_rfl) (fun _ _ _ h=>h) ⟨by rfl,?_⟩ hHeld ?_
     rotate_left
     ·(intro wx hSw;(try dsimp only at hSw);go_simp;try with_reducible rfl)
     simp only [yA,yB,yC]
     refine tK 10 99 ?_ rfl rfl (by kernel_rfl) (fun _ _ _ h=>h) ⟨by rfl,?_⟩ hHeld ?_
     rotate_left
     ·(intro wx hSw;(try dsimp only at hSw);go_simp;try with_reducible rfl)
     simp only [yA,yB,yC]
     refine tK 11 100 ?_ rfl rfl (by kernel_rfl) (fun _ _ _ h=>h) ⟨by rfl,?_⟩ hHeld ?_
     rotate_left
     ·(intro wx hSw;(try dsimp only at hSw);go_simp;try with_reducible rfl)
     simp only [yA,yB,yC]
     refine wpAnyH_ready (rs:= [4,12]) (by kernel_rfl) (by simp) ?_
     have HQa:Hid (∀o,LoopI W (wq.drew.alloc o) ga gb gn w1.heap.size v1 v2 ps ls n (.slice (some ⟨gk',0,none⟩) lk c1) (.slice (some ⟨gv,0,none⟩) lv c2) (.slice a3 lc c3) vp (.slice xg a.pages.length yg) vd aq (.slice xp aq.pairs.length yp) vg' vd'):=hide (fun o=>HQd.out.below HDk.out ((Below.refl _ _).alloc (Nat.le_refl _) o))
     have HSa:Hid (∀o,(fun wx=>wx.cell? ⟨gn,2,none⟩=some (.slice (some ⟨gv,0,none⟩) lv c2)/\wx.cell? ⟨gv,i,none⟩=some (.string y)) (wq.drew.alloc o)):=hide (fun o=>HSw.out _ (HQa.out o).own (HQa.out o).node)
     have m0a:∀o,(wq.drew.alloc o).cell? ⟨ga,0,none⟩=some (.slice xp aq.pairs.length yp):=fun o=>(za0 (HQa.out o).al.1 0).1
     have m0b:∀o,(wq.alloc o).cell? ⟨ga,0,none⟩=some (.slice xp aq.pairs.length yp):=fun o=>m0a o
     refine ready2 rfl rfl ?_
     apply branch2
     ·intro hG K hK
      go_simp
      refine hK.out _ _ hHeld (fun hHeld=> ?_)
      clear hK K
      refine wpAnyH_ready (rs:= [12]) (by kernel_rfl) (by simp) ?_
      refine AllReadyH.cons rfl (fun K hK=> ?_) AllReadyH.nil
      go_simp
      refine hK.out _ _ (HSa.out _) (fun hHeld=> ?_)
      clear hK K;exact hG
     ·intro hG K hK
      go_simp
      refine hK.out _ _ (HSa.out _) (fun hHeld=> ?_)
      clear hK K
      refine wpAnyH_ready (rs:= [4]) (by kernel_rfl) (by simp) ?_
      refine AllReadyH.cons rfl (fun K hK=> ?_) AllReadyH.nil
      go_simp
      refine hK.out _ _ hHeld (fun hHeld=> ?_)
      clear hK K;exact hG
     refine wpAnyH_ready (rs:= [13]) (by kernel_rfl) (by simp) ?_
     refine AllReadyH.cons rfl (fun K hK=> ?_) AllReadyH.nil
     refine step_append_lies _ ?_ (.tmp 93) (.tmp 101) 24 ?_ (ga+1) 41 i1 (.agg #[.string ⟨#[]⟩,.string ⟨#[]⟩]) 2 32 Tryz.underlying24 hj hy0 hy1 hy2 ?_ ?_ (.slice xp aq.pairs.length yp) aq.pairs.length (prs aq.pairs) ?_ (HQd.out.al.2.1.alloc _) ⟨wq.heap.size,0,none⟩ 1 1 [.string x,.string y] ?_ ?_ (zd4 wq.drew _ rfl _ _ _) ?_ ?_ ?_ ?_ ?_ _ rfl ?_
     ·exact rfl
     ·exact rfl
     ·exact rfl
     ·decide
     ·exact rfl
     ·exact rfl
     ·exact rfl
     ·intro u hu;simp at hu;rcases hu with rfl | rfl <;> rfl
     ·decide
     ·have:=HLq.out;unfold maxLen;omega
     ·have:=HLq.out;omega
     ·have:=(al_lt HQd.out.al ga (Or.inl rfl)).2;simp at this⊢;omega
     intro b6 d6 wB hownB hgB hbB hlB
     obtain ⟨st1,st2,st3,cc,cf⟩:=zhI HQd.out.al hownB hgB (by simpa using hbB)
     have HLn:=hide (HQd.out.step HDk.out st1 st2 st3)
     have hSB:=HSw.out wB (zbM HQd.out.own (zbv (W:=wq.drew) hgB) (fun k e hx=>HQd.out.away k (Or.inr (Or.inr e)) (Or.inr (Or.inl hx)))) (((zbv (W:=wq.drew) hgB).2.2.2.2 gn (Array.getElem?_eq_some_iff.1 HQd.out.node).1 (fun hx=>HQd.out.away gn (Or.inr (Or.inl rfl)) (Or.inr (Or.inl hx)))).trans HQd.out.node)
     have hSC:=HSw.out _ HLn.out.own HLn.out.node
     refine hK.out (Act.put _ (some 102) _) _ hSB (fun hHeld=> ?_)
     clear hK K hownB hgB hbB hlB st1 st2 st3
     simp only [Act.put,yA,yB,yC]
     refine tK 14 103 ?_ rfl rfl (by kernel_rfl) (fun _ _ _ h=>h) ⟨by rfl,?_⟩ hHeld ?_
     rotate_left
     ·(intro wx hSw;(try dsimp only at hSw);go_simp;try with_reducible rfl)
     simp only [yA,yB,yC]
     refine tK 15 104 ?_ rfl rfl (by kernel_rfl) (fun _ _ _ h=>h) ⟨by rfl,?_⟩ hHeld ?_
     rotate_left
     ·(intro wx hSw;(try dsimp only at hSw);go_simp;try with_reducible rfl)
     simp only [yA,yB,yC]
     refine wpAnyH_ready (rs:= [16]) (by kernel_rfl) (by simp) ?_
     refine AllReadyH.cons rfl (fun K hK=> ?_) AllReadyH.nil
     go_simp
     refine hK.out _ _ hSC (fun hHeld=> ?_)
     clear hK K
     refine wpAnyH_done (by kernel_rfl) ?_ _
     go_wp2_with fail
     go_roundg (gk - 1)
     case measure=>have:=HQi.out;omega
     case rel=>exact ⟨i+1,_,_,_,_,by have:=HQi.out;omega,by go_num,HFin,HLn,hide ⟨by simp only [List.length_append,List.length_singleton];have:=HPq.out;have:=HPi.out.1;omega,HDq.out⟩⟩
    | true=>
     cases l2 with
     | false=>
      have m4:=(za0 HQ0.out.al.1 4).1;have z4:=(za0 HQ0.out.al.1 4).2;go_wp2_with fail;clear m4 z4
      obtain ⟨aq,haq⟩:∃b:Al,b={a' with loose:=true}:=⟨_,rfl⟩
      obtain ⟨wq,hwq⟩:∃ws,ws=wr.setCell ⟨ga,4,none⟩ (.bool true):=⟨_,rfl⟩
      have HQ:Hid (LoopI W wq ga gb gn w1.heap.size v1 v2 ps ls n (.slice (some ⟨gk',0,none⟩) lk c1) (.slice (some ⟨gv,0,none⟩) lv c2) (.slice a3 lc c3) vp (.slice xg a.pages.length yg) vd aq vp' vg' vd'):=hide (by rw [hwq,haq];exact HQ0.out.step HDk.out (zjX HQ0.out.al true) (zc3 wr 4 _ (Or.inl rfl)) (fun _ h=>Or.inl h))
      have HPq:Hid (aq.pairs.length=a'.pairs.length):=hide (by rw [haq])
      have HDq:Hid (aq.depths=a.depths):=hide (by rw [haq];exact HPi.out.2)
      have HFin:Hid ({aq with pairs:=aq.pairs++ [(x,y)]}=loopS f n deep low high true b0 (i+1)):=hide (by rw [loopS,<-HAi.out,HSt.out true (by rw [HO.out];rfl),haq,Bool.or_true])
      rw [<-hwq];clear hwq haq;have m0:=(za0 HQ.out.al.1 0).1;obtain ⟨xp,yp,hvp⟩:=za4 HQ.out.al.2.1;subst hvp;have HQd:=hide (HQ.out.below HDk.out (Below.refl _ _).drew)
      have HSw:Hid (∀wx,NodeOwn wx w1.heap.size (.agg #[.bool n.lf,.slice (some ⟨gk',0,none⟩) lk c1,.slice (some ⟨gv,0,none⟩) lv c2,.slice a3 lc c3]) n.lf n.ks n.vs n.cs->wx.heap[gn]?=some (.cells #[.bool n.lf,.slice (some ⟨gk',0,none⟩) lk c1,.slice (some ⟨gv,0,none⟩) lv c2,.slice a3 lc c3] 71 (0,0))->wx.cell? ⟨gn,2,none⟩=some (.slice (some ⟨gv,0,none⟩) lv c2)/\wx.cell? ⟨gv,i,none⟩=some (.string y)):=hide (fun wx ho hn=>⟨(za0 hn 2).1,by rw [HY.out];exact zeJ ho HLk.out.2.1 hiv⟩)
      have hS0:=HSw.out _ HQd.out.own HQd.out.node
      have HLq:Hid (aq.pairs.length<1000000):=hide (by rw [HPq.out];have:=HPi.out.1;omega)
      refine wp_region_held_drew (S:=fun wx=>wx.cell? ⟨gn,2,none⟩=some (.slice (some ⟨gv,0,none⟩) lv c2)/\wx.cell? ⟨gv,i,none⟩=some (.string y)) (by kernel_rfl) hS0 (fun hHeld=> ?_)
      refine tK 0 89 ?_ rfl rfl (by kernel_rfl) (fun _ _ _ h=>h) ⟨by rfl,?_⟩ hHeld ?_
      rotate_left
      ·(intro wx hSw;(try dsimp only at hSw);go_simp;try with_reducible rfl)
      simp only [yA,yB,yC]
      refine tK 1 90 ?_ rfl rfl (by kernel_rfl) (fun _ _ _ h=>h) ⟨by rfl,?_⟩ hHeld ?_
      rotate_left
      ·(intro wx hSw;(try dsimp only at hSw);go_simp;try with_reducible rfl)
      simp only [yA,yB,yC]
      refine tK 2 91 ?_ rfl rfl (by kernel_rfl) (fun _ _ _ h=>h) ⟨by rfl,?_⟩ hHeld ?_
      rotate_left
      ·(intro wx hSw;(try dsimp only at hSw);go_simp;try with_reducible rfl)
      simp only [yA,yB,yC]
      refine tK 3 92 ?_ rfl rfl (by kernel_rfl) (fun _ _ _ h=>h) ⟨by rfl,?_⟩ hHeld ?_
      rotate_left
      ·(intro wx hSw;(try dsimp only at hSw);go_simp;try with_reducible rfl)
      simp only [yA,yB,yC]
      refine tK 5 94 ?_ rfl rfl (by kernel_rfl) (fun _ _ _ h=>h) ⟨by rfl,?_⟩ hHeld ?_
      rotate_left
      ·(intro wx hSw;(try dsimp only at hSw);go_simp;try with_reducible rfl)
      simp only [yA,yB,yC]
      refine tK 6 95 ?_ rfl rfl (by kernel_rfl) (fun _ _ _ h=>h) ⟨by rfl,?_⟩ hHeld ?_
      rotate_left
      ·(intro wx hSw;(try dsimp only at hSw);go_simp;try with_reducible rfl)
      simp only [yA,yB,yC]
      refine tK 7 96 ?_ rfl rfl (by kernel_rfl) (fun _ _ _ h=>h) ⟨by rfl,?_⟩ hHeld ?_
      rotate_left
      ·(intro wx hSw;(try dsimp only at hSw);go_simp;try with_reducible rfl)
      simp only [yA,yB,yC]
      refine tK 8 97 ?_ rfl rfl (by kernel_rfl) (fun _ _ _ h=>h) ⟨by rfl,?_⟩ hHeld ?_
      rotate_left
      ·(intro wx hSw;(try dsimp only at hSw);go_simp;try with_reducible rfl)
      simp only [yA,yB,yC]
      refine tK 9 98 ?_ rfl rfl (by kernel_rfl) (fun _ _ _ h=>h) ⟨by rfl,?_⟩ hHeld ?_
      rotate_left
      ·(intro wx hSw;(try dsimp only at hSw);go_simp;try with_reducible rfl)
      simp only [yA,yB,yC]
      refine tK 10 99 ?_ rfl rfl (by kernel_rfl) (fun _ _ _ h=>h) ⟨by rfl,?_⟩ hHeld ?_
      rotate_left
      ·(intro wx hSw;(try dsimp only at hSw);go_simp;try with_reducible rfl)
      simp only [yA,yB,yC]
      refine tK 11 100 ?_ rfl rfl (by kernel_rfl) (fun _ _ _ h=>h) ⟨by rfl,?_⟩ hHeld ?_
      rotate_left
      ·(intro wx hSw;(try dsimp only at hSw);go_simp;try with_reducible rfl)
      simp only [yA,yB,yC]
      refine wpAnyH_ready (rs:= [4,12]) (by kernel_rfl) (by simp) ?_
      have HQa:Hid (∀o,LoopI W (wq.drew.alloc o) ga gb gn w1.heap.size v1 v2 ps ls n (.slice (some ⟨gk',0,none⟩) lk c1) (.slice (some ⟨gv,0,none⟩) lv c2) (.slice a3 lc c3) vp (.slice xg a.pages.length yg) vd aq (.slice xp aq.pairs.length yp) vg' vd'):=hide (fun o=>HQd.out.below HDk.out ((Below.refl _ _).alloc (Nat.le_refl _) o))
      have HSa:Hid (∀o,(fun wx=>wx.cell? ⟨gn,2,none⟩=some (.slice (some ⟨gv,0,none⟩) lv c2)/\wx.cell? ⟨gv,i,none⟩=some (.string y)) (wq.drew.alloc o)):=hide (fun o=>HSw.out _ (HQa.out o).own (HQa.out o).node)
      have m0a:∀o,(wq.drew.alloc o).cell? ⟨ga,0,none⟩=some (.slice xp aq.pairs.length yp):=fun o=>(za0 (HQa.out o).al.1 0).1
      have m0b:∀o,(wq.alloc o).cell? ⟨ga,0,none⟩=some (.slice xp aq.pairs.length yp):=fun o=>m0a o
      refine ready2 rfl rfl ?_
      apply branch2
      ·intro hG K hK
       go_simp
       refine hK.out _ _ hHeld (fun hHeld=> ?_)
       clear hK K
       refine wpAnyH_ready (rs:= [12]) (by kernel_rfl) (by simp) ?_
       refine AllReadyH.cons rfl (fun K hK=> ?_) AllReadyH.nil
       go_simp
       refine hK.out _ _ (HSa.out _) (fun hHeld=> ?_)
       clear hK K;exact hG
      ·intro hG K hK
       go_simp
       refine hK.out _ _ (HSa.out _) (fun hHeld=> ?_)
       clear hK K
       refine wpAnyH_ready (rs:= [4]) (by kernel_rfl) (by simp) ?_
       refine AllReadyH.cons rfl (fun K hK=> ?_) AllReadyH.nil
       go_simp
       refine hK.out _ _ hHeld (fun hHeld=> ?_)
       clear hK K;exact hG
      refine wpAnyH_ready (rs:= [13]) (by kernel_rfl) (by simp) ?_
      refine AllReadyH.cons rfl (fun K hK=> ?_) AllReadyH.nil
      refine step_append_lies _ ?_ (.tmp 93) (.tmp 101) 24 ?_ (ga+1) 41 i1 (.agg #[.string ⟨#[]⟩,.string ⟨#[]⟩]) 2 32 Tryz.underlying24 hj hy0 hy1 hy2 ?_ ?_ (.slice xp aq.pairs.length yp) aq.pairs.length (prs aq.pairs) ?_ (HQd.out.al.2.1.alloc _) ⟨wq.heap.size,0,none⟩ 1 1 [.string x,.string y] ?_ ?_ (zd4 wq.drew _ rfl _ _ _) ?_ ?_ ?_ ?_ ?_ _ rfl ?_
      ·exact rfl
      ·exact rfl
      ·exact rfl
      ·decide
      ·exact rfl
      ·exact rfl
      ·exact rfl
      ·intro u hu;simp at hu;rcases hu with rfl | rfl <;> rfl
      ·decide
      ·have:=HLq.out;unfold maxLen;omega
      ·have:=HLq.out;omega
      ·have:=(al_lt HQd.out.al ga (Or.inl rfl)).2;simp at this⊢;omega
      intro b6 d6 wB hownB hgB hbB hlB
      obtain ⟨st1,st2,st3,cc,cf⟩:=zhI HQd.out.al hownB hgB (by simpa using hbB)
      have HLn:=hide (HQd.out.step HDk.out st1 st2 st3)
      have hSB:=HSw.out wB (zbM HQd.out.own (zbv (W:=wq.drew) hgB) (fun k e hx=>HQd.out.away k (Or.inr (Or.inr e)) (Or.inr (Or.inl hx)))) (((zbv (W:=wq.drew) hgB).2.2.2.2 gn (Array.getElem?_eq_some_iff.1 HQd.out.node).1 (fun hx=>HQd.out.away gn (Or.inr (Or.inl rfl)) (Or.inr (Or.inl hx)))).trans HQd.out.node)
      have hSC:=HSw.out _ HLn.out.own HLn.out.node
      refine hK.out (Act.put _ (some 102) _) _ hSB (fun hHeld=> ?_)
      clear hK K hownB hgB hbB hlB st1 st2 st3
      simp only [Act.put,yA,yB,yC]
      refine tK 14 103 ?_ rfl rfl (by kernel_rfl) (fun _ _ _ h=>h) ⟨by rfl,?_⟩ hHeld ?_
      rotate_left
      ·(intro wx hSw;(try dsimp only at hSw);go_simp;try with_reducible rfl)
      simp only [yA,yB,yC]
      refine tK 15 104 ?_ rfl rfl (by kernel_rfl) (fun _ _ _ h=>h) ⟨by rfl,?_⟩ hHeld ?_
      rotate_left
      ·(intro wx hSw;(try dsimp only at hSw);go_simp;try with_reducible rfl)
      simp only [yA,yB,yC]
      refine wpAnyH_ready (rs:= [16]) (by kernel_rfl) (by simp) ?_
      refine AllReadyH.cons rfl (fun K hK=> ?_) AllReadyH.nil
      go_simp
      refine hK.out _ _ hSC (fun hHeld=> ?_)
      clear hK K
      refine wpAnyH_done (by kernel_rfl) ?_ _
      go_wp2_with fail
      go_roundg (gk - 1)
      case measure=>have:=HQi.out;omega
      case rel=>exact ⟨i+1,_,_,_,_,by have:=HQi.out;omega,by go_num,HFin,HLn,hide ⟨by simp only [List.length_append,List.length_singleton];have:=HPq.out;have:=HPi.out.1;omega,HDq.out⟩⟩
     | true=>
      go_wp2_with fail;obtain ⟨aq,haq⟩:∃b:Al,b=a':=⟨_,rfl⟩;obtain ⟨wq,hwq⟩:∃ws,ws=wr:=⟨_,rfl⟩
      have HQ:Hid (LoopI W wq ga gb gn w1.heap.size v1 v2 ps ls n (.slice (some ⟨gk',0,none⟩) lk c1) (.slice (some ⟨gv,0,none⟩) lv c2) (.slice a3 lc c3) vp (.slice xg a.pages.length yg) vd aq vp' vg' vd'):=hide (by rw [hwq,haq];exact HQ0.out)
      have HPq:Hid (aq.pairs.length=a'.pairs.length):=hide (by rw [haq])
      have HDq:Hid (aq.depths=a.depths):=hide (by rw [haq];exact HPi.out.2)
      have HFin:Hid ({aq with pairs:=aq.pairs++ [(x,y)]}=loopS f n deep low high true b0 (i+1)):=hide (by rw [loopS,<-HAi.out,HSt.out false (by rw [HO.out];rfl),haq,Bool.or_false])
      rw [<-hwq];clear hwq haq;have m0:=(za0 HQ.out.al.1 0).1;obtain ⟨xp,yp,hvp⟩:=za4 HQ.out.al.2.1;subst hvp;have HQd:=hide (HQ.out.below HDk.out (Below.refl _ _).drew)
      have HSw:Hid (∀wx,NodeOwn wx w1.heap.size (.agg #[.bool n.lf,.slice (some ⟨gk',0,none⟩) lk c1,.slice (some ⟨gv,0,none⟩) lv c2,.slice a3 lc c3]) n.lf n.ks n.vs n.cs->wx.heap[gn]?=some (.cells #[.bool n.lf,.slice (some ⟨gk',0,none⟩) lk c1,.slice (some ⟨gv,0,none⟩) lv c2,.slice a3 lc c3] 71 (0,0))->wx.cell? ⟨gn,2,none⟩=some (.slice (some ⟨gv,0,none⟩) lv c2)/\wx.cell? ⟨gv,i,none⟩=some (.string y)):=hide (fun wx ho hn=>⟨(za0 hn 2).1,by rw [HY.out];exact zeJ ho HLk.out.2.1 hiv⟩)
      have hS0:=HSw.out _ HQd.out.own HQd.out.node
      have HLq:Hid (aq.pairs.length<1000000):=hide (by rw [HPq.out];have:=HPi.out.1;omega)
      refine wp_region_held_drew (S:=fun wx=>wx.cell? ⟨gn,2,none⟩=some (.slice (some ⟨gv,0,none⟩) lv c2)/\wx.cell? ⟨gv,i,none⟩=some (.string y)) (by kernel_rfl) hS0 (fun hHeld=> ?_)
      refine tK 0 89 ?_ rfl rfl (by kernel_rfl) (fun _ _ _ h=>h) ⟨by rfl,?_⟩ hHeld ?_
      rotate_left
      ·(intro wx hSw;(try dsimp only at hSw);go_simp;try with_reducible rfl)
      simp only [yA,yB,yC]
      refine tK 1 90 ?_ rfl rfl (by kernel_rfl) (fun _ _ _ h=>h) ⟨by rfl,?_⟩ hHeld ?_
      rotate_left
      ·(intro wx hSw;(try dsimp only at hSw);go_simp;try with_reducible rfl)
      simp only [yA,yB,yC]
      refine tK 2 91 ?_ rfl rfl (by kernel_rfl) (fun _ _ _ h=>h) ⟨by rfl,?_⟩ hHeld ?_
      rotate_left
      ·(intro wx hSw;(try dsimp only at hSw);go_simp;try with_reducible rfl)
      simp only [yA,yB,yC]
      refine tK 3 92 ?_ rfl rfl (by kernel_rfl) (fun _ _ _ h=>h) ⟨by rfl,?_⟩ hHeld ?_
      rotate_left
      ·(intro wx hSw;(try dsimp only at hSw);go_simp;try with_reducible rfl)
      simp only [yA,yB,yC]
      refine tK 5 94 ?_ rfl rfl (by kernel_rfl) (fun _ _ _ h=>h) ⟨by rfl,?_⟩ hHeld ?_
      rotate_left
      ·(intro wx hSw;(try dsimp only at hSw);go_simp;try with_reducible rfl)
      simp only [yA,yB,yC]
      refine tK 6 95 ?_ rfl rfl (by kernel_rfl) (fun _ _ _ h=>h) ⟨by rfl,?_⟩ hHeld ?_
      rotate_left
      ·(intro wx hSw;(try dsimp only at hSw);go_simp;try with_reducible rfl)
      simp only [yA,yB,yC]
      refine tK 7 96 ?_ rfl rfl (by kernel_rfl) (fun _ _ _ h=>h) ⟨by rfl,?_⟩ hHeld ?_
      rotate_left
      ·(intro wx hSw;(try dsimp only at hSw);go_simp;try with_reducible rfl)
      simp only [yA,yB,yC]
      refine tK 8 97 ?_ rfl rfl (by kernel_rfl) (fun _ _ _ h=>h) ⟨by rfl,?_⟩ hHeld ?_
      rotate_left
      ·(intro wx hSw;(try dsimp only at hSw);go_simp;try with_reducible rfl)
      simp only [yA,yB,yC]
      refine tK 9 98 ?_ rfl rfl (by kernel_rfl) (fun _ _ _ h=>h) ⟨by rfl,?_⟩ hHeld ?_
      rotate_left
      ·(intro wx hSw;(try dsimp only at hSw);go_simp;try with_reducible rfl)
      simp only [yA,yB,yC]
      refine tK 10 99 ?_ rfl rfl (by kernel_rfl) (fun _ _ _ h=>h) ⟨by rfl,?_⟩ hHeld ?_
      rotate_left
      ·(intro wx hSw;(try dsimp only at hSw);go_simp;try with_reducible rfl)
      simp only [yA,yB,yC]
      refine tK 11 100 ?_ rfl rfl (by kernel_rfl) (fun _ _ _ h=>h) ⟨by rfl,?_⟩ hHeld ?_
      rotate_left
      ·(intro wx hSw;(try dsimp only at hSw);go_simp;try with_reducible rfl)
      simp only [yA,yB,yC]
      refine wpAnyH_ready (rs:= [4,12]) (by kernel_rfl) (by simp) ?_
      have HQa:Hid (∀o,LoopI W (wq.drew.alloc o) ga gb gn w1.heap.size v1 v2 ps ls n (.slice (some ⟨gk',0,none⟩) lk c1) (.slice (some ⟨gv,0,none⟩) lv c2) (.slice a3 lc c3) vp (.slice xg a.pages.length yg) vd aq (.slice xp aq.pairs.length yp) vg' vd'):=hide (fun o=>HQd.out.below HDk.out ((Below.refl _ _).alloc (Nat.le_refl _) o))
      have HSa:Hid (∀o,(fun wx=>wx.cell? ⟨gn,2,none⟩=some (.slice (some ⟨gv,0,none⟩) lv c2)/\wx.cell? ⟨gv,i,none⟩=some (.string y)) (wq.drew.alloc o)):=hide (fun o=>HSw.out _ (HQa.out o).own (HQa.out o).node)
      have m0a:∀o,(wq.drew.alloc o).cell? ⟨ga,0,none⟩=some (.slice xp aq.pairs.length yp):=fun o=>(za0 (HQa.out o).al.1 0).1
      have m0b:∀o,(wq.alloc o).cell? ⟨ga,0,none⟩=some (.slice xp aq.pairs.length yp):=fun o=>m0a o
      refine ready2 rfl rfl ?_
      apply branch2
      ·intro hG K hK
       go_simp
       refine hK.out _ _ hHeld (fun hHeld=> ?_)
       clear hK K
       refine wpAnyH_ready (rs:= [12]) (by kernel_rfl) (by simp) ?_
       refine AllReadyH.cons rfl (fun K hK=> ?_) AllReadyH.nil
       go_simp
       refine hK.out _ _ (HSa.out _) (fun hHeld=> ?_)
       clear hK K;exact hG
      ·intro hG K hK
       go_simp
       refine hK.out _ _ (HSa.out _) (fun hHeld=> ?_)
       clear hK K
       refine wpAnyH_ready (rs:= [4]) (by kernel_rfl) (by simp) ?_
       refine AllReadyH.cons rfl (fun K hK=> ?_) AllReadyH.nil
       go_simp
       refine hK.out _ _ hHeld (fun hHeld=> ?_)
       clear hK K;exact hG
      refine wpAnyH_ready (rs:= [13]) (by kernel_rfl) (by simp) ?_
      refine AllReadyH.cons rfl (fun K hK=> ?_) AllReadyH.nil
      refine step_append_lies _ ?_ (.tmp 93) (.tmp 101) 24 ?_ (ga+1) 41 i1 (.agg #[.string ⟨#[]⟩,.string ⟨#[]⟩]) 2 32 Tryz.underlying24 hj hy0 hy1 hy2 ?_ ?_ (.slice xp aq.pairs.length yp) aq.pairs.length (prs aq.pairs) ?_ (HQd.out.al.2.1.alloc _) ⟨wq.heap.size,0,none⟩ 1 1 [.string x,.string y] ?_ ?_ (zd4 wq.drew _ rfl _ _ _) ?_ ?_ ?_ ?_ ?_ _ rfl ?_
      ·exact rfl
      ·exact rfl
      ·exact rfl
      ·decide
      ·exact rfl
      ·exact rfl
      ·exact rfl
      ·intro u hu;simp at hu;rcases hu with rfl | rfl <;> rfl
      ·decide
      ·have:=HLq.out;unfold maxLen;omega
      ·have:=HLq.out;omega
      ·have:=(al_lt HQd.out.al ga (Or.inl rfl)).2;simp at this⊢;omega
      intro b6 d6 wB hownB hgB hbB hlB
      obtain ⟨st1,st2,st3,cc,cf⟩:=zhI HQd.out.al hownB hgB (by simpa using hbB)
      have HLn:=hide (HQd.out.step HDk.out st1 st2 st3)
      have hSB:=HSw.out wB (zbM HQd.out.own (zbv (W:=wq.drew) hgB) (fun k e hx=>HQd.out.away k (Or.inr (Or.inr e)) (Or.inr (Or.inl hx)))) (((zbv (W:=wq.drew) hgB).2.2.2.2 gn (Array.getElem?_eq_some_iff.1 HQd.out.node).1 (fun hx=>HQd.out.away gn (Or.inr (Or.inl rfl)) (Or.inr (Or.inl hx)))).trans HQd.out.node)
      have hSC:=HSw.out _ HLn.out.own HLn.out.node
      refine hK.out (Act.put _ (some 102) _) _ hSB (fun hHeld=> ?_)
      clear hK K hownB hgB hbB hlB st1 st2 st3
      simp only [Act.put,yA,yB,yC]
      refine tK 14 103 ?_ rfl rfl (by kernel_rfl) (fun _ _ _ h=>h) ⟨by rfl,?_⟩ hHeld ?_
      rotate_left
      ·(intro wx hSw;(try dsimp only at hSw);go_simp;try with_reducible rfl)
      simp only [yA,yB,yC]
      refine tK 15 104 ?_ rfl rfl (by kernel_rfl) (fun _ _ _ h=>h) ⟨by rfl,?_⟩ hHeld ?_
      rotate_left
      ·(intro wx hSw;(try dsimp only at hSw);go_simp;try with_reducible rfl)
      simp only [yA,yB,yC]
      refine wpAnyH_ready (rs:= [16]) (by kernel_rfl) (by simp) ?_
      refine AllReadyH.cons rfl (fun K hK=> ?_) AllReadyH.nil
      go_simp
      refine hK.out _ _ hSC (fun hHeld=> ?_)
      clear hK K
      refine wpAnyH_done (by kernel_rfl) ?_ _
      go_wp2_with fail
      go_roundg (gk - 1)
      case measure=>have:=HQi.out;omega
      case rel=>exact ⟨i+1,_,_,_,_,by have:=HQi.out;omega,by go_num,HFin,HLn,hide ⟨by simp only [List.length_append,List.length_singleton];have:=HPq.out;have:=HPi.out.1;omega,HDq.out⟩⟩
  ·have hil2:¬((i:Int)<(lk:Int)):=by omega
   have n0:=(za0 HQ0.out.node 0).1;rw [HLf.out] at n0;have r2:=(za0 HQ0.out.al.1 2).1;obtain ⟨xd,yd,hvd⟩:=za4 HQ0.out.al.2.2.2.1;subst hvd
   have hik:i=lk:=by omega
   have HDl:Hid (a'.depths.length<=100000):=hide (by rw [HPi.out.2];exact hl3)
   go_wp2_with (at_builtin;(refine wpList_append_lies _ rfl _ _ 32 rfl (ga+1) 3 i0 (.int .i64 0) 1 8 Tryz.underlying32 hi hz0 hz1 hz2 rfl (by decide) _ a'.depths.length (ints a'.depths) rfl (HQ0.out.al.2.2.2.1.alloc _) ⟨wr.heap.size,0,none⟩ 1 1 [.int .i64 (deep:Int)] rfl rfl (zhS wr _ rfl _ _) ?c1 (by decide) ?c3 ?c4 ?c5 _ rfl ?_))
   case c1=>first | rfl | (intro u hu;simp at hu;subst hu;rfl)
   case c3=>have:=HDl.out;unfold maxLen;omega
   case c4=>have:=HDl.out;omega
   case c5=>have:=(al_lt HQ0.out.al ga (Or.inl rfl)).2;simp;omega
   intro b5 d5 w6 hown5 hg5 hb5 hl5;obtain ⟨st1,st2,st3,st4,st5⟩:=zmG HQ0.out.al hown5 hg5 hb5;have HL6:=hide (HQ0.out.step HDk.out st1 st2 st3)
   have HFin:Hid (a'=loopS f n deep low high has b0 lk):=hide (by rw [<-hik];exact HAi.out)
   clear hown5 hg5 hb5 hl5 st1 st2 st3 r2;go_wp2_with fail
   go_end0
   have e1:=HFin.out;have e2:=HLk.out.1;rw [HB5.out.1,e2] at e1;rw [<-e1];exact ⟨⟨_,rfl⟩,_,_,_,HL6.out.al,HL6.out.kept,HL6.out.sub⟩
end Go.Proofs.YtcbogiebfbbmbaaGreatDoor
