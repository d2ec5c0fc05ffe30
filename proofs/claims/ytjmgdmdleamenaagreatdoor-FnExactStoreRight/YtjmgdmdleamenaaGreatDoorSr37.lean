/-
  Facts and contracts that the law's own text rests on, by their texts' names: ChkPlain.
-/
import Derived.Test.YtjmgdmdleamenaaGreatDoorSr36
import Derived.Test.YtjmgdmdleamenaaGreatDoorSr35
import Derived.Test.YtjmgdmdleamenaaGreatDoorSr33
set_option maxHeartbeats 16000000
set_option maxRecDepth 100000
namespace Go.Proofs.YtjmgdmdleamenaaGreatDoor
open Go.RowKit
theorem ba_same {a b:ByteArray} (h:a.data.toList=b.data.toList):a=b:=by
 cases a with | mk x=>cases b with | mk y=>simp only at h;rw [Array.toList_inj.1 h]
def cutZ:List UInt8->Option (List UInt8×List UInt8)
 | []=>none
 | b :: l=>if b=0 then some ([],l) else (cutZ l).map fun p=>(b :: p.1,p.2)
theorem cutZ_some:∀{l x y:List UInt8},cutZ l=some (x,y)->l=x++0 :: y/\∀b∈x,b≠0
 | [],_,_,h=>by cases h
 | b :: l,x,y,h=>by
  rw [cutZ] at h
  split at h
  ·rename_i hb
   simp only [Option.some.injEq,Prod.mk.injEq] at h
   obtain ⟨rfl,rfl⟩:=h
   exact ⟨by rw [hb];rfl,fun b hb=>by cases hb⟩
  ·rename_i hb
   cases e:cutZ l with
   | none=>rw [e] at h;cases h
   | some p=>
    obtain ⟨u,v⟩:=p;rw [e] at h
    simp only [Option.map_some,Option.some.injEq,Prod.mk.injEq] at h
    obtain ⟨rfl,rfl⟩:=h;obtain ⟨h1,h2⟩:=cutZ_some e
    exact ⟨by rw [h1];rfl,fun c hc=>by
     rcases List.mem_cons.1 hc with rfl | hc
     ·exact hb
     ·exact h2 c hc⟩
theorem cutZ_at:∀(x y:List UInt8),(∀b∈x,b≠0)->cutZ (x++0 :: y)=some (x,y)
 | [],y,_=>by simp [cutZ]
 | b :: x,y,h=>by
  rw [List.cons_append,cutZ,if_neg (h b (List.mem_cons_self ..)),cutZ_at x y (fun c hc=>h c (List.mem_cons_of_mem _ hc))]
  rfl
theorem cutZ_none:∀(x:List UInt8),(∀b∈x,b≠0)->cutZ x=none
 | [],_=>rfl
 | b :: x,h=>by
  rw [cutZ,if_neg (h b (List.mem_cons_self ..)),cutZ_none x (fun c hc=>h c (List.mem_cons_of_mem _ hc))]
  rfl
def cutK (k:ByteArray):Option (ByteArray×ByteArray):=(cutZ (k.data.toList.drop 1)).map fun p=>(⟨p.1.toArray⟩,⟨p.2.toArray⟩)
def headK (k:ByteArray):Option UInt8:=k.data.toList.head?
theorem cutK_key {k c n:ByteArray} {b:UInt8} (h0:headK k=some b) (h:cutK k=some (c,n)):k.data.toList=b :: (c.data.toList++0 :: n.data.toList)/\∀b∈c.data.toList,b≠0:=by
 unfold cutK at h
 cases e:cutZ (k.data.toList.drop 1) with
 | none=>rw [e] at h;cases h
 | some p=>
  obtain ⟨x,y⟩:=p;rw [e] at h
  simp only [Option.map_some,Option.some.injEq,Prod.mk.injEq] at h
  obtain ⟨rfl,rfl⟩:=h;obtain ⟨h1,h2⟩:=cutZ_some e;refine ⟨?_,h2⟩;unfold headK at h0
  cases hk:k.data.toList with
  | nil=>rw [hk] at h0;cases h0
  | cons a l=>
   rw [hk] at h0 h1
   simp only [List.head?_cons,Option.some.injEq] at h0
   simp only [List.drop_succ_cons,List.drop_zero] at h1
   rw [h0,h1]
def keysL (c k:ByteArray) (fs:List (ByteArray×Int)) (vs:List (Int×ByteArray)):List ByteArray:=(fs.zip vs).map fun p=>idxK c p.1.1 (keyO p.1.2 p.2.1 p.2.2) k
def PairIs (D:Int->ByteArray) (root:Int) (p:ByteArray×ByteArray) (ws hs:List ByteArray):Prop:=
 if headK p.1=some 111 then hs= []/\∃c k fs vs,cutK p.1=some (c,k)/\SchIn (getK D root (schK c)) fs true/\ReadTh fs p.2 vs true/\ws=keysL c k fs vs
 else if headK p.1=some 105 then p.2=⟨#[]⟩/\ws= []/\hs= [p.1]
 else ws= []/\hs= []
def PairNo (D:Int->ByteArray) (root:Int) (p:ByteArray×ByteArray):Prop:=
 if headK p.1=some 111 then cutK p.1=none\/∃c k fs ok vs ko,cutK p.1=some (c,k)/\SchIn (getK D root (schK c)) fs ok/\ReadTh fs p.2 vs ko/\(ok && ko)=false
 else if headK p.1=some 105 then p.2≠⟨#[]⟩
 else False
theorem pair_one {D:Int->ByteArray} {root:Int} {p:ByteArray×ByteArray} {a b c d:List ByteArray} (h:PairIs D root p a b) (k:PairIs D root p c d):a=c/\b=d:=by
 unfold PairIs at h k
 split at h
 ·rename_i h0
  rw [if_pos h0] at k;obtain ⟨rfl,x1,x2,fs,vs,e1,e2,e3,rfl⟩:=h;obtain ⟨rfl,y1,y2,gs,us,f1,f2,f3,rfl⟩:=k;rw [e1] at f1
  simp only [Option.some.injEq,Prod.mk.injEq] at f1
  obtain ⟨rfl,rfl⟩:=f1;obtain ⟨rfl,-⟩:=schIn_one e2 f2;obtain ⟨rfl,-⟩:=readTh_one e3 f3;exact ⟨rfl,rfl⟩
 ·rename_i h0
  rw [if_neg h0] at k
  split at h
  ·rename_i h1
   rw [if_pos h1] at k
   exact ⟨by rw [h.2.1,k.2.1],by rw [h.2.2,k.2.2]⟩
  ·rename_i h1
   rw [if_neg h1] at k
   exact ⟨by rw [h.1,k.1],by rw [h.2,k.2]⟩
theorem pair_not {D:Int->ByteArray} {root:Int} {p:ByteArray×ByteArray} {a b:List ByteArray} (h:PairIs D root p a b) (k:PairNo D root p):False:=by
 unfold PairIs at h;unfold PairNo at k
 split at h
 ·rename_i h0
  rw [if_pos h0] at k;obtain ⟨rfl,x1,x2,fs,vs,e1,e2,e3,rfl⟩:=h
  rcases k with k | ⟨y1,y2,gs,ok,us,ko,f1,f2,f3,f4⟩
  ·rw [e1] at k;cases k
  ·rw [e1] at f1
   simp only [Option.some.injEq,Prod.mk.injEq] at f1
   obtain ⟨rfl,rfl⟩:=f1;obtain ⟨rfl,rfl⟩:=schIn_one e2 f2;obtain ⟨rfl,rfl⟩:=readTh_one e3 f3
   cases f4
 ·rename_i h0
  rw [if_neg h0] at k
  split at h
  ·rename_i h1
   rw [if_pos h1] at k;exact k h.1
  ·rename_i h1
   rw [if_neg h1] at k;exact k
def Gath (D:Int->ByteArray) (root:Int):List (ByteArray×ByteArray)->List ByteArray->List ByteArray->Prop
 | [],W,H=>W= []/\H= []
 | p :: L,W,H=>∃ws hs V G,PairIs D root p ws hs/\Gath D root L V G/\W=ws++V/\H=hs++G
theorem gath_snoc {D:Int->ByteArray} {root:Int}:∀{L:List (ByteArray×ByteArray)} {W H:List ByteArray} {p:ByteArray×ByteArray} {ws hs:List ByteArray},Gath D root L W H->PairIs D root p ws hs->Gath D root (L++ [p]) (W++ws) (H++hs)
 | [],W,H,p,ws,hs,h,k=>by
  obtain ⟨rfl,rfl⟩:=h
  exact ⟨ws,hs,[],[],k,⟨rfl,rfl⟩,by simp,by simp⟩
 | q :: L,W,H,p,ws,hs,h,k=>by
  obtain ⟨a,b,V,G,h1,h2,rfl,rfl⟩:=h
  exact ⟨a,b,V++ws,G++hs,h1,gath_snoc h2 k,by rw [List.append_assoc],by rw [List.append_assoc]⟩
theorem gath_one {D:Int->ByteArray} {root:Int}:∀{L:List (ByteArray×ByteArray)} {W H V G:List ByteArray},Gath D root L W H->Gath D root L V G->W=V/\H=G
 | [],_,_,_,_,h,k=>⟨by rw [h.1,k.1],by rw [h.2,k.2]⟩
 | p :: L,_,_,_,_,h,k=>by
  obtain ⟨a,b,V,G,h1,h2,rfl,rfl⟩:=h;obtain ⟨c,d,X,Y,k1,k2,rfl,rfl⟩:=k;obtain ⟨rfl,rfl⟩:=pair_one h1 k1;obtain ⟨rfl,rfl⟩:=gath_one h2 k2;exact ⟨rfl,rfl⟩
theorem gath_no {D:Int->ByteArray} {root:Int}:∀{L:List (ByteArray×ByteArray)} {W H:List ByteArray} {p:ByteArray×ByteArray},Gath D root L W H->p∈L->PairNo D root p->False
 | [],_,_,_,_,hp,_=>by cases hp
 | q :: L,_,_,p,h,hp,k=>by
  obtain ⟨a,b,V,G,h1,h2,rfl,rfl⟩:=h
  rcases List.mem_cons.1 hp with rfl | hp
  ·exact pair_not h1 k
  ·exact gath_no h2 hp k
theorem gath_have {D:Int->ByteArray} {root:Int}:∀{L:List (ByteArray×ByteArray)} {W H:List ByteArray},Gath D root L W H->H.Sublist (L.map (·.1))
 | [],_,_,h=>by rw [h.2];exact List.Sublist.refl _
 | p :: L,_,_,h=>by
  obtain ⟨a,b,V,G,h1,h2,rfl,rfl⟩:=h;have ih:=gath_have h2;unfold PairIs at h1
  split at h1
  ·rw [h1.1];exact ih.cons _
  ·split at h1
   ·rw [h1.2.2];exact ih.cons_cons _
   ·rw [h1.2];exact ih.cons _
def WantOf (D:Int->ByteArray) (root:Int) (p:ByteArray×ByteArray) (x:ByteArray):Prop:=
 headK p.1=some 111/\∃c k fs vs,cutK p.1=some (c,k)/\SchIn (getK D root (schK c)) fs true/\ReadTh fs p.2 vs true/\x∈keysL c k fs vs
theorem pair_want {D:Int->ByteArray} {root:Int} {p:ByteArray×ByteArray} {ws hs:List ByteArray} (h:PairIs D root p ws hs) {x:ByteArray} (hx:x∈ws):WantOf D root p x:=by
 unfold PairIs at h
 split at h
 ·rename_i h0
  obtain ⟨-,c,k,fs,vs,e1,e2,e3,rfl⟩:=h;exact ⟨h0,c,k,fs,vs,e1,e2,e3,hx⟩
 ·split at h
  ·rw [h.2.1] at hx;cases hx
  ·rw [h.1] at hx;cases hx
theorem gath_want {D:Int->ByteArray} {root:Int}:∀{L:List (ByteArray×ByteArray)} {W H:List ByteArray},Gath D root L W H->∀x∈W,∃p∈L,WantOf D root p x
 | [],_,_,h,x,hx=>by rw [h.1] at hx;cases hx
 | p :: L,_,_,h,x,hx=>by
  obtain ⟨a,b,V,G,h1,h2,rfl,rfl⟩:=h
  rcases List.mem_append.1 hx with hx | hx
  ·exact ⟨p,List.mem_cons_self ..,pair_want h1 hx⟩
  ·obtain ⟨q,hq,hw⟩:=gath_want h2 x hx
   exact ⟨q,List.mem_cons_of_mem _ hq,hw⟩
theorem end0:∀{x y u v:List UInt8},(∀b∈x,b≠0)->(∀b∈u,b≠0)->x++0 :: y=u++0 :: v->x=u/\y=v
 | x,y,u,v,hx,hu,h=>by
  have h1:=cutZ_at x y hx;have h2:=cutZ_at u v hu;rw [h,h2] at h1
  simp only [Option.some.injEq,Prod.mk.injEq] at h1
  exact ⟨h1.1.symm,h1.2.symm⟩
theorem idxK_list (c f o k:ByteArray):(idxK c f o k).data.toList=105 :: (c.data.toList++0 :: (f.data.toList++0 :: (o.data.toList++k.data.toList))):=by
 rw [idxK];simp
theorem field_no0 {f:ByteArray×Int} (h:fieldB f=true):∀b∈f.1.data.toList,b≠0:=by
 intro b hb;rw [fieldB,Bool.and_eq_true,wordB,Bool.and_eq_true,decide_eq_true_eq] at h;obtain ⟨i,hi,rfl⟩:=List.getElem_of_mem hb
 have hi2:i<f.1.size:=by rw [Array.length_toList] at hi;exact hi
 have:=h.1.1 i hi2;rw [<-byt_eq f.1 i hi2] at this;intro e
 have e2:f.1[i]=0:=by rw [<-e];simp [ByteArray.getElem_eq_getElem_data]
 rw [e2] at this
 exact absurd this.1 (by decide)
theorem order_end {kind a b:Int} {s t k n:ByteArray} (h1:valueB kind a s=true) (h2:valueB kind b t=true) (h:(keyO kind a s).data.toList++k.data.toList=(keyO kind b t).data.toList++n.data.toList):k=n:=by
 rw [keyO,if_pos h1,keyO,if_pos h2,keyT,keyT] at h
 by_cases hk:kind=1
 ·rw [if_pos hk,if_pos hk] at h
  simp only [List.cons_append,List.nil_append,List.cons.injEq] at h
  exact ba_same h.2.2.2
 ·rw [if_neg hk,if_neg hk] at h
  have no0:∀(z:Int) (u:ByteArray),valueB kind z u=true->∀b∈u.data.toList,b≠0:=by
   intro z u hu b hb;rw [valueB,if_neg hk,Bool.and_eq_true,decide_eq_true_eq] at hu;obtain ⟨i,hi,rfl⟩:=List.getElem_of_mem hb
   have hi2:i<u.size:=by rw [Array.length_toList] at hi;exact hi
   have:=hu.1 i hi2;rw [<-byt_eq u i hi2] at this;intro e
   have e2:u[i]=0:=by rw [<-e];simp [ByteArray.getElem_eq_getElem_data]
   rw [e2] at this;exact this rfl
  simp only [ba_list,List.append_assoc,List.cons_append,List.nil_append] at h
  exact ba_same (end0 (no0 _ _ h1) (no0 _ _ h2) h).2
theorem keysL_mem {c k:ByteArray} {fs:List (ByteArray×Int)} {vs:List (Int×ByteArray)} {x:ByteArray} (h:x∈keysL c k fs vs):∃i,∃(hf:i<fs.length) (hv:i<vs.length),x=idxK c fs[i].1 (keyO fs[i].2 vs[i].1 vs[i].2) k:=by
 rw [keysL,List.mem_map] at h;obtain ⟨p,hp,rfl⟩:=h;obtain ⟨i,hi,rfl⟩:=List.getElem_of_mem hp;rw [List.length_zip] at hi
 refine ⟨i,by omega,by omega,?_⟩
 rw [List.getElem_zip]
theorem sch_parts {r:Option ByteArray} {fs:List (ByteArray×Int)} (h:SchIn r fs true):schemaOkB fs=true:=by
 cases r with
 | none=>exact absurd h.2 (by simp)
 | some t=>rcases h with ⟨-,h,-⟩ | ⟨h,-,-⟩;exact h.1;cases h
theorem schema_names {fs:List (ByteArray×Int)} (h:schemaOkB fs=true):(∀i (hi:i<fs.length),fieldB fs[i]=true)/\∀i j (hi:i<fs.length) (hj:j<fs.length),fs[i].1=fs[j].1->i=j:=by
 rw [schemaOkB,Bool.and_eq_true,Bool.and_eq_true,decide_eq_true_eq,List.all_eq_true] at h
 refine ⟨fun i hi=>h.1.1 _ (List.getElem_mem hi),fun i j hi hj e=> ?_⟩
 rcases Nat.lt_trichotomy i j with hl | hl | hl
 ·have:=h.1.2 j hj i hl
  simp [List.getD,hi,hj] at this
  exact absurd e this
 ·exact hl
 ·have:=h.1.2 i hi j hl
  simp [List.getD,hi,hj] at this
  exact absurd e.symm this
theorem idx_one {c f o k c' f' o' k':ByteArray} (hc:∀b∈c.data.toList,b≠0) (hc':∀b∈c'.data.toList,b≠0) (hf:∀b∈f.data.toList,b≠0) (hf':∀b∈f'.data.toList,b≠0) (h:idxK c f o k=idxK c' f' o' k'):
  c=c'/\f=f'/\o.data.toList++k.data.toList=o'.data.toList++k'.data.toList:=by
 have h1:=congrArg (fun z:ByteArray=>z.data.toList) h
 simp only [idxK_list,List.cons.injEq,true_and] at h1
 obtain ⟨h2,h3⟩:=end0 hc hc' h1;obtain ⟨h4,h5⟩:=end0 hf hf' h3;exact ⟨ba_same h2,ba_same h4,h5⟩
theorem want_one {D:Int->ByteArray} {root:Int} {p q:ByteArray×ByteArray} {x:ByteArray} (h:WantOf D root p x) (k:WantOf D root q x):p.1=q.1:=by
 obtain ⟨h0,c,n,fs,vs,h1,h2,h3,h4⟩:=h;obtain ⟨k0,c',n',gs,us,k1,k2,k3,k4⟩:=k;obtain ⟨e1,e2⟩:=cutK_key h0 h1;obtain ⟨f1,f2⟩:=cutK_key k0 k1;obtain ⟨i,hi,hv,rfl⟩:=keysL_mem h4;obtain ⟨j,hj,hu,hx⟩:=keysL_mem k4;obtain ⟨nf,uf⟩:=schema_names (sch_parts h2);obtain ⟨ng,ug⟩:=schema_names (sch_parts k2);obtain ⟨rfl,y2,y3⟩:=idx_one e2 f2 (field_no0 (nf i hi)) (field_no0 (ng j hj)) hx;obtain ⟨rfl,-⟩:=schIn_one h2 k2;obtain rfl:=uf i j hi hj y2
 have hok:thingOkB fs vs=true:=by rcases h3 with ⟨-,h,-⟩ | ⟨h,-,-⟩;exact h.1;cases h
 have kok:thingOkB fs us=true:=by rcases k3 with ⟨-,h,-⟩ | ⟨h,-,-⟩;exact h.1;cases h
 have val:∀(zs:List (Int×ByteArray)) (hz:i<zs.length),thingOkB fs zs=true->valueB fs[i].2 zs[i].1 zs[i].2=true:=by
  intro zs hz h;rw [thingOkB,Bool.and_eq_true,decide_eq_true_eq] at h;have:=h.2 i hz
  simpa [List.getD,hi,hz] using this
 have:=order_end (val vs hv hok) (val us hu kok) y3;rw [this] at e1;exact ba_same (e1.trans f1.symm)
theorem keysL_nodup {c k:ByteArray} {fs:List (ByteArray×Int)} {vs:List (Int×ByteArray)} (hc:∀b∈c.data.toList,b≠0) (h:schemaOkB fs=true):(keysL c k fs vs).Nodup:=by
 obtain ⟨nf,uf⟩:=schema_names h;rw [keysL,List.Nodup,List.pairwise_map,List.pairwise_iff_getElem];intro i j hi hj hij e;rw [List.length_zip] at hi hj;rw [List.getElem_zip,List.getElem_zip] at e
 obtain ⟨-,y2,-⟩:=idx_one hc hc (field_no0 (nf i (by omega))) (field_no0 (nf j (by omega))) e
 have:=uf i j (by omega) (by omega) y2
 omega
theorem gath_nodup {D:Int->ByteArray} {root:Int}:∀{L:List (ByteArray×ByteArray)} {W H:List ByteArray},Gath D root L W H->(L.map (·.1)).Nodup->W.Nodup
 | [],_,_,h,_=>by rw [h.1];exact List.nodup_nil
 | p :: L,_,_,h,hn=>by
  obtain ⟨a,b,V,G,h1,h2,rfl,rfl⟩:=h;rw [List.map_cons,List.nodup_cons] at hn
  refine List.nodup_append.2 ⟨?_,gath_nodup h2 hn.2,fun x hx y hy e=> ?_⟩
  ·unfold PairIs at h1
   split at h1
   ·rename_i h0
    obtain ⟨-,c,k,fs,vs,e1,e2,e3,rfl⟩:=h1;exact keysL_nodup (cutK_key h0 e1).2 (sch_parts e2)
   ·split at h1
    ·rw [h1.2.1];exact List.nodup_nil
    ·rw [h1.1];exact List.nodup_nil
  ·subst e
   obtain ⟨q,hq,hw⟩:=gath_want h2 x hy;have:=want_one (pair_want h1 hx) hw;exact hn.1 (List.mem_map.2 ⟨q,hq,this.symm⟩)
def finS (W H:List ByteArray):Bool:=decide (W.length=H.length) && W.all fun x=>H.any fun y=>decide (y=x)
theorem nd_le:∀{W H:List ByteArray},W.Nodup->(∀x∈W,x∈H)->W.length<=H.length
 | [],_,_,_=>Nat.zero_le _
 | x :: W,H,hn,hs=>by
  rw [List.nodup_cons] at hn;have hx:x∈H:=hs x (List.mem_cons_self ..);obtain ⟨a,b,rfl⟩:=List.append_of_mem hx
  have h1:=nd_le (W:=W) (H:=a++b) hn.2 (fun y hy=>by
   have h2:=hs y (List.mem_cons_of_mem _ hy)
   rcases List.mem_append.1 h2 with h2 | h2
   ·exact List.mem_append_left _ h2
   ·rcases List.mem_cons.1 h2 with rfl | h2
    ·exact absurd hy hn.1
    ·exact List.mem_append_right _ h2)
  simp only [List.length_append,List.length_cons] at h1⊢
  omega
theorem finS_sets {W H:List ByteArray} (hw:W.Nodup) (hh:H.Nodup):finS W H=true↔∀x,x∈W↔x∈H:=by
 rw [finS,Bool.and_eq_true,decide_eq_true_eq,List.all_eq_true]
 constructor
 ·rintro ⟨h1,h2⟩
  have hsub:∀x∈W,x∈H:=fun x hx=>by
   have:=h2 x hx;rw [List.any_eq_true] at this;obtain ⟨y,hy,e⟩:=this;rw [decide_eq_true_eq] at e;rw [<-e];exact hy
  refine fun x=>⟨hsub x,fun hx=> ?_⟩
  by_cases hm:x∈W
  ·exact hm
  ·have:=nd_le (W:=x :: W) (H:=H) (List.nodup_cons.2 ⟨hm,hw⟩) (fun y hy=>by
    rcases List.mem_cons.1 hy with rfl | hy
    ·exact hx
    ·exact hsub y hy)
   rw [List.length_cons] at this
   omega
 ·intro h
  have h1:=nd_le hw (fun x hx=>(h x).1 hx)
  have h2:=nd_le hh (fun x hx=>(h x).2 hx)
  refine ⟨by omega,fun x hx=> ?_⟩
  rw [List.any_eq_true]
  exact ⟨x,(h x).1 hx,by simp⟩
def Told (D:Int->ByteArray) (root:Int) (fin:List ByteArray->List ByteArray->Bool->Prop) (L:List (ByteArray×ByteArray)) (b:Bool):Prop:=
 (b=false/\∃p∈L,PairNo D root p)\/∃W H,Gath D root L W H/\fin W H b
theorem told_same {D:Int->ByteArray} {root:Int} {L:List (ByteArray×ByteArray)} (hn:(L.map (·.1)).Nodup) {a b:Bool} (h:Told D root (fun W H b=>b=finS W H) L a) (k:Told D root (fun W H b=>b=true↔∀x,x∈W↔x∈H) L b):a=b:=by
 rcases h with ⟨rfl,p,hp,h⟩ | ⟨W,H,h1,rfl⟩
 ·rcases k with ⟨rfl,-⟩ | ⟨W,H,k1,-⟩
  ·rfl
  ·exact (gath_no k1 hp h).elim
 ·rcases k with ⟨rfl,p,hp,k⟩ | ⟨V,G,k1,k2⟩
  ·exact (gath_no h1 hp k).elim
  ·obtain ⟨rfl,rfl⟩:=gath_one h1 k1
   have:=finS_sets (gath_nodup h1 hn) (hn.sublist (gath_have h1));rw [Bool.eq_iff_iff,this,k2]
theorem up_nodup {l:List (ByteArray×ByteArray)} (h:upB l=true):(l.map (·.1)).Nodup:=by
 rw [upB,decide_eq_true_eq] at h
 have hlt:∀j,j<l.length->∀i,i<j->lessB (l.getD i (⟨#[]⟩,⟨#[]⟩)).1 (l.getD j (⟨#[]⟩,⟨#[]⟩)).1=true:=by
  intro j
  induction j with
  | zero=>intro _ i hi;omega
  | succ j ih=>
   intro hj i hi
   have hs:=h (j+1) hj (by omega)
   rw [Nat.add_sub_cancel] at hs
   by_cases e:i=j
   ·rw [e];exact hs
   ·exact lessB_trans (ih (by omega) i (by omega)) hs
 rw [List.Nodup,List.pairwise_map,List.pairwise_iff_getElem];intro i j hi hj hij e;have:=hlt j hj i hij
 simp only [List.getD_eq_getElem?_getD,List.getElem?_eq_getElem hi,List.getElem?_eq_getElem hj,Option.getD_some] at this
 rw [e,lessB_irrefl] at this
 cases this
end Go.Proofs.YtjmgdmdleamenaaGreatDoor
