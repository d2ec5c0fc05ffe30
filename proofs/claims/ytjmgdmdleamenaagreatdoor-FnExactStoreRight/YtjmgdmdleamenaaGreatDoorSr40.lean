/-
  Facts and contracts that the law's own text rests on, by their texts' names: ChkIdxS, StRightP, PgSpec.
-/
import Derived.Test.YtjmgdmdleamenaaGreatDoorSr32
import Derived.Test.YtjmgdmdleamenaaGreatDoorSr38
import Derived.Test.YtjmgdmdleamenaaGreatDoorSr39
import Derived.Test.YtjmgdmdleamenaaGreatDoorSr7
import Derived.Test.YtjmgdmdleamenaaGreatDoorSr11
import Derived.Test.YtjmgdmdleamenaaGreatDoorSr29
set_option maxHeartbeats 16000000
set_option maxRecDepth 100000
namespace Go.Proofs.YtjmgdmdleamenaaGreatDoor
open Go.RowKit
theorem wpList_strR {ops:Array Oper} {rest:List Oper} {o:Oper} {a:Act} {Q:Exit->Act->World->Prop} {B:Nat} {W:World} {l:List Ast} (h:Sep B W l) (i:Nat) {B' n:Nat} {v:Value} {xs:List ByteArray} (hi:l[i]?=some (rowA B' 9 1 v n (strs xs))) (hBB:B<=B') (hBW:B<=W.heap.size) (hBW':B'<=W.heap.size)
  (hgd:o.guard=none) (s x:Operand) (ho:o.op= .call {callee:= .builtin .append,args:= #[s,x],argTypes:= #[22,22]}) (hs:a.eval s=v) (u:Value) (m:Nat) (ys:List ByteArray) (hx:a.eval x=u) (hrow:RowAt W 1 u m (strs ys)) (hn:n+m<=3000000)
  (hK:∀y c w',Sep B w' (l.set i (rowA B' 9 1 (.slice y (n+m) c) (n+m) (strs (xs++ys))))->Below B W w'->wpList Tryz.prog ops Q rest (a.put o.dst (.slice y (n+m) c)) w'):
  wpList Tryz.prog ops Q (o :: rest) a W:=
 wpList_plain hgd fun _ hK'=>by
  obtain ⟨i0,hinf,hz0,hz1,hz2⟩:=info_parts Tryz.infoStrR
  obtain ⟨y,c,w',hr,h2,h3,h4⟩:=run_append_sep (P:=Tryz.prog) W 22 o.type B' 9 i0 (.string ⟨#[]⟩) 1 16 Tryz.underlying22 hinf hz0 hz1 hz2 rfl (by decide) v n (strs xs) (sep_get h i hi) u m (strs ys) hrow (strs_one ys) (by unfold maxLen;omega) (by omega) hBW'
  obtain ⟨k1,k2⟩:=row_sep h i hi hBB hBW h3 h2 h4;unfold Oper.wp execOp
  simp only [ho,resolve,invoke,builtin,Sem.run_bind,Sem.run_pure,Result.andThen_ok,List.map_toArray,List.map_cons,List.map_nil,hs,hx,hr]
  refine hK' _ _ (hK y c w' ?_ k2)
  rw [show strs (xs++ys)=strs xs++strs ys from by simp [strs]]
  exact k1
theorem head_none {k:ByteArray} (h:k.size=0):headK k=none:=by
 have:k.data.toList= []:=List.eq_nil_of_length_eq_zero (by rw [ba_len];exact h)
 rw [headK,this];rfl
theorem head_is {k:ByteArray} (h:0<k.size) (b:UInt8):headK k=some b↔byt k 0=b.toNat:=by
 have hl:0<k.data.toList.length:=by rw [ba_len];exact h
 have h2:=byt_mem (k:=k) (j:=0) hl
 cases e:k.data.toList with
 | nil=>rw [e] at hl;exact absurd hl (by simp)
 | cons a l=>
  have h3:a.toNat=byt k 0:=by rw [<-h2];simp [e]
  rw [headK,e,<-h3]
  simp only [List.head?_cons,Option.some.injEq]
  exact UInt8.toNat_inj.symm
theorem all_small (ps:List ByteArray) (ls:List (Int×ByteArray)) (root:Int):∀p∈(allI (fun q=>rdN (readD ps ls q)) root).1,p.1.size<=24/\p.2.size<=24:=by
 intro p hp;unfold allI at hp
 split at hp
 ·have hp2:p∈pairsV (seenI (fun q=>rdN (readD ps ls q)) root).1:=hp
  rw [pairsV,List.mem_flatMap] at hp2;obtain ⟨v,hv,hpv⟩:=hp2;unfold seenI at hv
  split at hv
  ·cases hv
  ·have h:=down_vis (fun q=>rdN (readD ps ls q)) 8 root [] [] v hv
   have h2:(rdN (readD ps ls v.page)).1=v.nd:=by rw [show rdN (readD ps ls v.page)=(v.nd,true) from h]
   have hok:=rdN_right2 ps ls v.page (by show (rdN (readD ps ls v.page)).2=true;rw [show rdN (readD ps ls v.page)=(v.nd,true) from h])
   rw [show (rdN (readD ps ls v.page)).1=v.nd from h2] at hok
   have hcn:=ok_cnt hok;rw [Nd.ok,nodeOkB,Bool.and_eq_true,Bool.and_eq_true,Bool.and_eq_true] at hok;have hk:=of_decide_eq_true hok.1.1.2;have hvv:=of_decide_eq_true hok.1.2;rw [pairsN,List.mem_map] at hpv;obtain ⟨i,hi,rfl⟩:=hpv;rw [List.mem_range] at hi;refine ⟨?_,hvv i hi⟩
   have:=hk i (by omega)
   rw [keyB] at this
   simp only [Bool.and_eq_true,decide_eq_true_eq] at this
   exact this.1
 ·cases hp
def IdxTold (r:List (ByteArray×ByteArray)×Bool) (D:Int->ByteArray) (root:Int) (fin:List ByteArray->List ByteArray->Bool->Prop) (b:Bool):Prop:=
 (r.2=false/\b=false)\/(r.2=true/\Told D root fin r.1 b)
theorem sch_sizes {r:Option ByteArray} {fs:List (ByteArray×Int)} {ok:Bool} (h:SchIn r fs ok):fs.length<=3/\∀f∈fs,f.1.size<=1048576:=by
 refine ⟨schIn_len h,fun f hf=> ?_⟩
 cases ok with
 | true=>
  obtain ⟨nf,-⟩:=schema_names (sch_parts h);obtain ⟨i,hi,rfl⟩:=List.getElem_of_mem hf;have:=nf i hi;rw [fieldB,Bool.and_eq_true,wordB,Bool.and_eq_true,decide_eq_true_eq] at this;have h2:=(of_decide_eq_true this.1.2).2
  omega
 | false=>
  cases r with
  | none=>rw [h.1] at hf;cases hf
  | some t=>
   rcases h with ⟨h,-,-⟩ | ⟨-,h,-⟩
   ·cases h
   ·rw [h] at hf;cases hf
theorem spl_some {k:ByteArray} (h:(splO k).2.2=true):cutK k=some ((splO k).1,(splO k).2.1):=by
 unfold splO at h⊢
 cases e:cutK k with
 | none=>rw [e] at h;cases h
 | some p=>rfl
theorem spl_none {k:ByteArray} (h:(splO k).2.2=false):cutK k=none:=by
 unfold splO at h
 cases e:cutK k with
 | none=>rfl
 | some p=>rw [e] at h;cases h
theorem cutZ_sizes:∀{l x y:List UInt8},cutZ l=some (x,y)->x.length<=l.length/\y.length<=l.length:=fun h=>by
 obtain ⟨rfl,-⟩:=cutZ_some h
 simp only [List.length_append,List.length_cons]
 omega
theorem spl_sizes (k:ByteArray):(splO k).1.size<=k.size/\(splO k).2.1.size<=k.size:=by
 unfold splO
 cases e:cutK k with
 | none=>exact ⟨Nat.zero_le _,Nat.zero_le _⟩
 | some p=>
  unfold cutK at e
  cases e2:cutZ (k.data.toList.drop 1) with
  | none=>rw [e2] at e;cases e
  | some q=>
   rw [e2] at e
   simp only [Option.map_some,Option.some.injEq] at e
   subst e;have:=cutZ_sizes (x:=q.1) (y:=q.2) e2;have hl:=ba_len k;rw [List.length_drop] at this;dsimp only
   simp only [ByteArray.size,List.size_toArray]
   have hs:k.data.size=k.size:=rfl
   omega
theorem pair_else {D:Int->ByteArray} {root:Int} {p:ByteArray×ByteArray} (h1:headK p.1≠some 111) (h2:headK p.1≠some 105):PairIs D root p [] []:=by
 unfold PairIs;rw [if_neg h1,if_neg h2];exact ⟨rfl,rfl⟩
theorem pair_have {D:Int->ByteArray} {root:Int} {p:ByteArray×ByteArray} (h2:headK p.1=some 105) (h3:p.2=⟨#[]⟩):PairIs D root p [] [p.1]:=by
 unfold PairIs
 rw [if_neg (by rw [h2];decide),if_pos h2]
 exact ⟨h3,rfl,rfl⟩
theorem pair_full {D:Int->ByteArray} {root:Int} {p:ByteArray×ByteArray} (h2:headK p.1=some 105) (h3:p.2≠⟨#[]⟩):PairNo D root p:=by
 unfold PairNo
 rw [if_neg (by rw [h2];decide),if_pos h2]
 exact h3
theorem pair_thing {D:Int->ByteArray} {root:Int} {p:ByteArray×ByteArray} {fs:List (ByteArray×Int)} {vs:List (Int×ByteArray)} (h:headK p.1=some 111) (hs:(splO p.1).2.2=true) (h1:SchIn (getK D root (schK (splO p.1).1)) fs true) (h2:ReadTh fs p.2 vs true):PairIs D root p (keysL (splO p.1).1 (splO p.1).2.1 fs vs) []:=by
 unfold PairIs;rw [if_pos h];exact ⟨rfl,_,_,fs,vs,spl_some hs,h1,h2,rfl⟩
theorem pair_bad {D:Int->ByteArray} {root:Int} {p:ByteArray×ByteArray} {fs:List (ByteArray×Int)} {vs:List (Int×ByteArray)} {ok ko:Bool} (h:headK p.1=some 111) (h1:SchIn (getK D root (schK (splO p.1).1)) fs ok) (h2:ReadTh fs p.2 vs ko) (hs:((splO p.1).2.2 && ok && ko)=false):PairNo D root p:=by
 unfold PairNo;rw [if_pos h]
 cases e:(splO p.1).2.2 with
 | false=>exact Or.inl (spl_none e)
 | true=>
  rw [e,Bool.true_and] at hs;exact Or.inr ⟨_,_,fs,ok,vs,ko,spl_some e,h1,h2,hs⟩
theorem gath_step {D:Int->ByteArray} {root:Int} {L:List (ByteArray×ByteArray)} {W H ws hs:List ByteArray} {i:Nat} (hi:i<L.length) (h:Gath D root (L.take i) W H) (hp:PairIs D root L[i] ws hs):Gath D root (L.take (i+1)) (W++ws) (H++hs):=by
 rw [List.take_succ_eq_append_getElem hi];exact gath_snoc h hp
theorem thing_of {fs:List (ByteArray×Int)} {t:ByteArray} {vs:List (Int×ByteArray)} (h:ReadTh fs t vs true):thingOkB fs vs=true:=by
 rcases h with ⟨-,h,-⟩ | ⟨h,-,-⟩
 ·exact h.1
 ·cases h
open Go.RowKit
def StTold (s:St) (T:Int->Bool) (fin:List ByteArray->List ByteArray->Bool->Prop) (b:Bool):Prop:=
 (s.m.ok=false/\b=false)\/(s.m.ok=true/\T s.m.root=false/\b=false)\/
 (s.m.ok=true/\T s.m.root=true/\∃p,PgTold (pagesS (fun q=>rdN (readD s.ps s.ls q)) s.m.root) s.m.fs s.m.next p/\((p=false/\b=false)\/
  (p=true/\∃i,IdxTold (allS (fun q=>rdN (readD s.ps s.ls q)) s.m.root) (readD s.ps s.ls) s.m.root fin i/\b=(i && s.rs.all fun r=>T r.2.root))))
theorem idx_same {ps:List ByteArray} {ls:List (Int×ByteArray)} {root:Int} (ht:treeS (fun q=>rdN (readD ps ls q)) root=true) {a b:Bool}
  (h:IdxTold (allS (fun q=>rdN (readD ps ls q)) root) (readD ps ls) root (fun W H b=>b=finS W H) a)
  (k:IdxTold (allS (fun q=>rdN (readD ps ls q)) root) (readD ps ls) root (fun W H b=>b=true↔∀x,x∈W↔x∈H) b):a=b:=by
 rw [treeS,Bool.and_eq_true,Bool.and_eq_true] at ht
 have hb:(seenS (fun q=>rdN (readD ps ls q)) root).bad=false:=by
  have:=ht.1.1
  cases e:(seenS (fun q=>rdN (readD ps ls q)) root).bad with
  | false=>rfl
  | true=>rw [e] at this;cases this
 have ha:allS (fun q=>rdN (readD ps ls q)) root=((seenS (fun q=>rdN (readD ps ls q)) root).pairs,true):=by rw [allS,if_neg (by rw [hb];decide)]
 rw [ha] at h k
 rcases h with ⟨h,-⟩ | ⟨-,h⟩
 ·cases h
 ·rcases k with ⟨k,-⟩ | ⟨-,k⟩
  ·cases k
  ·exact told_same (up_nodup ht.1.2) h k
theorem stTold_same {s:St} {a b:Bool} (h:StTold s (treeS fun q=>rdN (readD s.ps s.ls q)) (fun W H b=>b=finS W H) a) (k:StTold s (treeS fun q=>rdN (readD s.ps s.ls q)) (fun W H b=>b=true↔∀x,x∈W↔x∈H) b):a=b:=by
 rcases h with ⟨h1,rfl⟩ | ⟨h1,h2,rfl⟩ | ⟨h1,h2,p,h3,h4⟩ <;> rcases k with ⟨k1,rfl⟩ | ⟨k1,k2,rfl⟩ | ⟨k1,k2,q,k3,k4⟩
 ·rfl
 ·rfl
 ·rw [h1] at k1;cases k1
 ·rfl
 ·rfl
 ·rw [h2] at k2;cases k2
 ·rw [h1] at k1;cases k1
 ·rw [h2] at k2;cases k2
 ·obtain rfl:=pgTold_one h3 k3
  rcases h4 with ⟨h5,rfl⟩ | ⟨h5,i,h6,rfl⟩ <;> rcases k4 with ⟨k5,rfl⟩ | ⟨k5,j,k6,rfl⟩
  ·rfl
  ·rw [h5] at k5;cases k5
  ·rw [h5] at k5;cases k5
  ·rw [idx_same h2 h6 k6]
theorem all_taken {rs:List (Int×Mt)} {T:Int->Bool} (h:∀(j:Nat) r,rs[j]?=some r->T r.2.root=true):(rs.all fun r=>T r.2.root)=true:=by
 rw [List.all_eq_true];intro r hr;obtain ⟨j,hj,rfl⟩:=List.getElem_of_mem hr;exact h j _ (List.getElem?_eq_getElem hj)
theorem all_one {rs:List (Int×Mt)} {T:Int->Bool} {j:Nat} {r:Int×Mt} (hr:rs[j]?=some r) (h:T r.2.root=false):(rs.all fun r=>T r.2.root)=false:=by
 rw [List.all_eq_false]
 exact ⟨r,List.mem_of_getElem? hr,by rw [h];decide⟩
open Go.RowKit
theorem ints_app (a b:List Int):ints a++ints b=ints (a++b):=by simp [ints]
theorem own_int_at {w:World} {B n c g:Nat} {l:List Int} (h:w.ownsRow B 3 1 (.slice (some ⟨g,0,none⟩) n c) n (ints l)) {k:Nat} (hk:k<l.length):w.cell? ⟨g,k,none⟩=some (.int .i64 (l.getD k 0)):=by
 obtain ⟨-,a,cap,e,h2⟩:=row_of_own h
 injection e with e1 e2 e3
 subst e1;have hn:=row_n h
 rcases h2 with h0 | ⟨b,off,e4,hlt,hc⟩
 ·omega
 ·injection e4 with e4
  injection e4 with e5 e6
  subst e5;rw [<-e6] at hc
  have hk2:=hc k (by omega)
  rw [Nat.zero_add] at hk2;rw [hk2]
  simp [ints,hk,List.getD_eq_getElem?_getD]
theorem specPagesRight_any (ps:List ByteArray) (ls:List (Int×ByteArray)) (hp:ps.length<=1048576) (hl:ls.length<=1048576) (hps:∀s∈ps,s.size<=1048576) (hls:∀p∈ls,p.2.size<=1048576) (m:Mt) (hok:m.ok=true) (vd vm:Value) (w:World) (hd:DiskAt w vd ps ls) (hdk:∀k,diskBlocks vd k->k<w.heap.size) (hm:MetaAt w vm m):
  Calls Tryz.prog 15 #[vd,vm] w fun e w'=>∃b,e= .returned (.bool b)/\PgTold (pagesS (fun q=>rdN (readD ps ls q)) m.root) m.fs m.next b/\Below w.heap.size w w':=by
 obtain ⟨i0,hi,hz0,hz1,hz2⟩:=info_parts Tryz.infoIntR;obtain ⟨vp,vl,rfl,-,-⟩:=id hd;obtain ⟨vf,rfl,hf⟩:=hm;obtain ⟨xf,cf,rfl⟩:=frees_slice hf;obtain ⟨mt,mr,nx,fs⟩:=m;obtain ⟨hn2,hn40,hf20,hf40⟩:=ok_short hok;dsimp only at hf hn2 hn40 hf20 hf40⊢;obtain ⟨w0,hw0⟩:∃w0,w0=(w.alloc (Obj.cells #[vp,vl] 41)).alloc (Obj.cells #[.int .i64 mt,.int .i64 mr,.int .i64 nx,.slice xf fs.length cf] 44):=⟨_,rfl⟩
 have hb0:Below w.heap.size w w0:=by rw [hw0];exact ((Below.refl _ _).alloc (Nat.le_refl _) _).alloc (by simp) _
 have HVar:=hide (meta_var (w.alloc (Obj.cells #[vp,vl] 41)) mt mr nx (.slice xf fs.length cf) 44);rw [<-hw0,World.size_alloc] at HVar
 have HP:=hide (specPagesOf_any ps ls hp hl hps hls (.agg #[vp,vl]) mr w0 (disk_below hd hb0) (fun k hk=>Nat.lt_of_lt_of_le (hdk k hk) hb0.size))
 have HPl:=hide (pages_len ps ls mr);rw [both_pages _ (rdN_right2 ps ls) mr] at HPl
 obtain ⟨R,hR⟩:∃R,R=pagesS (fun q=>rdN (readD ps ls q)) mr:=⟨_,rfl⟩
 rw [<-hR] at HP HPl⊢;have HF:=hide hf;obtain ⟨nf,hnf⟩:∃n,n=fs.length:=⟨_,rfl⟩;rw [<-hnf] at HVar HF hf20 hw0⊢;have HNf:=hide hnf;have HSh:=hide hf40;have HB0:=hide hb0;clear hp hl hps hls hd hdk hok hf hf40 hR hb0 hnf;go_enter Tryz.func15,Tryz.ntmps15;go_wp2_with fail;rw [<-hw0];clear hw0;refine HP.out.mono ?_;rintro e w1 ⟨v,l,rfl,hown,hpm,hsm,hb1⟩;obtain ⟨rl,rb⟩:=R;dsimp only at hpm HPl⊢;have HPm:=hide hpm
 have hll:l.length<=22000:=by rw [hpm.length_eq];exact HPl.out
 have HB1:=hide hb1;have HO1:Hid (w1.ownsRow w0.heap.size 3 1 v l.length (ints l)):=hide hown;obtain ⟨x1,c1,rfl⟩:=own_slice hown;clear hown hpm hsm hb1
 cases rb with
 | false=>
  go_wp2_with fail;go_ret;exact ⟨false,rfl,Or.inl ⟨rfl,rfl⟩,HB0.out.trans (HB1.out.mono HB0.out.size)⟩
 | true=>
  go_wp2_with fail
  go_loopg [5,7] nf (fun q lv iv wr=>∃(i nr:Nat) (x:Option Addr) (c:Nat),i<=nf/\q+i=nf/\lv= .slice x nr c/\iv= .int .i64 (i:Int)/\Hid (wr.ownsRow w0.heap.size 3 1 (.slice x nr c) nr (ints (l++flatF fs i)))/\Hid (Below w0.heap.size w0 wr))
  case atStart=>exact ⟨0,l.length,x1,c1,Nat.zero_le _,by omega,rfl,rfl,hide (by rw [show flatF fs 0= [] from rfl,List.append_nil];exact HO1.out),HB1⟩
  case round=>
   clear HO1 HB1;obtain ⟨i,nr,x,c,hin,hq,rfl,rfl,HO,HB⟩:=hrel;have HQ:=hide hq;clear hq;obtain ⟨c0,c2,c3,c4⟩:=HVar.out wr HB.out
   by_cases hlt:i<nf
   ·obtain ⟨⟨tx,pgs⟩,hfi⟩:∃f,fs[i]?=some f:=⟨fs[i]'(by rw [<-HNf.out];exact hlt),List.getElem?_eq_getElem _⟩
    obtain ⟨bf,off,xp,cp,rfl,hbf,hc1,hc2,hrp⟩:=frees_at HF.out hfi;have hwb:=HB0.out.trans (HB.out.mono HB0.out.size)
    have hcx:wr.cell? ⟨bf,off+i * 2+1,none⟩=some (.slice xp pgs.length cp):=(hwb.cell (by exact hbf)).trans hc2
    have HRp:Hid (RowAt wr 1 (.slice xp pgs.length cp) pgs.length (ints pgs)):=hide (row_below hrp hwb);have HUp:Hid (flatF fs (i+1)=flatF fs i++pgs):=hide (flatF_succ hfi);have hpl:pgs.length<=40:=HSh.out _ (List.mem_of_getElem? hfi)
    have hnr:nr<=22800:=by
     have h1:=row_n HO.out;have h2:=flatF_short HSh.out i;rw [List.length_append] at h1
     omega
    have hbw:bf<wr.heap.size:=Nat.lt_of_lt_of_le hbf hwb.size;have hws:=HB.out.size
    have hi0:(0:Int)<=(i:Int):=by omega
    have hi1:(i:Int)<(nf:Int):=by omega
    obtain ⟨lp,hlp⟩:∃m,m=pgs.length:=⟨_,rfl⟩;rw [<-hlp] at hcx HRp hpl;clear hfi hbf hc1 hc2 hrp hwb hlp
    go_wp2_with (at_builtin;refine wpList_append_row _ rfl _ _ 30 rfl w0.heap.size 3 i0 (.int .i64 0) 1 8 Tryz.underlying30 hi hz0 hz1 hz2 rfl (by decide) _ _ _ rfl HO.out _ _ _ rfl HRp.out (ints_one _) ?d3 ?d4 ?d5 ?_)
    case d3=>unfold maxLen;omega
    case d4=>omega
    case d5=>exact hws
    intro x4 c5 w4 hown4 hgrow4
    have HB4:Hid (Below w0.heap.size w0 w4):=hide (HB.out.grown hgrow4 hws (fun k hk=>(HO.out.lt k hk).1))
    have HO4:Hid (w4.ownsRow w0.heap.size 3 1 (.slice x4 (nr+lp) c5) (nr+lp) (ints (l++flatF fs (i+1)))):=hide (by rw [HUp.out,<-List.append_assoc,<-ints_app];exact hown4)
    clear hown4 hgrow4;go_wp2_with fail
    go_roundg (gk - 1)
    case measure=>have:=HQ.out;omega
    case rel=>exact ⟨i+1,nr+lp,x4,c5,by omega,by have:=HQ.out;omega,rfl,by go_num,HO4,HB4⟩
   ·have HE:Hid (flatF fs i=flatF fs fs.length):=hide (by rw [<-HNf.out,show i=nf from by omega])
    rw [HE.out] at HO
    have hll2:(l++flatF fs fs.length).length<=22800:=by
     have h2:=flatF_short HSh.out fs.length;have:=HNf.out;rw [List.length_append]
     omega
    have hnr:=row_n HO.out
    have HSo:=hide (l07Sorted_any (l++flatF fs fs.length) (by omega) (.slice x nr c) wr (by rw [<-hnr];exact row_of_own HO.out))
    have HB2:Hid (Below w.heap.size w wr):=hide (HB0.out.trans (HB.out.mono HB0.out.size));clear hnr;go_wp2_with fail;refine HSo.out.mono ?_;rintro e w2 ⟨u,s,rfl,hown,hpm,hsm,hb2⟩
    have hsl:s.length<=22800:=by rw [hpm.length_eq];exact hll2
    obtain ⟨x2,cc,rfl⟩:=own_slice hown;have HPs:Hid (s.Perm (rl++flatF fs fs.length)):=hide (hpm.trans (HPm.out.append_right _));have HSs:=hide hsm;have HB3:Hid (Below w.heap.size w w2):=hide (HB2.out.trans (hb2.mono HB2.out.size));have HO2:Hid (w2.ownsRow wr.heap.size 3 1 (.slice x2 s.length cc) s.length (ints s)):=hide hown;obtain ⟨d0,d2,d3,d4⟩:=HVar.out w2 (HB.out.trans (hb2.mono HB.out.size))
    have hwn:IntKind.i64.wrap (nx - 2)=nx - 2:=IntWalk.i64_in _ ⟨by omega,by omega⟩
    obtain ⟨ns,hns⟩:∃n,n=s.length:=⟨_,rfl⟩;rw [<-hns] at HO2 hsl⊢;have HNs:=hide hns;clear hown hpm hsm hb2 HO hns
    by_cases hne:(ns:Int)=nx - 2
    ·have HNe:=hide hne
     have dn:((ns:Int) !=nx - 2)=false:=by rw [hne];simp
     clear hne;go_wp2_with fail
     go_loopg [8] ns (fun q iv wq=>∃i:Nat,i<=ns/\q+i=ns/\iv= .int .i64 (i:Int)/\Hid (∀j,j<i->s.getD j 0=(j:Int)+2)/\w2=wq)
     case atStart=>exact ⟨0,Nat.zero_le _,by omega,rfl,hide (fun j hj=>by omega),rfl⟩
     case round=>
      obtain ⟨i,hi3,hq,rfl,HA,rfl⟩:=hrel;have HQ:=hide hq;clear hq
      by_cases hl3:i<ns
      ·obtain ⟨g,rfl⟩:∃g,x2=some ⟨g,0,none⟩:=by
        rcases HO2.out.2 with ⟨e,h0⟩ | ⟨g,cc,cur,e,_⟩
        ·omega
        ·injection e with e1;exact ⟨g,e1⟩
       have hce:=own_int_at HO2.out (k:=i) (by rw [<-HNs.out];exact hl3)
       obtain ⟨y,hy⟩:∃y,y=s.getD i 0:=⟨_,rfl⟩;rw [<-hy] at hce;have HY:=hide hy
       have hi0:(0:Int)<=(i:Int):=by omega
       have hi1:(i:Int)<(ns:Int):=by omega
       have hw2:IntKind.i64.wrap ((i:Int)+2)=(i:Int)+2:=IntWalk.i64_in _ ⟨by omega,by omega⟩
       clear hy
       by_cases he:y=(i:Int)+2
       ·have dy:(y !=(i:Int)+2)=false:=by rw [he];simp
        have HA2:Hid (∀j,j<i+1->s.getD j 0=(j:Int)+2):=hide (fun j hj=>by
         by_cases e:j=i
         ·rw [e,<-HY.out,he]
         ·exact HA.out j (by omega))
        clear HA he;go_wp2_with fail
        go_roundg (gk - 1)
        case measure=>have:=HQ.out;omega
        case rel=>exact ⟨i+1,by omega,by have:=HQ.out;omega,by go_num,HA2,rfl⟩
       ·have dy:(y !=(i:Int)+2)=true:=by simp [he]
        have HNo:Hid (inRow s=false):=hide (inRow_no (k:=i) (by rw [<-HNs.out];exact hl3) (by rw [<-HY.out];exact he))
        clear he;go_wp2_with fail;go_ret
        exact ⟨false,rfl,Or.inr ⟨rfl,s,HPs.out,HSs.out,by rw [HNo.out,Bool.and_false]⟩,HB3.out⟩
      ·have HYe:Hid (inRow s=true):=hide (inRow_yes (fun j hj=>HA.out j (by have:=HNs.out;omega)))
       go_wp2_with fail;go_ret
       exact ⟨true,rfl,Or.inr ⟨rfl,s,HPs.out,HSs.out,by rw [HYe.out,<-HNs.out,decide_eq_true HNe.out];rfl⟩,HB3.out⟩
    ·have dn:((ns:Int) !=nx - 2)=true:=by simp [hne]
     have HNe:=hide hne;clear hne;go_wp2_with fail;go_ret
     exact ⟨false,rfl,Or.inr ⟨rfl,s,HPs.out,HSs.out,by rw [<-HNs.out,decide_eq_false HNe.out];rfl⟩,HB3.out⟩
end Go.Proofs.YtjmgdmdleamenaaGreatDoor
