/-
  Facts and contracts that the law's own text rests on, by their texts' names: StoreBase, Plain23, Plain24, Plain27, RangeSep, AlSpec.
-/
import Derived.Test.YtjmgdmdleamenaaGreatDoorSr8
import Derived.Test.YtjmgdmdleamenaaGreatDoorSr9
import Derived.Test.YtjmgdmdleamenaaGreatDoorSr12
import Derived.Test.YtjmgdmdleamenaaGreatDoorSr11
import Derived.Test.YtjmgdmdleamenaaGreatDoorSr13
import Derived.Test.YtjmgdmdleamenaaGreatDoorSr10
import Derived.Test.YtjmgdmdleamenaaGreatDoorSr6
import Derived.Below
import Derived.RangeFuncBound
import Derived.RangeFuncBox
import Derived.RangeFuncCalls
import Derived.RangeFuncLeaves
import Derived.RangeFuncNested
import Derived.Test.YtjmgdmdleamenaaGreatDoorSr3
set_option maxHeartbeats 16000000
set_option maxRecDepth 100000
namespace Go.Proofs.YtjmgdmdleamenaaGreatDoor
open Go.RowKit
theorem st_arr {w:World} {v:Value} {s:St} (h:StAt w v s):∃cs:Array Value,v= .agg cs/\cs.size=20:=by
 obtain ⟨vp,vl,vf,vR,vr,up,ul,uu,ug,uf,e,-⟩:=h;exact ⟨_,e,rfl⟩
def StThings (B:Nat) (v:Value) (s:St) (L:List Ast):Prop:=∃p1 q1 p2 q2 p3 q3 p4 q4 p5 q5 p6 q6 p7 q7 p8 q8 p9 q9 p10 q10 l1 l2 us,us.length=s.rs.length/\
 v= .agg #[.slice p1 s.ps.length q1,.slice p2 s.ls.length q2,.int .i64 s.m.tx,.int .i64 s.m.root,.int .i64 s.m.next,.slice p3 s.m.fs.length q3,.slice p4 s.rs.length q4,.int .i64 s.tm.tx,.int .i64 s.tm.root,.int .i64 s.tm.next,.slice p5 s.tm.fs.length q5,.slice p6 s.tk.ps.length q6,.slice p7 s.tk.ls.length q7,.int .i64 s.tk.next,.slice p8 s.tk.us.length q8,.slice p9 s.tk.gs.length q9,.slice p10 s.tk.fs.length q10,.int .i64 s.tr,.bool s.wr,.bool s.fl]/\
 L=stL B s (.slice p1 s.ps.length q1) (.slice p2 s.ls.length q2) (.slice p3 s.m.fs.length q3) (.slice p4 s.rs.length q4) (.slice p5 s.tm.fs.length q5) (.slice p6 s.tk.ps.length q6) (.slice p7 s.tk.ls.length q7) (.slice p8 s.tk.us.length q8) (.slice p9 s.tk.gs.length q9) (.slice p10 s.tk.fs.length q10) l1 l2 us
theorem st_things {w:World} {B:Nat} {v:Value} {s:St} (h:StOwn w B v s):∃L,StThings B v s L/\Sep B w L:=by
 obtain ⟨p1,q1,p2,q2,p3,q3,p4,q4,p5,q5,p6,q6,p7,q7,p8,q8,p9,q9,p10,q10,l1,l2,us,hu,e,hs⟩:=h;exact ⟨_,⟨p1,q1,p2,q2,p3,q3,p4,q4,p5,q5,p6,q6,p7,q7,p8,q8,p9,q9,p10,q10,l1,l2,us,hu,e,rfl⟩,hs⟩
theorem things_own {w:World} {B:Nat} {v:Value} {s:St} {L:List Ast} (h:StThings B v s L) (hs:Sep B w L):StOwn w B v s:=by
 obtain ⟨p1,q1,p2,q2,p3,q3,p4,q4,p5,q5,p6,q6,p7,q7,p8,q8,p9,q9,p10,q10,l1,l2,us,hu,e,rfl⟩:=h;exact ⟨p1,q1,p2,q2,p3,q3,p4,q4,p5,q5,p6,q6,p7,q7,p8,q8,p9,q9,p10,q10,l1,l2,us,hu,e,hs⟩
theorem things_arr {B:Nat} {v:Value} {s:St} {L:List Ast} (h:StThings B v s L):∃cs:Array Value,v= .agg cs/\cs.size=20/\cs.toList.all (·.oneCell')=true:=by
 obtain ⟨p1,q1,p2,q2,p3,q3,p4,q4,p5,q5,p6,q6,p7,q7,p8,q8,p9,q9,p10,q10,l1,l2,us,hu,e,-⟩:=h;exact ⟨_,e,rfl,rfl⟩
theorem asIs_disk {B B':Nat} (h:B'<=B) (v:Value) (ps:List ByteArray) (ls:List (Int×ByteArray)):AsIs (diskA B v ps ls) (diskA B' v ps ls):=⟨fun _ h=>h,fun _ hp=>disk_downQ hp h⟩
theorem sep_base {B B':Nat} {W:World} {l:List Ast} (h:Sep B W l) (hB:B'<=B):Sep B' W l:=⟨fun A hA=>⟨(h.1 A hA).1,fun k hk=>⟨Nat.le_trans hB ((h.1 A hA).2 k hk).1,((h.1 A hA).2 k hk).2⟩⟩,h.2⟩
theorem asIs_pack {B B':Nat} (h:B'<=B) {l l':List Ast} (hl:AsIsL l l'):AsIs (packA B l) (packA B' l'):=by
 refine ⟨?_,fun W hp=>sep_base (sep_low l l' hl hp) h⟩
 rintro k ⟨A',hA',hF⟩;obtain ⟨A,hA,hs⟩:=asIs_mem l l' hl A' hA';exact ⟨A,hA,hs.1 k hF⟩
theorem things_down {B B':Nat} {v:Value} {s:St} {L:List Ast} (h:StThings B v s L) (hB:B'<=B):∃L',StThings B' v s L'/\AsIsL L L':=by
 obtain ⟨p1,q1,p2,q2,p3,q3,p4,q4,p5,q5,p6,q6,p7,q7,p8,q8,p9,q9,p10,q10,l1,l2,us,hu,e,rfl⟩:=h;exact ⟨_,⟨p1,q1,p2,q2,p3,q3,p4,q4,p5,q5,p6,q6,p7,q7,p8,q8,p9,q9,p10,q10,l1,l2,us,hu,e,rfl⟩,asIs_disk hB _ _ _,asIs_frees hB _ _ _,asIs_pack hB (asIs_rds hB _ _ _),asIs_frees hB _ _ _,asIs_work hB _ _,trivial⟩
theorem sep_st {a0:Nat} {W W':World} {l:List Ast} {v:Value} {s:St} (h:Sep a0 W l) (hb:Below W.heap.size W W') (ho:StOwn W' W.heap.size v s) (hz:a0<=W.heap.size):∃L,StThings a0 v s L/\Sep a0 W' (packA a0 L :: l):=by
 obtain ⟨L,h1,h2⟩:=st_things ho;obtain ⟨L',h3,h4⟩:=things_down h1 hz;exact ⟨L',h3,sep_pack (sep_joinL h hb h2 h4 hz)⟩
theorem things_at {a0 B:Nat} {W:World} {l:List Ast} {v:Value} {s:St} {L:List Ast} (h:Sep a0 W l) (i:Nat) (hi:l[i]?=some (packA B L)) (ht:StThings B v s L):StAt W v s:=st_of_own (things_own ht (sep_get h i hi))
theorem Tryz.sizeL:(Tryz.prog.info? 36).map (·.size)=some 20:=by kernel_rfl
open Classical in
noncomputable def rdN (t:ByteArray):Nd×Bool:=if h:∃n,IsNd t n then (Classical.choose h,true) else (Nd.none,false)
theorem rdN_of {t:ByteArray} {n:Nd} {ok:Bool} (h:ReadN t n ok):rdN t=(n,ok):=by
 unfold rdN
 rcases h with ⟨rfl,h1,h2⟩ | ⟨rfl,rfl,h2⟩
 ·have hx:∃n,IsNd t n:=⟨n,h1⟩
  rw [dif_pos hx,h2 _ (Classical.choose_spec hx)]
 ·rw [dif_neg (fun ⟨m,hm⟩=>h2 m hm)]
theorem rdN_ok {t:ByteArray} {n:Nd} (h:rdN t=(n,true)):n.ok=true:=by
 unfold rdN at h
 split at h
 ·rename_i hx
  injection h with h1 h2
  rw [<-h1];exact (Classical.choose_spec hx).1
 ·injection h with h1 h2
  cases h2
theorem placeK_range (ks:List ByteArray) (key:ByteArray):∀k:Nat,-1<=placeK ks key k/\placeK ks key k<(k:Int)
 | 0=>by simp [placeK]
 | k+1=>by
  have:=placeK_range ks key k;rw [placeK]
  split <;> omega
noncomputable def getL (D:Int->ByteArray) (key:ByteArray):Nat->Int->Option ByteArray
 | 0,_=>none
 | k+1,p=>
  if (rdN (D p)).2=false\/placeK (rdN (D p)).1.ks key (rdN (D p)).1.ks.length<0 then none
  else if (rdN (D p)).1.lf=true then
   (if (rdN (D p)).1.ks.getD (placeK (rdN (D p)).1.ks key (rdN (D p)).1.ks.length).toNat ⟨#[]⟩=key then some ((rdN (D p)).1.vs.getD (placeK (rdN (D p)).1.ks key (rdN (D p)).1.ks.length).toNat ⟨#[]⟩) else none)
  else getL D key k ((rdN (D p)).1.cs.getD (placeK (rdN (D p)).1.ks key (rdN (D p)).1.ks.length).toNat 0)
def getO:Option ByteArray->Value
 | none=> .tuple #[.string ⟨#[]⟩,.bool false]
 | some v=> .tuple #[.string v,.bool true]
noncomputable def getK (D:Int->ByteArray) (root:Int) (key:ByteArray):Option ByteArray:=if root=0 then none else getL D key 8 root
structure Vis where
 page:Int
 nd:Nd
 way:List (Nd×Nat)
def kidsL (f:Int->List (Nd×Nat)->List Int->List Vis×Option (List Int)) (n:Nd) (way:List (Nd×Nat)) (seen:List Int):Nat->List Vis×Option (List Int)
 | 0=>([],some seen)
 | i+1=>
  match kidsL f n way seen i with
  | (vs,none)=>(vs,none)
  | (vs,some s)=>(vs++(f (n.cs.getD i 0) (way++ [(n,i)]) s).1,(f (n.cs.getD i 0) (way++ [(n,i)]) s).2)
def downL (R:Int->Nd×Bool):Nat->Int->List (Nd×Nat)->List Int->List Vis×Option (List Int)
 | 0,_,_,_=>([],none)
 | k+1,p,way,seen=>
  if (R p).2=false\/p∈seen then ([],none)
  else (⟨p,(R p).1,way⟩ :: (kidsL (downL R k) (R p).1 way (seen++ [p]) (R p).1.cs.length).1,(kidsL (downL R k) (R p).1 way (seen++ [p]) (R p).1.cs.length).2)
theorem kidsL_succ_some {f:Int->List (Nd×Nat)->List Int->List Vis×Option (List Int)} {n:Nd} {way:List (Nd×Nat)} {seen s:List Int} {i:Nat} (h:(kidsL f n way seen i).2=some s):
  kidsL f n way seen (i+1)=((kidsL f n way seen i).1++(f (n.cs.getD i 0) (way++ [(n,i)]) s).1,(f (n.cs.getD i 0) (way++ [(n,i)]) s).2):=by
 rw [kidsL]
 generalize kidsL f n way seen i=r at h⊢
 obtain ⟨vs,o⟩:=r
 simp only at h
 subst h
 rfl
theorem kidsL_succ_none {f:Int->List (Nd×Nat)->List Int->List Vis×Option (List Int)} {n:Nd} {way:List (Nd×Nat)} {seen:List Int} {i:Nat} (h:(kidsL f n way seen i).2=none):
  kidsL f n way seen (i+1)=kidsL f n way seen i:=by
 rw [kidsL]
 generalize kidsL f n way seen i=r at h⊢
 obtain ⟨vs,o⟩:=r
 simp only at h
 subst h
 rfl
theorem kidsL_none {f:Int->List (Nd×Nat)->List Int->List Vis×Option (List Int)} {n:Nd} {way:List (Nd×Nat)} {seen:List Int} {i:Nat} (h:(kidsL f n way seen i).2=none):∀d,kidsL f n way seen (i+d)=kidsL f n way seen i
 | 0=>rfl
 | d+1=>by
  have h2:=kidsL_none h d
  rw [Nat.add_succ,kidsL_succ_none (by rw [h2];exact h),h2]
structure Al where
 pairs:List (ByteArray×ByteArray)
 pages:List Int
 depths:List Int
 bad:Bool
 loose:Bool
def Al.none:Al:=⟨[],[],[],false,false⟩
def lessB (x y:ByteArray):Bool:=Op.bytesLess x.toList y.toList
def leastB (n:Nd) (i:Nat) (low:ByteArray):ByteArray:=if lessB low (n.ks.getD i ⟨#[]⟩)=true then n.ks.getD i ⟨#[]⟩ else low
def nearB (n:Nd) (i:Nat) (high:ByteArray) (has:Bool):Bool:=decide (i+1<n.ks.length) && (!has || lessB (n.ks.getD (i+1) ⟨#[]⟩) high)
def nextB (n:Nd) (i:Nat) (high:ByteArray) (has:Bool):ByteArray:=if nearB n i high has=true then n.ks.getD (i+1) ⟨#[]⟩ else high
def moreB (n:Nd) (i:Nat) (high:ByteArray) (has:Bool):Bool:=if nearB n i high has=true then true else has
def outB (k low high:ByteArray) (has:Bool):Bool:=lessB k low || (has && !lessB k high)
def stepS (f:Int->Nat->ByteArray->ByteArray->Bool->Al->Al) (n:Nd) (deep:Nat) (low high:ByteArray) (has:Bool) (i:Nat) (a:Al):Al:=
 if n.lf=true then {a with loose:=a.loose || outB (n.ks.getD i ⟨#[]⟩) low high has,pairs:=a.pairs++ [(n.ks.getD i ⟨#[]⟩,n.vs.getD i ⟨#[]⟩)]}
 else f (n.cs.getD i 0) (deep+1) (leastB n i low) (nextB n i high has) (moreB n i high has) a
def loopS (f:Int->Nat->ByteArray->ByteArray->Bool->Al->Al) (n:Nd) (deep:Nat) (low high:ByteArray) (has:Bool) (a:Al):Nat->Al
 | 0=>a
 | i+1=>stepS f n deep low high has i (loopS f n deep low high has a i)
def walkS (R:Int->Nd×Bool):Nat->Int->Nat->ByteArray->ByteArray->Bool->Al->Al
 | 0,_,_,_,_,_,a=>{a with bad:=true}
 | k+1,p,deep,low,high,has,a=>
  if (R p).2=false\/p∈a.pages\/a.bad=true then {a with bad:=true}
  else if (R p).1.lf=true then {(loopS (walkS R k) (R p).1 deep low high has {a with pages:=a.pages++ [p]} (R p).1.ks.length) with depths:=(loopS (walkS R k) (R p).1 deep low high has {a with pages:=a.pages++ [p]} (R p).1.ks.length).depths++ [(deep:Int)]}
  else loopS (walkS R k) (R p).1 deep low high has {a with pages:=a.pages++ [p]} (R p).1.ks.length
theorem walkS_bad (R:Int->Nd×Bool) (k:Nat) (p:Int) (deep:Nat) (low high:ByteArray) (has:Bool) (a:Al) (h:a.bad=true):walkS R k p deep low high has a=a:=by
 cases a
 simp only at h
 subst h
 cases k with
 | zero=>rfl
 | succ k=>rw [walkS,if_pos (Or.inr (Or.inr rfl))]
def pairsN (n:Nd):List (ByteArray×ByteArray):=(List.range n.vs.length).map fun i=>(n.ks.getD i ⟨#[]⟩,n.vs.getD i ⟨#[]⟩)
def pairsV (l:List Vis):List (ByteArray×ByteArray):=l.flatMap fun v=>pairsN v.nd
def pagesV (l:List Vis):List Int:=l.map Vis.page
def Right (R:Int->Nd×Bool):Prop:=∀p,(R p).2=true->(R p).1.ok=true
theorem loopS_leaf (f:Int->Nat->ByteArray->ByteArray->Bool->Al->Al) (n:Nd) (hl:n.lf=true) (deep:Nat) (low high:ByteArray) (has:Bool) (a:Al):∀i,
  (loopS f n deep low high has a i).bad=a.bad/\(loopS f n deep low high has a i).pages=a.pages/\(loopS f n deep low high has a i).depths=a.depths/\
  (loopS f n deep low high has a i).pairs=a.pairs++(List.range i).map (fun i=>(n.ks.getD i ⟨#[]⟩,n.vs.getD i ⟨#[]⟩))
 | 0=>by simp [loopS]
 | i+1=>by
  obtain ⟨h1,h2,h3,h4⟩:=loopS_leaf f n hl deep low high has a i;rw [loopS,stepS,if_pos hl];refine ⟨h1,h2,h3,?_⟩
  simp only
  rw [h4,List.range_succ,List.map_append,List.append_assoc]
  rfl
theorem both_walk (R:Int->Nd×Bool) (hR:Right R):∀(k:Nat) (p:Int) (way:List (Nd×Nat)) (deep:Nat) (low high:ByteArray) (has:Bool) (a:Al),a.bad=false->
  ((downL R k p way a.pages).2=none->(walkS R k p deep low high has a).bad=true)/\
  (∀s,(downL R k p way a.pages).2=some s->(walkS R k p deep low high has a).bad=false/\(walkS R k p deep low high has a).pages=s/\s=a.pages++pagesV (downL R k p way a.pages).1/\(walkS R k p deep low high has a).pairs=a.pairs++pairsV (downL R k p way a.pages).1)
 | 0,p,way,deep,low,high,has,a,h=>by
  refine ⟨fun _=>rfl,fun s hs=> ?_⟩
  rw [downL] at hs
  cases hs
 | k+1,p,way,deep,low,high,has,a,h=>by
  by_cases hb:(R p).2=false\/p∈a.pages
  ·rw [downL,if_pos hb,walkS,if_pos (by rcases hb with hb | hb;exact Or.inl hb;exact Or.inr (Or.inl hb))]
   exact ⟨fun _=>rfl,fun s hs=>by cases hs⟩
  ·rw [downL,if_neg hb,walkS,if_neg (fun hh=>by rcases hh with hh | hh | hh;exact hb (Or.inl hh);exact hb (Or.inr hh);rw [h] at hh;cases hh)]
   have hok:(R p).1.ok=true:=hR p (by cases hc:(R p).2;exact absurd (Or.inl hc) hb;rfl)
   obtain ⟨n,hn⟩:∃n,n=(R p).1:=⟨_,rfl⟩;rw [<-hn] at hok⊢;obtain ⟨he1,he2⟩:=even_ok hok
   cases hlf:n.lf with
   | true=>
    obtain ⟨e1,e2⟩:=he1 hlf;rw [if_pos rfl,e2,List.length_nil,kidsL]
    obtain ⟨h1,h2,h3,h4⟩:=loopS_leaf (walkS R k) n hlf deep low high has {a with pages:=a.pages++ [p]} n.ks.length
    refine ⟨fun hh=>(by cases hh),fun s hs=> ?_⟩
    injection hs with hs
    refine ⟨h1.trans h,h2.trans hs,?_,?_⟩
    ·rw [<-hs]
     rfl
    ·simp only
     rw [h4,pairsV]
     simp only [List.flatMap_cons,List.flatMap_nil,List.append_nil,pairsN,e1]
   | false=>
    obtain ⟨e1,e2⟩:=he2 hlf
    rw [if_neg (by decide)]
    obtain ⟨b,hbb⟩:∃b:Al,b={a with pages:=a.pages++ [p]}:=⟨_,rfl⟩
    have hb1:b.bad=false:=by rw [hbb];exact h
    have hb2:b.pages=a.pages++ [p]:=by rw [hbb]
    have hb3:b.pairs=a.pairs:=by rw [hbb]
    rw [<-hbb,<-hb2]
    have key:∀i,((kidsL (downL R k) n way b.pages i).2=none->(loopS (walkS R k) n deep low high has b i).bad=true)/\
      (∀s,(kidsL (downL R k) n way b.pages i).2=some s->(loopS (walkS R k) n deep low high has b i).bad=false/\(loopS (walkS R k) n deep low high has b i).pages=s/\s=b.pages++pagesV (kidsL (downL R k) n way b.pages i).1/\(loopS (walkS R k) n deep low high has b i).pairs=b.pairs++pairsV (kidsL (downL R k) n way b.pages i).1):=by
     intro i
     induction i with
     | zero=>
      refine ⟨fun hh=>(by cases hh),fun s hs=> ?_⟩
      injection hs with hs
      refine ⟨hb1,hs,?_,?_⟩
      ·rw [<-hs];simp [kidsL,pagesV]
      ·simp [kidsL,pairsV,loopS]
     | succ i ih=>
      rw [loopS,stepS,if_neg (by rw [hlf];decide)]
      cases hk:(kidsL (downL R k) n way b.pages i).2 with
      | none=>
       rw [kidsL_succ_none hk];have hbad:=ih.1 hk;rw [walkS_bad _ _ _ _ _ _ _ _ hbad]
       exact ⟨fun _=>hbad,fun s hs=>by rw [hk] at hs;cases hs⟩
      | some s0=>
       obtain ⟨i1,i2,i3,i4⟩:=ih.2 s0 hk;rw [kidsL_succ_some hk];have hrec:=both_walk R hR k (n.cs.getD i 0) (way++ [(n,i)]) (deep+1) (leastB n i low) (nextB n i high has) (moreB n i high has) (loopS (walkS R k) n deep low high has b i) i1;rw [i2] at hrec
       refine ⟨hrec.1,fun s hs=> ?_⟩
       obtain ⟨r1,r2,r3,r4⟩:=hrec.2 s hs;refine ⟨r1,r2,?_,?_⟩
       ·refine r3.trans ((congrArg (fun l=>l++pagesV _) i3).trans ?_)
        simp only [pagesV,List.map_append,List.append_assoc]
       ·rw [r4,i4]
        simp only [pairsV,List.flatMap_append,List.append_assoc]
    obtain ⟨k1,k2⟩:=key n.ks.length;rw [e1]
    refine ⟨k1,fun s hs=> ?_⟩
    obtain ⟨r1,r2,r3,r4⟩:=k2 s hs;refine ⟨r1,r2,?_,?_⟩
    ·rw [r3,hb2]
     simp only [pagesV,List.map_cons,List.append_assoc,List.singleton_append]
    ·rw [r4,hb3]
     simp only [pairsV,List.flatMap_cons,pairsN,e2,List.length_nil,List.range_zero,List.map_nil,List.nil_append]
def seenI (R:Int->Nd×Bool) (root:Int):List Vis×Bool:=if root=0 then ([],true) else ((downL R 8 root [] []).1,(downL R 8 root [] []).2.isSome)
def seenS (R:Int->Nd×Bool) (root:Int):Al:=if root=0 then Al.none else walkS R 8 root 0 ⟨#[]⟩ ⟨#[]⟩ false Al.none
def allI (R:Int->Nd×Bool) (root:Int):List (ByteArray×ByteArray)×Bool:=if (seenI R root).2=true then (pairsV (seenI R root).1,true) else ([],false)
def allS (R:Int->Nd×Bool) (root:Int):List (ByteArray×ByteArray)×Bool:=if (seenS R root).bad=true then ([],false) else ((seenS R root).pairs,true)
theorem both_seen (R:Int->Nd×Bool) (hR:Right R) (root:Int):(seenS R root).bad= !(seenI R root).2/\((seenI R root).2=true->(seenS R root).pages=pagesV (seenI R root).1/\(seenS R root).pairs=pairsV (seenI R root).1):=by
 unfold seenS seenI
 by_cases h:root=0
 ·rw [if_pos h,if_pos h]
  exact ⟨rfl,fun _=>⟨rfl,rfl⟩⟩
 ·rw [if_neg h,if_neg h]
  obtain ⟨h1,h2⟩:=both_walk R hR 8 root [] 0 ⟨#[]⟩ ⟨#[]⟩ false Al.none rfl
  simp only [Al.none] at h1 h2⊢
  cases hd:(downL R 8 root [] []).2 with
  | none=>exact ⟨h1 hd,fun hh=>by cases hh⟩
  | some s=>
   obtain ⟨r1,r2,r3,r4⟩:=h2 s hd
   refine ⟨r1,fun _=>⟨?_,?_⟩⟩
   ·rw [r2,r3];rfl
   ·rw [r4];rfl
theorem both_all (R:Int->Nd×Bool) (hR:Right R) (root:Int):allI R root=allS R root:=by
 obtain ⟨h1,h2⟩:=both_seen R hR root;unfold allI allS
 cases hi:(seenI R root).2 with
 | true=>rw [hi] at h1 h2;rw [if_pos rfl,if_neg (by rw [h1];decide),(h2 rfl).2]
 | false=>rw [hi] at h1;rw [if_neg (by decide),if_pos (by rw [h1];rfl)]
def cntK:Nat->Nat
 | 0=>0
 | k+1=>1+4 * cntK k
theorem walkS_len (R:Int->Nd×Bool) (hR:Right R):∀(k:Nat) (p:Int) (deep:Nat) (low high:ByteArray) (has:Bool) (a:Al),
  (walkS R k p deep low high has a).pages.length<=a.pages.length+cntK k/\(walkS R k p deep low high has a).pairs.length<=a.pairs.length+4 * cntK k/\(walkS R k p deep low high has a).depths.length<=a.depths.length+cntK k
 | 0,p,deep,low,high,has,a=>by rw [walkS,cntK];exact ⟨Nat.le_refl _,Nat.le_refl _,Nat.le_refl _⟩
 | k+1,p,deep,low,high,has,a=>by
  rw [walkS,cntK]
  split
  ·exact ⟨Nat.le_add_right _ _,Nat.le_add_right _ _,Nat.le_add_right _ _⟩
  ·rename_i hb
   have hok:(R p).1.ok=true:=hR p (by cases hc:(R p).2;exact absurd (Or.inl hc) hb;rfl)
   obtain ⟨c1,c2,-,-⟩:=cnt_yes (node_yes hok).1;obtain ⟨n,hn⟩:∃n,n=(R p).1:=⟨_,rfl⟩;rw [<-hn] at c1 c2⊢
   cases hlf:n.lf with
   | true=>
    rw [if_pos rfl]
    obtain ⟨h1,h2,h3,h4⟩:=loopS_leaf (walkS R k) n hlf deep low high has {a with pages:=a.pages++ [p]} n.ks.length
    simp only
    rw [h2,h3,h4]
    simp only [List.length_append,List.length_singleton,List.length_map,List.length_range]
    omega
   | false=>
    rw [if_neg (by decide)]
    have key:∀i,(loopS (walkS R k) n deep low high has {a with pages:=a.pages++ [p]} i).pages.length<=a.pages.length+1+i * cntK k/\(loopS (walkS R k) n deep low high has {a with pages:=a.pages++ [p]} i).pairs.length<=a.pairs.length+4 * (i * cntK k)/\(loopS (walkS R k) n deep low high has {a with pages:=a.pages++ [p]} i).depths.length<=a.depths.length+i * cntK k:=by
     intro i
     induction i with
     | zero=>simp [loopS]
     | succ i ih=>
      rw [loopS,stepS,if_neg (by rw [hlf];decide)]
      obtain ⟨r1,r2,r3⟩:=walkS_len R hR k (n.cs.getD i 0) (deep+1) (leastB n i low) (nextB n i high has) (moreB n i high has) (loopS (walkS R k) n deep low high has {a with pages:=a.pages++ [p]} i)
      rw [Nat.succ_mul]
      omega
    obtain ⟨k1,k2,k3⟩:=key n.ks.length;have hm:n.ks.length * cntK k<=4 * cntK k:=Nat.mul_le_mul_right _ c2
    omega
theorem loopS_len (R:Int->Nd×Bool) (hR:Right R) (k:Nat) (n:Nd) (hlf:n.lf=false) (deep:Nat) (low high:ByteArray) (has:Bool) (a:Al):∀i,
  (loopS (walkS R k) n deep low high has a i).pages.length<=a.pages.length+i * cntK k/\(loopS (walkS R k) n deep low high has a i).pairs.length<=a.pairs.length+4 * (i * cntK k)/\(loopS (walkS R k) n deep low high has a i).depths.length<=a.depths.length+i * cntK k
 | 0=>by simp [loopS]
 | i+1=>by
  have ih:=loopS_len R hR k n hlf deep low high has a i
  rw [loopS,stepS,if_neg (by rw [hlf];decide)]
  obtain ⟨r1,r2,r3⟩:=walkS_len R hR k (n.cs.getD i 0) (deep+1) (leastB n i low) (nextB n i high has) (moreB n i high has) (loopS (walkS R k) n deep low high has a i);rw [Nat.succ_mul]
  omega
open Go Go.RowKit
def KeptC (C:Nat->Prop) (W W':World):Prop:=W'.os=W.os/\W'.tape=W.tape/\W'.output=W.output/\W.heap.size<=W'.heap.size/\∀k,k<W.heap.size->¬C k->W'.heap[k]?=W.heap[k]?
theorem keptC_refl (C:Nat->Prop) (W:World):KeptC C W W:=⟨rfl,rfl,rfl,Nat.le_refl _,fun _ _ _=>rfl⟩
theorem keptC_trans {C C':Nat->Prop} {A B D:World} (h:KeptC C A B) (k:KeptC C' B D) (hC:∀j,C' j->C j\/A.heap.size<=j):KeptC C A D:=
 ⟨k.1.trans h.1,k.2.1.trans h.2.1,k.2.2.1.trans h.2.2.1,Nat.le_trans h.2.2.2.1 k.2.2.2.1,fun j hj hn=>(k.2.2.2.2 j (Nat.lt_of_lt_of_le hj h.2.2.2.1) (fun hc=>by rcases hC j hc with h1 | h1;exact hn h1;omega)).trans (h.2.2.2.2 j hj hn)⟩
theorem keptC_mono {C C':Nat->Prop} {A B:World} (h:KeptC C A B) (hC:∀j,j<A.heap.size->C j->C' j):KeptC C' A B:=
 ⟨h.1,h.2.1,h.2.2.1,h.2.2.2.1,fun j hj hn=>h.2.2.2.2 j hj (fun hc=>hn (hC j hj hc))⟩
theorem keptC_below {C:Nat->Prop} {A B:World} {n0:Nat} (h:KeptC C A B) (hC:∀k,C k->n0<=k) (hn:n0<=A.heap.size):Below n0 A B:=
 ⟨h.1,h.2.1,h.2.2.1,h.2.2.2.1,fun k hk=>h.2.2.2.2 k (by omega) (fun hc=>by have:=hC k hc;omega)⟩
theorem keptC_of_below {C:Nat->Prop} {A B:World} (h:Below A.heap.size A B):KeptC C A B:=
 ⟨h.os,h.tape,h.output,h.size,fun k hk _=>h.block k hk⟩
theorem keptC_alloc (C:Nat->Prop) (W:World) (o:Obj):KeptC C W (W.alloc o):=keptC_of_below ((Below.refl _ W).alloc (Nat.le_refl _) _)
theorem keptC_putObj {C:Nat->Prop} (W:World) {l:Nat} (o:Obj) (hl:C l):KeptC C W (W.putObj l o):=
 ⟨rfl,rfl,rfl,by simp,fun k _ hn=>World.putObj_heap_other (fun e=>hn (e▸hl))⟩
theorem keptC_setCell {C:Nat->Prop} (W:World) {b:Nat} (j:Nat) (v:Value) (hl:C b):KeptC C W (W.setCell ⟨b,j,none⟩ v):=
 ⟨rfl,rfl,rfl,(KeepsWalks.setCell W _ v).size,fun k _ hn=>Below.heap_setCell _ _ _ k (fun e=>hn (by rw [e];exact hl))⟩
def sepPost {α:Type} (I:List α->(Nat->Prop)->World->Prop) (Ix:Code->List α->(Nat->Prop)->World->Prop) (xs:List α) (C:Nat->Prop) (W:World):Exit->Act->World->Prop
 | .normal,_,W'=>∃C',KeptC C W W'/\(∀k,C' k->C k\/W.heap.size<=k)/\I xs C' W'
 | .ret,_,W'=>∃C',KeptC C W W'/\(∀k,C' k->C k\/W.heap.size<=k)/\Ix .ret xs C' W'
 | .exit _,_,_=>False
 | .goto _,_,_=>False
 | .panic _,_,_=>False
 | .outgrown,_,_=>False
open Go.RowKit
def prs (l:List (ByteArray×ByteArray)):List Value:=l.flatMap fun p=> [.string p.1,.string p.2]
theorem prs_snoc (l:List (ByteArray×ByteArray)) (k v:ByteArray):prs l++ [.string k,.string v]=prs (l++ [(k,v)]):=by simp [prs]
theorem ints_snoc (l:List Int) (x:Int):ints l++ [.int .i64 x]=ints (l++ [x]):=by simp [ints]
def AlIs (W:World) (ga:Nat) (a:Al) (vp vg vd:Value):Prop:=
 W.heap[ga]?=some (.cells #[vp,vg,vd,.bool a.bad,.bool a.loose] 89 (0,0))/\W.ownsRow (ga+1) 91 2 vp a.pairs.length (prs a.pairs)/\W.ownsRow (ga+1) 3 1 vg a.pages.length (ints a.pages)/\W.ownsRow (ga+1) 3 1 vd a.depths.length (ints a.depths)/\(∀k,vg.ownBlock=some k->vd.ownBlock≠some k)
def AlF (ga:Nat) (vp vg vd:Value) (k:Nat):Prop:=k=ga\/vp.ownBlock=some k\/vg.ownBlock=some k\/vd.ownBlock=some k
theorem al_lt {W:World} {ga:Nat} {a:Al} {vp vg vd:Value} (h:AlIs W ga a vp vg vd):∀k,AlF ga vp vg vd k->ga<=k/\k<W.heap.size:=by
 obtain ⟨h1,h2,h3,h4,-⟩:=h;rintro k (rfl | hk | hk | hk)
 ·exact ⟨Nat.le_refl _,(Array.getElem?_eq_some_iff.1 h1).1⟩
 ·have:=h2.lt k hk;omega
 ·have:=h3.lt k hk;omega
 ·have:=h4.lt k hk;omega
theorem Tryz.pair_int:(91:Nat)≠3:=by decide
theorem al_kept {W W':World} {ga:Nat} {a:Al} {vp vg vd:Value} {S:Nat->Prop} (h:AlIs W ga a vp vg vd) (hk:Kept W W' S) (hS:∀k,AlF ga vp vg vd k->¬S k):AlIs W' ga a vp vg vd:=by
 obtain ⟨h1,h2,h3,h4,h5⟩:=h
 exact ⟨(hk.2.2.2.2 ga (Array.getElem?_eq_some_iff.1 h1).1 (hS ga (Or.inl rfl))).trans h1,own_kept h2 hk (fun k e=>hS k (Or.inr (Or.inl e))),own_kept h3 hk (fun k e=>hS k (Or.inr (Or.inr (Or.inl e)))),own_kept h4 hk (fun k e=>hS k (Or.inr (Or.inr (Or.inr e)))),h5⟩
theorem al_below {W W':World} {ga:Nat} {a:Al} {vp vg vd:Value} (h:AlIs W ga a vp vg vd) (hb:Below W.heap.size W W'):AlIs W' ga a vp vg vd:=al_kept h (kept_of_all hb (fun _=>False)) (fun _ _ h=>h)
theorem al_bad {W:World} {ga:Nat} {a:Al} {vp vg vd:Value} (h:AlIs W ga a vp vg vd) (b:Bool):AlIs (W.setCell ⟨ga,3,none⟩ (.bool b)) ga {a with bad:=b} vp vg vd:=by
 obtain ⟨h1,h2,h3,h4,h5⟩:=h;have hk:=kept_setCell W ga 3 (.bool b)
 refine ⟨heap_setCell_same _ ga 3 _ _ _ h1,own_kept h2 hk (fun k e=> ?_),own_kept h3 hk (fun k e=> ?_),own_kept h4 hk (fun k e=> ?_),h5⟩
 ·have:=(h2.lt k e).1;omega
 ·have:=(h3.lt k e).1;omega
 ·have:=(h4.lt k e).1;omega
theorem al_loose {W:World} {ga:Nat} {a:Al} {vp vg vd:Value} (h:AlIs W ga a vp vg vd) (b:Bool):AlIs (W.setCell ⟨ga,4,none⟩ (.bool b)) ga {a with loose:=b} vp vg vd:=by
 obtain ⟨h1,h2,h3,h4,h5⟩:=h;have hk:=kept_setCell W ga 4 (.bool b)
 refine ⟨heap_setCell_same _ ga 4 _ _ _ h1,own_kept h2 hk (fun k e=> ?_),own_kept h3 hk (fun k e=> ?_),own_kept h4 hk (fun k e=> ?_),h5⟩
 ·have:=(h2.lt k e).1;omega
 ·have:=(h3.lt k e).1;omega
 ·have:=(h4.lt k e).1;omega
theorem kept_app {W w':World} {o:Obj} {v:Value} (hg:(W.alloc o).grownBy w' v.ownBlock):Kept W w' (fun k=>v.ownBlock=some k):=
 ⟨hg.os,hg.tape,hg.output,Nat.le_trans (by simp) hg.size,fun k hk hn=>(hg.block k (by simp;omega) (fun e=>hn e.symm)).trans (heap_alloc_old W o hk)⟩
theorem al_page {W w':World} {ga b cap:Nat} {a:Al} {vp vg vd:Value} {p:Int} {o:Obj} (h:AlIs W ga a vp vg vd) (hown:w'.ownsRow (ga+1) 3 1 (.slice (some ⟨b,0,none⟩) (a.pages.length+1) cap) (a.pages.length+1) (ints a.pages++ [.int .i64 p])) (hg:(W.alloc o).grownBy w' vg.ownBlock) (hb:vg.ownBlock=some b\/b=W.heap.size+1):
  AlIs (w'.setCell ⟨ga,1,none⟩ (.slice (some ⟨b,0,none⟩) (a.pages.length+1) cap)) ga {a with pages:=a.pages++ [p]} vp (.slice (some ⟨b,0,none⟩) (a.pages.length+1) cap) vd/\
  KeptC (AlF ga vp vg vd) W (w'.setCell ⟨ga,1,none⟩ (.slice (some ⟨b,0,none⟩) (a.pages.length+1) cap))/\(∀k,AlF ga vp (.slice (some ⟨b,0,none⟩) (a.pages.length+1) cap) vd k->AlF ga vp vg vd k\/W.heap.size<=k)/\
  w'.cell? ⟨ga,1,none⟩=some vg/\w'.frozen? ⟨ga,1,none⟩=false:=by
 obtain ⟨h1,h2,h3,h4,h5⟩:=h
 have k1:Kept W w' (fun k=>vg.ownBlock=some k):=kept_app hg
 have hga:ga<W.heap.size:=(Array.getElem?_eq_some_iff.1 h1).1
 have g1:=(k1.2.2.2.2 ga hga (fun e=>by have:=(h3.lt ga e).1;omega)).trans h1
 have k2:=kept_setCell w' ga 1 (.slice (some ⟨b,0,none⟩) (a.pages.length+1) cap);have hbe:=hb
 refine ⟨⟨heap_setCell_same _ ga 1 _ _ _ g1,own_kept (own_kept h2 k1 (fun k e=>one_type h2 h3 Tryz.pair_int k e)) k2 (fun k e=>by have:=(h2.lt k e).1;omega),?_,own_kept (own_kept h4 k1 (fun k e e2=>h5 k e2 e)) k2 (fun k e=>by have:=(h4.lt k e).1;omega),fun k e=> ?_⟩,?_,fun k hk=> ?_,(cell_at g1 1).1,(cell_at g1 1).2⟩
 ·have ho:=own_kept hown k2 (fun k e=>by have:=(hown.lt k e).1;omega)
  rw [ints_snoc] at ho;rw [List.length_append,List.length_singleton];exact ho
 ·injection e with e
  have e:b=k:=e;subst e
  rcases hbe with e2 | e2
  ·exact h5 b e2
  ·intro e3
   have:=(h4.lt b e3).2
   omega
 ·refine keptC_trans (C:=AlF ga vp vg vd) (C':=fun k=>k=ga) ⟨k1.1,k1.2.1,k1.2.2.1,k1.2.2.2.1,fun k hk hn=>k1.2.2.2.2 k hk (fun e=>hn (Or.inr (Or.inr (Or.inl e))))⟩ k2 (fun j e=>Or.inl (Or.inl e))
 ·rcases hk with hk | hk | hk | hk
  ·exact Or.inl (Or.inl hk)
  ·exact Or.inl (Or.inr (Or.inl hk))
  ·injection hk with hk
   have hk:b=k:=hk;subst hk
   rcases hbe with e2 | e2
   ·exact Or.inl (Or.inr (Or.inr (Or.inl e2)))
   ·exact Or.inr (by omega)
  ·exact Or.inl (Or.inr (Or.inr (Or.inr hk)))
theorem al_depth {W w':World} {ga b cap:Nat} {a:Al} {vp vg vd:Value} {p:Int} {o:Obj} (h:AlIs W ga a vp vg vd) (hown:w'.ownsRow (ga+1) 3 1 (.slice (some ⟨b,0,none⟩) (a.depths.length+1) cap) (a.depths.length+1) (ints a.depths++ [.int .i64 p])) (hg:(W.alloc o).grownBy w' vd.ownBlock) (hb:vd.ownBlock=some b\/b=W.heap.size+1):
  AlIs (w'.setCell ⟨ga,2,none⟩ (.slice (some ⟨b,0,none⟩) (a.depths.length+1) cap)) ga {a with depths:=a.depths++ [p]} vp vg (.slice (some ⟨b,0,none⟩) (a.depths.length+1) cap)/\
  KeptC (AlF ga vp vg vd) W (w'.setCell ⟨ga,2,none⟩ (.slice (some ⟨b,0,none⟩) (a.depths.length+1) cap))/\(∀k,AlF ga vp vg (.slice (some ⟨b,0,none⟩) (a.depths.length+1) cap) k->AlF ga vp vg vd k\/W.heap.size<=k)/\
  w'.cell? ⟨ga,2,none⟩=some vd/\w'.frozen? ⟨ga,2,none⟩=false:=by
 obtain ⟨h1,h2,h3,h4,h5⟩:=h
 have k1:Kept W w' (fun k=>vd.ownBlock=some k):=kept_app hg
 have hga:ga<W.heap.size:=(Array.getElem?_eq_some_iff.1 h1).1
 have g1:=(k1.2.2.2.2 ga hga (fun e=>by have:=(h4.lt ga e).1;omega)).trans h1
 have k2:=kept_setCell w' ga 2 (.slice (some ⟨b,0,none⟩) (a.depths.length+1) cap);have hbe:=hb
 refine ⟨⟨heap_setCell_same _ ga 2 _ _ _ g1,own_kept (own_kept h2 k1 (fun k e=>one_type h2 h4 Tryz.pair_int k e)) k2 (fun k e=>by have:=(h2.lt k e).1;omega),own_kept (own_kept h3 k1 (fun k e e2=>h5 k e e2)) k2 (fun k e=>by have:=(h3.lt k e).1;omega),?_,fun k e e3=> ?_⟩,?_,fun k hk=> ?_,(cell_at g1 2).1,(cell_at g1 2).2⟩
 ·have ho:=own_kept hown k2 (fun k e=>by have:=(hown.lt k e).1;omega)
  rw [ints_snoc] at ho;rw [List.length_append,List.length_singleton];exact ho
 ·injection e3 with e3
  have e3:b=k:=e3;subst e3
  rcases hbe with e2 | e2
  ·exact h5 b e e2
  ·have:=(h3.lt b e).2
   omega
 ·refine keptC_trans (C:=AlF ga vp vg vd) (C':=fun k=>k=ga) ⟨k1.1,k1.2.1,k1.2.2.1,k1.2.2.2.1,fun k hk hn=>k1.2.2.2.2 k hk (fun e=>hn (Or.inr (Or.inr (Or.inr e))))⟩ k2 (fun j e=>Or.inl (Or.inl e))
 ·rcases hk with hk | hk | hk | hk
  ·exact Or.inl (Or.inl hk)
  ·exact Or.inl (Or.inr (Or.inl hk))
  ·exact Or.inl (Or.inr (Or.inr (Or.inl hk)))
  ·injection hk with hk
   have hk:b=k:=hk;subst hk
   rcases hbe with e2 | e2
   ·exact Or.inl (Or.inr (Or.inr (Or.inr e2)))
   ·exact Or.inr (by omega)
theorem al_pair {W w':World} {ga b cap:Nat} {a:Al} {vp vg vd:Value} {x y:ByteArray} {o:Obj} (h:AlIs W ga a vp vg vd) (hown:w'.ownsRow (ga+1) 91 2 (.slice (some ⟨b,0,none⟩) (a.pairs.length+1) cap) (a.pairs.length+1) (prs a.pairs++ [.string x,.string y])) (hg:(W.alloc o).grownBy w' vp.ownBlock) (hb:vp.ownBlock=some b\/b=W.heap.size+1):
  AlIs (w'.setCell ⟨ga,0,none⟩ (.slice (some ⟨b,0,none⟩) (a.pairs.length+1) cap)) ga {a with pairs:=a.pairs++ [(x,y)]} (.slice (some ⟨b,0,none⟩) (a.pairs.length+1) cap) vg vd/\
  KeptC (AlF ga vp vg vd) W (w'.setCell ⟨ga,0,none⟩ (.slice (some ⟨b,0,none⟩) (a.pairs.length+1) cap))/\(∀k,AlF ga (.slice (some ⟨b,0,none⟩) (a.pairs.length+1) cap) vg vd k->AlF ga vp vg vd k\/W.heap.size<=k)/\
  w'.cell? ⟨ga,0,none⟩=some vp/\w'.frozen? ⟨ga,0,none⟩=false:=by
 obtain ⟨h1,h2,h3,h4,h5⟩:=h
 have k1:Kept W w' (fun k=>vp.ownBlock=some k):=kept_app hg
 have hga:ga<W.heap.size:=(Array.getElem?_eq_some_iff.1 h1).1
 have g1:=(k1.2.2.2.2 ga hga (fun e=>by have:=(h2.lt ga e).1;omega)).trans h1
 have k2:=kept_setCell w' ga 0 (.slice (some ⟨b,0,none⟩) (a.pairs.length+1) cap);have hbe:=hb
 refine ⟨⟨heap_setCell_same _ ga 0 _ _ _ g1,?_,own_kept (own_kept h3 k1 (fun k e=>one_type h3 h2 (Ne.symm Tryz.pair_int) k e)) k2 (fun k e=>by have:=(h3.lt k e).1;omega),own_kept (own_kept h4 k1 (fun k e=>one_type h4 h2 (Ne.symm Tryz.pair_int) k e)) k2 (fun k e=>by have:=(h4.lt k e).1;omega),h5⟩,?_,fun k hk=> ?_,(cell_at g1 0).1,(cell_at g1 0).2⟩
 ·have ho:=own_kept hown k2 (fun k e=>by have:=(hown.lt k e).1;omega)
  rw [prs_snoc] at ho;rw [List.length_append,List.length_singleton];exact ho
 ·refine keptC_trans (C:=AlF ga vp vg vd) (C':=fun k=>k=ga) ⟨k1.1,k1.2.1,k1.2.2.1,k1.2.2.2.1,fun k hk hn=>k1.2.2.2.2 k hk (fun e=>hn (Or.inr (Or.inl e)))⟩ k2 (fun j e=>Or.inl (Or.inl e))
 ·rcases hk with hk | hk | hk | hk
  ·exact Or.inl (Or.inl hk)
  ·injection hk with hk
   have hk:b=k:=hk;subst hk
   rcases hbe with e2 | e2
   ·exact Or.inl (Or.inr (Or.inl e2))
   ·exact Or.inr (by omega)
  ·exact Or.inl (Or.inr (Or.inr (Or.inl hk)))
  ·exact Or.inl (Or.inr (Or.inr (Or.inr hk)))
end Go.Proofs.YtjmgdmdleamenaaGreatDoor
