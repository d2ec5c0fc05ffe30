/-
  Facts and contracts that the law's own text rests on, by their texts' names: DownGo, HalvesSeq, HalvesOf.
-/
import Derived.ArgAppend
import Derived.ControlIn
import Derived.Test.YtcbogiebfbbmbaaGreatDoorPm29
import Derived.Test.YtcbogiebfbbmbaaGreatDoorPm21
import Derived.Test.YtcbogiebfbbmbaaGreatDoorPm7
import Derived.Test.YtcbogiebfbbmbaaGreatDoorPm30
set_option maxHeartbeats 16000000
set_option maxRecDepth 100000
namespace Go.Proofs.YtcbogiebfbbmbaaGreatDoor
open Go.RowKit Go.Shelf
attribute [local go_sem] Oper.semAt_some
theorem zl5 (ps:List ByteArray) (ls:List (Int×ByteArray)):Right (fun q=>rdN (readD ps ls q)):=fun p h=>by
 have:rdN (readD ps ls p)=((rdN (readD ps ls p)).1,true):=by rw [<-h]
 exact zh1 this
open Go.RowKit Go.Shelf
attribute [local go_sem] Oper.semAt_some
abbrev HPt:=Part×Value
def LiesP (w:World) (lf:Bool) (x:HPt) (C:Nat->Prop) (W:World):Prop:=Below w.heap.size w W/\(∀k,C k->w.heap.size<=k)/\NodeAt w x.2 lf x.1.1 x.1.2.1 x.1.2.2
theorem zl6 {w:World} {lf:Bool} {x:HPt} {C C':Nat->Prop} {A B:World} (h:LiesP w lf x C A) (hk:KeptC C A B) (hC:∀k,C' k->C k\/A.heap.size<=k):LiesP w lf x C' B:=
 ⟨h.1.trans (zaG hk h.2.1 h.1.size),fun k hk'=>by
  rcases hC k hk' with h1 | h1
  ·exact h.2.1 k h1
  ·exact Nat.le_trans h.1.size h1,h.2.2⟩
theorem yesno {e:Ending} {A B:Prop} (h:(e= .returned (.bool true)/\A)\/(e= .returned (.bool false)/\B)):∃b,e= .returned (.bool b)/\((b=true/\A)\/(b=false/\B)):=by
 rcases h with ⟨h1,h2⟩ | ⟨h1,h2⟩
 ·exact ⟨true,h1,Or.inl ⟨rfl,h2⟩⟩
 ·exact ⟨false,h1,Or.inr ⟨rfl,h2⟩⟩
theorem zl7 {w Wc:World} (n:Nat) (lf:Bool) (ks vs:List ByteArray) (cs:List Int) (ak av ac:Option Addr) (ck cv cc:Nat) (hck:ks.length<=ck) (hcv:vs.length<=cv) (hcc:cs.length<=cc) (hv:lf=true->vs.length=ks.length) (hc:lf=false->cs.length=ks.length) (h0:0<ks.length) (hsm:ks.length<=1000) (g gs gc:Nat)
  (hn:NodeAt w (.agg #[.bool lf,.slice ak ks.length ck,.slice av vs.length cv,.slice ac cs.length cc]) lf ks vs cs) (hlow:Below w.heap.size w Wc)
  (hg:Wc.heap[g]?=some (.cells #[.bool lf,.slice ak ks.length ck,.slice av vs.length cv,.slice ac cs.length cc] 71 (0,0)))
  (hgs:Wc.heap[gs]?=some (.cells #[.int .i64 (ks.length:Int)] 3 (0,0)))
  (hgc:Wc.heap[gc]?=some (.cells #[.func (.func 112) #[] #[.pointer (some ⟨g,0,none⟩)]] 161 (0,0))):
  SeqSep2 Fence.wide n Tryz.prog 113 #[.pointer (some ⟨gs,0,none⟩),.pointer (some ⟨gc,0,none⟩)] (fun x:HPt=> #[x.2]) (LiesP w lf) (fun k=>k=gs\/k=gc\/k=g) w.heap.size
   (fun xs=>xs.map Prod.fst=halfParts lf ks (cutV lf vs 0 ks.length) (cutC lf cs 0 ks.length)) (fun pre=>∃t,pre.map Prod.fst++t=halfParts lf ks (cutV lf vs 0 ks.length) (cutC lf cs 0 ks.length)) Wc:=by
 intro l J Jx C0 W hW hC0 hJ hJn hY hj0;obtain ⟨PP,hPP⟩:∃PP,PP=halfParts lf ks (cutV lf vs 0 ks.length) (cutC lf cs 0 ks.length):=⟨_,rfl⟩;rw [<-hPP];have HJ:=hide hJ;have HJn:=hide hJn;have HY:=hide hY;have HJ0:=hide hj0;have HC0:=hide hC0;have HW:=hide (hlow.trans (hW.mono hlow.size))
 have HCut:=hide (fun f t h1 h2 wx hx=>cut_any lf ks vs cs ak av ac ck cv cc hck hcv hcc hv hc f t h1 h2 g w wx hn hx)
 have s1:=(za0 (stays hgs hW) 0).1;have s2:=(za0 (stays hgc hW) 0).1;have HG:=hide (stays hg hW);have HGs:=hide (stays hgs hW);have HGc:=hide (stays hgc hW);have HPP:=hide hPP;obtain ⟨lk,hlk⟩:∃m,m=ks.length:=⟨_,rfl⟩;have HLk:=hide hlk;rw [<-hlk] at s1 h0 hsm;clear hJ hJn hY hj0 hC0 hg hgs hgc hn hck hcv hcc hv hc hPP hW hlow hlk;refine callsIn_wide.2 ?_;refine (callsIn_wide (n:=0)).1 ?_
 by_cases h4:(lk:Int)<=4
 ·have HPe:Hid (PP= [(ks,cutV lf vs 0 ks.length,cutC lf cs 0 ks.length)]):=hide (by rw [HPP.out,halfParts,if_neg (by rw [<-HLk.out];omega)])
  refine callsIn_of_wp Tryz.func113 rfl trivial ?_
  simp only [Tryz.ntmps113,List.size_toArray,List.length_cons,List.length_nil,Nat.reduceAdd,Nat.reduceSub,Array.replicate_succ,Array.replicate_zero,List.push_toArray,List.append_toArray,List.nil_append,List.cons_append]
  gi_wp2_with (first
   | (refine ⟨trivial,rfl,?_⟩;refine (callsIn_wide.2 (HCut.out 0 lk h0 (Nat.le_of_eq HLk.out) W HG.out)).mono ?_;rintro e w1 ⟨v1,rfl,hn1,hb1⟩;have HB1:=hide hb1;obtain ⟨fn,tmps,assign,body,hy,hR⟩:=HY.out [] ((ks,cutV lf vs 0 lk,cutC lf cs 0 lk),v1) C0 w1 0 ⟨[],by rw [<-HPP.out,HPe.out,<-HLk.out];rfl⟩ (HJ.out _ _ _ _ HJ0.out (zaq hb1)) ⟨HW.out.trans (hb1.mono HW.out.size),fun k hk=>(HJn.out _ _ _ HJ0.out k hk).1,by rw [show ks=(ks.drop 0).take (lk - 0) from by rw [HLk.out];simp];exact hn1⟩;dsimp only at hy;have HR:=hide hR;clear hn1 hb1 s1 s2 hR)
   | (refine ⟨rfl,?_⟩;refine HR.out.mono ?_;clear HR;rintro e w2 ⟨C2,hk2,hc2,hor⟩;obtain ⟨b,rfl,hyn⟩:=yesno hor;have HK2:=hide hk2;have HO2:=hide hyn;clear hk2 hor hyn hc2)
   | fail)
  first | go_ret | go_ret2 | go_end0
  exact ⟨⟨_,rfl⟩,(HB1.out.mono HW.out.size).trans (zaG HK2.out (fun k hk=>(HJn.out _ _ _ HJ0.out k hk).1) (Nat.le_trans HW.out.size HB1.out.size)),HO2.out.elim (fun h=>Or.inl ⟨_,C2,by rw [HPe.out,<-HLk.out];rfl,h.2⟩) (fun h=>Or.inr ⟨_,C2,⟨[],by rw [HPe.out,<-HLk.out];rfl⟩,h.2⟩)⟩
 ·have HPe:Hid (PP= [(ks.take 3,cutV lf vs 0 3,cutC lf cs 0 3),(ks.drop 3,cutV lf vs 3 lk,cutC lf cs 3 lk)]):=hide (by
   rw [HPP.out,halfParts,if_pos (by rw [<-HLk.out];omega)]
   unfold cutV cutC;rw [<-HLk.out]
   cases lf <;> simp [List.take_take,List.drop_take] <;> omega)
  refine callsIn_of_wp Tryz.func113 rfl trivial ?_
  simp only [Tryz.ntmps113,List.size_toArray,List.length_cons,List.length_nil,Nat.reduceAdd,Nat.reduceSub,Array.replicate_succ,Array.replicate_zero,List.push_toArray,List.append_toArray,List.nil_append,List.cons_append]
  gi_wp2_with (first
   | (have _:=s1;refine ⟨trivial,rfl,?_⟩;refine (callsIn_wide.2 (HCut.out 0 3 (by decide) (by rw [<-HLk.out];omega) W HG.out)).mono ?_;rintro e w1 ⟨v1,rfl,hn1,hb1⟩;have HB1:=hide hb1;obtain ⟨fn,tmps,assign,body,hy,hR⟩:=HY.out [] ((ks.take 3,cutV lf vs 0 3,cutC lf cs 0 3),v1) C0 w1 0 ⟨[(ks.drop 3,cutV lf vs 3 lk,cutC lf cs 3 lk)],by rw [<-HPP.out,HPe.out];rfl⟩ (HJ.out _ _ _ _ HJ0.out (zaq hb1)) ⟨HW.out.trans (hb1.mono HW.out.size),fun k hk=>(HJn.out _ _ _ HJ0.out k hk).1,hn1⟩;dsimp only at hy;have HR:=hide hR;clear hn1 hb1 s1 s2 hR)
   | (have _:=HR;refine ⟨rfl,?_⟩;refine HR.out.mono ?_;clear HR;rintro e w2 ⟨C2,hk2,hc2,hor⟩;obtain ⟨b,rfl,hyn⟩:=yesno hor;have HK2:=hide hk2;have HC2:=hide hc2;have HO2:=hide hyn;have gs2:=(hk2.2.2.2.2 _ (Array.getElem?_eq_some_iff.1 (stays HGs.out HB1.out)).1 (fun h=>HC0.out _ h (Or.inl rfl))).trans (stays HGs.out HB1.out);have gc2:=(hk2.2.2.2.2 _ (Array.getElem?_eq_some_iff.1 (stays HGc.out HB1.out)).1 (fun h=>HC0.out _ h (Or.inr (Or.inl rfl)))).trans (stays HGc.out HB1.out);have HG2:=hide ((hk2.2.2.2.2 _ (Array.getElem?_eq_some_iff.1 (stays HG.out HB1.out)).1 (fun h=>HC0.out _ h (Or.inr (Or.inr rfl)))).trans (stays HG.out HB1.out));rw [<-HLk.out] at gs2;have t1:=(za0 gs2 0).1;have t2:=(za0 gc2 0).1;have HLow2:Hid (Below w.heap.size w w2):=hide ((HW.out.trans (HB1.out.mono HW.out.size)).trans (zaG hk2 (fun k hk=>(HJn.out _ _ _ HJ0.out k hk).1) (Nat.le_trans HW.out.size HB1.out.size)));have HLw2:Hid (Below w.heap.size W w2):=hide ((HB1.out.mono HW.out.size).trans (zaG hk2 (fun k hk=>(HJn.out _ _ _ HJ0.out k hk).1) (Nat.le_trans HW.out.size HB1.out.size)));clear hk2 hor hyn hc2 gs2 gc2)
   | (have _:=t1;have hbt:b=true:=‹b=true›;obtain ⟨-,hJ2⟩:=HO2.out.resolve_right (fun h=>by rw [h.1] at hbt;cases hbt);refine ⟨trivial,rfl,?_⟩;refine (callsIn_wide.2 (HCut.out 3 lk (by omega) (Nat.le_of_eq HLk.out) w2 HG2.out)).mono ?_;rintro e w3 ⟨v3,rfl,hn3,hb3⟩;have HB3:=hide hb3;obtain ⟨fn3,tmps3,assign3,body3,hy3,hR3⟩:=HY.out _ ((ks.drop 3,cutV lf vs 3 lk,cutC lf cs 3 lk),v3) C2 w3 0 ⟨[],by rw [<-HPP.out,HPe.out];rfl⟩ (HJ.out _ _ _ _ hJ2 (zaq hb3)) ⟨HLow2.out.trans (hb3.mono HLow2.out.size),fun k hk=>(HJn.out _ _ _ hJ2 k hk).1,by rw [show ks.drop 3=(ks.drop 3).take (lk - 3) from by rw [HLk.out,<-List.length_drop,List.take_length]];exact hn3⟩;dsimp only at hy3;have HR3:=hide hR3;have HJ2:=hide hJ2;clear hn3 hb3 t1 t2 hR3 hJ2)
   | (have _:=HR3;refine ⟨rfl,?_⟩;refine HR3.out.mono ?_;clear HR3;rintro e w4 ⟨C4,hk4,hc4,hor4⟩;obtain ⟨b4,rfl,hyn4⟩:=yesno hor4;have HK4:=hide hk4;have HO4:=hide hyn4;clear hk4 hor4 hyn4 hc4)
   | fail)
  ·first | go_ret | go_ret2 | go_end0
   exact ⟨⟨_,rfl⟩,(HLw2.out.trans (HB3.out.mono HLow2.out.size)).trans (zaG HK4.out (fun k hk=>(HJn.out _ _ _ HJ2.out k hk).1) (Nat.le_trans HLow2.out.size HB3.out.size)),HO4.out.elim (fun h=>Or.inl ⟨_,C4,by rw [HPe.out];rfl,h.2⟩) (fun h=>Or.inr ⟨_,C4,⟨[],by rw [HPe.out];rfl⟩,h.2⟩)⟩
  ·first | go_ret | go_ret2 | go_end0
   have hbf:b=false:=‹b=false›
   exact ⟨⟨_,rfl⟩,HLw2.out,Or.inr ⟨_,C2,⟨[(ks.drop 3,cutV lf vs 3 lk,cutC lf cs 3 lk)],by rw [HPe.out];rfl⟩,(HO2.out.resolve_left (fun h=>by rw [h.1] at hbf;cases hbf)).2⟩⟩
open Go.RowKit Go.Shelf
attribute [local go_sem] Oper.semAt_some
theorem zal (W:World) (o:Obj) (k:Nat):(W.alloc o).heap[k]?=if k=W.heap.size then some o else W.heap[k]?:=by
 by_cases h:k=W.heap.size
 ·rw [if_pos h,h];exact World.alloc_heap_new W o
 ·rw [if_neg h]
  by_cases h2:k<W.heap.size
  ·exact Below.heap_alloc _ _ _ h2
  ·have h3:(W.alloc o).heap.size<=k:=by rw [World.size_alloc];omega
   rw [Array.getElem?_eq_none h3,Array.getElem?_eq_none (by omega)]
theorem ziN (lf:Bool) (ak av ac:Option Addr) (lk lv lc ck cv cc:Nat) (w:World):
  Calls Tryz.prog 84 #[.agg #[.bool lf,.slice ak lk ck,.slice av lv cv,.slice ac lc cc]] w fun e w'=>e= .returned (.func (.func 113) #[] #[.pointer (some ⟨w.heap.size+1,0,none⟩),.pointer (some ⟨w.heap.size+2,0,none⟩)])/\
   Below w.heap.size w w'/\w'.heap.size=w.heap.size+3/\w'.heap[w.heap.size]?=some (.cells #[.bool lf,.slice ak lk ck,.slice av lv cv,.slice ac lc cc] 71 (0,0))/\w'.heap[w.heap.size+1]?=some (.cells #[.int .i64 (lk:Int)] 3 (0,0))/\
   w'.heap[w.heap.size+2]?=some (.cells #[.func (.func 112) #[] #[.pointer (some ⟨w.heap.size,0,none⟩)]] 161 (0,0)):=by
 have hmf:∀(fn:Fn) (first cap:Array Value) (w:World),(Instr.makeFunc fn first cap).run Tryz.prog w= .ok (.func fn first cap) w:=fun _ _ _ _=>rfl
 go_enter Tryz.func84,Tryz.ntmps84;go_wp2_with fail;go_ret
 refine ⟨rfl,(((Below.refl _ _).alloc (Nat.le_refl _) _).alloc (by simp) _).alloc (by simp;omega) _,by simp,?_,?_,?_⟩ <;> simp only [zal,World.size_alloc] <;> simp <;> omega
end Go.Proofs.YtcbogiebfbbmbaaGreatDoor
