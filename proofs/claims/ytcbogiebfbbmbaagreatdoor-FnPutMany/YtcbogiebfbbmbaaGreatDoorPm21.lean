/-
  Facts and contracts that the law's own text rests on, by their texts' names: SpecRead, NodeLawRead, GetSpec.
-/
import Derived.Test.YtcbogiebfbbmbaaGreatDoorPm20
import Derived.Test.YtcbogiebfbbmbaaGreatDoorPm19
import Derived.Test.YtcbogiebfbbmbaaGreatDoorPm18
import Derived.Test.YtcbogiebfbbmbaaGreatDoorPm1
import Derived.Test.YtcbogiebfbbmbaaGreatDoorPm6
import Derived.Test.YtcbogiebfbbmbaaGreatDoorPm9
set_option maxHeartbeats 16000000
set_option maxRecDepth 100000
namespace Go.Proofs.YtcbogiebfbbmbaaGreatDoor
open Go.RowKit
theorem zep (t:ByteArray) (ht:t.size<=1048576) (hn:∀m,¬IsNd t m) (hs:isSealed t.data.toList=false\/(isSealed t.data.toList=true/\(t.extract 0 (t.size - 4)).size<2)) (w:World):
  Calls Tryz.prog 65 #[.string t] w fun e w'=>RsPost w t e w':=by
 obtain ⟨wa,hwa⟩:∃wa,wa=w.alloc (Obj.cells #[.bool false,.slice none 0 0,.slice none 0 0,.slice none 0 0] 71):=⟨_,rfl⟩
 have HBa:Hid (Below w.heap.size w wa):=hide (by rw [hwa];exact (Below.refl _ _).alloc (Nat.le_refl _) _)
 have HVa:Hid (wa.heap[w.heap.size]?=some (.cells #[.bool false,.slice none 0 0,.slice none 0 0,.slice none 0 0] 71 (0,0))):=hide (by rw [hwa];exact heap_alloc_new w _)
 have HU:=hide (zbT t ht);have HNo:=hide hn
 obtain ⟨s,ok,hU,hcase⟩:∃(s:ByteArray) (ok:Bool),unOut t= .tuple #[.string s,.bool ok]/\(ok=false\/(ok=true/\s.size<2)):=by
  rcases hs with h | ⟨h,h2⟩
  ·exact ⟨⟨#[]⟩,false,by rw [unOut,if_neg (by rw [h];decide)],Or.inl rfl⟩
  ·exact ⟨_,true,by rw [unOut,if_pos h],Or.inr ⟨rfl,h2⟩⟩
 rw [hU] at HU;clear hs hn hU
 rcases hcase with rfl | ⟨rfl,h2⟩
 all_goals
  try have d2:decide ((s.size:Int)<2)=true:=decide_eq_true (by omega)
  go_enter Tryz.func65,Tryz.ntmps65;go_wp2_with fail;rw [<-hwa];clear hwa;refine (HU.out _).mono ?_;rintro e w1 ⟨rfl,hb1⟩;have hv:=(hb1.block _ (Array.getElem?_eq_some_iff.1 HVa.out).1).trans HVa.out;have HB1:Hid (Below w.heap.size w w1):=hide (HBa.out.trans (hb1.mono HBa.out.size));have o0:w1.cell? ⟨w.heap.size,0,none⟩=some (.bool false):=(za0 hv 0).1;have o1:w1.cell? ⟨w.heap.size,1,none⟩=some (.slice none 0 0):=(za0 hv 1).1;have o2:w1.cell? ⟨w.heap.size,2,none⟩=some (.slice none 0 0):=(za0 hv 2).1;have o3:w1.cell? ⟨w.heap.size,3,none⟩=some (.slice none 0 0):=(za0 hv 3).1;have z0:=(za0 hv 0).2;have z1:=(za0 hv 1).2;have z2:=(za0 hv 2).2;have z3:=(za0 hv 3).2;have HRz:=hide (zaW hv (zbc w1 (w.heap.size+1)) (Nat.lt_succ_self _));clear hb1 hv;go_wp2_with fail;have t0:=(za0 HRz.out.1 0).1;have t1:=(za0 HRz.out.1 1).1;have t2:=(za0 HRz.out.1 2).1;have t3:=(za0 HRz.out.1 3).1
  exact bodyPost_ret (v:= .tuple #[.agg #[.bool false,.slice none 0 0,.slice none 0 0,.slice none 0 0],.bool false]) (by simp [results,Tryz.results65,go_sem,t0,t1,t2,t3]) rfl ⟨Nd.none,_,false,rfl,Or.inr ⟨rfl,rfl,HNo.out⟩,zbc _ _,HB1.out.trans HRz.out.2.2⟩
theorem zbU (t:ByteArray) (ht:t.size<=1048576) (w:World):
  Calls Tryz.prog 65 #[.string t] w fun e w'=>RsPost w t e w':=by
 cases hsl:isSealed t.data.toList with
 | false=>exact zep t ht (zcK hsl) (Or.inl hsl) w
 | true=>
  by_cases h2:(t.extract 0 (t.size - 4)).size<2
  ·exact zep t ht (fun m hm=>by have:=(zcw ((zbB hsl m).1 hm)).1;omega) (Or.inr ⟨hsl,h2⟩) w
  ·by_cases hy:byt (t.extract 0 (t.size - 4)) 0=108
   ·exact zhI t _ ht hsl rfl (by omega) (decide_eq_true hy).symm w
   ·exact zgE t _ ht hsl rfl (by omega) (decide_eq_false hy).symm w
open Go.RowKit
theorem ziy {t:ByteArray} {n:Nd} {ok:Bool} (h:ReadN t n ok):n.ks.length<=4/\n.vs.length<=4/\n.cs.length<=4:=by
 rcases h with ⟨-,h,-⟩ | ⟨-,rfl,-⟩
 ·obtain ⟨h1,h2,h3,h4⟩:=zaP (zan h.1).1
  cases hl:n.lf with
  | true=>have:=h3 hl;omega
  | false=>have:=h4 hl;omega
 ·simp [Nd.none]
theorem zbv {w:World} {B:Nat} {v:Value} {lf:Bool} {ks vs:List ByteArray} {cs:List Int} (h:NodeOwn w B v lf ks vs cs):∃a1 c1 a2 c2 a3 c3,v= .agg #[.bool lf,.slice a1 ks.length c1,.slice a2 vs.length c2,.slice a3 cs.length c3]:=by
 obtain ⟨v1,v2,v3,rfl,h1,h2,h3,-⟩:=h;obtain ⟨a1,c1,rfl⟩:=za4 h1;obtain ⟨a2,c2,rfl⟩:=za4 h2;obtain ⟨a3,c3,rfl⟩:=za4 h3;exact ⟨a1,c1,a2,c2,a3,c3,rfl⟩
theorem stays {w w':World} {a:Nat} {o:Obj} (h:w.heap[a]?=some o) (hb:Below w.heap.size w w'):w'.heap[a]?=some o:=(hb.block _ (Array.getElem?_eq_some_iff.1 h).1).trans h
open Go.RowKit
theorem zbP {ps:List ByteArray} {ls:List (Int×ByteArray)} {M:Nat} (hps:∀s∈ps,s.size<=M) (hls:∀p∈ls,p.2.size<=M) (page:Int):(readD ps ls page).size<=M:=by
 have hlate:∀k t,lateAt ls page k=some t->t.size<=M:=fun k=>by
  induction k with
  | zero=>intro t h;simp [lateAt] at h
  | succ k ih=>
   intro t h;rw [lateAt] at h
   split at h
   ·next p hp=>
    split at h
    ·injection h with h
     rw [<-h];exact hls p (List.mem_of_getElem? hp)
    ·exact ih t h
   ·exact ih t h
 unfold readD
 split
 ·split
  ·next t h=>exact hlate _ _ h
  ·rw [List.getD_eq_getElem?_getD]
   cases h:ps[page.toNat]? with
   | none=>exact Nat.zero_le _
   | some x=>exact hps x (List.mem_of_getElem? h)
 ·exact Nat.zero_le _
theorem zco {w:World} {B n c:Nat} {a:Option Addr} {l:List ByteArray} (h:w.ownsRow B 9 1 (.slice a n c) n (strs l)) {i:Nat} (hi:i<l.length) (hn:n=l.length):∃g,a=some ⟨g,0,none⟩/\w.cell? ⟨g,i,none⟩=some (.string (l.getD i ⟨#[]⟩)):=by
 rcases h.2 with ⟨-,h0⟩ | ⟨g,c',cur,e,-⟩
 ·omega
 ·injection e with e1 _ e2
  subst e1 e2;refine ⟨g,rfl,?_⟩
  rw [h.cellAt i (by omega),zaU l i hi]
  simp [List.getD,hi]
theorem zft {w:World} {B n c:Nat} {a:Option Addr} {l:List Int} (h:w.ownsRow B 3 1 (.slice a n c) n (ints l)) {i:Nat} (hi:i<l.length) (hn:n=l.length):∃g,a=some ⟨g,0,none⟩/\w.cell? ⟨g,i,none⟩=some (.int .i64 (l.getD i 0)):=by
 rcases h.2 with ⟨-,h0⟩ | ⟨g,c',cur,e,-⟩
 ·omega
 ·injection e with e1 _ e2
  subst e1 e2;refine ⟨g,rfl,?_⟩
  rw [h.cellAt i (by omega),ints,List.getElem?_map,List.getElem?_eq_getElem hi]
  simp [List.getD,hi]
end Go.Proofs.YtcbogiebfbbmbaaGreatDoor
