/-
  Facts and contracts that the law's own text rests on, by their texts' names: SpecModel.
-/
import Derived.Laws.Cover1
import Derived.Test.YtcbogiebfbbmbaaGreatDoorDa19
set_option maxHeartbeats 16000000
set_option maxRecDepth 100000
namespace Go.Proofs.YtcbogiebfbbmbaaGreatDoor
open Go.RowKit
def prq (l:List (ByteArray×ByteArray)):List Value:=l.flatMap fun p=> [.string p.1,.string p.2]
theorem zg0 (p:ByteArray×ByteArray) (l:List (ByteArray×ByteArray)):prq (p :: l)=Value.string p.1 :: .string p.2 :: prq l:=rfl
theorem prq_at (l:List (ByteArray×ByteArray)):∀k (h:k<l.length),(prq l)[k * 2]?=some (.string l[k].1)/\(prq l)[k * 2+1]?=some (.string l[k].2):=by
 induction l with
 | nil=>intro k h;simp at h
 | cons p l ih=>
  intro k h
  cases k with
  | zero=>exact ⟨rfl,rfl⟩
  | succ k=>
   have:=ih k (by simpa using h)
   have e:(k+1) * 2=k * 2+1+1:=by omega
   rw [e,zg0];exact this
def modelP (l:List (ByteArray×ByteArray)) (key val:ByteArray):List (ByteArray×ByteArray):=l.filter (fun p=>Op.bytesLess p.1.toList key.toList)++ [(key,val)]++l.filter (fun p=> !Op.bytesLess p.1.toList key.toList && !p.1.toList ==key.toList)
def modelD (l:List (ByteArray×ByteArray)) (key:ByteArray):List (ByteArray×ByteArray):=l.filter (fun p=> !(p.1.toList ==key.toList))
theorem prq_app (l m:List (ByteArray×ByteArray)):prq (l++m)=prq l++prq m:=by
 induction l with
 | nil=>rfl
 | cons p l ih=>rw [List.cons_append,zg0,zg0,ih];rfl
theorem zmg:∀(l:List (ByteArray×ByteArray)),∀y∈prq l,y.oneCell'=true
 | [],y,h=>by cases h
 | p :: l,y,h=>by
  rw [zg0] at h
  rcases List.mem_cons.1 h with rfl | h
  ·rfl
  ·rcases List.mem_cons.1 h with rfl | h
   ·rfl
   ·exact zmg l y h
theorem zdQ {α:Type} (l:List α) (k:Nat) (x:α) (h:l[k]?=some x):l.take (k+1)=l.take k++ [x]:=by rw [List.take_add_one,h];rfl
theorem zmh {α:Type} {zs:List α} {k:Nat} {z:α} (hz:zs[k]?=some z) {p:α->Bool} (hp:p z=true):(zs.take (k+1)).filter p=(zs.take k).filter p++ [z]:=by
 rw [zdQ zs k z hz,List.filter_append]
 simp [hp]
theorem tf_no {α:Type} {zs:List α} {k:Nat} {z:α} (hz:zs[k]?=some z) {p:α->Bool} (hp:p z=false):(zs.take (k+1)).filter p=(zs.take k).filter p:=by
 rw [zdQ zs k z hz,List.filter_append]
 simp [hp]
theorem zg1 {B:Nat} {W:World} {g e:Nat} {l:List Ast} (h:Sep B W (cellA g (Obj.cells #[] e) :: l)):Sep B W (rowA B e 2 (.slice (some ⟨g,0,none⟩) 0 0) 0 [] :: l):=by
 obtain ⟨⟨h1,h2⟩,h3,h4⟩:=zaY.1 h
 refine zaY.2 ⟨⟨⟨rfl,Or.inr ⟨g,0,#[],rfl,(h2 g rfl).1,h1,Nat.le_refl _,Nat.zero_le _,rfl,rfl⟩⟩,fun k hk=> ?_⟩,fun A' hA' k hk=> ?_,h4⟩
 ·injection hk with hk
  exact h2 k hk.symm
 ·injection hk with hk
  exact h3 A' hA' k hk.symm
theorem Tryz.infoPairM:(Tryz.prog.info? 41).map (fun i=>(i.zero,i.size,i.bytes))=some (some (.agg #[.string ⟨#[]⟩,.string ⟨#[]⟩]),2,32):=by kernel_rfl
theorem zdR {ops:Array Oper} {rest:List Oper} {o:Oper} {a:Act} {Q:Exit->Act->World->Prop} {B:Nat} {W:World} {l:List Ast} (h:Sep B W l) (i:Nat) {B' n:Nat} {v:Value} {xs:List (ByteArray×ByteArray)} (hi:l[i]?=some (rowA B' 41 2 v n (prq xs))) (hBB:B<=B') (hBW:B<=W.heap.size) (hBW':B'<=W.heap.size)
  (hgd:o.guard=none) (s x:Operand) (ho:o.op= .call {callee:= .builtin .append,args:= #[s,x],argTypes:= #[24,24]}) (hs:a.eval s=v) (key val:ByteArray) {H:Nat} (hH:H=W.heap.size) (hx:a.eval x= .slice (some ⟨H,0,none⟩) 1 1) (hn:n<=3000000)
  (hK:∀b c w',Sep B w' (l.set i (rowA B' 41 2 (.slice (some ⟨b,0,none⟩) (n+1) c) (n+1) (prq (xs++ [(key,val)]))))->Below B W w'->wpList Tryz.prog ops Q rest (a.put o.dst (.slice (some ⟨b,0,none⟩) (n+1) c)) w'):
  wpList Tryz.prog ops Q (o :: rest) a (W.alloc (Obj.cells #[.string key,.string val] 41)):=by
 obtain ⟨i0,hinf,hz0,hz1,hz2⟩:=info_parts Tryz.infoPairM
 refine ze6 h i hi hBB hBW hBW' hgd s x 24 ho i0 (.agg #[.string ⟨#[]⟩,.string ⟨#[]⟩]) 32 Tryz.underlying24 hinf hz0 hz1 hz2 rfl (by decide) hs #[.string key,.string val] hH hx rfl (fun y hy=>by simp at hy;rcases hy with rfl | rfl <;> rfl) (by unfold maxLen;omega) (by omega) (fun b c w' k1 k2=>hK b c w' ?_ k2)
 rw [prq_app];exact k1
theorem zcM {w wr:World} {a:Option Addr} {n c:Nat} {l:List (ByteArray×ByteArray)} (h:RowAt w 2 (.slice a n c) n (prq l)) (hb:Below w.heap.size w wr) {k:Nat} (hk:k<n) {p:ByteArray×ByteArray} (hp:l[k]?=some p):
  ∃b off,a=some ⟨b,off,none⟩/\wr.cell? ⟨b,off+k * 2,none⟩=some (.string p.1)/\wr.cell? ⟨b,off+k * 2+1,none⟩=some (.string p.2):=by
 obtain ⟨hl,a',cap,ea,h2⟩:=h
 injection ea with e1 e2 e3
 subst e1
 rcases h2 with h0 | ⟨b,off,rfl,hlt,hc⟩
 ·omega
 ·obtain ⟨hlk,hpk⟩:=List.getElem?_eq_some_iff.1 hp
  obtain ⟨q1,q2⟩:=prq_at l k hlk;rw [hpk] at q1 q2
  exact ⟨b,off,rfl,by rw [hb.cell (by exact hlt),hc (k * 2) (by omega)];exact q1,by rw [hb.cell (by exact hlt),Nat.add_assoc,hc (k * 2+1) (by omega)];exact q2⟩
theorem zfE (l:List (ByteArray×ByteArray)) (hl:l.length<=1200000) (key:ByteArray) (val:ByteArray) (v:Value) (w:World) (hr:RowAt w 2 v l.length (prq l)):
  Calls Tryz.prog 34 #[v,.string key,.string val] w fun e w'=>∃v',e= .returned v'/\w'.ownsRow w.heap.size 41 2 v' (modelP l key val).length (prq (modelP l key val))/\Below w.heap.size w w':=by
 have HR0:=hide hr;obtain ⟨-,a,cap,rfl,-⟩:=hr;obtain ⟨L,hL⟩:∃n,n=l.length:=⟨_,rfl⟩;have HL:=hide hL
 have HR:Hid (RowAt w 2 (.slice a L cap) L (prq l)):=hide (by rw [hL];exact HR0.out)
 rw [<-hL] at hl⊢;clear HR0 hL;obtain ⟨a0,ha0⟩:∃x,x=w.heap.size:=⟨_,rfl⟩;have HA:=hide ha0;obtain ⟨w0,hw0⟩:∃wx,wx=w.alloc (Obj.cells #[] 41):=⟨_,rfl⟩
 have HS0:Hid (Sep a0 w0 [rowA a0 41 2 (.slice (some ⟨a0,0,none⟩) 0 0) 0 []]):=hide (by rw [hw0,ha0];exact zg1 (zaB (zcV w.heap.size w) _ (Nat.le_refl _)))
 have HB0:Hid (Below w.heap.size w w0):=hide (by rw [hw0];exact (Below.refl w.heap.size w).alloc (Nat.le_refl _) _)
 have HZ0:Hid (a0<=w0.heap.size):=hide (by rw [hw0,ha0];simp)
 clear ha0;go_enter Tryz.func34,Tryz.ntmps34;go_wp2_with fail;rw [<-hw0,<-HA.out];clear hw0
 go_loopg [7,8] L (fun q lv iv wr=>∃(k n:Nat) (x:Option Addr) (y:Nat),k<=L/\lv= .slice x n y/\iv= .int .i64 (k:Int)/\q+k=L/\Hid (n=((l.take k).filter (fun p=>Op.bytesLess p.1.toList key.toList)).length)/\Hid (Sep a0 wr [rowA a0 41 2 (.slice x n y) n (prq ((l.take k).filter (fun p=>Op.bytesLess p.1.toList key.toList)))])/\Hid (Below w.heap.size w wr)/\Hid (a0<=wr.heap.size))
 case atStart=>exact ⟨0,0,some ⟨a0,0,none⟩,0,Nat.zero_le _,rfl,rfl,by omega,hide (by simp),hide (by rw [List.take_zero,List.filter_nil];exact HS0.out),HB0,HZ0⟩
 case round=>
  obtain ⟨k,n,x,y,hk,rfl,rfl,hg,HN,HSl,HB,HZ⟩:=hrel;have HQ:=hide hg;clear hg
  by_cases hlt:k<L
  ·obtain ⟨p,hp⟩:∃p,l[k]?=some p:=⟨_,List.getElem?_eq_getElem (by rw [<-HL.out];exact hlt)⟩
   obtain ⟨b,off,hab,c0,c1⟩:=zcM HR.out HB.out hlt hp;subst hab;have HPk:=hide hp;obtain ⟨pk,pv⟩:=p;dsimp only at c0 c1
   have hk1:(k:Int)<(L:Int):=by omega
   have hnl:n<=3000000:=by have h1:=HN.out;have h2:((l.take k).filter (fun p=>Op.bytesLess p.1.toList key.toList)).length<=2900000:=(by (try simp only [List.length_append,List.length_cons,List.length_nil]);have h3:=List.length_filter_le (fun p=>Op.bytesLess p.1.toList key.toList) (l.take k);have h4:=List.length_take_le k l;obtain h6:=HL.out;omega);omega
   clear hp;obtain ⟨t,ht⟩:∃t,Op.bytesLess pk.toList key.toList=t:=⟨_,rfl⟩
   have HT:Hid ((fun p=>Op.bytesLess p.1.toList key.toList) (pk,pv)=t):=hide (by rw [<-ht])
   cases t
   ·have HF:Hid ((l.take (k+1)).filter (fun p=>Op.bytesLess p.1.toList key.toList)=(l.take k).filter (fun p=>Op.bytesLess p.1.toList key.toList)):=hide (by rw [tf_no HPk.out (p:=(fun p=>Op.bytesLess p.1.toList key.toList)) HT.out])
    go_wp2_with fail
    go_roundg (gk - 1)
    case measure=>have:=HQ.out;omega
    case rel=>exact ⟨k+1,n,x,y,by omega,rfl,by go_num,by have:=HQ.out;omega,hide (by rw [HF.out];exact HN.out),hide (by rw [HF.out];exact HSl.out),HB,HZ⟩
   ·have HF:Hid ((l.take (k+1)).filter (fun p=>Op.bytesLess p.1.toList key.toList)=(l.take k).filter (fun p=>Op.bytesLess p.1.toList key.toList)++ [(pk,pv)]):=hide (by rw [zmh HPk.out (p:=(fun p=>Op.bytesLess p.1.toList key.toList)) HT.out])
    go_wp2_with (at_builtin;refine zdR HSl.out 0 rfl (Nat.le_refl a0) HZ.out HZ.out rfl (.tmp 24) (.tmp 29) rfl rfl pk pv rfl rfl hnl ?_)
    intro b9 c9 W9 hs9 hb9
    have HS9:Hid (Sep a0 W9 [rowA a0 41 2 (.slice (some ⟨b9,0,none⟩) (n+1) c9) (n+1) (prq ((l.take (k+1)).filter (fun p=>Op.bytesLess p.1.toList key.toList)))]):=hide (by
     rw [HF.out]
     exact hs9)
    have HB9:Hid (Below w.heap.size w W9):=hide (HB.out.trans (by rw [<-HA.out];exact hb9))
    have HZ9:Hid (a0<=W9.heap.size):=hide (Nat.le_trans HZ.out hb9.size)
    have HN9:Hid (n+1=((l.take (k+1)).filter (fun p=>Op.bytesLess p.1.toList key.toList)).length):=hide (by rw [HF.out,List.length_append,HN.out];rfl)
    clear hs9 hb9 c0 c1;go_wp2_with fail
    go_roundg (gk - 1)
    case measure=>have:=HQ.out;omega
    case rel=>exact ⟨k+1,n+1,some ⟨b9,0,none⟩,c9,by omega,rfl,by go_num,by have:=HQ.out;omega,HN9,HS9,HB9,HZ9⟩
  ·have hkL:L=k:=by omega
   subst hkL
   have hfa:l.take L=l:=List.take_of_length_le (by rw [<-HL.out];exact Nat.le_refl _)
   have HSl2:=HSl.out;rw [hfa] at HSl2;have HN2:=HN.out;rw [hfa] at HN2;have HSa:=hide HSl2;have HNa:=hide HN2;clear HSl HN HSl2 HN2 hfa
   have hnl:n<=3000000:=by have h1:=HNa.out;have h3:=List.length_filter_le (fun p=>Op.bytesLess p.1.toList key.toList) l;have h6:=HL.out;omega
   go_wp2_with (at_builtin;refine zdR HSa.out 0 rfl (Nat.le_refl a0) HZ.out HZ.out rfl (.tmp 31) (.tmp 35) rfl rfl key val rfl rfl hnl ?_)
   intro b9 c9 W9 hs9 hb9
   have HS9:Hid (Sep a0 W9 [rowA a0 41 2 (.slice (some ⟨b9,0,none⟩) (n+1) c9) (n+1) (prq (l.filter (fun p=>Op.bytesLess p.1.toList key.toList)++ [(key,val)]))]):=hide hs9
   have HB9:Hid (Below w.heap.size w W9):=hide (HB.out.trans (by rw [<-HA.out];exact hb9))
   have HZ9:Hid (a0<=W9.heap.size):=hide (Nat.le_trans HZ.out hb9.size)
   have HN9:Hid (n+1=(l.filter (fun p=>Op.bytesLess p.1.toList key.toList)++ [(key,val)]).length):=hide (by rw [List.length_append,HNa.out];rfl)
   clear hs9 hb9 hnl;go_wp2_with fail
   go_loopg [7,9] L (fun q lv iv wr=>∃(k n:Nat) (x:Option Addr) (y:Nat),k<=L/\lv= .slice x n y/\iv= .int .i64 (k:Int)/\q+k=L/\Hid (n=(l.filter (fun p=>Op.bytesLess p.1.toList key.toList)++ [(key,val)]++(l.take k).filter (fun p=> !Op.bytesLess p.1.toList key.toList && !p.1.toList ==key.toList)).length)/\Hid (Sep a0 wr [rowA a0 41 2 (.slice x n y) n (prq (l.filter (fun p=>Op.bytesLess p.1.toList key.toList)++ [(key,val)]++(l.take k).filter (fun p=> !Op.bytesLess p.1.toList key.toList && !p.1.toList ==key.toList)))])/\Hid (Below w.heap.size w wr)/\Hid (a0<=wr.heap.size))
   case atStart=>exact ⟨0,n+1,some ⟨b9,0,none⟩,c9,Nat.zero_le _,rfl,rfl,by omega,hide (by rw [HN9.out];simp),hide (by rw [List.take_zero,List.filter_nil,List.append_nil];exact HS9.out),HB9,HZ9⟩
   case round=>
    obtain ⟨k,n,x,y,hk,rfl,rfl,hg,HN,HSl,HB,HZ⟩:=hrel;have HQ:=hide hg;clear hg
    by_cases hlt:k<L
    ·obtain ⟨p,hp⟩:∃p,l[k]?=some p:=⟨_,List.getElem?_eq_getElem (by rw [<-HL.out];exact hlt)⟩
     obtain ⟨b,off,hab,c0,c1⟩:=zcM HR.out HB.out hlt hp;subst hab;have HPk:=hide hp;obtain ⟨pk,pv⟩:=p;dsimp only at c0 c1
     have hk1:(k:Int)<(L:Int):=by omega
     have hnl:n<=3000000:=by have h1:=HN.out;have h2:(l.filter (fun p=>Op.bytesLess p.1.toList key.toList)++ [(key,val)]++(l.take k).filter (fun p=> !Op.bytesLess p.1.toList key.toList && !p.1.toList ==key.toList)).length<=2900000:=(by (try simp only [List.length_append,List.length_cons,List.length_nil]);have h3:=List.length_filter_le (fun p=> !Op.bytesLess p.1.toList key.toList && !p.1.toList ==key.toList) (l.take k);have h4:=List.length_take_le k l;have h5:=List.length_filter_le (fun p=>Op.bytesLess p.1.toList key.toList) l;obtain h6:=HL.out;omega);omega
     clear hp;obtain ⟨t,ht⟩:∃t,Op.bytesLess pk.toList key.toList=t:=⟨_,rfl⟩;obtain ⟨q2,hq2⟩:∃t,(pk.toList ==key.toList)=t:=⟨_,rfl⟩
     have HT:Hid ((fun p=> !Op.bytesLess p.1.toList key.toList && !p.1.toList ==key.toList) (pk,pv)=(!t && !q2)):=hide (by rw [<-ht,<-hq2])
     cases t
     rotate_left
     ·have HF:Hid (l.filter (fun p=>Op.bytesLess p.1.toList key.toList)++ [(key,val)]++(l.take (k+1)).filter (fun p=> !Op.bytesLess p.1.toList key.toList && !p.1.toList ==key.toList)=l.filter (fun p=>Op.bytesLess p.1.toList key.toList)++ [(key,val)]++(l.take k).filter (fun p=> !Op.bytesLess p.1.toList key.toList && !p.1.toList ==key.toList)):=hide (by rw [tf_no HPk.out (p:=(fun p=> !Op.bytesLess p.1.toList key.toList && !p.1.toList ==key.toList)) HT.out])
      go_wp2_with fail
      go_roundg (gk - 1)
      case measure=>have:=HQ.out;omega
      case rel=>exact ⟨k+1,n,x,y,by omega,rfl,by go_num,by have:=HQ.out;omega,hide (by rw [HF.out];exact HN.out),hide (by rw [HF.out];exact HSl.out),HB,HZ⟩
     cases q2
     rotate_left
     ·have HF:Hid (l.filter (fun p=>Op.bytesLess p.1.toList key.toList)++ [(key,val)]++(l.take (k+1)).filter (fun p=> !Op.bytesLess p.1.toList key.toList && !p.1.toList ==key.toList)=l.filter (fun p=>Op.bytesLess p.1.toList key.toList)++ [(key,val)]++(l.take k).filter (fun p=> !Op.bytesLess p.1.toList key.toList && !p.1.toList ==key.toList)):=hide (by rw [tf_no HPk.out (p:=(fun p=> !Op.bytesLess p.1.toList key.toList && !p.1.toList ==key.toList)) HT.out])
      go_wp2_with fail
      go_roundg (gk - 1)
      case measure=>have:=HQ.out;omega
      case rel=>exact ⟨k+1,n,x,y,by omega,rfl,by go_num,by have:=HQ.out;omega,hide (by rw [HF.out];exact HN.out),hide (by rw [HF.out];exact HSl.out),HB,HZ⟩
     ·have HF:Hid (l.filter (fun p=>Op.bytesLess p.1.toList key.toList)++ [(key,val)]++(l.take (k+1)).filter (fun p=> !Op.bytesLess p.1.toList key.toList && !p.1.toList ==key.toList)=l.filter (fun p=>Op.bytesLess p.1.toList key.toList)++ [(key,val)]++(l.take k).filter (fun p=> !Op.bytesLess p.1.toList key.toList && !p.1.toList ==key.toList)++ [(pk,pv)]):=hide (by rw [zmh HPk.out (p:=(fun p=> !Op.bytesLess p.1.toList key.toList && !p.1.toList ==key.toList)) HT.out];exact (List.append_assoc _ _ _).symm)
      go_wp2_with (at_builtin;refine zdR HSl.out 0 rfl (Nat.le_refl a0) HZ.out HZ.out rfl (.tmp 50) (.tmp 55) rfl rfl pk pv rfl rfl hnl ?_)
      intro b9 c9 W9 hs9 hb9
      have HS9:Hid (Sep a0 W9 [rowA a0 41 2 (.slice (some ⟨b9,0,none⟩) (n+1) c9) (n+1) (prq (l.filter (fun p=>Op.bytesLess p.1.toList key.toList)++ [(key,val)]++(l.take (k+1)).filter (fun p=> !Op.bytesLess p.1.toList key.toList && !p.1.toList ==key.toList)))]):=hide (by
       rw [HF.out]
       simp only [List.append_assoc,List.cons_append,List.nil_append] at hs9⊢;exact hs9)
      have HB9:Hid (Below w.heap.size w W9):=hide (HB.out.trans (by rw [<-HA.out];exact hb9))
      have HZ9:Hid (a0<=W9.heap.size):=hide (Nat.le_trans HZ.out hb9.size)
      have HN9:Hid (n+1=(l.filter (fun p=>Op.bytesLess p.1.toList key.toList)++ [(key,val)]++(l.take (k+1)).filter (fun p=> !Op.bytesLess p.1.toList key.toList && !p.1.toList ==key.toList)).length):=hide (by rw [HF.out,List.length_append,HN.out];rfl)
      clear hs9 hb9 c0 c1;go_wp2_with fail
      go_roundg (gk - 1)
      case measure=>have:=HQ.out;omega
      case rel=>exact ⟨k+1,n+1,some ⟨b9,0,none⟩,c9,by omega,rfl,by go_num,by have:=HQ.out;omega,HN9,HS9,HB9,HZ9⟩
    ·have hkL:L=k:=by omega
     subst hkL
     have hfa:l.take L=l:=List.take_of_length_le (by rw [<-HL.out];exact Nat.le_refl _)
     have HSl2:=HSl.out;rw [hfa] at HSl2;have HN2:=HN.out;rw [hfa] at HN2;have HSa:=hide HSl2;have HNa:=hide HN2;clear HSl HN HSl2 HN2 hfa;go_wp2_with fail;go_ret;refine ⟨_,rfl,?_,HB.out⟩;have h:=za2 HSa.out 0 rfl;rw [HNa.out,HA.out] at h;rw [HNa.out];exact h
theorem zfj (l:List (ByteArray×ByteArray)) (hl:l.length<=1200000) (key:ByteArray) (v:Value) (w:World) (hr:RowAt w 2 v l.length (prq l)):
  Calls Tryz.prog 17 #[v,.string key] w fun e w'=>∃v',e= .returned v'/\w'.ownsRow w.heap.size 41 2 v' (modelD l key).length (prq (modelD l key))/\Below w.heap.size w w':=by
 have HR0:=hide hr;obtain ⟨-,a,cap,rfl,-⟩:=hr;obtain ⟨L,hL⟩:∃n,n=l.length:=⟨_,rfl⟩;have HL:=hide hL
 have HR:Hid (RowAt w 2 (.slice a L cap) L (prq l)):=hide (by rw [hL];exact HR0.out)
 rw [<-hL] at hl⊢;clear HR0 hL;obtain ⟨a0,ha0⟩:∃x,x=w.heap.size:=⟨_,rfl⟩;have HA:=hide ha0;obtain ⟨w0,hw0⟩:∃wx,wx=w.alloc (Obj.cells #[] 41):=⟨_,rfl⟩
 have HS0:Hid (Sep a0 w0 [rowA a0 41 2 (.slice (some ⟨a0,0,none⟩) 0 0) 0 []]):=hide (by rw [hw0,ha0];exact zg1 (zaB (zcV w.heap.size w) _ (Nat.le_refl _)))
 have HB0:Hid (Below w.heap.size w w0):=hide (by rw [hw0];exact (Below.refl w.heap.size w).alloc (Nat.le_refl _) _)
 have HZ0:Hid (a0<=w0.heap.size):=hide (by rw [hw0,ha0];simp)
 clear ha0;go_enter Tryz.func17,Tryz.ntmps17;go_wp2_with fail;rw [<-hw0,<-HA.out];clear hw0
 go_loopg [5,6] L (fun q lv iv wr=>∃(k n:Nat) (x:Option Addr) (y:Nat),k<=L/\lv= .slice x n y/\iv= .int .i64 (k:Int)/\q+k=L/\Hid (n=((l.take k).filter (fun p=> !(p.1.toList ==key.toList))).length)/\Hid (Sep a0 wr [rowA a0 41 2 (.slice x n y) n (prq ((l.take k).filter (fun p=> !(p.1.toList ==key.toList))))])/\Hid (Below w.heap.size w wr)/\Hid (a0<=wr.heap.size))
 case atStart=>exact ⟨0,0,some ⟨a0,0,none⟩,0,Nat.zero_le _,rfl,rfl,by omega,hide (by simp),hide (by rw [List.take_zero,List.filter_nil];exact HS0.out),HB0,HZ0⟩
 case round=>
  obtain ⟨k,n,x,y,hk,rfl,rfl,hg,HN,HSl,HB,HZ⟩:=hrel;have HQ:=hide hg;clear hg
  by_cases hlt:k<L
  ·obtain ⟨p,hp⟩:∃p,l[k]?=some p:=⟨_,List.getElem?_eq_getElem (by rw [<-HL.out];exact hlt)⟩
   obtain ⟨b,off,hab,c0,c1⟩:=zcM HR.out HB.out hlt hp;subst hab;have HPk:=hide hp;obtain ⟨pk,pv⟩:=p;dsimp only at c0 c1
   have hk1:(k:Int)<(L:Int):=by omega
   have hnl:n<=3000000:=by have h1:=HN.out;have h2:((l.take k).filter (fun p=> !(p.1.toList ==key.toList))).length<=2900000:=(by (try simp only [List.length_append,List.length_cons,List.length_nil]);have h3:=List.length_filter_le (fun p=> !(p.1.toList ==key.toList)) (l.take k);have h4:=List.length_take_le k l;obtain h6:=HL.out;omega);omega
   clear hp;obtain ⟨t,ht⟩:∃t,(pk.toList ==key.toList)=t:=⟨_,rfl⟩
   have HT:Hid ((fun p=> !(p.1.toList ==key.toList)) (pk,pv)= !t):=hide (by rw [<-ht])
   cases t
   ·have HF:Hid ((l.take (k+1)).filter (fun p=> !(p.1.toList ==key.toList))=(l.take k).filter (fun p=> !(p.1.toList ==key.toList))++ [(pk,pv)]):=hide (by rw [zmh HPk.out (p:=(fun p=> !(p.1.toList ==key.toList))) HT.out])
    go_wp2_with (at_builtin;refine zdR HSl.out 0 rfl (Nat.le_refl a0) HZ.out HZ.out rfl (.tmp 21) (.tmp 26) rfl rfl pk pv rfl rfl hnl ?_)
    intro b9 c9 W9 hs9 hb9
    have HS9:Hid (Sep a0 W9 [rowA a0 41 2 (.slice (some ⟨b9,0,none⟩) (n+1) c9) (n+1) (prq ((l.take (k+1)).filter (fun p=> !(p.1.toList ==key.toList))))]):=hide (by
     rw [HF.out]
     exact hs9)
    have HB9:Hid (Below w.heap.size w W9):=hide (HB.out.trans (by rw [<-HA.out];exact hb9))
    have HZ9:Hid (a0<=W9.heap.size):=hide (Nat.le_trans HZ.out hb9.size)
    have HN9:Hid (n+1=((l.take (k+1)).filter (fun p=> !(p.1.toList ==key.toList))).length):=hide (by rw [HF.out,List.length_append,HN.out];rfl)
    clear hs9 hb9 c0 c1;go_wp2_with fail
    go_roundg (gk - 1)
    case measure=>have:=HQ.out;omega
    case rel=>exact ⟨k+1,n+1,some ⟨b9,0,none⟩,c9,by omega,rfl,by go_num,by have:=HQ.out;omega,HN9,HS9,HB9,HZ9⟩
   ·have HF:Hid ((l.take (k+1)).filter (fun p=> !(p.1.toList ==key.toList))=(l.take k).filter (fun p=> !(p.1.toList ==key.toList))):=hide (by rw [tf_no HPk.out (p:=(fun p=> !(p.1.toList ==key.toList))) HT.out])
    go_wp2_with fail
    go_roundg (gk - 1)
    case measure=>have:=HQ.out;omega
    case rel=>exact ⟨k+1,n,x,y,by omega,rfl,by go_num,by have:=HQ.out;omega,hide (by rw [HF.out];exact HN.out),hide (by rw [HF.out];exact HSl.out),HB,HZ⟩
  ·have hkL:L=k:=by omega
   subst hkL
   have hfa:l.take L=l:=List.take_of_length_le (by rw [<-HL.out];exact Nat.le_refl _)
   have HSl2:=HSl.out;rw [hfa] at HSl2;have HN2:=HN.out;rw [hfa] at HN2;have HSa:=hide HSl2;have HNa:=hide HN2;clear HSl HN HSl2 HN2 hfa;go_wp2_with fail;go_ret;refine ⟨_,rfl,?_,HB.out⟩;have h:=za2 HSa.out 0 rfl;rw [HNa.out,HA.out] at h;rw [HNa.out];exact h
theorem zkU {ops:Array Oper} {rest:List Oper} {o:Oper} {a:Act} {Q:Exit->Act->World->Prop} {B:Nat} {W:World} {l:List Ast} (h:Sep B W l) (i:Nat) {B' n:Nat} {v:Value} {xs:List Value} (hi:l[i]?=some (rowA B' 41 2 v n xs)) (hBB:B<=B') (hBW:B<=W.heap.size) (hBW':B'<=W.heap.size)
  (hgd:o.guard=none) (s x:Operand) (ho:o.op= .call {callee:= .builtin .append,args:= #[s,x],argTypes:= #[24,24]}) (hs:a.eval s=v) (u:Value) (m:Nat) (ys:List Value) (hx:a.eval x=u) (hrow:RowAt W 2 u m ys) (h1:∀y∈ys,y.oneCell'=true) (hn:n+m<=3000000)
  (hK:∀y c w',Sep B w' (l.set i (rowA B' 41 2 (.slice y (n+m) c) (n+m) (xs++ys)))->Below B W w'->wpList Tryz.prog ops Q rest (a.put o.dst (.slice y (n+m) c)) w'):
  wpList Tryz.prog ops Q (o :: rest) a W:=
 wpList_plain hgd fun _ hK'=>by
  obtain ⟨i0,hinf,hz0,hz1,hz2⟩:=info_parts Tryz.infoPairM
  obtain ⟨y,c,w',hr,h2,h3,h4⟩:=zdU (P:=Tryz.prog) W 24 o.type B' 41 i0 (.agg #[.string ⟨#[]⟩,.string ⟨#[]⟩]) 2 32 Tryz.underlying24 hinf hz0 hz1 hz2 rfl (by decide) v n xs (za2 h i hi) u m ys hrow h1 (by unfold maxLen;omega) (by omega) hBW'
  obtain ⟨k1,k2⟩:=zlH h i hi hBB hBW h3 h2 h4;unfold Oper.wp execOp
  simp only [ho,resolve,invoke,builtin,Sem.run_bind,Sem.run_pure,Result.andThen_ok,List.map_toArray,List.map_cons,List.map_nil,hs,hx,hr]
  exact hK' _ _ (hK y c w' k1 k2)
end Go.Proofs.YtcbogiebfbbmbaaGreatDoor
