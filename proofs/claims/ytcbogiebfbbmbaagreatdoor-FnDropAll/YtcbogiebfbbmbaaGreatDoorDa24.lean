/-
  Facts and contracts that the law's own text rests on, by their texts' names: ReadAny, SpecRound, ImplReadNode.
-/
import Derived.Test.YtcbogiebfbbmbaaGreatDoorDa23
import Derived.Test.YtcbogiebfbbmbaaGreatDoorDa22
import Derived.Deep.RegionLaw
import Derived.Test.YtcbogiebfbbmbaaGreatDoorDa21
import Derived.Test.YtcbogiebfbbmbaaGreatDoorDa7
set_option maxHeartbeats 16000000
set_option maxRecDepth 100000
namespace Go.Proofs.YtcbogiebfbbmbaaGreatDoor
open Go.RowKit
theorem zlY (g:Nat) (s:ByteArray) (hs:s.size<=1048576) (w:World) (hc:RdT w g s 0):
  Calls Tryz.prog 83 #[.pointer (some ⟨g,0,none⟩)] w fun e w'=>RnPost w g s e w':=by
 by_cases h0:s.size=0
 ·obtain ⟨wa,hwa⟩:∃wa,wa=w.alloc (Obj.cells #[.bool false,.slice none 0 0,.slice none 0 0,.slice none 0 0] 71):=⟨_,rfl⟩
  have HRa:Hid (RdT wa g s 0):=hide (by rw [hwa];exact zcI hc _)
  have HGa:Hid (w.grownBy wa (some g)):=hide (by rw [hwa];exact World.grownBy_alloc w _ _)
  have HDie:Hid (∀m,¬IsIn s m):=hide (fun m hm=>by have:=(zcC hm).1;omega)
  clear hc;go_enter Tryz.func83,Tryz.ntmps83;go_wp2_with fail;rw [<-hwa];refine (zmX g s h0 wa HRa.out).mono ?_;rintro e w1 ⟨rfl,hg1⟩;exact ⟨rfl,zcx (za3 HGa.out hg1) HDie.out⟩
 ·by_cases h1:byt s 0=108
  ·exact zkO g s hs (by omega) h1 w hc
  ·by_cases h2:byt s 0=98
   ·exact zjk g s hs (by omega) h2 w hc
   ·have HDie:=hide (zli h1 h2)
    obtain ⟨wa,hwa⟩:∃wa,wa=w.alloc (Obj.cells #[.bool false,.slice none 0 0,.slice none 0 0,.slice none 0 0] 71):=⟨_,rfl⟩
    have HRa:Hid (RdT wa g s 0):=hide (by rw [hwa];exact zcI hc _)
    have HGa:Hid (w.grownBy wa (some g)):=hide (by rw [hwa];exact World.grownBy_alloc w _ _)
    have HM:=hide (zgB g s hs (by omega) wa HRa.out)
    obtain ⟨y,hy⟩:∃y,y=byt s 0:=⟨_,rfl⟩;rw [<-hy] at HM h1 h2
    have e1:((y:Int) ==108)=false:=beq_eq_false_iff_ne.2 (by omega)
    have e2:((y:Int) ==98)=false:=beq_eq_false_iff_ne.2 (by omega)
    clear hc hy h1 h2;go_enter Tryz.func83,Tryz.ntmps83;go_wp2_with fail;rw [<-hwa];clear hwa;refine HM.out.mono ?_;rintro e w1 ⟨rfl,hr1,hg1⟩;clear hr1;go_wp2_with fail;refine (zcn g _).mono ?_;rintro e w2 ⟨rfl,rfl⟩;exact ⟨rfl,zcx (za3 HGa.out hg1) HDie.out⟩
open Go.RowKit
theorem zfX {w w':World} {g gn p:Nat} {t:ByteArray} {bad:Bool} (h:CurT w g t p bad) (hb:Below gn w w') (hlt:g<gn):CurT w' g t p bad:=(hb.block g hlt).trans h
def RsPost (w:World) (t:ByteArray) (e:Ending) (w':World):Prop:=
 ∃n v ok,e= .returned (.tuple #[v,.bool ok])/\ReadN t n ok/\NodeOwn w' w.heap.size v n.lf n.ks n.vs n.cs/\Below w.heap.size w w'
theorem round_V (g:Nat) {s:ByteArray} (hs:s.size<=1048576) {cnt:Nat} {n:Nd} {p:Nat} (h:NTry s cnt n p) (he:n.even) (hk:n.ks.length<cnt) (hl:n.lf=true):∃(x:ByteArray) (q:Nat) (b1:Bool) (y:ByteArray) (r:Nat) (b2:Bool),
  (∀wx,CurT wx g s p false->Calls Tryz.prog 92 #[.pointer (some ⟨g,0,none⟩)] wx fun e w'=>e= .returned (.string x)/\CurT w' g s q b1/\wx.grownBy w' (some g))/\
  (∀wx,CurT wx g s q b1->Calls Tryz.prog 92 #[.pointer (some ⟨g,0,none⟩)] wx fun e w'=>e= .returned (.string y)/\CurT w' g s r b2/\wx.grownBy w' (some g))/\
  x.size<=20000/\y.size<=20000/\(b2=false->NTry s cnt (n.snocV x y) r)/\(b2=true->∀m,¬IsIn s m):=by
 cases ho:rdS s p with
 | none=>exact ⟨⟨#[]⟩,p,true,⟨#[]⟩,p,true,fun wx hc=>zbh g s hs p false (Or.inr ho) wx hc,fun wx hc=>zbh g s hs p true (Or.inl rfl) wx hc,Nat.zero_le _,Nat.zero_le _,(fun e=>by cases e),fun _=>zfO h he hk ho⟩
 | some r1=>
  obtain ⟨x,q⟩:=r1
  cases ho2:rdS s q with
  | none=>exact ⟨x,q,false,⟨#[]⟩,q,true,fun wx hc=>zaS g s hs p x q ho wx hc,fun wx hc=>zbh g s hs q false (Or.inr ho2) wx hc,(zbf ho).2.2.1,Nat.zero_le _,(fun e=>by cases e),fun _=>zjM h he hk hl ho ho2⟩
  | some r2=>
   obtain ⟨y,r⟩:=r2
   exact ⟨x,q,false,y,r,false,fun wx hc=>zaS g s hs p x q ho wx hc,fun wx hc=>zaS g s hs q y r ho2 wx hc,(zbf ho).2.2.1,(zbf ho2).2.2.1,fun _=>zlj h he hk hl ho ho2,(fun e=>by cases e)⟩
theorem round_C (g:Nat) {s:ByteArray} (hs:s.size<=1048576) {cnt:Nat} {n:Nd} {p:Nat} (h:NTry s cnt n p) (he:n.even) (hk:n.ks.length<cnt) (hl:n.lf=false):∃(x:ByteArray) (q:Nat) (b1:Bool) (y:Nat) (r:Nat) (b2:Bool),
  (∀wx,CurT wx g s p false->Calls Tryz.prog 92 #[.pointer (some ⟨g,0,none⟩)] wx fun e w'=>e= .returned (.string x)/\CurT w' g s q b1/\wx.grownBy w' (some g))/\
  (∀wx,CurT wx g s q b1->Calls Tryz.prog 91 #[.pointer (some ⟨g,0,none⟩)] wx fun e w'=>e= .returned (.int .i64 (y:Int))/\CurT w' g s r b2/\wx.grownBy w' (some g))/\
  x.size<=20000/\y<=1000000000/\(b2=false->NTry s cnt (n.snocC x y) r)/\(b2=true->∀m,¬IsIn s m):=by
 cases ho:rdS s p with
 | none=>exact ⟨⟨#[]⟩,p,true,0,p,true,fun wx hc=>zbh g s hs p false (Or.inr ho) wx hc,fun wx hc=>zfe g s hs p true (Or.inl rfl) wx hc,Nat.zero_le _,Nat.zero_le _,(fun e=>by cases e),fun _=>zfO h he hk ho⟩
 | some r1=>
  obtain ⟨x,q⟩:=r1
  cases ho2:rdV s q with
  | none=>exact ⟨x,q,false,0,q,true,fun wx hc=>zaS g s hs p x q ho wx hc,fun wx hc=>zfe g s hs q false (Or.inr ho2) wx hc,(zbf ho).2.2.1,Nat.zero_le _,(fun e=>by cases e),fun _=>zjN h he hk hl ho ho2⟩
  | some r2=>
   obtain ⟨y,r⟩:=r2
   exact ⟨x,q,false,y,r,false,fun wx hc=>zaS g s hs p x q ho wx hc,fun wx hc=>zgz g s hs q y r ho2 wx hc,(zbf ho).2.2.1,(zcs ho2).2.2.1,fun _=>zlk h he hk hl ho ho2,(fun e=>by cases e)⟩
theorem zlZ (g:Nat) {s:ByteArray} (hs:s.size<=1048576) (lf:Bool) (hl:lf=decide (byt s 0=108)):∃(cnt q:Nat) (b:Bool),
  (∀wx,CurT wx g s 1 false->Calls Tryz.prog 91 #[.pointer (some ⟨g,0,none⟩)] wx fun e w'=>e= .returned (.int .i64 (cnt:Int))/\CurT w' g s q b/\wx.grownBy w' (some g))/\
  cnt<=1000000000/\(b=false->NTry s cnt ⟨lf,[],[],[]⟩ q)/\(b=true->∀m,¬IsIn s m):=by
 cases ho:rdV s 1 with
 | none=>exact ⟨0,1,true,fun wx hc=>zfe g s hs 1 false (Or.inr ho) wx hc,Nat.zero_le _,(fun e=>by cases e),fun _=>zhD ho⟩
 | some r1=>
  obtain ⟨cnt,q⟩:=r1
  exact ⟨cnt,q,false,fun wx hc=>zgz g s hs 1 cnt q ho wx hc,(zcs ho).2.2.1,fun _=>zfN hl ho,(fun e=>by cases e)⟩
theorem zba (w:World) (B:Nat):NodeOwn w B (.agg #[.bool false,.slice none 0 0,.slice none 0 0,.slice none 0 0]) false [] [] []:=⟨_,_,_,rfl,⟨rfl,Or.inl ⟨rfl,rfl⟩⟩,⟨rfl,Or.inl ⟨rfl,rfl⟩⟩,⟨rfl,Or.inl ⟨rfl,rfl⟩⟩,fun k e=>by cases e⟩
open Go.RowKit
def misgot:List PanicEntry:= [{v:= .iface 158 (.agg #[]),recovered:=true}]
theorem zeG (a b:Nat) (lf ok:Bool) (v1 v2 v3:Value) (w:World) (ha:w.heap[a]?=some (.cells #[.bool lf,v1,v2,v3] 71 (0,0))) (hb:w.heap[b]?=some (.cells #[.bool ok] 4 (0,0))) (hab:a≠b):
  CallsD Tryz.prog 80 #[.pointer (some ⟨a,0,none⟩),.pointer (some ⟨b,0,none⟩)] (.panicking misread) w fun e u' w'=>
   e= .returned (.tuple #[])/\u'= .panicking misgot/\w'=((((w.setCell ⟨a,0,none⟩ (.bool false)).setCell ⟨a,1,none⟩ (.slice none 0 0)).setCell ⟨a,2,none⟩ (.slice none 0 0)).setCell ⟨a,3,none⟩ (.slice none 0 0)).setCell ⟨b,0,none⟩ (.bool false):=by
 have c0:=(za0 ha 0).1;have c1:=(za0 ha 1).1;have c2:=(za0 ha 2).1;have c3:=(za0 ha 3).1;have f0:=(za0 ha 0).2;have f1:=(za0 ha 1).2;have f2:=(za0 ha 2).2;have f3:=(za0 ha 3).2;have d0:=(za0 hb 0).1;have e0:=(za0 hb 0).2
 simp at c0 c1 c2 c3 d0
 unfold misread misgot
 refine callsD_of_wpS Tryz.func80 rfl fun c₀ cs hu=> ?_
 apply wpS_seq
 apply wpS_region
 simp [wpOpsS,go_sem,recoverD,hu,Tryz.ntmps80,Exit.thenS]
 refine wpS_cond (t:=true) (by simp [Act.eval,Array.replicate]) ?_
 simp only [if_true]
 apply wpS_region
 simp [wpOpsS,go_sem,c0,c1,c2,c3,f0,f1,f2,f3,d0,e0,bodyPostS,results,Tryz.results80]
theorem zgC {w:World} {a b B:Nat} {lf ok:Bool} {v1 v2 v3 c0 c1 c2 c3 d0:Value} {ks vs:List ByteArray} {cs:List Int} (ha:w.heap[a]?=some (.cells #[c0,c1,c2,c3] 71 (0,0))) (hb:w.heap[b]?=some (.cells #[d0] 4 (0,0))) (hn:NodeOwn w B (.agg #[.bool lf,v1,v2,v3]) lf ks vs cs) (hab:a<b) (hB:b<B):
  (((((w.setCell ⟨a,0,none⟩ (.bool lf)).setCell ⟨a,1,none⟩ v1).setCell ⟨a,2,none⟩ v2).setCell ⟨a,3,none⟩ v3).setCell ⟨b,0,none⟩ (.bool ok)).heap[a]?=some (.cells #[.bool lf,v1,v2,v3] 71 (0,0))/\
  (((((w.setCell ⟨a,0,none⟩ (.bool lf)).setCell ⟨a,1,none⟩ v1).setCell ⟨a,2,none⟩ v2).setCell ⟨a,3,none⟩ v3).setCell ⟨b,0,none⟩ (.bool ok)).heap[b]?=some (.cells #[.bool ok] 4 (0,0))/\
  NodeOwn (((((w.setCell ⟨a,0,none⟩ (.bool lf)).setCell ⟨a,1,none⟩ v1).setCell ⟨a,2,none⟩ v2).setCell ⟨a,3,none⟩ v3).setCell ⟨b,0,none⟩ (.bool ok)) B (.agg #[.bool lf,v1,v2,v3]) lf ks vs cs/\
  Below a w (((((w.setCell ⟨a,0,none⟩ (.bool lf)).setCell ⟨a,1,none⟩ v1).setCell ⟨a,2,none⟩ v2).setCell ⟨a,3,none⟩ v3).setCell ⟨b,0,none⟩ (.bool ok)):=by
 obtain ⟨r1,r2,r3⟩:=zaO ha hn (by omega)
 have hbl:b<w.heap.size:=(Array.getElem?_eq_some_iff.1 hb).1;have g1:=za3 (za3 (za3 (za7 w a 0 (.bool lf)) (za7 _ a 1 v1)) (za7 _ a 2 v2)) (za7 _ a 3 v3)
 have hb':=(g1.block b hbl (fun e=>by injection e with e;omega)).trans hb
 have g2:=za7 ((((w.setCell ⟨a,0,none⟩ (.bool lf)).setCell ⟨a,1,none⟩ v1).setCell ⟨a,2,none⟩ v2).setCell ⟨a,3,none⟩ v3) b 0 (.bool ok)
 refine ⟨(g2.block a (by have:=g1.size;omega) (fun e=>by injection e with e;omega)).trans r1,heap_setCell_same _ b 0 _ _ _ hb',?_,r3.grown g2 (by have:=r3.size;omega) (fun k e=>by injection e with e;omega)⟩
 obtain ⟨u1,u2,u3,e,h1,h2,h3,h4⟩:=r2
 exact ⟨u1,u2,u3,e,h1.kept g2 (Or.inr (fun e=>by have:=(h1.lt _ e).1;omega)),h2.kept g2 (Or.inr (fun e=>by have:=(h2.lt _ e).1;omega)),h3.kept g2 (Or.inr (fun e=>by have:=(h3.lt _ e).1;omega)),h4⟩
theorem zkP (p q:Addr) (w:World):
  CallsD Tryz.prog 80 #[.pointer (some p),.pointer (some q)] .returning w fun e u' w'=>e= .returned (.tuple #[])/\u'= .returning/\w'=w:=by
 refine callsD_of_wpS Tryz.func80 rfl fun c₀ cs hu=> ?_
 apply wpS_seq
 apply wpS_region
 simp [wpOpsS,go_sem,recoverD,hu,Tryz.ntmps80,Exit.thenS]
 refine wpS_cond (t:=false) (by simp [Act.eval,Array.replicate]) ?_
 simp only [Bool.false_eq_true,if_false]
 refine wpS_of_wp (wp_skip ?_)
 cases c₀
 simp_all [bodyPostS,results,Tryz.results80]
theorem zbZ (t:ByteArray) (ht:t.size<=1048576) (w:World) (hT:SumTab w):
  Calls Tryz.prog 55 #[.string t] w fun e w'=>RsPost w t e w':=by
 have hmf:∀(fn:Fn) (first cap:Array Value) (w:World),(Instr.makeFunc fn first cap).run Tryz.prog w= .ok (.func fn first cap) w:=fun _ _ _ _=>rfl
 obtain ⟨wa,hwa⟩:∃wa,wa=(w.alloc (Obj.cells #[.bool false,.slice none 0 0,.slice none 0 0,.slice none 0 0] 71)).alloc (Obj.cells #[.bool false] 4):=⟨_,rfl⟩;obtain ⟨t1,t2,t3⟩:=zaE w (Obj.cells #[.bool false,.slice none 0 0,.slice none 0 0,.slice none 0 0] 71) (Obj.cells #[.bool false] 4);rw [<-hwa] at t1 t2 t3
 have HBa:Hid (Below w.heap.size w wa):=hide (by rw [hwa];exact ((Below.refl _ _).alloc (Nat.le_refl _) _).alloc (by simp) _)
 have HV:=hide (⟨t1,t2,t3⟩:_/\_/\_)
 have HU:=hide (fun wx h=>zfy t ht wx h)
 have HT:=hide (zag hT HBa.out);clear t1 t2 t3 hT
 cases hsl:isSealed t.data.toList with
 | false=>
  rw [unOut,if_neg (by rw [hsl];decide)] at HU
  have HNo:=hide (zcT hsl);clear hsl
  go_enter_defers Tryz.func55,Tryz.ntmps55
  go_wp2_with fail;rw [<-hwa];clear hwa;refine (HU.out _ HT.out).mono ?_;rintro e w1 ⟨rfl,hb1⟩;have HB1:=hide hb1;clear hb1;go_wp2_with fail;refine (zcn _ _).mono ?_;rintro e w2 ⟨rfl,rfl⟩
  refine leaves_cons (f:=80) (args:= #[.pointer (some ⟨w.heap.size,0,none⟩),.pointer (some ⟨w.heap.size+1,0,none⟩)]) (by simp) (by simp [go_sem]) ?_
  have hbb:=HB1.out.alloc HB1.out.size (Obj.cells #[.string ⟨#[]⟩,.int .i64 0] 126)
  have ha:=(hbb.block _ (by rw [HV.out.2.2];omega)).trans HV.out.1
  have hb:=(hbb.block _ (by rw [HV.out.2.2];omega)).trans HV.out.2.1
  refine (zeG w.heap.size (w.heap.size+1) false false _ _ _ _ ha hb (by omega)).mono ?_
  rintro e u' w'' ⟨rfl,rfl,rfl⟩
  obtain ⟨r1,r2,r3,r4⟩:=zgC (B:=w.heap.size+2) (lf:=false) (ok:=false) (v1:= .slice none 0 0) (v2:= .slice none 0 0) (v3:= .slice none 0 0) ha hb (zba _ _) (by omega) (by omega)
  have z0:=(za0 r1 0).1;have z1:=(za0 r1 1).1;have z2:=(za0 r1 2).1;have z3:=(za0 r1 3).1;have zb:=(za0 r2 0).1
  exact ⟨.tuple #[.agg #[.bool false,.slice none 0 0,.slice none 0 0,.slice none 0 0],.bool false],by simp [results,Tryz.results55,go_sem,z0,z1,z2,z3,zb],Nd.none,_,false,rfl,Or.inr ⟨rfl,rfl,HNo.out⟩,zax r3 (by omega),(HBa.out.trans (hbb.mono HBa.out.size)).trans (r4.mono (Nat.le_refl _))⟩
 | true=>
  obtain ⟨s,hse⟩:∃s,s=t.extract 0 (t.size - 4):=⟨_,rfl⟩
  have hss:s.size<=1048576:=by rw [hse,ByteArray.size_extract];omega
  rw [unOut,if_pos hsl,<-hse] at HU;have HIs:=hide (zbB hsl);rw [<-hse] at HIs;clear hsl hse
  go_enter_defers Tryz.func55,Tryz.ntmps55
  go_wp2_with fail;rw [<-hwa];clear hwa;refine (HU.out _ HT.out).mono ?_;rintro e w1 ⟨rfl,hb1⟩;have HB1:=hide hb1;clear hb1;go_wp2_with fail;refine (zbI _ _).mono ?_;rintro e w2 ⟨rfl,rfl⟩;go_wp2_with fail;obtain ⟨wb,hwb⟩:∃wb,wb=w1.alloc (Obj.cells #[.string s,.int .i64 0] 126):=⟨_,rfl⟩;rw [<-hwb]
  have hbb:Below wa.heap.size wa wb:=by rw [hwb];exact HB1.out.alloc HB1.out.size _
  have hrd:RdT wb w1.heap.size s 0:=by rw [hwb];exact heap_alloc_new w1 _
  have HBb:=hide hbb;have HLg:Hid (wa.heap.size<=w1.heap.size):=hide HB1.out.size;clear hbb hwb;refine (zlY w1.heap.size s hss wb hrd).mono ?_;rintro e w3 ⟨hg3,⟨n,v,rfl,his,hun,hown⟩ | ⟨rfl,hno⟩⟩
  ·have hb3:Below wa.heap.size wa w3:=HBb.out.grown hg3 HBb.out.size (fun k e=>by have:=HLg.out;injection e with e;omega)
   have ha:=(hb3.block _ (by rw [HV.out.2.2];omega)).trans HV.out.1
   have hb:=(hb3.block _ (by rw [HV.out.2.2];omega)).trans HV.out.2.1
   obtain ⟨v1,v2,v3,rfl,h1,h2,h3,h4⟩:=hown;obtain ⟨a1,c1,rfl⟩:=za4 h1;obtain ⟨a2,c2,rfl⟩:=za4 h2;obtain ⟨a3,c3,rfl⟩:=za4 h3
   have HSt:=hide (zgC (B:=wb.heap.size) (lf:=n.lf) (ok:=true) ha hb ⟨_,_,_,rfl,h1,h2,h3,h4⟩ (by omega) (by have:=HBb.out.size;rw [HV.out.2.2] at this;omega))
   have o0:w3.cell? ⟨w.heap.size,0,none⟩=some (.bool false):=(za0 ha 0).1;have o1:w3.cell? ⟨w.heap.size,1,none⟩=some (.slice none 0 0):=(za0 ha 1).1;have o2:w3.cell? ⟨w.heap.size,2,none⟩=some (.slice none 0 0):=(za0 ha 2).1;have o3:w3.cell? ⟨w.heap.size,3,none⟩=some (.slice none 0 0):=(za0 ha 3).1;have z0:=(za0 ha 0).2;have z1:=(za0 ha 1).2;have z2:=(za0 ha 2).2;have z3:=(za0 ha 3).2;have ob:w3.cell? ⟨w.heap.size+1,0,none⟩=some (.bool false):=(za0 hb 0).1;have zb:=(za0 hb 0).2;have HFin:=hide (⟨his,hun,hb3⟩:_/\_/\_);clear h1 h2 h3 h4 his hun hb3 ha hb hg3 hrd;go_wp2_with fail
   refine leaves_cons (f:=80) (args:= #[.pointer (some ⟨w.heap.size,0,none⟩),.pointer (some ⟨w.heap.size+1,0,none⟩)]) (by simp) (by simp [go_sem]) ?_
   refine (zkP _ _ _).mono ?_;rintro e u' w'' ⟨rfl,rfl,rfl⟩;obtain ⟨r1,r2,r3,r4⟩:=HSt.out;have y0:=(za0 r1 0).1;have y1:=(za0 r1 1).1;have y2:=(za0 r1 2).1;have y3:=(za0 r1 3).1;have yb:=(za0 r2 0).1
   exact ⟨.tuple #[.agg #[.bool n.lf,.slice a1 n.ks.length c1,.slice a2 n.vs.length c2,.slice a3 n.cs.length c3],.bool true],by simp [results,Tryz.results55,go_sem,y0,y1,y2,y3,yb],n,_,true,rfl,Or.inl ⟨rfl,(HIs.out n).2 HFin.out.1,fun m hm=>HFin.out.2.1 m ((HIs.out m).1 hm)⟩,zax r3 (by have:=HBb.out.size;rw [HV.out.2.2] at this;omega),(HBa.out.trans (HFin.out.2.2.mono HBa.out.size)).trans r4⟩
  ·have hb3:Below wa.heap.size wa w3:=HBb.out.grown hg3 HBb.out.size (fun k e=>by have:=HLg.out;injection e with e;omega)
   have ha:=(hb3.block _ (by rw [HV.out.2.2];omega)).trans HV.out.1
   have hb:=(hb3.block _ (by rw [HV.out.2.2];omega)).trans HV.out.2.1
   refine leaves_cons (f:=80) (args:= #[.pointer (some ⟨w.heap.size,0,none⟩),.pointer (some ⟨w.heap.size+1,0,none⟩)]) (by simp) (by simp [go_sem]) ?_
   refine (zeG w.heap.size (w.heap.size+1) false false _ _ _ _ ha hb (by omega)).mono ?_
   rintro e u' w'' ⟨rfl,rfl,rfl⟩
   obtain ⟨r1,r2,r3,r4⟩:=zgC (B:=w.heap.size+2) (lf:=false) (ok:=false) (v1:= .slice none 0 0) (v2:= .slice none 0 0) (v3:= .slice none 0 0) ha hb (zba _ _) (by omega) (by omega)
   have z0:=(za0 r1 0).1;have z1:=(za0 r1 1).1;have z2:=(za0 r1 2).1;have z3:=(za0 r1 3).1;have zb:=(za0 r2 0).1
   exact ⟨.tuple #[.agg #[.bool false,.slice none 0 0,.slice none 0 0,.slice none 0 0],.bool false],by simp [results,Tryz.results55,go_sem,z0,z1,z2,z3,zb],Nd.none,_,false,rfl,Or.inr ⟨rfl,rfl,fun m hm=>hno m ((HIs.out m).1 hm)⟩,zax r3 (by omega),(HBa.out.trans (hb3.mono HBa.out.size)).trans r4⟩
end Go.Proofs.YtcbogiebfbbmbaaGreatDoor
