/-
  Facts and contracts that the law's own text rests on, by their texts' names: WayOf.
-/
import Derived.Test.YtcbogiebfbbmbaaGreatDoorDa40
import Derived.Test.YtcbogiebfbbmbaaGreatDoorDa19
import Derived.Test.YtcbogiebfbbmbaaGreatDoorDa29
set_option maxHeartbeats 16000000
set_option maxRecDepth 100000
namespace Go.Proofs.YtcbogiebfbbmbaaGreatDoor
open Go.RowKit
def LvArr (cs:Array Value) (l:List LvV):Prop:=cs.size=48/\cs.toList.all (·.oneCell')=true/\l.length<=8/\∀(i j:Nat) (e:LvV),l[i]?=some e->j<6->cs[i * 6+j]?=(lv6 e)[j]?
theorem ziV:∀(vs:List Value) (cs:Array Value) (o:Nat),(over cs o vs).size=cs.size
 | [],cs,o=>rfl
 | v :: r,cs,o=>by rw [over,ziV r];simp
theorem zi0:∀(vs:List Value) (cs:Array Value) (o j:Nat),o+vs.length<=cs.size->(over cs o vs)[j]?=if o<=j/\j<o+vs.length then vs[j - o]? else cs[j]?
 | [],cs,o,j,h=>by rw [if_neg (by rw [List.length_nil];omega)];rfl
 | v :: r,cs,o,j,h=>by
  rw [List.length_cons] at h
  rw [over,zi0 r _ _ _ (by rw [Array.size_setIfInBounds];omega)]
  by_cases e:j=o
  ·subst e
   rw [if_neg (by omega),if_pos (by simp),Nat.sub_self,Array.getElem?_setIfInBounds_self_of_lt (by omega)]
   rfl
  ·by_cases e2:o+1<=j/\j<o+1+r.length
   ·rw [if_pos e2,if_pos (by rw [List.length_cons];omega),show j - o=(j - (o+1))+1 by omega]
    rfl
   ·rw [if_neg e2,if_neg (by rw [List.length_cons];omega),Array.getElem?_setIfInBounds_ne (fun h=>e h.symm)]
theorem zl2 {W:World} {g:Nat} {cs:Array Value} {T:TypeId} (h:W.heap[g]?=some (.cells cs T (0,0))) (o:Nat) (vs:List Value):(W.setCells g o vs).heap[g]?=some (.cells (over cs o vs) T (0,0)):=by
 have hs:Sep 0 W [cellA g (.cells cs T (0,0))]:=zaY.2 ⟨⟨h,fun k hk=>by have hk:k=g:=hk;subst hk;exact ⟨Nat.zero_le _,(Array.getElem?_eq_some_iff.1 h).1⟩⟩,fun A hA=>by (cases hA),zcV 0 W⟩
 exact za2 (zgt vs o hs 0 rfl) 0 rfl
theorem zl3 {cs:Array Value} {l:List LvV} (h:LvArr cs l) (e:LvV) (hl:l.length<8) (he:(lv6 e).all (·.oneCell')=true):LvArr (over cs (l.length * 6) (lv6 e)) (l++ [e]):=by
 obtain ⟨h1,h2,h3,h4⟩:=h
 have hb:l.length * 6+(lv6 e).length<=cs.size:=by rw [h1];show l.length * 6+6<=48;omega
 have h6:(lv6 e).length=6:=rfl
 refine ⟨by rw [ziV];exact h1,?_,by simp;omega,fun i j x hx hj=> ?_⟩
 ·rw [List.all_eq_true] at h2 he⊢
  intro u hu;obtain ⟨j,hj,e2⟩:=List.getElem_of_mem hu
  have e3:(over cs (l.length * 6) (lv6 e))[j]?=some u:=by rw [<-Array.getElem?_toList,List.getElem?_eq_getElem hj,e2]
  rw [zi0 _ _ _ _ hb] at e3
  split at e3
  ·exact he u (List.mem_of_getElem? e3)
  ·exact h2 u (Array.mem_toList_iff.2 (Array.mem_of_getElem? e3))
 ·rw [zi0 _ _ _ _ hb]
  by_cases hi:i<l.length
  ·rw [List.getElem?_append_left hi] at hx
   rw [if_neg (by omega)]
   exact h4 i j x hx hj
  ·rw [List.getElem?_append_right (by omega)] at hx
   have hi2:i=l.length:=by
    have:=(List.getElem?_eq_some_iff.1 hx).1
    simp at this
    omega
   subst hi2;rw [Nat.sub_self] at hx
   injection hx with hx
   subst hx
   rw [if_pos (by rw [h6];omega),show l.length * 6+j - l.length * 6=j by omega]
def z48:Array Value:= #[.int .i64 0,.bool false,.slice none 0 0,.slice none 0 0,.slice none 0 0,.int .i64 0,.int .i64 0,.bool false,.slice none 0 0,.slice none 0 0,.slice none 0 0,.int .i64 0,.int .i64 0,.bool false,.slice none 0 0,.slice none 0 0,.slice none 0 0,.int .i64 0,.int .i64 0,.bool false,.slice none 0 0,.slice none 0 0,.slice none 0 0,.int .i64 0,.int .i64 0,.bool false,.slice none 0 0,.slice none 0 0,.slice none 0 0,.int .i64 0,.int .i64 0,.bool false,.slice none 0 0,.slice none 0 0,.slice none 0 0,.int .i64 0,.int .i64 0,.bool false,.slice none 0 0,.slice none 0 0,.slice none 0 0,.int .i64 0,.int .i64 0,.bool false,.slice none 0 0,.slice none 0 0,.slice none 0 0,.int .i64 0]
theorem zl4:LvArr z48 []:=⟨rfl,rfl,by simp,fun i j e h=>by simp at h⟩
theorem LvN.keptA {w w':World} {B g T:Nat} {e:LvV} {cs:Array Value} {fz:Nat×Nat} (h:LvN w B e) (hk:Kept w w' (fun j=>j=g)) (hg:w.heap[g]?=some (.cells cs T fz)) (h1:9≠T) (h2:3≠T):LvN w' B e:=
 ⟨za6 h.1 hk (fun j hj e=>zjl h.1 h1 hg (by rw [hj,e])),za6 h.2.1 hk (fun j hj e=>zjl h.2.1 h1 hg (by rw [hj,e])),za6 h.2.2 hk (fun j hj e=>zjl h.2.2 h2 hg (by rw [hj,e]))⟩
theorem zbD (W:World) (g o:Nat) (vs:List Value):Kept W (W.setCells g o vs) (fun j=>j=g):=
 ⟨World.os_setCells _ _ _ _,(zai (B:=g) (W0:=W) (Nat.le_refl _) vs o W (Below.refl _ _)).tape,World.output_setCells _ _ _ _,by rw [zcG];exact Nat.le_refl _,fun k h1 h2=>World.heap_setCells_other W g o _ h1 h2⟩
theorem Tryz.sizeArrL:(Tryz.prog.info? 98).map (·.size)=some 48:=by kernel_rfl
theorem Tryz.sizeLv:(Tryz.prog.info? 97).map (·.size)=some 6:=by kernel_rfl
theorem zmp (v:Value) (ps:List ByteArray) (ls:List (Int×ByteArray)) (hp:ps.length<=1048576) (hl:ls.length<=1048576) (hps:∀s∈ps,s.size<=1048576) (hls:∀p∈ls,p.2.size<=1048576) (root:Int) (key:ByteArray) (ws:List WLvl) (hws:wayD (fun q=>rdN (readD ps ls q)) key 8 root=some ws) (w:World) (hT:SumTab w) (hd:DiskAt w v ps ls):
  Calls Tryz.prog 49 #[v,.int .i64 root,.string key] w fun e w'=>∃cs l,e= .returned (.tuple #[.agg cs,.int .i64 (ws.length:Int)])/\l.map Prod.fst=ws/\LvArr cs l/\(∀e∈l,LvN w' w.heap.size e)/\Below w.heap.size w w':=by
 have HRP:=hide (fun p wx h=>zbY v ps ls hp hl hps hls p wx h)
 have HRN:=hide (fun p wx h=>zbZ (readD ps ls p) (zbr hps hls p) wx h)
 have HD:=hide hd;have HT:=hide hT;obtain ⟨D,hD⟩:∃D,D=readD ps ls:=⟨_,rfl⟩;rw [<-hD] at HRP HRN hws;have HW0:=hide hws;obtain ⟨vp,vl,rfl,-,-⟩:=hd;obtain ⟨w0,hw0⟩:∃x,x=((w.alloc (.cells #[vp,vl] 29)).alloc (.cells z48 98)).alloc (.cells z48 98):=⟨_,rfl⟩
 have HB0:Hid (Below w.heap.size w w0):=hide (by rw [hw0];exact (((Below.refl _ _).alloc (Nat.le_refl _) _).alloc (by simp) _).alloc (by simp;omega) _)
 have HV0:Hid (w0.heap[w.heap.size]?=some (.cells #[vp,vl] 29 (0,0))):=hide (by rw [hw0,heap_alloc_old _ _ (by simp;omega),heap_alloc_old _ _ (by simp)];exact heap_alloc_new w _)
 have HR0:Hid (w0.heap[w.heap.size+1]?=some (.cells z48 98 (0,0))):=hide (by
  rw [hw0,heap_alloc_old _ _ (by simp)]
  have h:=heap_alloc_new (w.alloc (.cells #[vp,vl] 29)) (.cells z48 98)
  rw [show (w.alloc (Obj.cells #[vp,vl] 29)).heap.size=w.heap.size+1 from by simp] at h
  exact h)
 have HA0:Hid (w0.heap[w.heap.size+1+1]?=some (.cells z48 98 (0,0))):=hide (by
  rw [hw0];have h:=heap_alloc_new ((w.alloc (.cells #[vp,vl] 29)).alloc (.cells z48 98)) (.cells z48 98)
  rw [show ((w.alloc (Obj.cells #[vp,vl] 29)).alloc (Obj.cells z48 98)).heap.size=w.heap.size+1+1 from by simp] at h
  exact h)
 clear hp hl hps hls hD hT hws;go_enter Tryz.func49,Tryz.ntmps49;go_wp2_with fail;rw [z48] at hw0;rw [<-hw0];clear hw0
 go_loopg [9,10] 8 (fun q dv pv wr=>∃(k:Nat) (p:Int) (l:List LvV) (r:List WLvl) (cs:Array Value),q+k=8/\dv= .int .i64 (k:Int)/\pv= .int .i64 p/\l.length=k/\Hid (wayD (fun q=>rdN (D q)) key q p=some r/\l.map Prod.fst++r=ws)/\Hid (LvArr cs l)/\Hid (wr.heap[w.heap.size+1+1]?=some (.cells cs 98 (0,0))/\wr.heap[w.heap.size+1]?=some (.cells z48 98 (0,0))/\wr.heap[w.heap.size]?=some (.cells #[vp,vl] 29 (0,0)))/\Hid (∀e∈l,LvN wr w.heap.size e)/\Hid (Below w.heap.size w wr))
 case atStart=>exact ⟨0,root,[],ws,z48,rfl,rfl,rfl,rfl,hide ⟨HW0.out,rfl⟩,hide zl4,hide ⟨HA0.out,HR0.out,HV0.out⟩,hide (fun e he=>by cases he),HB0⟩
 case round=>
  obtain ⟨k,p,l,r,cs,hq,rfl,rfl,hlk,HW,HC,HG,HN,HB⟩:=hrel;subst hlk;have p0:=(za0 HG.out.2.2 0).1;have p1:=(za0 HG.out.2.2 1).1
  obtain ⟨q,rfl⟩:∃q,gk=q+1:=by
   cases gk with
   | zero=>have:=HW.out.1;rw [wayD] at this;cases this
   | succ q=>exact ⟨q,rfl⟩
  have hk:(l.length:Int)<8:=by omega
  go_wp2_with fail;refine (HRP.out p _ (zak HD.out HB.out)).mono ?_;rintro e w1 ⟨rfl,hb1⟩;have HB1:Hid (Below w.heap.size w w1):=hide (HB.out.trans (hb1.mono HB.out.size));have HG1:=hide (⟨stays HG.out.1 hb1,stays HG.out.2.1 hb1,stays HG.out.2.2 hb1⟩:_/\_/\_)
  have HN1:Hid (∀e∈l,LvN w1 w.heap.size e):=hide (fun e he=>(HN.out e he).below hb1)
  clear hb1 p0 p1 HN;go_wp2_with fail;refine (HRN.out p _ (zag HT.out HB1.out)).mono ?_;rintro e w2 ⟨n,v2,ok,rfl,hrn,hno,hb2⟩;have HB2:Hid (Below w.heap.size w w2):=hide (HB1.out.trans (hb2.mono HB1.out.size));have HG2:=hide (⟨stays HG1.out.1 hb2,stays HG1.out.2.1 hb2,stays HG1.out.2.2 hb2⟩:_/\_/\_)
  have HN2:Hid (∀e∈l,LvN w2 w.heap.size e):=hide (fun e he=>(HN1.out e he).below hb2)
  have HRd:=hide (zgi hrn);have HNo:=hide hno;obtain ⟨a1,c1,a2,c2,a3,c3,rfl⟩:=zb8 hno
  have HPl:=hide (fun wx h=>zdm (.agg #[.bool n.lf,.slice a1 n.ks.length c1,.slice a2 n.vs.length c2,.slice a3 n.cs.length c3]) n.lf n.ks n.vs n.cs (by have:=(ziD hrn).1;omega) key wx h)
  have hwd:=HW.out.1;rw [wayD,HRd.out] at hwd;dsimp only at hwd
  by_cases hbad:ok=false\/placeK n.ks key n.ks.length<0
  ·rw [if_pos hbad] at hwd;cases hwd
  rw [if_neg hbad] at hwd;rw [not_or] at hbad
  obtain ⟨a,ha⟩:∃a:Nat,placeK n.ks key n.ks.length=(a:Int):=⟨(placeK n.ks key n.ks.length).toNat,by omega⟩
  have hal:a<n.ks.length:=by have:=(zbR n.ks key n.ks.length).2;omega
  have hok:ok=true:=by cases ok with | true=>rfl | false=>exact absurd rfl hbad.1
  subst hok;rw [ha,Int.toNat_natCast] at hwd;rw [ha] at HPl;have HWd:=hide hwd;have HOk:Hid (n.ok=true):=hide (zew HRd.out);obtain ⟨wa,hwa⟩:∃wa,wa=w2.alloc (.cells #[.bool n.lf,.slice a1 n.ks.length c1,.slice a2 n.vs.length c2,.slice a3 n.cs.length c3] 71 (0,0)):=⟨_,rfl⟩
  have hba:Below w2.heap.size w2 wa:=by rw [hwa];exact (Below.refl _ _).alloc (Nat.le_refl _) _
  obtain ⟨g,hg⟩:∃g,g=w2.heap.size:=⟨_,rfl⟩
  have HNa:Hid (wa.heap[g]?=some (.cells #[.bool n.lf,.slice a1 n.ks.length c1,.slice a2 n.vs.length c2,.slice a3 n.cs.length c3] 71 (0,0))):=hide (by rw [hwa,hg];exact heap_alloc_new w2 _)
  have HBa:Hid (Below w.heap.size w wa):=hide (HB2.out.trans (hba.mono HB2.out.size));have HGa:=hide (⟨stays HG2.out.1 hba,stays HG2.out.2.1 hba,stays HG2.out.2.2 hba⟩:_/\_/\_)
  have HNl:Hid (∀e∈l,LvN wa w.heap.size e):=hide (fun e he=>(HN2.out e he).below hba)
  have HNd:=hide (zaV HNo.out hba);have HAl:=hide hal;clear hrn hb2 hba hno HN2 HN1 hwd hbad ha hal;go_wp2_with fail;rw [<-hwa,<-hg];clear hwa hg;refine (HPl.out _ (zbi HNd.out)).mono ?_;rintro e w3 ⟨rfl,hb3⟩;have HB3:Hid (Below w.heap.size w w3):=hide (HBa.out.trans (hb3.mono HBa.out.size));have HG3:=hide (⟨stays HGa.out.1 hb3,stays HGa.out.2.1 hb3,stays HGa.out.2.2 hb3⟩:_/\_/\_);have hN3:=stays HNa.out hb3;have HNg:=hide hN3;have n0:=(za0 hN3 0).1;have n1:=(za0 hN3 1).1;have n2:=(za0 hN3 2).1;have n3:=(za0 hN3 3).1
  have HNl3:Hid (∀e∈l,LvN w3 w.heap.size e):=hide (fun e he=>(HNl.out e he).below hb3)
  have HLv:Hid (∀x,LvN w3 w.heap.size ((p,n,x),.slice a1 n.ks.length c1,.slice a2 n.vs.length c2,.slice a3 n.cs.length c3)):=hide (fun x=>lvN_own HB1.out.size (zaV HNd.out hb3))
  obtain ⟨lf,hlf⟩:∃lf,lf=n.lf:=⟨_,rfl⟩;have HLf:=hide hlf;rw [<-hlf] at n0;clear hb3 hN3 HNl hlf
  have HTh:Hid (w3.there (w.heap.size+1+1) (l.length * 6) (#[.int .i64 p,.bool lf,.slice a1 n.ks.length c1,.slice a2 n.vs.length c2,.slice a3 n.cs.length c3,.int .i64 (a:Int)]:Array Value).size):=hide (zav HG3.out.1 (l.length * 6) 6 (by rw [HC.out.1];omega))
  obtain ⟨w4,hw4⟩:∃x,w3.setCells (w.heap.size+1+1) (l.length * 6) (#[.int .i64 p,.bool lf,.slice a1 n.ks.length c1,.slice a2 n.vs.length c2,.slice a3 n.cs.length c3,.int .i64 (a:Int)]:Array Value).toList=x:=⟨_,rfl⟩
  have HKp:Hid (Kept w3 w4 (fun j=>j=w.heap.size+1+1)):=hide (by rw [<-hw4];exact zbD _ _ _ _)
  have HE:Hid (((#[.int .i64 p,.bool lf,.slice a1 n.ks.length c1,.slice a2 n.vs.length c2,.slice a3 n.cs.length c3,.int .i64 (a:Int)]:Array Value).toList=lv6 ((p,n,(a:Int)),.slice a1 n.ks.length c1,.slice a2 n.vs.length c2,.slice a3 n.cs.length c3))):=hide (by rw [HLf.out];rfl)
  obtain ⟨cs2,hcs2⟩:∃x,x=over cs (l.length * 6) (#[.int .i64 p,.bool lf,.slice a1 n.ks.length c1,.slice a2 n.vs.length c2,.slice a3 n.cs.length c3,.int .i64 (a:Int)]:Array Value).toList:=⟨_,rfl⟩
  have HC2:Hid (LvArr cs2 (l++ [((p,n,(a:Int)),.slice a1 n.ks.length c1,.slice a2 n.vs.length c2,.slice a3 n.cs.length c3)])):=hide (by rw [hcs2,HE.out];exact zl3 HC.out _ (by omega) rfl)
  have HG4:Hid (w4.heap[w.heap.size+1+1]?=some (.cells cs2 98 (0,0))/\w4.heap[w.heap.size+1]?=some (.cells z48 98 (0,0))/\w4.heap[w.heap.size]?=some (.cells #[vp,vl] 29 (0,0))):=hide ⟨by rw [<-hw4,hcs2];exact zl2 HG3.out.1 _ _,(HKp.out.2.2.2.2 _ (Array.getElem?_eq_some_iff.1 HG3.out.2.1).1 (by omega)).trans HG3.out.2.1,(HKp.out.2.2.2.2 _ (Array.getElem?_eq_some_iff.1 HG3.out.2.2).1 (by omega)).trans HG3.out.2.2⟩
  have HZg:Hid (g≠w.heap.size+1+1):=hide (fun e=>by have h1:=HNg.out;rw [e,HG3.out.1] at h1;injection h1 with h1;injection h1 with h1 h2 h3;exact absurd h2 (by decide))
  have hN4:=(HKp.out.2.2.2.2 _ (Array.getElem?_eq_some_iff.1 HNg.out).1 HZg.out).trans HNg.out
  have HN4:Hid (∀e∈l++ [(((p,n,(a:Int)),.slice a1 n.ks.length c1,.slice a2 n.vs.length c2,.slice a3 n.cs.length c3):LvV)],LvN w4 w.heap.size e):=hide (fun e he=>by
   rcases List.mem_append.1 he with he | he
   ·exact (HNl3.out e he).keptA HKp.out HG3.out.1 (by decide) (by decide)
   ·rw [List.mem_singleton] at he
    subst he
    exact (HLv.out _).keptA HKp.out HG3.out.1 (by decide) (by decide))
  have HB4:Hid (Below w.heap.size w w4):=hide (HB3.out.trans (zac HKp.out HB3.out.size (fun j e=>by omega)))
  have q0:=(za0 hN4 0).1;have q3:=(za0 hN4 3).1;rw [<-HLf.out] at q0;have HW4:=hide hw4;have HZ:Hid (cs2.size=48/\cs2.toList.all (·.oneCell')=true/\w.heap.size+1+1<w4.heap.size):=hide ⟨HC2.out.1,HC2.out.2.1,(Array.getElem?_eq_some_iff.1 HG4.out.1).1⟩;clear hw4 hcs2 hN4
  cases lf with
  | true=>
   have HR:Hid (r= [(p,n,(a:Int))]):=hide (by
    have:=HWd.out;rw [if_pos HLf.out.symm] at this
    split at this
    ·injection this with this;exact this.symm
    ·cases this)
   have HTr:Hid (w4.there (w.heap.size+1) 0 cs2.size):=hide (zav HG4.out.2.1 0 cs2.size (by rw [HZ.out.1];exact Nat.le_refl 48))
   obtain ⟨w5,hw5⟩:∃x,w4.setCells (w.heap.size+1) 0 cs2.toList=x:=⟨_,rfl⟩
   have HK5:Hid (Kept w4 w5 (fun j=>j=w.heap.size+1)):=hide (by rw [<-hw5];exact zbD _ _ _ _)
   have HR5:Hid (w5.heap[w.heap.size+1]?=some (.cells cs2 98 (0,0))):=hide (by rw [<-hw5];exact zbs HG4.out.2.1 cs2 (by rw [HZ.out.1];rfl))
   have HW5:=hide hw5
   have HS48:Hid ((Tryz.prog.info? 98).map (·.size)=some cs2.size):=hide (by rw [HZ.out.1];exact Tryz.sizeArrL)
   clear hw5
   go_wp2_with (first | ((with_reducible refine zao ?_ 97 (.tmp 34) (.tmp 33) ?_ (w.heap.size+1+1) (l.length * 6) _ ?_ ?_ HTh.out ?_ ?_ HW4.out ?_);exact rfl;exact rfl;exact rfl;exact rfl;exact Tryz.sizeLv;exact rfl) | ((with_reducible refine zay ?_ 98 (.tmp 8) ?_ (w.heap.size+1+1) 0 ?_ cs2 (zaj HG4.out.1) _ Tryz.underlying98 ?_ ?_ ?_);exact rfl;exact rfl;exact rfl;exact rfl;exact HS48.out) | ((with_reducible refine zao ?_ 98 (.tmp 6) (.tmp 37) ?_ (w.heap.size+1) 0 cs2 ?_ ?_ HTr.out ?_ ?_ HW5.out ?_);exact rfl;exact rfl;exact rfl;exact rfl;exact HS48.out;exact HZ.out.2.1) | fail)
   refine bodyPost_ret (v:= .tuple #[.agg cs2,.int .i64 ((l.length:Int)+1)]) (zkJ Tryz.results49 rfl rfl (zcX (zaj HR5.out) Tryz.underlying98 rfl HS48.out)) rfl ⟨cs2,_,?_,?_,HC2.out,fun e he=>(HN4.out e he).keptA HK5.out HG4.out.2.1 (by decide) (by decide),HB4.out.trans (zac HK5.out HB4.out.size (fun j e=>by omega))⟩
   ·rw [<-HW.out.2,HR.out,List.length_append,List.length_map]
    rfl
   ·rw [<-HW.out.2,HR.out,List.map_append]
    rfl
  | false=>
   have hev:=(zbj HOk.out).2 HLf.out.symm
   have hal:a<n.cs.length:=by rw [hev.1];exact HAl.out
   obtain ⟨r',hr',hr⟩:∃r',wayD (fun q=>rdN (D q)) key q (n.cs.getD a 0)=some r'/\r=(p,n,(a:Int)) :: r':=by
    have:=HWd.out
    rw [if_neg (by rw [<-HLf.out];decide)] at this
    obtain ⟨r',h1,h2⟩:=Option.map_eq_some_iff.1 this;exact ⟨r',h1,h2.symm⟩
   obtain ⟨gk',hgk,hck⟩:=zd1 (i:=a) (HN4.out _ (List.mem_append_right _ (List.mem_singleton.2 rfl))).2.2 hal rfl;dsimp only at hgk hck;subst hgk;obtain ⟨kd,hkd⟩:∃z,z=n.cs.getD a 0:=⟨_,rfl⟩;rw [<-hkd] at hck hr'
   have HW6:Hid (wayD (fun q=>rdN (D q)) key q kd=some r'/\(l++ [(((p,n,(a:Int)),.slice a1 n.ks.length c1,.slice a2 n.vs.length c2,.slice (some ⟨gk',0,none⟩) n.cs.length c3):LvV)]).map Prod.fst++r'=ws):=hide ⟨hr',by rw [<-HW.out.2,hr,List.map_append,List.append_assoc];rfl⟩
   have ha0:(0:Int)<=(a:Int):=by omega
   have ha1:(a:Int)<(n.cs.length:Int):=by omega
   clear hr hr' hkd hev hal
   go_wp2_with (first | ((with_reducible refine zao ?_ 97 (.tmp 34) (.tmp 33) ?_ (w.heap.size+1+1) (l.length * 6) _ ?_ ?_ HTh.out ?_ ?_ HW4.out ?_);exact rfl;exact rfl;exact rfl;exact rfl;exact Tryz.sizeLv;exact rfl) | fail)
   go_roundg q
   case measure=>omega
   case rel=>exact ⟨l.length+1,kd,_,r',cs2,by omega,by go_num,rfl,by simp,HW6,HC2,HG4,HN4,HB4⟩
end Go.Proofs.YtcbogiebfbbmbaaGreatDoor
