/-
  Facts and contracts that the law's own text rests on, by their texts' names: WayI.
-/
import Derived.Deep.Cut
import Derived.Test.YtcbogiebfbbmbaaGreatDoorPm21
import Derived.Test.YtcbogiebfbbmbaaGreatDoorPm22
import Derived.Test.YtcbogiebfbbmbaaGreatDoorPm14
import Derived.Test.YtcbogiebfbbmbaaGreatDoorPm13
import Derived.Test.YtcbogiebfbbmbaaGreatDoorPm23
set_option maxHeartbeats 16000000
set_option maxRecDepth 100000
namespace Go.Proofs.YtcbogiebfbbmbaaGreatDoor
open Go.RowKit
abbrev LvV:=WLvl×Value×Value×Value
def lv6 (e:LvV):List Value:= [.int .i64 e.1.1,.bool e.1.2.1.lf,e.2.1,e.2.2.1,e.2.2.2,.int .i64 e.1.2.2]
def wlvs (l:List LvV):List Value:=l.flatMap lv6
theorem ziA (l:List LvV) (e:LvV):wlvs (l++ [e])=wlvs l++lv6 e:=by simp [wlvs]
theorem wlvs_at (l:List LvV):∀(k j:Nat) (e:LvV),l[k]?=some e->j<6->(wlvs l)[k * 6+j]?=(lv6 e)[j]?:=by
 induction l with
 | nil=>intro k j e h;simp at h
 | cons q l ih=>
  intro k j e h hj;rw [wlvs,List.flatMap_cons]
  cases k with
  | zero=>
   simp at h
   subst h
   rw [List.getElem?_append_left (by simp [lv6];omega),Nat.zero_mul,Nat.zero_add]
  | succ k=>
   rw [List.getElem?_append_right (by simp [lv6];omega)]
   have:=ih k j e (by simpa using h) hj
   rw [wlvs] at this;rw [<-this]
   congr 1
   simp [lv6]
   omega
theorem zfu {w:World} {B e sz n cap:Nat} {a:Option Addr} {xs:List Value} (h:w.ownsRow B e sz (.slice a n cap) n xs):n<=cap:=by
 rcases h.2 with ⟨e,h0⟩ | ⟨g,c,cur,e,-,-,h1,-⟩
 ·omega
 ·injection e with e1 e2 e3
  omega
theorem zm6 {w:World} {B e sz n g:Nat} {v:Value} {xs:List Value} {cs:Array Value} {T:TypeId} {fz:Nat×Nat} (h:w.ownsRow B e sz v n xs) (hne:e≠T) (hg:w.heap[g]?=some (.cells cs T fz)):v.ownBlock≠some g:=by
 rcases h.2 with ⟨rfl,_⟩ | ⟨g',cap,cur,rfl,_,hgg,_⟩
 ·simp [Value.ownBlock]
 ·simp [Value.ownBlock]
  rintro rfl;rw [hgg] at hg
  injection hg with hg
  injection hg with h1 h2
  exact hne h2
def LvN (w:World) (B:Nat) (e:LvV):Prop:=w.ownsRow B 9 1 e.2.1 e.1.2.1.ks.length (strs e.1.2.1.ks)/\w.ownsRow B 9 1 e.2.2.1 e.1.2.1.vs.length (strs e.1.2.1.vs)/\w.ownsRow B 3 1 e.2.2.2 e.1.2.1.cs.length (ints e.1.2.1.cs)
theorem LvN.below {w w':World} {B:Nat} {e:LvV} (h:LvN w B e) (hb:Below w.heap.size w w'):LvN w' B e:=⟨za6 h.1 hb,za6 h.2.1 hb,za6 h.2.2 hb⟩
theorem LvN.grown {w w':World} {B B' n:Nat} {e:LvV} {u:Value} {xs:List Value} {o:Obj} (h:LvN w B e) (hu:w.ownsRow B' 97 6 u n xs) (hg:(w.alloc o).grownBy w' u.ownBlock):LvN w' B e:=by
 have go:∀{T:TypeId} {v:Value} {m:Nat} {ys:List Value},T≠97->w.ownsRow B T 1 v m ys->w'.ownsRow B T 1 v m ys:=by
  intro T v m ys hne hv;refine (hv.alloc o).kept (row:=u.ownBlock) hg ?_
  cases hub:v.ownBlock with
  | none=>exact Or.inl rfl
  | some k=>
   right
   intro e;exact zbf hv hu hne k hub e.symm
 exact ⟨go (by decide) h.1,go (by decide) h.2.1,go (by decide) h.2.2⟩
theorem lvN_own {w:World} {B B':Nat} (hB:B'<=B) {n:Nd} {p at_:Int} {a1 a2 a3:Option Addr} {c1 c2 c3:Nat} (h:NodeOwn w B (.agg #[.bool n.lf,.slice a1 n.ks.length c1,.slice a2 n.vs.length c2,.slice a3 n.cs.length c3]) n.lf n.ks n.vs n.cs):LvN w B' ((p,n,at_),.slice a1 n.ks.length c1,.slice a2 n.vs.length c2,.slice a3 n.cs.length c3):=by
 obtain ⟨vk,vv,vc,e,h1,h2,h3,-⟩:=h;obtain ⟨-,rfl,rfl,rfl⟩:=agg4 e;exact ⟨zaa h1 hB,zaa h2 hB,zaa h3 hB⟩
def WayOwn (w:World) (B:Nat) (v:Value) (ws:List WLvl):Prop:=∃l:List LvV,l.map Prod.fst=ws/\w.ownsRow B 97 6 v l.length (wlvs l)/\∀e∈l,LvN w B e
theorem Tryz.infoLv:(Tryz.prog.info? 97).map (fun i=>(i.zero,i.size,i.bytes))=some (some (.agg #[.int .i64 0,.bool false,.slice none 0 0,.slice none 0 0,.slice none 0 0,.int .i64 0]),6,96):=by kernel_rfl
theorem zju (v:Value) (ps:List ByteArray) (ls:List (Int×ByteArray)) (hp:ps.length<=1048576) (hl:ls.length<=1048576) (hps:∀s∈ps,s.size<=1048576) (hls:∀p∈ls,p.2.size<=1048576) (root:Int) (key:ByteArray) (ws:List WLvl) (hws:wayS (fun q=>rdN (readD ps ls q)) key 8 root=some ws) (w:World) (hT:SumTab w) (hd:DiskAt w v ps ls):
  Calls Tryz.prog 38 #[v,.int .i64 root,.string key] w fun e w'=>∃u,e= .returned (.tuple #[u,.bool true])/\WayOwn w' w.heap.size u ws/\Below w.heap.size w w':=by
 obtain ⟨i0,hinf,hz0,hz1,hz2⟩:=info_parts Tryz.infoLv
 have HRP:=hide (fun p wx h=>zd1 v ps ls hp hl hps hls p wx h)
 have HRN:=hide (fun p wx h=>zd0 (readD ps ls p) (zbP hps hls p) wx h)
 have HD:=hide hd;have HT:=hide hT;obtain ⟨D,hD⟩:∃D,D=readD ps ls:=⟨_,rfl⟩;rw [<-hD] at HRP HRN hws;have HW0:=hide hws;obtain ⟨vp,vl,rfl,-,-⟩:=hd
 have HB0:Hid (∀T,Below w.heap.size w ((w.alloc (.cells #[vp,vl] 29)).alloc (.cells #[] T))):=hide (fun T=>((Below.refl w.heap.size w).alloc (Nat.le_refl _) _).alloc (by simp) _)
 have HV0:Hid (((w.alloc (.cells #[vp,vl] 29)).alloc (.cells #[] 97)).heap[w.heap.size]?=some (.cells #[vp,vl] 29 (0,0))):=hide (by rw [heap_alloc_old _ _ (by simp)];exact heap_alloc_new w _)
 have HE0:Hid (((w.alloc (.cells #[vp,vl] 29)).alloc (.cells #[] 97)).ownsRow w.heap.size 97 6 (.slice (some ⟨w.heap.size+1,0,none⟩) 0 0) 0 []):=hide (by
  have h:=World.ownsRow_lit (base:=w.heap.size) (e:=97) (size:=6) (w.alloc (.cells #[vp,vl] 29)) #[] 0 (by simp) (by unfold maxLen;omega) (by simp)
  rw [show (w.alloc (Obj.cells #[vp,vl] 29)).heap.size=w.heap.size+1 from by simp] at h
  exact h)
 clear hp hl hps hls hD hT hws;go_enter Tryz.func38,Tryz.ntmps38;go_wp2_with fail
 go_loopg [8,9,15] 8 (fun q uv pv dv wr=>∃(k:Nat) (p:Int) (l:List LvV) (r:List WLvl),q+k=8/\dv= .int .i64 (k:Int)/\pv= .int .i64 p/\l.length=k/\Hid (wayS (fun q=>rdN (D q)) key q p=some r/\l.map Prod.fst++r=ws)/\Hid (wr.ownsRow w.heap.size 97 6 uv l.length (wlvs l))/\Hid (∀e∈l,LvN wr w.heap.size e)/\Hid (Below w.heap.size w wr)/\Hid (wr.heap[w.heap.size]?=some (.cells #[vp,vl] 29 (0,0))))
 case atStart=>exact ⟨0,root,[],ws,rfl,rfl,rfl,rfl,hide ⟨HW0.out,rfl⟩,HE0,hide (fun e he=>by cases he),hide (HB0.out _),HV0⟩
 case round=>
  obtain ⟨k,p,l,r,hq,rfl,rfl,hlk,HW,HO,HN,HB,HV⟩:=hrel;subst hlk;obtain ⟨ua,uc,rfl⟩:=za4 HO.out;have p0:=(za0 HV.out 0).1;have p1:=(za0 HV.out 1).1
  obtain ⟨q,rfl⟩:∃q,gk=q+1:=by
   cases gk with
   | zero=>have:=HW.out.1;rw [wayS] at this;cases this
   | succ q=>exact ⟨q,rfl⟩
  have hk:(l.length:Int)<8:=by omega
  go_wp2_with fail;refine (HRP.out p _ (zak HD.out HB.out)).mono ?_;rintro e w1 ⟨rfl,hb1⟩;have HB1:Hid (Below w.heap.size w w1):=hide (HB.out.trans (hb1.mono HB.out.size));have HV1:=hide (stays HV.out hb1);have HO1:=hide (za6 HO.out hb1)
  have HN1:Hid (∀e∈l,LvN w1 w.heap.size e):=hide (fun e he=>(HN.out e he).below hb1)
  clear hb1 p0 p1 HO HN;go_wp2_with fail;refine (HRN.out p _ (zah HT.out HB1.out)).mono ?_;rintro e w2 ⟨n,v2,ok,rfl,hrn,hno,hb2⟩;have HB2:Hid (Below w.heap.size w w2):=hide (HB1.out.trans (hb2.mono HB1.out.size));have HV2:=hide (stays HV1.out hb2);have HO2:=hide (za6 HO1.out hb2)
  have HN2:Hid (∀e∈l,LvN w2 w.heap.size e):=hide (fun e he=>(HN1.out e he).below hb2)
  have HRd:=hide (zh0 hrn);have HNo:=hide hno;obtain ⟨a1,c1,a2,c2,a3,c3,rfl⟩:=zbv hno
  have HPl:=hide (fun wx h=>zgd (.agg #[.bool n.lf,.slice a1 n.ks.length c1,.slice a2 n.vs.length c2,.slice a3 n.cs.length c3]) n.lf n.ks n.vs n.cs (by have:=(ziy hrn).1;omega) key wx h)
  obtain ⟨at_,hat⟩:∃at_,at_=placeK n.ks key n.ks.length:=⟨_,rfl⟩;rw [<-hat] at HPl;have HAt:=hide hat
  have hok:ok=true:=by
   have:=HW.out.1;rw [wayS,HRd.out] at this
   cases ok with
   | true=>rfl
   | false=>rw [if_pos rfl] at this;cases this
  subst hok
  have HWs:Hid ((if n.lf=true then some [(p,n,at_)] else (wayS (fun q=>rdN (D q)) key q (n.cs.getD (max at_ 0).toNat 0)).map fun r=>(p,n,max at_ 0) :: r)=some r):=hide (by
   have:=HW.out.1
   rw [wayS,HRd.out,if_neg (by simp)] at this
   rw [hat]
   exact this)
  have HOk:Hid (n.ok=true):=hide (zh1 HRd.out);obtain ⟨wa,hwa⟩:∃wa,wa=w2.alloc (.cells #[.bool n.lf,.slice a1 n.ks.length c1,.slice a2 n.vs.length c2,.slice a3 n.cs.length c3] 71 (0,0)):=⟨_,rfl⟩
  have hba:Below w2.heap.size w2 wa:=by rw [hwa];exact (Below.refl _ _).alloc (Nat.le_refl _) _
  obtain ⟨g,hg⟩:∃g,g=w2.heap.size:=⟨_,rfl⟩
  have HNa:Hid (wa.heap[g]?=some (.cells #[.bool n.lf,.slice a1 n.ks.length c1,.slice a2 n.vs.length c2,.slice a3 n.cs.length c3] 71 (0,0))):=hide (by rw [hwa,hg];exact heap_alloc_new w2 _)
  have HBa:Hid (Below w.heap.size w wa):=hide (HB2.out.trans (hba.mono HB2.out.size));have HVa:=hide (stays HV2.out hba);have HOa:=hide (za6 HO2.out hba)
  have HNl:Hid (∀e∈l,LvN wa w.heap.size e):=hide (fun e he=>(HN2.out e he).below hba)
  have HNd:=hide (zbV HNo.out hba);clear hrn hb2 hat hba hno HO2 HN2 HO1 HN1;go_wp2_with fail;rw [<-hwa,<-hg];clear hwa hg;refine (HPl.out _ (zby HNd.out)).mono ?_;rintro e w3 ⟨rfl,hb3⟩;have HB3:Hid (Below w.heap.size w w3):=hide (HBa.out.trans (hb3.mono HBa.out.size));have HV3:=hide (stays HVa.out hb3);have HN3:=stays HNa.out hb3;have HNg:=hide HN3;have n0:=(za0 HN3 0).1;have n1:=(za0 HN3 1).1;have n2:=(za0 HN3 2).1;have n3:=(za0 HN3 3).1;have HO3:=hide (za6 HOa.out hb3)
  have HNl3:Hid (∀e∈l,LvN w3 w.heap.size e):=hide (fun e he=>(HNl.out e he).below hb3)
  have HLv:Hid (∀x,LvN w3 w.heap.size ((p,n,x),.slice a1 n.ks.length c1,.slice a2 n.vs.length c2,.slice a3 n.cs.length c3)):=hide (fun x=>lvN_own HB1.out.size (zbV HNd.out hb3))
  have hB3:w.heap.size<=w3.heap.size:=HB3.out.size
  have hl8:l.length<=8:=by omega
  obtain ⟨lf,hlf⟩:∃lf,lf=n.lf:=⟨_,rfl⟩;have HLf:=hide hlf;rw [<-hlf] at n0;clear hb3 HN3 HOa HNl hlf
  cases lf with
  | true=>
   have HR:Hid (r= [(p,n,at_)]):=hide (by
    have:=HWs.out;rw [if_pos HLf.out.symm] at this
    injection this with this
    exact this.symm)
   go_wp2_with (at_builtin;refine Hid.out ?_)
   refine hide ?_
   refine wpList_append_own _ rfl _ _ 80 rfl w.heap.size 97 i0 (.agg #[.int .i64 0,.bool false,.slice none 0 0,.slice none 0 0,.slice none 0 0,.int .i64 0]) 6 96 Tryz.underlying80 hinf hz0 hz1 hz2 rfl (by decide) (.slice ua l.length uc) l.length (wlvs l) rfl (HO3.out.alloc _) ⟨w3.heap.size,0,none⟩ 1 1 [.int .i64 p,.bool true,.slice a1 n.ks.length c1,.slice a2 n.vs.length c2,.slice a3 n.cs.length c3,.int .i64 at_] rfl rfl ?c1 ?c2 ?c3 ?c4 ?c5 ?_
   case c1=>exact zee w3 #[.int .i64 p,.bool true,.slice a1 n.ks.length c1,.slice a2 n.vs.length c2,.slice a3 n.cs.length c3,.int .i64 at_] 97
   case c2=>intro u hu;simp at hu;rcases hu with rfl | rfl | rfl | rfl | rfl | rfl <;> rfl
   case c3=>unfold maxLen;omega
   case c4=>omega
   case c5=>simp;omega
   intro v' w4 hown' hgrow _;have hb4:Below w3.heap.size w3 (w3.alloc (Obj.cells #[.int .i64 p,.bool true,.slice a1 n.ks.length c1,.slice a2 n.vs.length c2,.slice a3 n.cs.length c3,.int .i64 at_] 97)):=(Below.refl _ _).alloc (Nat.le_refl _) _;have HB4:Hid (Below w.heap.size w w4):=hide (below_grow HB3.out hB3 HO3.out (hb4.mono hB3) hgrow)
   have ho4:w4.ownsRow w.heap.size 97 6 v' (l++ [(((p,n,at_),.slice a1 n.ks.length c1,.slice a2 n.vs.length c2,.slice a3 n.cs.length c3):LvV)]).length (wlvs (l++ [((p,n,at_),.slice a1 n.ks.length c1,.slice a2 n.vs.length c2,.slice a3 n.cs.length c3)])):=by
    rw [ziA,List.length_append,lv6,<-HLf.out];exact hown'
   have HO4:=hide ho4
   have hkeep:∀e:LvV,LvN w3 w.heap.size e->LvN w4 w.heap.size e:=fun e he=>he.grown HO3.out hgrow
   have HN4:Hid (∀e∈l++ [(((p,n,at_),.slice a1 n.ks.length c1,.slice a2 n.vs.length c2,.slice a3 n.cs.length c3):LvV)],LvN w4 w.heap.size e):=hide (fun e he=>by
    rcases List.mem_append.1 he with he | he
    ·exact hkeep e (HNl3.out e he)
    ·rw [List.mem_singleton] at he
     subst he
     exact hkeep _ (HLv.out _))
   clear hown' hgrow ho4 hkeep hb4;go_wp2_with fail;go_ret2
   exact ⟨_,rfl,⟨_,by rw [List.map_append,<-HW.out.2,HR.out];rfl,HO4.out,HN4.out⟩,HB4.out⟩
  | false=>
   have hpos:=zel HOk.out;have hev:=(zaY HOk.out).2 HLf.out.symm;obtain ⟨a,ha⟩:∃a,a=(max at_ 0).toNat:=⟨_,rfl⟩
   have hmx:max at_ 0=(a:Int):=by omega
   have hal:a<n.cs.length:=by
    have h1:=(zg3 key hpos).1;rw [<-HAt.out] at h1;rw [hev.1]
    omega
   obtain ⟨r',hr',hr⟩:∃r',wayS (fun q=>rdN (D q)) key q (n.cs.getD a 0)=some r'/\r=(p,n,(a:Int)) :: r':=by
    have:=HWs.out
    rw [if_neg (by rw [<-HLf.out];decide),<-ha,hmx] at this
    obtain ⟨r',h1,h2⟩:=Option.map_eq_some_iff.1 this;exact ⟨r',h1,h2.symm⟩
   have HR:=hide hr;have HR':=hide hr';clear hr hr' ha hev hpos
   go_wp2_with (at_builtin;refine Hid.out ?_)
   refine hide ?_
   refine wpList_append_own _ rfl _ _ 80 rfl w.heap.size 97 i0 (.agg #[.int .i64 0,.bool false,.slice none 0 0,.slice none 0 0,.slice none 0 0,.int .i64 0]) 6 96 Tryz.underlying80 hinf hz0 hz1 hz2 rfl (by decide) (.slice ua l.length uc) l.length (wlvs l) rfl (HO3.out.alloc _) ⟨w3.heap.size,0,none⟩ 1 1 [.int .i64 p,.bool false,.slice a1 n.ks.length c1,.slice a2 n.vs.length c2,.slice a3 n.cs.length c3,.int .i64 (a:Int)] rfl rfl ?c1 ?c2 ?c3 ?c4 ?c5 ?_
   case c1=>exact zee w3 #[.int .i64 p,.bool false,.slice a1 n.ks.length c1,.slice a2 n.vs.length c2,.slice a3 n.cs.length c3,.int .i64 (a:Int)] 97
   case c2=>intro u hu;simp at hu;rcases hu with rfl | rfl | rfl | rfl | rfl | rfl <;> rfl
   case c3=>unfold maxLen;omega
   case c4=>omega
   case c5=>simp;omega
   intro v' w4 hown' hgrow _;have hb4:Below w3.heap.size w3 (w3.alloc (Obj.cells #[.int .i64 p,.bool false,.slice a1 n.ks.length c1,.slice a2 n.vs.length c2,.slice a3 n.cs.length c3,.int .i64 (a:Int)] 97)):=(Below.refl _ _).alloc (Nat.le_refl _) _;have HB4:Hid (Below w.heap.size w w4):=hide (below_grow HB3.out hB3 HO3.out (hb4.mono hB3) hgrow)
   have ho4:w4.ownsRow w.heap.size 97 6 v' (l++ [(((p,n,(a:Int)),.slice a1 n.ks.length c1,.slice a2 n.vs.length c2,.slice a3 n.cs.length c3):LvV)]).length (wlvs (l++ [((p,n,(a:Int)),.slice a1 n.ks.length c1,.slice a2 n.vs.length c2,.slice a3 n.cs.length c3)])):=by
    rw [ziA,List.length_append,lv6,<-HLf.out];exact hown'
   have HO4:=hide ho4
   have hkeep:∀e:LvV,LvN w3 w.heap.size e->LvN w4 w.heap.size e:=fun e he=>he.grown HO3.out hgrow
   have HN4:Hid (∀e∈l++ [(((p,n,(a:Int)),.slice a1 n.ks.length c1,.slice a2 n.vs.length c2,.slice a3 n.cs.length c3):LvV)],LvN w4 w.heap.size e):=hide (fun e he=>by
    rcases List.mem_append.1 he with he | he
    ·exact hkeep e (HNl3.out e he)
    ·rw [List.mem_singleton] at he
     subst he
     exact hkeep _ (HLv.out _))
   have HG4:Hid (w4.heap[g]?=some (.cells #[.bool n.lf,.slice a1 n.ks.length c1,.slice a2 n.vs.length c2,.slice a3 n.cs.length c3] 71 (0,0))):=hide (by
    have hlt:=(Array.getElem?_eq_some_iff.1 HNg.out).1
    rw [hgrow.block g (by simp;omega) (zm6 HO3.out (by decide) HNg.out).symm,heap_alloc_old _ _ hlt]
    exact HNg.out)
   have HV4:Hid (w4.heap[w.heap.size]?=some (.cells #[vp,vl] 29 (0,0))):=hide (by
    have hlt:=(Array.getElem?_eq_some_iff.1 HV3.out).1
    rw [hgrow.block w.heap.size (by simp;omega) (zm6 HO3.out (by decide) HV3.out).symm,heap_alloc_old _ _ hlt]
    exact HV3.out)
   have m3:=(za0 HG4.out 3).1;obtain ⟨gk',hgk,hck⟩:=zft (i:=a) (hkeep _ (HLv.out (a:Int))).2.2 hal rfl;dsimp only at hgk hck;subst hgk;obtain ⟨kd,hkd⟩:∃z,z=n.cs.getD a 0:=⟨_,rfl⟩;rw [<-hkd] at hck
   have HW5:Hid (wayS (fun q=>rdN (D q)) key q kd=some r'/\(l++ [(((p,n,(a:Int)),.slice a1 n.ks.length c1,.slice a2 n.vs.length c2,.slice (some ⟨gk',0,none⟩) n.cs.length c3):LvV)]).map Prod.fst++r'=ws):=hide ⟨by rw [hkd];exact HR'.out,by rw [<-HW.out.2,HR.out,List.map_append,List.append_assoc];rfl⟩
   have ha0:(0:Int)<=(a:Int):=by omega
   have ha1:(a:Int)<(n.cs.length:Int):=by omega
   clear hown' hgrow ho4 hkeep hb4 hmx hal n0 n1 n2 n3;obtain ⟨va,vc',rfl⟩:=za4 HO4.out
   have HO5:Hid (w4.ownsRow w.heap.size 97 6 (.slice va (l.length+1) vc') (l++ [(((p,n,(a:Int)),.slice a1 n.ks.length c1,.slice a2 n.vs.length c2,.slice (some ⟨gk',0,none⟩) n.cs.length c3):LvV)]).length (wlvs (l++ [(((p,n,(a:Int)),.slice a1 n.ks.length c1,.slice a2 n.vs.length c2,.slice (some ⟨gk',0,none⟩) n.cs.length c3):LvV)]))):=hide (by
    have h:=HO4.out
    rw [show (l++ [(((p,n,(a:Int)),.slice a1 n.ks.length c1,.slice a2 n.vs.length c2,.slice (some ⟨gk',0,none⟩) n.cs.length c3):LvV)]).length=l.length+1 from by simp] at h⊢
    exact h)
   clear hkd;go_wp2_with fail
   go_roundg q
   case measure=>omega
   case rel=>exact ⟨l.length+1,kd,_,r',by omega,by go_num,rfl,by simp,HW5,HO5,HN4,HB4,HV4⟩
end Go.Proofs.YtcbogiebfbbmbaaGreatDoor
