/-
  Facts and contracts that the law's own text rests on, by their texts' names: TreeRange.
-/
import Derived.Test.YtjmgdmdleamenaaGreatDoorSr31
import Derived.Test.YtjmgdmdleamenaaGreatDoorSr47
set_option maxHeartbeats 16000000
set_option maxRecDepth 100000
namespace Go.Proofs.YtjmgdmdleamenaaGreatDoor.treeOk
open Go.RowKit Go.Shelf
attribute [local go_sem] Oper.semAt_some
def APs (w W:World) (d:Int):Prop:=
 W.heap[w.heap.size+1]?=some (.cells #[.bool false] 4 (0,0))/\W.heap[w.heap.size+2]?=some (.cells #[.int .i64 d] 3 (0,0))
def APC (w:World) (k:Nat):Prop:=k=w.heap.size+1\/k=w.heap.size+2
def API (w:World) (pre:List Ev) (C:Nat->Prop) (W:World):Prop:=(∀x∈pre,x.ok=true)/\∃d,treeF (-1) (pre.map Ev.vis)=some d/\(∀k,APC w k->C k)/\(∀k,C k->w.heap.size<=k/\k<W.heap.size)/\APs w W d
def Enough (pre:List Ev):Prop:=(∃pr x,pre=pr++ [x]/\x.ok=false)\/((∀x∈pre,x.ok=true)/\treeF (-1) (pre.map Ev.vis)=none)
def APX (w:World) (c:Code) (pre:List Ev) (C:Nat->Prop) (W:World):Prop:=
 c= .ret/\Enough pre/\W.heap[w.heap.size+1]?=some (.cells #[.bool false] 4 (0,0))/\C (w.heap.size+1)
theorem apc_lt {w W:World} {d:Int} (h:APs w W d):∀k,APC w k->w.heap.size<=k/\k<W.heap.size:=by
 obtain ⟨h1,h2⟩:=h;rintro k (rfl | rfl)
 ·exact ⟨by omega,(Array.getElem?_eq_some_iff.1 h1).1⟩
 ·exact ⟨by omega,(Array.getElem?_eq_some_iff.1 h2).1⟩
theorem aps_kept {w A B:World} {d:Int} (h:APs w A d) (hk:KeptC (fun k=>¬APC w k) A B):APs w B d:=by
 have hlt:=apc_lt h;obtain ⟨h1,h2⟩:=h
 have key:∀k,APC w k->B.heap[k]?=A.heap[k]?:=fun k hc=>hk.2.2.2.2 k (hlt k hc).2 (fun hn=>hn hc)
 exact ⟨(key _ (Or.inl rfl)).trans h1,(key _ (Or.inr rfl)).trans h2⟩
theorem api_kept {w:World} (pre:List Ev) (C:Nat->Prop) (A B:World) (h:API w pre C A) (hk:KeptC (fun k=>¬C k) A B):API w pre C B:=by
 obtain ⟨h1,d,hd,hc,hn,h2⟩:=h
 exact ⟨h1,d,hd,hc,fun k h=>⟨(hn k h).1,Nat.lt_of_lt_of_le (hn k h).2 hk.2.2.2.1⟩,aps_kept h2 (keptC_mono hk (fun j _ h hx=>h (hc j hx)))⟩
theorem api_lt {w:World} (pre:List Ev) (C:Nat->Prop) (A:World) (h:API w pre C A):∀k,C k->w.heap.size<=k/\k<A.heap.size:=by
 obtain ⟨h1,d,hd,hc,hn,h2⟩:=h;exact hn
theorem apx_kept {w:World} (c:Code) (pre:List Ev) (C:Nat->Prop) (A B:World) (h:APX w c pre C A) (hk:KeptC (fun k=>¬C k) A B):APX w c pre C B:=by
 obtain ⟨h0,h1,h2,h3⟩:=h
 exact ⟨h0,h1,(hk.2.2.2.2 _ (Array.getElem?_eq_some_iff.1 h2).1 (fun hn=>hn h3)).trans h2,h3⟩
def apFrame (w:World) (ap al:Option Addr) (np nl cp cl:Nat) (root:Int) (gv:Nat) (x:Ev):Act:=
 ⟨#[.agg #[.slice ap np cp,.slice al nl cl],.int .i64 root,.pointer (some ⟨w.heap.size,0,none⟩),undef,.pointer (some ⟨w.heap.size+1,0,none⟩),.pointer (some ⟨w.heap.size+1+1,0,none⟩),.pointer (some ⟨gv,0,none⟩),.bool x.ok,.agg #[.slice ap np cp,.slice al nl cl],.int .i64 root,.func (.func 80) #[] #[.pointer (some ⟨w.heap.size+1+1+1+1,0,none⟩),.pointer (some ⟨w.heap.size+1+1+1,0,none⟩)],x.val,.bool x.ok,undef,undef,undef,undef,undef,undef,undef,undef,undef,undef,undef,undef,undef,undef,undef,undef,undef,undef,undef,undef,undef],[]⟩
def APAx (w:World) (ap al:Option Addr) (np nl cp cl:Nat) (root:Int) (x:Ev) (a:Act) (C:Nat->Prop) (W:World):Prop:=
 ∃gv cs,x.val= .agg cs/\C gv/\gv<W.heap.size/\W.heap[gv]?=some (.cells cs 118 (0,0))/\a=apFrame w ap al np nl cp cl root gv x
theorem apax_kept {w:World} {ap al:Option Addr} {np nl cp cl:Nat} {root:Int} (x:Ev) (a:Act) (C:Nat->Prop) (A B:World) (h:APAx w ap al np nl cp cl root x a C A) (hk:KeptC (fun k=>¬C k) A B):APAx w ap al np nl cp cl root x a C B:=by
 obtain ⟨gv,cs,h1,h2,h3,h4,h5⟩:=h
 exact ⟨gv,cs,h1,h2,Nat.lt_of_lt_of_le h3 hk.2.2.2.1,(hk.2.2.2.2 gv h3 (fun hn=>hn h2)).trans h4,h5⟩
theorem api_wide {w W:World} {pre:List Ev} {C:Nat->Prop} (h:API w pre C W) (o:Obj):API w pre (fun k=>C k\/k=W.heap.size) (W.alloc o):=by
 have h2:=api_kept pre C W (W.alloc o) h (keptC_alloc _ W o);obtain ⟨h1,d,hd,hc,hn,h3⟩:=h2
 have hs:w.heap.size<=W.heap.size:=by
  obtain ⟨-,d,-,-,-,h4⟩:=h;have:=(apc_lt h4 (w.heap.size+1) (Or.inl rfl)).2
  omega
 refine ⟨h1,d,hd,fun k h=>Or.inl (hc k h),fun k h=> ?_,h3⟩
 rcases h with h | rfl
 ·exact hn k h
 ·exact ⟨hs,by simp⟩
theorem ap_stop {w W:World} {pre:List Ev} {C:Nat->Prop} (hen:Enough pre) (hc1:C (w.heap.size+1)) (h1:W.heap[w.heap.size+1]?=some (.cells #[.bool false] 4 (0,0))):
  ∃C',KeptC C W (W.setCell ⟨w.heap.size+1,0,none⟩ (.bool false))/\(∀k,C' k->C k\/W.heap.size<=k)/\APX w .ret pre C' (W.setCell ⟨w.heap.size+1,0,none⟩ (.bool false)):=
 ⟨C,keptC_setCell W 0 _ hc1,fun _ h=>Or.inl h,rfl,hen,heap_setCell_same _ _ 0 _ _ _ h1,hc1⟩
theorem implTreeOk_any (ps:List ByteArray) (ls:List (Int×ByteArray)) (hp:ps.length<=1048576) (hl:ls.length<=1048576) (hps:∀s∈ps,s.size<=1048576) (hls:∀p∈ls,p.2.size<=1048576) (ap al:Option Addr) (np nl cp cl:Nat) (root:Int) (w:World) (hT:SumTab w) (hd:DiskAt w (.agg #[.slice ap np cp,.slice al nl cl]) ps ls):
  Calls Tryz.prog 22 #[.agg #[.slice ap np cp,.slice al nl cl],.int .i64 root] w fun e w'=>e= .returned (.bool (treeI (fun q=>rdN (readD ps ls q)) root))/\Below w.heap.size w w':=by
 have hmf:∀(fn:Fn) (first cap:Array Value) (w:World),(Instr.makeFunc fn first cap).run Tryz.prog w= .ok (.func fn first cap) w:=fun _ _ _ _=>rfl
 obtain ⟨Wc,hWc⟩:∃Wc,Wc=((((w.alloc (.cells #[.slice ap np cp,.slice al nl cl] 41 (0,0))).alloc (.cells #[.bool false] 4 (0,0))).alloc (.cells #[.int .i64 (-1)] 3 (0,0))).alloc (.cells #[.slice ap np cp,.slice al nl cl] 41 (0,0))).alloc (.cells #[.int .i64 root] 3 (0,0)):=⟨_,rfl⟩
 have hlow:Below w.heap.size w Wc:=by
  rw [hWc]
  refine Below.alloc (Below.alloc (Below.alloc (Below.alloc (Below.alloc (Below.refl _ _) ?_ _) ?_ _) ?_ _) ?_ _) ?_ _ <;> simp <;> omega
 have b1:Wc.heap[w.heap.size+1]?=some (.cells #[.bool false] 4 (0,0)):=by rw [hWc];simp only [alloc_get,World.size_alloc];simp
 have b2:Wc.heap[w.heap.size+2]?=some (.cells #[.int .i64 (-1)] 3 (0,0)):=by rw [hWc];simp only [alloc_get,World.size_alloc];simp
 have b5:Wc.heap[w.heap.size+3]?=some (.cells #[.slice ap np cp,.slice al nl cl] 41 (0,0)):=by rw [hWc];simp only [alloc_get,World.size_alloc];simp
 have b6:Wc.heap[w.heap.size+4]?=some (.cells #[.int .i64 root] 3 (0,0)):=by rw [hWc];simp only [alloc_get,World.size_alloc];simp
 have hsz:Wc.heap.size=w.heap.size+5:=by rw [hWc];simp
 have hseq:=fun n=>nodesOf_seq n root (w.heap.size+4) (w.heap.size+3) hp hl hps hls hT hd hlow b6 b5
 have hP0:APs w Wc (-1):=⟨b1,b2⟩
 have hI0:API w [] (APC w) Wc:=⟨fun x h=>(by cases h),-1,rfl,fun _ h=>h,apc_lt hP0,hP0⟩
 refine (callsIn_wide (n:=3)).1 ?_;refine callsIn_of_wp_marks Tryz.func22 rfl trivial ?_ rfl
 simp only [Tryz.ntmps22,List.size_toArray,List.length_cons,List.length_nil,Nat.reduceAdd,Nat.reduceSub,Array.replicate_succ,Array.replicate_zero,List.push_toArray,List.append_toArray,List.nil_append,List.cons_append]
 gi_wp2_with (refine ⟨trivial,?_⟩;gi_at_call 51;refine (callsIn_wide.2 (nodesOf_any (.slice ap np cp) (.slice al nl cl) root _)).mono ?_;rintro e w1 ⟨rfl,rfl⟩)
 rw [<-hWc]
 refine wpIn_rangeFunc_sep2 rfl rfl (gf:=80) (lb:= #[.pointer (some ⟨w.heap.size+4,0,none⟩),.pointer (some ⟨w.heap.size+3,0,none⟩)]) rfl trivial (enters_of Tryz.func80 (by kernel_rfl) rfl) (hseq _) hlow.size (fun _ h=>by rcases h with h | h <;> omega) (fun x C C' A B h1 h2 h3=>lies_kept h1 h2 h3) (fun _=>rfl) (API w) (APX w) api_kept apx_kept api_lt (APC w) hI0 (fun k h e=> ?apart) (APAx w ap al np nl cp cl root) apax_kept ?assign ?body ?done ?stop
 case apart=>
  rcases h with h | h <;> omega
 case done=>
  rintro D xs C W hD hnD hS ⟨hok,d,hdd,hsub,hin,h1,h2⟩ hlowW hdef
  have hn1:D≠w.heap.size+1:=fun e=>hnD (hsub D (Or.inl e))
  have HA:=hide (tree_done _ root hok hS hdd);have c1:W.cell? ⟨w.heap.size+1,0,none⟩=some (.bool false):=(cell_at h1 0).1;have f1:W.frozen? ⟨w.heap.size+1,0,none⟩=false:=(cell_at h1 0).2;have H1:=hide h1;have HLo:=hide (hlow.trans hlowW);have HDe:=hide hdef;clear h1 h2 hlowW hdef b1 b2 b5 b6 hseq hI0 hP0 hS hok hp hl hps hls hT hd hlow hdd hsub hin hnD
  gi_wp2_with fail
  obtain ⟨W3,hW3⟩:∃W3,W3=W.setCell ⟨w.heap.size+1,0,none⟩ (.bool true):=⟨_,rfl⟩;rw [<-hW3]
  have k3:KeptC (fun k=>k=w.heap.size+1) W W3:=by
   rw [hW3]
   exact keptC_setCell (C:=fun k=>k=w.heap.size+1) W 0 _ rfl
  have hD3:W3.heap[D]?=some (.deferred (some [])):=(k3.2.2.2.2 D (Array.getElem?_eq_some_iff.1 HDe.out).1 hn1).trans HDe.out
  have g1:W3.heap[w.heap.size+1]?=some (.cells #[.bool true] 4 (0,0)):=by
   rw [hW3];exact heap_setCell_same _ _ 0 _ _ _ H1.out
  refine ⟨by simp,.inl ⟨_,_,rfl,run_takeDeferred hD3,?_⟩⟩
  obtain ⟨W4,hW4⟩:∃W4,W4=W3.putObj D (.deferred none):=⟨_,rfl⟩;rw [<-hW4]
  have k4:KeptC (fun k=>k=D) W3 W4:=by rw [hW4];exact keptC_putObj W3 _ rfl
  have e1:=(cell_at ((k4.2.2.2.2 _ (Array.getElem?_eq_some_iff.1 g1).1 (fun e=>hn1 e.symm)).trans g1) 0).1
  refine ⟨.bool true,?_,?_⟩
  ·simp [results,e1,go_sem]
  ·rw [HA.out]
   refine ⟨rfl,?_⟩;have z1:w.heap.size<=W.heap.size:=HLo.out.size
   exact (HLo.out.trans (keptC_below k3 (fun k h=>by omega) z1)).trans (keptC_below k4 (fun k h=>by rw [h];omega) (Nat.le_trans z1 k3.2.2.2.1))
 case stop=>
  rintro D c pre C W hD hnD ⟨t,ht⟩ ⟨rfl,hen,h1,hC⟩ hlowW hdef;have HA:=hide (tree_stop _ root ht hen)
  have hn1:D≠w.heap.size+1:=fun e=>hnD (by rw [e];exact hC)
  have H1:=hide h1;have HLo:=hide (hlow.trans hlowW);have HDe:=hide hdef;clear h1 hlowW hdef b1 b2 b5 b6 hseq hI0 hP0 ht hen hC hp hl hps hls hT hd hlow hnD
  gi_wp2_with fail
  refine ⟨by simp,.inl ⟨_,_,rfl,run_takeDeferred HDe.out,?_⟩⟩
  obtain ⟨W4,hW4⟩:∃W4,W4=W.putObj D (.deferred none):=⟨_,rfl⟩;rw [<-hW4]
  have k4:KeptC (fun k=>k=D) W W4:=by rw [hW4];exact keptC_putObj W _ rfl
  have e1:=(cell_at ((k4.2.2.2.2 _ (Array.getElem?_eq_some_iff.1 H1.out).1 (fun e=>hn1 e.symm)).trans H1.out) 0).1
  refine ⟨.bool false,?_,?_⟩
  ·simp [results,e1,go_sem]
  ·rw [HA.out]
   exact ⟨rfl,HLo.out.trans (keptC_below k4 (fun k h=>by rw [h];have:=hsz;omega) HLo.out.size)⟩
 case assign=>
  intro l m pre x C W K hI hLi hK
  have hw2:=fun o=>api_wide hI o
  have HI2:=hide hw2;have HK:=hide hK
  have HLt:Hid (∀o,KeptC C W (W.alloc o)):=hide (fun o=>keptC_alloc C W o)
  clear b1 b2 b5 b6 hseq hI0 hP0 hw2 hK hI hp hl hps hls hT hd hlow hsz hWc
  simp only [encs]
  cases hok:x.ok with
  | false=>
   have hv:=hLi.1 hok;clear hLi;have HV:=hide hv;have HOk:=hide hok;rw [hv,badVal];clear hv hok
   gi_wp2_with fail
   refine HK.out _ (fun k=>C k\/k=W.heap.size) _ (HLt.out _) (fun k h=>by rcases h with h | h;exact Or.inl h;exact Or.inr (by omega)) (HI2.out _) ⟨W.heap.size,_,by rw [HV.out,badVal],Or.inr rfl,by simp,heap_alloc_new W _,?_⟩
   rw [apFrame,HV.out,HOk.out,badVal]
  | true=>
   obtain ⟨vk,vv,vc,vw,hv,hno,-,hwy⟩:=hLi.2 hok;obtain ⟨a1,c1,a2,c2,a3,c3,e⟩:=nodeOwn_cells hno;obtain ⟨-,rfl,rfl,rfl⟩:=agg4 e
   obtain ⟨a4,c4,rfl⟩:∃a4 c4,vw= .slice a4 x.vis.way.length c4:=by obtain ⟨X,-,h,-⟩:=hwy;exact own_slice h
   clear hLi hno hwy e;have HV:=hide hv;have HOk:=hide hok;rw [hv];clear hv hok
   gi_wp2_with fail
   refine HK.out _ (fun k=>C k\/k=W.heap.size) _ (HLt.out _) (fun k h=>by rcases h with h | h;exact Or.inl h;exact Or.inr (by omega)) (HI2.out _) ⟨W.heap.size,_,HV.out,Or.inr rfl,by simp,heap_alloc_new W _,?_⟩
   rw [apFrame,HV.out,HOk.out]
 case body=>
  intro l m pre x a' C W hSp hI hAx hLi;obtain ⟨gv,cs,hv,hCg,hgl,hgv,rfl⟩:=hAx;obtain ⟨hpre,d,hdd,hc,hn,h1,h2⟩:=hI;clear b1 b2 b5 b6 hseq hI0 hP0 hlow hsz hWc;have q1:W.cell? ⟨w.heap.size+1,0,none⟩=some (.bool false):=(cell_at h1 0).1;have z1:W.frozen? ⟨w.heap.size+1,0,none⟩=false:=(cell_at h1 0).2
  cases hok:x.ok with
  | false=>
   have HS:Hid (Enough (pre++ [x])):=hide (Or.inl ⟨pre,x,rfl,hok⟩);have HC1:=hide (hc _ (Or.inl rfl));have H1:=hide h1;rw [apFrame,hok];clear hpre hc hn h1 h2 hSp hLi hv hgv hgl hCg hp hl hps hls hT hd hok hdd
   gi_wp2_with fail
   exact ap_stop HS.out HC1.out H1.out
  | true=>
   obtain ⟨t,ht⟩:=hSp;have hR:=comes_vis _ root hok ht;have hgood:=comes_good _ (rdN_right2 ps ls) root hok ht
   have hnok:x.vis.nd.ok=true:=by
    have:=rdN_right2 ps ls x.vis.page (by show (rdN (readD ps ls x.vis.page)).2=true;rw [hR])
    have h2:(rdN (readD ps ls x.vis.page)).1=x.vis.nd:=by rw [hR]
    rw [<-h2];exact this
   have hcnt:=ok_cnt2 hnok;have HLi:=hide hLi
   have HPre:Hid (∀y∈pre++ [x],y.ok=true):=hide (fun y hy=>by rcases List.mem_append.1 hy with h | h;exact hpre y h;rw [List.mem_singleton.1 h];exact hok)
   have HT:Hid (treeF (-1) ((pre++ [x]).map Ev.vis)=treeT d x.vis):=hide (by rw [List.map_append,List.map_cons,List.map_nil,treeF_snoc,hdd];rfl)
   obtain ⟨vk,vv,vc,vw,hv2,hno,hnc,hwy⟩:=hLi.2 hok;obtain ⟨a1,c1,a2,c2,a3,c3,e⟩:=nodeOwn_cells hno;obtain ⟨-,rfl,rfl,rfl⟩:=agg4 e
   obtain ⟨a4,c4,rfl⟩:∃a4 c4,vw= .slice a4 x.vis.way.length c4:=by obtain ⟨X,-,h,-⟩:=hwy;exact own_slice h
   rw [hv] at hv2
   injection hv2 with hv2
   subst hv2;obtain ⟨lf,hlf⟩:∃b,b=x.vis.nd.lf:=⟨_,rfl⟩;obtain ⟨wl,hwl⟩:∃n,n=x.vis.way.length:=⟨_,rfl⟩
   have g1:W.cell? ⟨gv,1,none⟩=some (.bool lf):=by rw [hlf];exact (cell_at hgv 1).1
   have g5:W.cell? ⟨gv,5,none⟩=some (.slice a4 wl c4):=by rw [hwl];exact (cell_at hgv 5).1
   have m2:W.cell? ⟨w.heap.size+1+1,0,none⟩=some (.int .i64 d):=(cell_at h2 0).1;have z2:W.frozen? ⟨w.heap.size+1+1,0,none⟩=false:=(cell_at h2 0).2;have HAll:=hide (⟨hc,hn,h1,h2,hgv,hCg,hgl,hv,hgood,hnok,hcnt⟩:_/\_/\_/\_/\_/\_/\_/\_/\_/\_/\_);have HNo:=hide (⟨hno,hnc,hwy⟩:_/\_/\_);have HLf:=hide hlf;have HWl:=hide hwl
   have HWb:Hid (wl<8):=hide (by rw [hwl];exact hgood.2)
   rw [apFrame,hok];clear hpre hc hn h1 h2 ht hR hLi hv hgv hgl hCg hp hl hps hls hT hd hok hdd hno hnc hwy e hgood hnok hcnt hlf hwl
   cases lf with
   | false=>
    gi_wp2_with fail
    obtain ⟨hc,hn,h1,h2,hgv,hCg,hgl,hv,hgood,hnok,hcnt⟩:=HAll.out
    refine ⟨C,keptC_refl _ _,fun k h=>Or.inl h,HPre.out,d,?_,hc,hn,h1,h2⟩
    rw [HT.out,treeT,if_pos HLf.out.symm]
   | true=>
    have hself:((wl:Int) !=(wl:Int))=false:=by simp
    have e0:W.cell? ⟨gv,0,none⟩=some (.int .i64 x.vis.page):=(cell_at HAll.out.2.2.2.2.1 0).1;have e2:W.cell? ⟨gv,2,none⟩=some (.slice a1 x.vis.nd.ks.length c1):=(cell_at HAll.out.2.2.2.2.1 2).1;have e3:W.cell? ⟨gv,3,none⟩=some (.slice a2 x.vis.nd.vs.length c2):=(cell_at HAll.out.2.2.2.2.1 3).1;have e4:W.cell? ⟨gv,4,none⟩=some (.slice a3 x.vis.nd.cs.length c3):=(cell_at HAll.out.2.2.2.2.1 4).1
    have hty:gv≠w.heap.size+2:=fun e=>by
     have h1:=HAll.out.2.2.2.2.1;rw [e,HAll.out.2.2.2.1] at h1
     injection h1 with h1
     injection h1 with _ ht _
     exact absurd ht (by decide)
    have hne:gv≠w.heap.size+1+1:=hty
    have hne':w.heap.size+1+1≠gv:=fun e=>hty e.symm
    have HKF:Hid (∀W1,KeptC C W W1->Calls Tryz.prog 52 #[.agg #[.int .i64 x.vis.page,.bool true,.slice a1 x.vis.nd.ks.length c1,.slice a2 x.vis.nd.vs.length c2,.slice a3 x.vis.nd.cs.length c3,.slice a4 wl c4]] W1 fun e w'=>e= .returned (.bool (fitB x.vis))/\Below W1.heap.size W1 w'):=hide (fun W1 hk=>by
     obtain ⟨hno,hnc,hwy⟩:=HNo.out;have h1:=nodeOwn_kept hno hk hnc
     have h2:=way2 (way_kept (C':=C) hwy hk (fun j hj=>Or.inl hj) (fun k h=>Or.inl h))
     have hcn:=HAll.out.2.2.2.2.2.2.2.2.2.2;have hg:=HAll.out.2.2.2.2.2.2.2.2.1
     have h3:=keysFit_any W1 w.heap.size x.vis.page x.vis.nd x.vis.way _ _ _ _ h1 hcn.1 (by omega) (by omega) h2 (fun s hs=>⟨(hg.1 s hs).1,by have:=(hg.1 s hs).2;omega⟩)
     rw [<-HLf.out,<-HWl.out] at h3
     exact h3)
    have HTy:∀d1:Int,d1=(if d<0 then (wl:Int) else d)->Hid (treeT d x.vis=if (wl:Int)=d1/\fitB x.vis=true then some d1 else none):=fun d1 e=>hide (by rw [treeT,if_neg (by rw [<-HLf.out];decide),<-HWl.out,e])
    have HOk:Hid (∀W1 w2 d1,KeptC C W W1->APs w W1 d1->Below W1.heap.size W1 w2->treeT d x.vis=some d1->∃C',KeptC C W w2/\(∀k,C' k->C k\/W.heap.size<=k)/\API w (pre++ [x]) C' w2):=hide (fun W1 w2 d1 hk hA hb ht=>by
     obtain ⟨hc,hn,-⟩:=HAll.out
     have hk2:KeptC C W w2:=keptC_trans hk (keptC_of_below (C:=fun _=>False) hb) (fun _ h=>h.elim)
     exact ⟨C,hk2,fun k h=>Or.inl h,HPre.out,d1,by rw [HT.out,ht],hc,fun k h=>⟨(hn k h).1,Nat.lt_of_lt_of_le (hn k h).2 hk2.2.2.2.1⟩,aps_kept hA (keptC_of_below hb)⟩)
    have HEn:Hid (treeT d x.vis=none->Enough (pre++ [x])):=hide (fun ht=>Or.inr ⟨HPre.out,by rw [HT.out,ht]⟩)
    have HNo2:Hid (∀W1 w2 d1,KeptC C W W1->APs w W1 d1->Below W1.heap.size W1 w2->treeT d x.vis=none->∃C',KeptC C W (w2.setCell ⟨w.heap.size+1,0,none⟩ (.bool false))/\(∀k,C' k->C k\/W.heap.size<=k)/\APX w .ret (pre++ [x]) C' (w2.setCell ⟨w.heap.size+1,0,none⟩ (.bool false))):=hide (fun W1 w2 d1 hk hA hb ht=>by
     obtain ⟨hc,hn,-⟩:=HAll.out
     have hk2:KeptC C W w2:=keptC_trans hk (keptC_of_below (C:=fun _=>False) hb) (fun _ h=>h.elim)
     obtain ⟨C',k1,k2,k3⟩:=ap_stop (HEn.out ht) (hc _ (Or.inl rfl)) (aps_kept hA (keptC_of_below hb)).1
     exact ⟨C',keptC_trans hk2 k1 (fun j h=>Or.inl h),fun k h=>(k2 k h).elim Or.inl (fun h=>Or.inr (Nat.le_trans hk2.2.2.2.1 h)),k3⟩)
    have HCell:Hid (∀W1 w2 d1,APs w W1 d1->Below W1.heap.size W1 w2->w2.cell? ⟨w.heap.size+1,0,none⟩=some (.bool false)/\w2.frozen? ⟨w.heap.size+1,0,none⟩=false):=hide (fun W1 w2 d1 hA hb=>cell_at (aps_kept hA (keptC_of_below hb)).1 0)
    have HA0:Hid (APs w W d):=hide ⟨HAll.out.2.2.1,HAll.out.2.2.2.1⟩
    by_cases hneg:d<0
    ·have HTr:=HTy (wl:Int) (by rw [if_pos hneg])
     have HK1:Hid (KeptC C W (W.setCell ⟨w.heap.size+1+1,0,none⟩ (.int .i64 (wl:Int)))):=hide (keptC_setCell W 0 _ (HAll.out.1 _ (Or.inr rfl)))
     have HA1:Hid (APs w (W.setCell ⟨w.heap.size+1+1,0,none⟩ (.int .i64 (wl:Int))) (wl:Int)):=hide ⟨(Below.heap_setCell _ _ _ _ (by simp)).trans HAll.out.2.2.1,heap_setCell_same _ _ 0 _ _ _ HAll.out.2.2.2.1⟩
     clear HTy
     gi_wp2_with fail
     refine ⟨trivial,fun h=>by simp [Fence.wide] at h,?_⟩
     refine (CallsIn.inRound l (callsIn_wide.2 (HKF.out _ HK1.out))).mono ?_;rintro e w2 ⟨rfl,hb⟩;have HB2:=hide hb;obtain ⟨q2,y2⟩:=HCell.out _ _ _ HA1.out hb;clear hb q1 z1 g1 g5 m2 z2 e0 e2 e3 e4
     cases hf:fitB x.vis with
     | true=>
      gi_wp2_with fail
      exact HOk.out _ _ _ HK1.out HA1.out HB2.out (by rw [HTr.out];simp [hf])
     | false=>
      gi_wp2_with fail
      exact HNo2.out _ _ _ HK1.out HA1.out HB2.out (by rw [HTr.out,if_neg (fun h=>by rw [hf] at h;cases h.2)])
    ·have HTr:=HTy d (by rw [if_neg hneg])
     clear HTy
     by_cases heq:(wl:Int)=d
     ·have hbe:((wl:Int) !=d)=false:=by simp [heq]
      have HEq:=hide heq;clear heq
      gi_wp2_with fail
      refine ⟨trivial,fun h=>by simp [Fence.wide] at h,?_⟩
      refine (CallsIn.inRound l (callsIn_wide.2 (HKF.out _ (keptC_refl _ _)))).mono ?_;rintro e w2 ⟨rfl,hb⟩;have HB2:=hide hb;obtain ⟨q2,y2⟩:=HCell.out _ _ _ HA0.out hb;clear hb q1 z1 g1 g5 m2 z2 e0 e2 e3 e4
      cases hf:fitB x.vis with
      | true=>
       gi_wp2_with fail
       exact HOk.out _ _ _ (keptC_refl _ _) HA0.out HB2.out (by rw [HTr.out,if_pos ⟨HEq.out,hf⟩])
      | false=>
       gi_wp2_with fail
       exact HNo2.out _ _ _ (keptC_refl _ _) HA0.out HB2.out (by rw [HTr.out,if_neg (fun h=>by rw [hf] at h;cases h.2)])
     ·have hbe:((wl:Int) !=d)=true:=by simp [heq]
      gi_wp2_with fail
      refine ⟨(trivial:Fence.wide.fn 52),?_⟩
      gi_wp2_with fail
      exact HNo2.out _ _ _ (keptC_refl _ _) HA0.out (Below.refl _ _) (by rw [HTr.out,if_neg (fun h=>heq h.1)])
end Go.Proofs.YtjmgdmdleamenaaGreatDoor.treeOk
