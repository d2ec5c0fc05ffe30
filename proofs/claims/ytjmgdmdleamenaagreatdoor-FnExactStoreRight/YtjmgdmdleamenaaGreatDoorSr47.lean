/-
  Facts and contracts that the law's own text rests on, by their texts' names: TreePlain, TreePlain2, KeysFit.
-/
import Derived.Test.YtjmgdmdleamenaaGreatDoorSr27
import Derived.Test.YtjmgdmdleamenaaGreatDoorSr36
import Derived.BigQuiet
import Derived.Test.YtjmgdmdleamenaaGreatDoorSr32
set_option maxHeartbeats 16000000
set_option maxRecDepth 100000
namespace Go.Proofs.YtjmgdmdleamenaaGreatDoor
theorem ok_cnt2 {n:Nd} (h:n.ok=true):1<=n.ks.length/\n.ks.length<=4/\n.cs.length<=n.ks.length:=by
 obtain ⟨h1,h2,h3,h4⟩:=cnt_yes (node_yes h).1
 cases hl:n.lf with
 | true=>have:=h3 hl;omega
 | false=>have:=h4 hl;omega
def GoodS (s:Nd×Nat):Prop:=s.2<s.1.ks.length/\s.1.ks.length<=4
theorem down_good (R:Int->Nd×Bool) (hR:Right R):∀(k:Nat) (p:Int) (way:List (Nd×Nat)) (seen:List Int),(∀s∈way,GoodS s)->∀v∈(downL R k p way seen).1,(∀s∈v.way,GoodS s)/\v.way.length<way.length+k
 | 0,p,way,seen,_,v,hv=>by rw [downL] at hv;cases hv
 | k+1,p,way,seen,hw,v,hv=>by
  rw [downL] at hv
  split at hv
  ·cases hv
  ·rename_i hb
   have hok:(R p).1.ok=true:=hR p (by cases hc:(R p).2;exact absurd (Or.inl hc) hb;rfl)
   have hc:=ok_cnt2 hok
   rcases List.mem_cons.1 hv with e | hv
   ·rw [e];exact ⟨hw,by show way.length<_;omega⟩
   ·have key:∀i,i<=(R p).1.cs.length->∀v∈(kidsL (downL R k) (R p).1 way (seen++ [p]) i).1,(∀s∈v.way,GoodS s)/\v.way.length<way.length+(k+1):=by
     intro i
     induction i with
     | zero=>intro _ v hv;cases hv
     | succ i ih=>
      intro hi v hv
      cases hk:(kidsL (downL R k) (R p).1 way (seen++ [p]) i).2 with
      | none=>rw [kidsL_succ_none hk] at hv;exact ih (by omega) v hv
      | some s=>
       rw [kidsL_succ_some hk] at hv
       rcases List.mem_append.1 hv with hv | hv
       ·exact ih (by omega) v hv
       ·have h:=down_good R hR k _ (way++ [((R p).1,i)]) _ (fun s hs=>by
         rcases List.mem_append.1 hs with hs | hs
         ·exact hw s hs
         ·rw [List.mem_singleton.1 hs];exact ⟨by show i<(R p).1.ks.length;omega,hc.2.1⟩) v hv
        refine ⟨h.1,?_⟩;have h2:=h.2;rw [List.length_append] at h2
        simp at h2
        omega
    exact key _ (Nat.le_refl _) v hv
theorem treeF_more:∀(l m:List Vis) (d:Int),treeF d l=none->treeF d (l++m)=none
 | [],m,d,h=>by rw [treeF] at h;cases h
 | v :: l,m,d,h=>by
  rw [List.cons_append,treeF];rw [treeF] at h
  cases ht:treeT d v with
  | none=>rfl
  | some e=>
   rw [ht] at h;exact treeF_more l m e h
theorem some_prefix {α:Type}:∀(l m:List α) (t tl:List (Option α)),(∀x∈tl,x=none)->l.map some++t=m.map some++tl->∃r,m=l++r
 | [],m,t,tl,_,_=>⟨m,rfl⟩
 | a :: l,[],t,tl,h,e=>by
  have e:some a :: (l.map some++t)=tl:=e
  have:=h (some a) (by rw [<-e];exact List.mem_cons_self)
  cases this
 | a :: l,b :: m,t,tl,h,e=>by
  have e:some a :: (l.map some++t)=some b :: (m.map some++tl):=e
  injection e with e1 e2
  injection e1 with e1
  obtain ⟨r,hr⟩:=some_prefix l m t tl h e2
  exact ⟨r,by rw [hr,e1];rfl⟩
theorem tree_done (R:Int->Nd×Bool) (root:Int) {xs:List Ev} {d:Int} (h:∀x∈xs,x.ok=true) (hx:xs.map Ev.plain=comes R root) (hd:treeF (-1) (xs.map Ev.vis)=some d):treeI R root=true:=by
 obtain ⟨-,h1,h2⟩:=all_done R root h hx;rw [treeI,h1,h2,hd]
 rfl
theorem tree_stop (R:Int->Nd×Bool) (root:Int) {pre:List Ev} {t:List (Option Vis)} (ht:pre.map Ev.plain++t=comes R root) (h:(∃pr x,pre=pr++ [x]/\x.ok=false)\/((∀x∈pre,x.ok=true)/\treeF (-1) (pre.map Ev.vis)=none)):treeI R root=false:=by
 rcases h with ⟨pr,x,rfl,hx⟩ | ⟨hok,hn⟩
 ·obtain ⟨-,h2⟩:=all_stop R root hx ht
  rw [treeI,h2]
  rfl
 ·rw [plain_ok hok,comes_seen] at ht
  obtain ⟨r,hr⟩:=some_prefix _ _ _ _ (fun y hy=>by
   split at hy
   ·cases hy
   ·exact List.mem_singleton.1 hy) ht
  rw [treeI,hr,treeF_more _ _ _ hn]
  cases (seenI R root).2 <;> rfl
theorem comes_good (R:Int->Nd×Bool) (hR:Right R) (root:Int) {pre:List Ev} {x:Ev} (hx:x.ok=true) {t:List (Option Vis)} (ht:(pre++ [x]).map Ev.plain++t=comes R root):(∀s∈x.vis.way,GoodS s)/\x.vis.way.length<8:=by
 have hm:some x.vis∈comes R root:=by
  rw [<-ht]
  have:x.plain=some x.vis:=by rw [Ev.plain,if_pos hx]
  simp [this]
 unfold comes at hm
 split at hm
 ·cases hm
 ·rw [evs] at hm
  rcases List.mem_append.1 hm with hm | hm
  ·obtain ⟨v,hv,e⟩:=List.mem_map.1 hm
   injection e with e
   subst e
   have:=down_good R hR 8 root [] [] (fun s hs=>by cases hs) _ hv
   exact ⟨this.1,by have:=this.2;simp at this;exact this⟩
  ·split at hm
   ·simp at hm
   ·cases hm
open Go.RowKit
theorem wcells_at (X:List WStep):∀(i:Nat) (h:i<X.length),(wcells X)[i * 5]?=some (.bool X[i].nd.lf)/\(wcells X)[i * 5+1]?=some X[i].k/\(wcells X)[i * 5+2]?=some X[i].v/\(wcells X)[i * 5+3]?=some X[i].c/\(wcells X)[i * 5+4]?=some (.int .i64 (X[i].at_:Int)):=by
 induction X with
 | nil=>intro i h;simp at h
 | cons x X ih=>
  intro i h
  cases i with
  | zero=>simp [wcells]
  | succ i=>
   have hh:=ih i (by simpa using h)
   have e:wcells (x :: X)= [.bool x.nd.lf,x.k,x.v,x.c,.int .i64 (x.at_:Int)]++wcells X:=rfl
   have key:∀j,(wcells (x :: X))[(i+1) * 5+j]?=(wcells X)[i * 5+j]?:=fun j=>by
    rw [e,List.getElem?_append_right (by simp;omega)]
    congr 1
    simp;omega
   have k0:=key 0
   simp only [Nat.add_zero] at k0
   rw [k0,key 1,key 2,key 3,key 4];exact hh
def fit1 (nd:Nd) (s:Nd×Nat):Bool:= !(lessB (nd.ks.getD 0 ⟨#[]⟩) (s.1.ks.getD s.2 ⟨#[]⟩)) && (!(decide (s.2+1<s.1.ks.length)) || lessB (nd.ks.getD (nd.ks.length - 1) ⟨#[]⟩) (s.1.ks.getD (s.2+1) ⟨#[]⟩))
theorem fitB_all (v:Vis):fitB v=v.way.all (fit1 v.nd):=rfl
theorem all_snoc {α:Type} (p:α->Bool) (l:List α) (i:Nat) (h:i<l.length):(l.take (i+1)).all p=((l.take i).all p && p l[i]):=by
 rw [List.take_succ_eq_append_getElem h,List.all_append];simp
theorem all_no {α:Type} (p:α->Bool) (l:List α) (i:Nat) (h:i<l.length) (hp:p l[i]=false):l.all p=false:=by
 cases ha:l.all p with
 | false=>rfl
 | true=>have:=List.all_eq_true.1 ha _ (List.getElem_mem h);rw [hp] at this;cases this
def WayAt2 (W:World) (B:Nat) (v:Value) (way:List (Nd×Nat)):Prop:=
 ∃X:List WStep,X.map (fun x=>(x.nd,x.at_))=way/\W.ownsRow B 161 5 v way.length (wcells X)/\∀x∈X,W.ownsRow B 9 1 x.k x.nd.ks.length (strs x.nd.ks)/\(∃a n c,x.v= .slice a n c)/\∃a n c,x.c= .slice a n c
theorem way2 {W:World} {B:Nat} {C:Nat->Prop} {v:Value} {way:List (Nd×Nat)} (h:WayAt W B C v way):WayAt2 W B v way:=by
 obtain ⟨X,e,h1,-,h3⟩:=h
 exact ⟨X,e,h1,fun x hx=>⟨(h3 x hx).1,(h3 x hx).2.2⟩⟩
theorem keysFit_any (W:World) (B:Nat) (pg:Int) (nd:Nd) (way:List (Nd×Nat)) (vk vv vc vw:Value) (hno:NodeOwn W B (.agg #[.bool nd.lf,vk,vv,vc]) nd.lf nd.ks nd.vs nd.cs) (hk:0<nd.ks.length) (hk4:nd.ks.length<=1048576) (hwl:way.length<=1048576) (hw:WayAt2 W B vw way) (hat:∀s∈way,s.2<s.1.ks.length/\s.1.ks.length<=1048576):
  Calls Tryz.prog 52 #[.agg #[.int .i64 pg,.bool nd.lf,vk,vv,vc,vw]] W fun e w'=>e= .returned (.bool (fitB ⟨pg,nd,way⟩))/\Below W.heap.size W w':=by
 obtain ⟨o1,-,-⟩:=node_rowsW hno
 obtain ⟨n1,hn1⟩:∃n1,nd.ks.length=n1+1:=⟨nd.ks.length - 1,by omega⟩
 obtain ⟨ak,ck,rfl⟩:=own_slice o1
 obtain ⟨gk,rfl⟩:∃g,ak=some ⟨g,0,none⟩:=by
  rcases o1.2 with ⟨e,h0⟩ | ⟨g,cc,cur,e,_⟩
  ·omega
  ·injection e with e1;exact ⟨g,e1⟩
 obtain ⟨X,hX,hrow,hks⟩:=hw;obtain ⟨aw,cw,rfl⟩:=own_slice hrow;obtain ⟨fs,hfs⟩:∃s,s=nd.ks.getD 0 ⟨#[]⟩:=⟨_,rfl⟩;obtain ⟨lst,hls⟩:∃s,s=nd.ks.getD (nd.ks.length - 1) ⟨#[]⟩:=⟨_,rfl⟩;obtain ⟨w0,hw0⟩:∃w0,w0=W.alloc (Obj.cells #[.int .i64 pg,.bool nd.lf,.slice (some ⟨gk,0,none⟩) nd.ks.length ck,vv,vc,.slice aw way.length cw] 118 (0,0)):=⟨_,rfl⟩
 have hb0:Below W.heap.size W w0:=by rw [hw0];exact (Below.refl _ _).alloc (Nat.le_refl _) _
 have hbox:w0.heap[W.heap.size]?=some (Obj.cells #[.int .i64 pg,.bool nd.lf,.slice (some ⟨gk,0,none⟩) nd.ks.length ck,vv,vc,.slice aw way.length cw] 118 (0,0)):=by rw [hw0];exact heap_alloc_new W _
 have q2:w0.cell? ⟨W.heap.size,2,none⟩=some (.slice (some ⟨gk,0,none⟩) (n1+1) ck):=by rw [<-hn1];exact (cell_at hbox 2).1
 have q5:w0.cell? ⟨W.heap.size,5,none⟩=some (.slice aw way.length cw):=(cell_at hbox 5).1;have hlt:=(o1.lt gk rfl).2
 have c0:w0.cell? ⟨gk,0,none⟩=some (.string fs):=by
  obtain ⟨g,e,h⟩:=row_getS (i:=0) o1 hk rfl
  injection e with e;injection e with e;subst e
  rw [hb0.cell (by exact hlt),h,hfs]
 have c1:w0.cell? ⟨gk,n1,none⟩=some (.string lst):=by
  obtain ⟨g,e,h⟩:=row_getS (i:=n1) o1 (by omega) rfl
  injection e with e;injection e with e;subst e
  rw [hb0.cell (by exact hlt),h,hls,hn1];rfl
 have HSt:Hid (∀i,i<way.length->∀wx,Below W.heap.size W wx->∃(lf:Bool) (g gs n c at_:Nat) (p1 p2:Option Addr) (m1 k1 m2 k2:Nat) (x y:ByteArray),aw=some ⟨g,0,none⟩/\wx.cell? ⟨g,i * 5,none⟩=some (.bool lf)/\wx.cell? ⟨g,i * 5+1,none⟩=some (.slice (some ⟨gs,0,none⟩) n c)/\wx.cell? ⟨g,i * 5+2,none⟩=some (.slice p1 m1 k1)/\wx.cell? ⟨g,i * 5+3,none⟩=some (.slice p2 m2 k2)/\wx.cell? ⟨g,i * 5+4,none⟩=some (.int .i64 (at_:Int))/\at_<n/\n<=1048576/\gs<W.heap.size/\wx.cell? ⟨gs,at_,none⟩=some (.string x)/\(at_+1<n->wx.cell? ⟨gs,at_+1,none⟩=some (.string y))/\∀(h:i<way.length),fit1 nd way[i]=(!(lessB fs x) && (!(decide (at_+1<n)) || lessB lst y))):=hide (by
  intro i hi wx hb
  have hXl:X.length=way.length:=by rw [<-hX,List.length_map]
  have hiX:i<X.length:=by omega
  obtain ⟨t0,t1,t2,t3,t4⟩:=wcells_at X i hiX;obtain ⟨ok,⟨p1,m1,k1,ev⟩,⟨p2,m2,k2,ec⟩⟩:=hks X[i] (List.getElem_mem hiX)
  have hs:way[i]=(X[i].nd,X[i].at_):=by simp [<-hX]
  obtain ⟨hat1,hn⟩:=hat way[i] (List.getElem_mem hi);rw [hs] at hat1 hn;obtain ⟨a2,c2,ek⟩:=own_slice ok;rw [ek] at ok t1;rw [ev] at t2;rw [ec] at t3;obtain ⟨gs,e,h⟩:=row_getS (i:=X[i].at_) ok hat1 rfl;subst e
  obtain ⟨g,rfl⟩:∃g,aw=some ⟨g,0,none⟩:=by
   rcases hrow.2 with ⟨e,h0⟩ | ⟨g,cc,cur,e,_⟩
   ·omega
   ·injection e with e1;exact ⟨g,e1⟩
  have hgl:=(hrow.lt g rfl).2;have hgs:=(ok.lt gs rfl).2;refine ⟨X[i].nd.lf,g,gs,X[i].nd.ks.length,c2,X[i].at_,p1,p2,m1,k1,m2,k2,X[i].nd.ks.getD X[i].at_ ⟨#[]⟩,X[i].nd.ks.getD (X[i].at_+1) ⟨#[]⟩,rfl,?_,?_,?_,?_,?_,hat1,hn,hgs,?_,?_,?_⟩
  ·rw [hb.cell (by exact hgl),hrow.cellAt _ (by omega),t0]
  ·rw [hb.cell (by exact hgl),hrow.cellAt _ (by omega),t1]
  ·rw [hb.cell (by exact hgl),hrow.cellAt _ (by omega),t2]
  ·rw [hb.cell (by exact hgl),hrow.cellAt _ (by omega),t3]
  ·rw [hb.cell (by exact hgl),hrow.cellAt _ (by omega),t4]
  ·rw [hb.cell (by exact hgs),h]
  ·intro h1
   obtain ⟨g',e,h2⟩:=row_getS (i:=X[i].at_+1) ok h1 rfl
   injection e with e;injection e with e;subst e
   rw [hb.cell (by exact hgs),h2]
  ·intro _
   rw [hs,fit1,<-hfs,<-hls])
 have HB0:=hide hb0
 have hn2:(n1:Int)<=1048576:=by omega
 clear hn1 hk hk4 hno o1 hrow hks hX hat hbox hb0 hlt hfs hls;go_enter Tryz.func52,Tryz.ntmps52;go_wp2_with fail;rw [<-hw0];clear hw0
 have hn0:(0:Int)<=(n1:Int):=by omega
 go_quiet (fail)
 go_wp2_with fail
 go_loopg [25] way.length (fun q iv wr=>∃i:Nat,i<=way.length/\q+i=way.length/\iv= .int .i64 (i:Int)/\Hid ((way.take i).all (fit1 nd)=true)/\Hid (Below W.heap.size W wr))
 case atStart=>exact ⟨0,Nat.zero_le _,by omega,rfl,hide rfl,hide (below_drewN HB0.out _)⟩
 case round=>
  obtain ⟨i,hi,hq,rfl,HAll,HB⟩:=hrel;have HQ:=hide hq;clear hq q2 q5 c0 c1
  by_cases hlt:i<way.length
  ·obtain ⟨lf,g,gs,n,c,at_,p1,p2,m1,k1,m2,k2,x,y,rfl,d0,d1,d2,d3,d4,hat,hn,hgs,e0,e1,hfit⟩:=HSt.out i hlt wr HB.out
   have hf:=hfit hlt;clear hfit;have HFit:=hide hf;clear hf;obtain ⟨b1,h1⟩:∃b,Op.bytesLess x.toList fs.toList=b:=⟨_,rfl⟩;obtain ⟨b2,h2⟩:∃b,(x.toList ==fs.toList)=b:=⟨_,rfl⟩
   have hi0:(0:Int)<=(i:Int):=by omega
   have hi1:(i:Int)<(way.length:Int):=by omega
   have ha0:(0:Int)<=(at_:Int):=by omega
   have ha1:(at_:Int)<(n:Int):=by omega
   have hgl:gs<wr.heap.size:=Nat.lt_of_lt_of_le hgs HB.out.size
   have hca:∀o,(wr.alloc o).cell? ⟨gs,at_,none⟩=some (.string x):=fun o=>(((Below.refl _ _).alloc (Nat.le_refl _) o).cell (by exact hgl)).trans e0
   have hcb:at_+1<n->∀o,(wr.alloc o).cell? ⟨gs,at_+1,none⟩=some (.string y):=fun h o=>(((Below.refl _ _).alloc (Nat.le_refl _) o).cell (by exact hgl)).trans (e1 h)
   have HC:=hide hcb;clear e1 hcb HSt
   have HG1:Hid (lessB fs x= !(b1 || b2)):=hide (by rw [lessB,<-gtB_eq,h1,h2])
   have HNo:fit1 nd way[i]=false->Hid (fitB ⟨pg,nd,way⟩=false):=fun h=>hide (by rw [fitB_all];exact all_no _ _ i hlt h)
   have HYe:fit1 nd way[i]=true->Hid ((way.take (i+1)).all (fit1 nd)=true):=fun h=>hide (by rw [all_snoc _ _ _ hlt,HAll.out,h];rfl)
   by_cases hm:at_+1<n
   ·have hcc:=HC.out hm
    have hm1:(at_:Int)+1<(n:Int):=by omega
    obtain ⟨b3,h3⟩:∃b,Op.bytesLess y.toList lst.toList=b:=⟨_,rfl⟩;obtain ⟨b4,h4⟩:∃b,(y.toList ==lst.toList)=b:=⟨_,rfl⟩
    have HG2:Hid (lessB lst y= !(b3 || b4)):=hide (by rw [lessB,<-gtB_eq,h3,h4])
    have HF:Hid (fit1 nd way[i]=(!(!(b1 || b2)) && !(b3 || b4))):=hide (by rw [HFit.out,HG1.out,HG2.out,decide_eq_true hm];simp)
    cases b1 <;> cases b2 <;> cases b3 <;> cases b4
    all_goals first
     | (have HN:=HNo (by rw [HF.out];rfl);clear HNo HYe;go_wp2_with fail;go_ret;exact ⟨by rw [HN.out];rfl,HB.out.alloc HB.out.size _⟩)
     | (have HY:=HYe (by rw [HF.out];rfl);clear HNo HYe;go_wp2_with fail;go_roundg (gk - 1);(case measure=>have:=HQ.out;omega);(case rel=>exact ⟨i+1,by omega,by have:=HQ.out;omega,by go_num,HY,hide (HB.out.alloc HB.out.size _)⟩))
   ·have hm1:¬((at_:Int)+1<(n:Int)):=by omega
    have HF:Hid (fit1 nd way[i]= !(!(b1 || b2))):=hide (by rw [HFit.out,HG1.out,decide_eq_false hm];simp)
    cases b1 <;> cases b2
    all_goals first
     | (have HN:=HNo (by rw [HF.out];rfl);clear HNo HYe;go_wp2_with fail;go_ret;exact ⟨by rw [HN.out];rfl,HB.out.alloc HB.out.size _⟩)
     | (have HY:=HYe (by rw [HF.out];rfl);clear HNo HYe;go_wp2_with fail;go_roundg (gk - 1);(case measure=>have:=HQ.out;omega);(case rel=>exact ⟨i+1,by omega,by have:=HQ.out;omega,by go_num,HY,hide (HB.out.alloc HB.out.size _)⟩))
  ·obtain rfl:i=way.length:=by omega
   go_wp2_with fail;go_ret
   exact ⟨by rw [fitB_all];have:=HAll.out;rw [List.take_length] at this;rw [this];rfl,HB.out⟩
end Go.Proofs.YtjmgdmdleamenaaGreatDoor
