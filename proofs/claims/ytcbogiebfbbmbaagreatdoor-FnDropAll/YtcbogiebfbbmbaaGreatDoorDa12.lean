/-
  Facts and contracts that the law's own text rests on, by their texts' names: ImplCopyN, WCopyImpl, GiveImpl.
-/
import Derived.Test.YtcbogiebfbbmbaaGreatDoorDa1
import Derived.Test.YtcbogiebfbbmbaaGreatDoorDa9
import Derived.Test.YtcbogiebfbbmbaaGreatDoorDa11
import Derived.Test.YtcbogiebfbbmbaaGreatDoorDa8
import Derived.Test.YtcbogiebfbbmbaaGreatDoorDa2
import Derived.Test.YtcbogiebfbbmbaaGreatDoorDa3
set_option maxHeartbeats 16000000
set_option maxRecDepth 100000
namespace Go.Proofs.YtcbogiebfbbmbaaGreatDoor
open Go.RowKit
structure CopyIn (wr:World) (a0 a1:Nat) (vp vl:Value) (w:World):Prop where
 box:wr.heap[a0]?=some (Obj.cells #[vp,vl] 29)
 res:wr.heap[a1]?=some (Obj.cells #[.slice none 0 0,.slice none 0 0] 29)
 low:Below a0 w wr
theorem zbS {wr wr':World} {a0 a1:Nat} {vp vl:Value} {w:World} (h:CopyIn wr a0 a1 vp vl w) (hb:Below wr.heap.size wr wr'):CopyIn wr' a0 a1 vp vl w:=
 ⟨(hb.block _ (Array.getElem?_eq_some_iff.1 h.box).1).trans h.box,(hb.block _ (Array.getElem?_eq_some_iff.1 h.res).1).trans h.res,h.low.trans (hb.mono (Nat.le_of_lt (Array.getElem?_eq_some_iff.1 h.box).1))⟩
theorem zfr {wr:World} {a0 a1:Nat} {vp vl:Value} {w:World} (h:CopyIn wr a0 a1 vp vl w) (o:Obj):CopyIn (wr.alloc o) a0 a1 vp vl w:=zbS h ((Below.refl _ _).alloc (Nat.le_refl _) _)
theorem zfs {wr wr':World} {a0 a1 g:Nat} {vp vl:Value} {w:World} (h:CopyIn wr a0 a1 vp vl w) (hg:wr.grownBy wr' (some g)) (h0:a0<g) (h1:a1<g):CopyIn wr' a0 a1 vp vl w:=
 ⟨(hg.block _ (Array.getElem?_eq_some_iff.1 h.box).1 (by intro e;injection e with e;omega)).trans h.box,(hg.block _ (Array.getElem?_eq_some_iff.1 h.res).1 (by intro e;injection e with e;omega)).trans h.res,h.low.grown hg (Nat.le_of_lt (Array.getElem?_eq_some_iff.1 h.box).1) (fun k hk=>by injection hk with hk;omega)⟩
theorem zlC (l:List ByteArray) (k:Nat) (h:k<l.length):strs (l.take k)++ [.string l[k]]=strs (l.take (k+1)):=by
 rw [List.take_succ_eq_append_getElem h,strs,strs,List.map_append];rfl
theorem zlD (l:List (Int×ByteArray)) (k:Nat) (h:k<l.length):puts (l.take k)++ [.int .i64 l[k].1,.string l[k].2]=puts (l.take (k+1)):=by
 rw [List.take_succ_eq_append_getElem h,puts,puts,List.flatMap_append];rfl
theorem new_put (w:World) (q:Int) (t:ByteArray):∀j u,[Value.int .i64 q,.string t][j]?=some u->(w.alloc (Obj.cells #[.int .i64 q,.string t] 90)).cell? ((⟨w.heap.size,0,none⟩:Addr).add j)=some u:=fun j u hj=>by
 rw [Addr.add_lit,Nat.zero_add,(za0 (heap_alloc_new w _) j).1,<-hj]
 simp
theorem zgp (q:Int) (t:ByteArray):∀y∈ [Value.int .i64 q,.string t],y.oneCell'=true:=fun y hy=>by
 simp only [List.mem_cons,List.not_mem_nil,or_false] at hy
 rcases hy with rfl | rfl <;> rfl
theorem zft (v:Value) (ps:List ByteArray) (ls:List (Int×ByteArray)) (hp:ps.length<=1048576) (hl:ls.length<=1048576) (hps:∀s∈ps,s.size<=1048576) (hls:∀p∈ls,p.2.size<=1048576) (w:World) (hd:DiskAt w v ps ls):
  Calls Tryz.prog 42 #[v] w fun e w'=>∃v',e= .returned v'/\DiskOwn w' w.heap.size v' ps ls/\Below w.heap.size w w':=by
 obtain ⟨i0,hi,hz0,hz1,hz2⟩:=info_parts Tryz.infoStrR;obtain ⟨i1,hj,hy0,hy1,hy2⟩:=info_parts Tryz.infoPut;obtain ⟨vp,vl,rfl,h1,h2⟩:=hd
 obtain ⟨x1,c1,rfl⟩:∃a cap,vp= .slice a ps.length cap:=by obtain ⟨-,a,cap,e,-⟩:=h1;exact ⟨a,cap,e⟩
 obtain ⟨x2,c2,rfl⟩:∃a cap,vl= .slice a ls.length cap:=by obtain ⟨-,a,cap,e,-⟩:=h2;exact ⟨a,cap,e⟩
 have H1:=hide h1;have H2:=hide h2;have HPs:=hide hps;have HLs:=hide hls;clear h1 h2 hps hls;obtain ⟨w0,hw0⟩:∃w0,w0=(w.alloc (Obj.cells #[.slice x1 ps.length c1,.slice x2 ls.length c2] 29)).alloc (Obj.cells #[.slice none 0 0,.slice none 0 0] 29):=⟨_,rfl⟩;obtain ⟨q0,q1,hs0⟩:=zaE w (Obj.cells #[.slice x1 ps.length c1,.slice x2 ls.length c2] 29) (Obj.cells #[.slice none 0 0,.slice none 0 0] 29);rw [<-hw0] at q0 q1 hs0
 have hb0:Below w.heap.size w w0:=by rw [hw0];exact ((Below.refl w.heap.size w).alloc (Nat.le_refl _) _).alloc (by simp) _
 go_enter Tryz.func42,Tryz.ntmps42
 go_wp2_with (at_make;rw [<-hw0];refine wpList_make_own _ rfl _ _ 26 rfl w0.heap.size 9 i0 (.string ⟨#[]⟩) 1 Tryz.underlying26 hi hz0 hz1 .i64 .i64 _ ps.length rfl rfl rfl (by rw [hz2];omega) (by unfold maxLen;omega) (Nat.le_refl _) ?_)
 intro w1 hown1 hg1;obtain ⟨a0,ha0⟩:∃a,a=w.heap.size:=⟨_,rfl⟩;obtain ⟨a1,ha1⟩:∃a,a=a0+1:=⟨_,rfl⟩;obtain ⟨a2,ha2⟩:∃a,a=a1+1:=⟨_,rfl⟩;rw [<-hw0] at hg1;rw [<-ha0,<-ha1,<-ha2] at hown1⊢;rw [<-ha0] at q0 q1 hs0;rw [<-ha1] at q1
 have hC1:CopyIn w1 a0 a1 (.slice x1 ps.length c1) (.slice x2 ls.length c2) w:=⟨(hg1.block a0 (by omega) (by simp)).trans q0,(hg1.block a1 (by omega) (by simp)).trans q1,by rw [ha0];exact hb0.grown hg1 (by omega) (fun k hk=>by cases hk)⟩
 have HA:=hide (⟨ha0,ha1,by omega⟩:a0=w.heap.size/\a1=a0+1/\a2=a0+2)
 have cb0:w1.cell? ⟨a0,0,none⟩=some (.slice x1 ps.length c1):=(za0 hC1.box 0).1;have cb1:w1.cell? ⟨a0,1,none⟩=some (.slice x2 ls.length c2):=(za0 hC1.box 1).1;have HC1:=hide hC1;have HO1:=hide hown1;clear hC1 hown1 hg1 ha0 ha1 ha2 hw0 hb0 q0 q1 hs0;go_wp2_with fail
 go_loopg [3,16] ps.length (fun q pv iv wr=>∃k:Nat,k<=ps.length/\iv= .int .i64 (k:Int)/\q+k=ps.length/\pv= .slice (some ⟨a2,0,none⟩) k ps.length/\Hid (CopyIn wr a0 a1 (.slice x1 ps.length c1) (.slice x2 ls.length c2) w)/\Hid (wr.ownsRow a2 9 1 (.slice (some ⟨a2,0,none⟩) k ps.length) k (strs (ps.take k))))
 case atStart=>exact ⟨0,Nat.zero_le _,rfl,rfl,rfl,HC1,HO1⟩
 case round=>
  obtain ⟨k,hk,rfl,hg,rfl,HC,HO⟩:=hrel;have HG:=hide hg;clear hg cb0 cb1 HC1 HO1
  by_cases hlt:k<ps.length
  ·rcases H1.out.2 with ⟨a,cap,e,h0 | ⟨b,off,e2,hbl,hc⟩⟩
   ·omega
   ·injection e with e1 e3 e4
    subst e1 e4;subst e2;obtain ⟨x,hx⟩:∃x,x=ps[k]:=⟨_,rfl⟩
    have hba:b<a0:=by have:=HA.out;omega
    have hcell:wr.cell? ⟨b,off+k,none⟩=some (.string x):=by rw [HC.out.low.cell (by exact hba),hc k (by omega),zaP ps k hlt,hx]
    have hxs:x.size<=1048576:=by rw [hx];exact HPs.out _ (List.getElem_mem hlt)
    have HCl:=hide (zcj x (by omega))
    have hi0:(0:Int)<=(k:Int):=by omega
    have hi1:(k:Int)<(ps.length:Int):=by omega
    have HX:=hide hx;clear hc hx;go_wp2_with fail;refine (HCl.out _).mono ?_;rintro e w2 ⟨rfl,hb2⟩;have HC2:=hide (zfr (zbS HC.out hb2) (Obj.cells #[.string x] 9));have hown3:=(zaf HO.out hb2).alloc (Obj.cells #[.string x] 9)
    have hnew:∀j u,[Value.string x][j]?=some u->(w2.alloc (Obj.cells #[.string x] 9)).cell? ((⟨w2.heap.size,0,none⟩:Addr).add j)=some u:=fun j u hj=>by
     obtain rfl:j=0:=by have:=(List.getElem?_eq_some_iff.1 hj).1;simp at this;omega
     rw [Addr.add_lit,<-hj];exact (za0 (heap_alloc_new w2 _) 0).1
    clear hb2 hcell
    go_wp2_with (at_builtin;refine wpList_append_fits _ rfl _ _ 26 rfl a2 9 i0 1 Tryz.underlying26 hi hz1 a2 k ps.length _ rfl hown3 ⟨w2.heap.size,0,none⟩ 1 1 [.string x] rfl rfl hnew (by simp [Value.oneCell']) (by omega) ?_)
    intro w4 hown4 hg4
    have HC4:=hide (zfs HC2.out hg4 (by have:=HA.out;omega) (by have:=HA.out;omega))
    have HO4:Hid (w4.ownsRow a2 9 1 (.slice (some ⟨a2,0,none⟩) (k+1) ps.length) (k+1) (strs (ps.take (k+1)))):=hide (by rw [<-zlC ps k hlt,<-HX.out];exact hown4)
    clear hown4 hg4 hown3 hnew;go_wp2_with fail
    go_roundg (gk - 1)
    case measure=>have:=HG.out;omega
    case rel=>exact ⟨k+1,by omega,by go_num,by have:=HG.out;omega,rfl,HC4,HO4⟩
  ·obtain rfl:k=ps.length:=by omega
   have HOp:Hid (wr.ownsRow a2 9 1 (.slice (some ⟨a2,0,none⟩) ps.length ps.length) ps.length (strs ps)):=hide (by have:=HO.out;rw [List.take_length] at this;exact this)
   have cb1:wr.cell? ⟨a0,1,none⟩=some (.slice x2 ls.length c2):=(za0 HC.out.box 1).1;clear HO
   go_wp2_with (at_make;refine wpList_make_own _ rfl _ _ 27 rfl wr.heap.size 90 i1 (.agg #[.int .i64 0,.string ⟨#[]⟩]) 2 Tryz.underlying27 hj hy0 hy1 .i64 .i64 _ ls.length rfl rfl rfl (by rw [hy2];omega) (by unfold maxLen;omega) (Nat.le_refl _) ?_)
   intro w5 hown5 hg5;obtain ⟨a3,ha3⟩:∃a,a=wr.heap.size:=⟨_,rfl⟩
   have hb5:Below wr.heap.size wr w5:=(Below.refl _ _).grown hg5 (Nat.le_refl _) (fun k hk=>by cases hk)
   have hlt2:a2<a3:=by rw [ha3];exact (HOp.out.lt a2 rfl).2
   rw [<-ha3] at hown5⊢;have HC5:=hide (zbS HC.out hb5);have HP5:=hide (zaf HOp.out hb5);have HO5:=hide hown5;have HL2:=hide hlt2;have cb2:w5.cell? ⟨a0,1,none⟩=some (.slice x2 ls.length c2):=(za0 HC5.out.box 1).1;clear hown5 hg5 hb5 ha3 HC HOp cb1 hlt2;go_wp2_with fail
   go_loopg [6,33] ls.length (fun q pv iv wq=>∃k:Nat,k<=ls.length/\iv= .int .i64 (k:Int)/\q+k=ls.length/\pv= .slice (some ⟨a3,0,none⟩) k ls.length/\Hid (CopyIn wq a0 a1 (.slice x1 ps.length c1) (.slice x2 ls.length c2) w)/\Hid (wq.ownsRow a2 9 1 (.slice (some ⟨a2,0,none⟩) ps.length ps.length) ps.length (strs ps))/\Hid (wq.ownsRow a3 90 2 (.slice (some ⟨a3,0,none⟩) k ls.length) k (puts (ls.take k))))
   case atStart=>exact ⟨0,Nat.zero_le _,rfl,rfl,rfl,HC5,HP5,HO5⟩
   case round=>
    obtain ⟨k,hk,rfl,hg,rfl,HC,HP,HO⟩:=hrel;have HG:=hide hg;clear hg cb2 HC5 HP5 HO5
    by_cases hlt:k<ls.length
    ·rcases H2.out.2 with ⟨a,cap,e,h0 | ⟨b,off,e2,hbl,hc⟩⟩
     ·omega
     ·injection e with e1 e3 e4
      subst e1 e4;subst e2;obtain ⟨q,t,hqt⟩:∃q t,(q,t)=ls[k]:=⟨_,_,rfl⟩
      have hba:b<a0:=by have:=HA.out;omega
      have hc0:wr.cell? ⟨b,off+k * 2,none⟩=some (.int .i64 q):=by rw [HC.out.low.cell (by exact hba),hc (k * 2) (by omega),(zcy ls k hlt).1,<-hqt]
      have hc1:wr.cell? ⟨b,off+k * 2+1,none⟩=some (.string t):=by rw [HC.out.low.cell (by exact hba),Nat.add_assoc,hc (k * 2+1) (by omega),(zcy ls k hlt).2,<-hqt]
      have hts:t.size<=1048576:=by have:=HLs.out _ (List.getElem_mem hlt);rw [<-hqt] at this;exact this
      have HCl:=hide (zcj t (by omega))
      have hi0:(0:Int)<=(k:Int):=by omega
      have hi1:(k:Int)<(ls.length:Int):=by omega
      have HQT:=hide hqt;obtain ⟨wa,hwa⟩:∃wa,wa=wr.alloc (Obj.cells #[.int .i64 q,.string t] 90):=⟨_,rfl⟩;obtain ⟨ap,hap⟩:∃ap,ap=wr.heap.size:=⟨_,rfl⟩
      have hva:wa.heap[ap]?=some (Obj.cells #[.int .i64 q,.string t] 90):=by rw [hwa,hap];exact heap_alloc_new wr _
      have hba2:Below wr.heap.size wr wa:=by rw [hwa];exact (Below.refl _ _).alloc (Nat.le_refl _) _
      have HVa:=hide hva;have HCa:=hide (zbS HC.out hba2);have HPa:=hide (zaf HP.out hba2);have HOa:=hide (zaf HO.out hba2);have cp0:wa.cell? ⟨ap,0,none⟩=some (.int .i64 q):=(za0 hva 0).1;have cp1:wa.cell? ⟨ap,1,none⟩=some (.string t):=(za0 hva 1).1;clear hc hqt hba2 hva;go_wp2_with fail;rw [<-hwa,<-hap];clear hwa hap hc0 hc1
      go_region_law (first | (refine zaG _ ?_ 64 Tryz.f64 Tryz.func64 ?_ ?_ (.tmp 41) #[9] ?_ (.string t) ?_ _ (HCl.out _) ?_;exact rfl;decide;exact Option.some_ne_none _;exact rfl;exact rfl;rintro e w2 ⟨rfl,hb2⟩;refine ⟨_,rfl,?_⟩;have hb3:Below wa.heap.size wa w2:=(Below.refl _ _).drew.trans hb2;have cq0:w2.cell? ⟨ap,0,none⟩=some (.int .i64 q):=(za0 ((hb3.block _ (Array.getElem?_eq_some_iff.1 HVa.out).1).trans HVa.out) 0).1;have HC2:=hide (zfr (zbS HCa.out hb3) (Obj.cells #[.int .i64 q,.string t] 90));have HP2:=hide ((zaf HPa.out hb3).alloc (Obj.cells #[.int .i64 q,.string t] 90));have HO2:=hide ((zaf HOa.out hb3).alloc (Obj.cells #[.int .i64 q,.string t] 90))) | (refine zfx _ ?_ (.tmp 37) (.tmp 44) 27 ?_ a3 90 i1 2 Tryz.underlying27 hj hy1 a3 k ls.length _ ?_ HO2.out ⟨w2.heap.size,0,none⟩ 1 1 [.int .i64 q,.string t] ?_ ?_ (new_put w2 q t) ?_ ?_ ?_;exact rfl;exact rfl;exact rfl;exact rfl;exact rfl;exact zgp q t;omega;intro w4 hown4 hg4))
      all_goals
       have HC4:=hide (zfs HC2.out hg4 (by have h1:=HA.out;have h2:=HL2.out;omega) (by have h1:=HA.out;have h2:=HL2.out;omega))
       have HP4:=hide (HP2.out.kept hg4 (Or.inr (by intro e;have e2:a2=a3:=Option.some.inj e;have h2:=HL2.out;omega)))
       have HO4:Hid (w4.ownsRow a3 90 2 (.slice (some ⟨a3,0,none⟩) (k+1) ls.length) (k+1) (puts (ls.take (k+1)))):=hide (by rw [<-zlD ls k hlt,<-HQT.out];exact hown4)
       clear hown4 hg4 HC2 HP2 HO2 hb2 hb3 cq0 cp0 cp1;go_wp2_with fail
       go_roundg (gk - 1)
       case measure=>have:=HG.out;omega
       case rel=>exact ⟨k+1,by omega,by go_num,by have:=HG.out;omega,rfl,HC4,HP4,HO4⟩
    ·obtain rfl:k=ls.length:=by omega
     have HOl:Hid (wr.ownsRow a3 90 2 (.slice (some ⟨a3,0,none⟩) ls.length ls.length) ls.length (puts ls)):=hide (by have:=HO.out;rw [List.take_length] at this;exact this)
     have cr0:wr.cell? ⟨a1,0,none⟩=some (.slice none 0 0):=(za0 HC.out.res 0).1;have cr1:wr.cell? ⟨a1,1,none⟩=some (.slice none 0 0):=(za0 HC.out.res 1).1;have fr0:=(za0 HC.out.res 0).2;have fr1:=(za0 HC.out.res 1).2;go_wp2_with fail;have hA:=HA.out;have hL:=HL2.out
     have hret:=zbw (w:=w) (B:=a2) (u0:= .slice (some ⟨a2,0,none⟩) ps.length ps.length) (u1:= .slice (some ⟨a3,0,none⟩) ls.length ls.length) (ps:=ps) (ls:=ls) HC.out.res ⟨_,_,rfl,HP.out,zad HOl.out (by omega)⟩ (by omega) (by omega) (by have:=HC.out.low;rw [hA.1] at this;exact this)
     exact bodyPost_ret (v:= .agg #[.slice (some ⟨a2,0,none⟩) ps.length ps.length,.slice (some ⟨a3,0,none⟩) ls.length ls.length]) (by simp [results,Tryz.results42,go_sem,hret.1,hret.2.1]) rfl ⟨_,rfl,hret.2.2.1,hret.2.2.2⟩
open Go.RowKit
theorem zc5 (v:Value) (k:Wk) (hk:k.small) (w:World) (hd:WorkAt w v k):
  Calls Tryz.prog 26 #[v] w fun e w'=>∃v',e= .returned v'/\WorkNw w' w.heap.size v' k/\Below w.heap.size w w':=by
 obtain ⟨s1,s2,s3,s4,s5,s6,s7⟩:=hk
 have HC:=hide (fun vp vl wx h=>zft (.agg #[vp,vl]) k.ps k.ls s1 s3 s2 s4 wx h)
 have HS:=hide (⟨s1,s3,s5,s6,s7⟩:k.ps.length<=1048576/\k.ls.length<=1048576/\k.us.length<=2000000/\k.gs.length<=2000000/\k.fs.length<=2000000);clear s1 s2 s3 s4 s5 s6 s7;obtain ⟨vp,vl,vu,vg,vf,rfl,h1,h2,h3,h4,-⟩:=hd;have HD:=hide h1;have HU:=hide h2;have HG:=hide h3;have HF:=hide h4;clear h1 h2 h3 h4;obtain ⟨nx,hnx⟩:∃n,n=k.next:=⟨_,rfl⟩;rw [<-hnx];have HNx:=hide hnx;clear hnx;obtain ⟨w0,hw0⟩:∃w0,w0=(w.alloc (Obj.cells #[vp,vl,.int .i64 nx,vu,vg,vf] 34)).alloc (Obj.cells #[.slice none 0 0,.slice none 0 0,.int .i64 0,.slice none 0 0,.slice none 0 0,.slice none 0 0] 34):=⟨_,rfl⟩
 have hb0:Below w.heap.size w w0:=by rw [hw0];exact ((Below.refl w.heap.size w).alloc (Nat.le_refl _) _).alloc (by simp) _
 obtain ⟨q0,q1,hs0⟩:=zaE w (Obj.cells #[vp,vl,.int .i64 nx,vu,vg,vf] 34) (Obj.cells #[.slice none 0 0,.slice none 0 0,.int .i64 0,.slice none 0 0,.slice none 0 0,.slice none 0 0] 34);rw [<-hw0] at q0 q1 hs0;obtain ⟨a0,ha0⟩:∃a,a=w.heap.size:=⟨_,rfl⟩;rw [<-ha0] at q0 q1 hs0
 have hcs0:CS w a0 (Obj.cells #[vp,vl,.int .i64 nx,vu,vg,vf] 34) (Obj.cells #[.slice none 0 0,.slice none 0 0,.int .i64 0,.slice none 0 0,.slice none 0 0,.slice none 0 0] 34) k.ps k.ls w0 (fun y=>y<0) [] []:=
  ⟨ha0,hb0,q0,q1,fun g hg=>absurd hg (by omega),fun r hr=>(by cases hr),List.Pairwise.nil,fun v hv=>(by cases hv)⟩
 go_enter Tryz.func26,Tryz.ntmps26;go_wp2_with fail;rw [<-hw0,<-ha0];clear ha0 hw0 hs0 hb0 q0 q1
 refine wp_region_held_drew (S:=fun wx=>wx.cell? ⟨a0,0,none⟩=some vp/\wx.cell? ⟨a0,1,none⟩=some vl/\wx.cell? ⟨a0,2,none⟩=some (.int .i64 nx)/\wx.cell? ⟨a0,3,none⟩=some vu/\wx.cell? ⟨a0,4,none⟩=some vg/\wx.cell? ⟨a0,5,none⟩=some vf) (by kernel_rfl) (zdD (zhy hcs0)) (fun hHeld=> ?_)
 refine tK 0 3 ?_ rfl rfl (by kernel_rfl) (fun _ _ _ h=>h) ⟨by rfl,?_⟩ hHeld ?_
 rotate_left
 ·(intro wx hSw;(try dsimp only at hSw);go_simp;try with_reducible rfl)
 simp only [yA,yB,yC]
 refine tK 1 4 ?_ rfl rfl (by kernel_rfl) (fun _ _ _ h=>h) ⟨by rfl,?_⟩ hHeld ?_
 rotate_left
 ·(intro wx hSw;(try dsimp only at hSw);go_simp;try with_reducible rfl)
 simp only [yA,yB,yC]
 refine tK 3 6 ?_ rfl rfl (by kernel_rfl) (fun _ _ _ h=>h) ⟨by rfl,?_⟩ hHeld ?_
 rotate_left
 ·(intro wx hSw;(try dsimp only at hSw);go_simp;try with_reducible rfl)
 simp only [yA,yB,yC]
 refine tK 4 7 ?_ rfl rfl (by kernel_rfl) (fun _ _ _ h=>h) ⟨by rfl,?_⟩ hHeld ?_
 rotate_left
 ·(intro wx hSw;(try dsimp only at hSw);go_simp;try with_reducible rfl)
 simp only [yA,yB,yC]
 refine tK 6 9 ?_ rfl rfl (by kernel_rfl) (fun _ _ _ h=>h) ⟨by rfl,?_⟩ hHeld ?_
 rotate_left
 ·(intro wx hSw;(try dsimp only at hSw);go_simp;try with_reducible rfl)
 simp only [yA,yB,yC]
 refine tK 7 10 ?_ rfl rfl (by kernel_rfl) (fun _ _ _ h=>h) ⟨by rfl,?_⟩ hHeld ?_
 rotate_left
 ·(intro wx hSw;(try dsimp only at hSw);go_simp;try with_reducible rfl)
 simp only [yA,yB,yC]
 refine tK 10 13 ?_ rfl rfl (by kernel_rfl) (fun _ _ _ h=>h) ⟨by rfl,?_⟩ hHeld ?_
 rotate_left
 ·(intro wx hSw;(try dsimp only at hSw);go_simp;try with_reducible rfl)
 simp only [yA,yB,yC]
 refine tK 11 14 ?_ rfl rfl (by kernel_rfl) (fun _ _ _ h=>h) ⟨by rfl,?_⟩ hHeld ?_
 rotate_left
 ·(intro wx hSw;(try dsimp only at hSw);go_simp;try with_reducible rfl)
 simp only [yA,yB,yC]
 refine tK 14 17 ?_ rfl rfl (by kernel_rfl) (fun _ _ _ h=>h) ⟨by rfl,?_⟩ hHeld ?_
 rotate_left
 ·(intro wx hSw;(try dsimp only at hSw);go_simp;try with_reducible rfl)
 simp only [yA,yB,yC]
 refine tK 15 18 ?_ rfl rfl (by kernel_rfl) (fun _ _ _ h=>h) ⟨by rfl,?_⟩ hHeld ?_
 rotate_left
 ·(intro wx hSw;(try dsimp only at hSw);go_simp;try with_reducible rfl)
 simp only [yA,yB,yC]
 refine zir (us:=k.us) (gs:=k.gs) (fs:=k.fs) ⟨_,_,_,_,_,_,_,_,_,_,_,_,_,_⟩ HS.out.2.2.1 HS.out.2.2.2.1 HS.out.2.2.2.2 (fun _ _ _ _ h=>zdD h) 42 Tryz.f42 Tryz.func42 (by decide) (Option.some_ne_none _) #[29] (HC.out vp vl) HD.out HU.out HG.out HF.out rfl rfl rfl rfl rfl rfl rfl rfl rfl rfl rfl rfl rfl rfl rfl rfl rfl rfl rfl rfl rfl rfl rfl rfl rfl rfl rfl rfl (by kernel_rfl) (by kernel_rfl) (by kernel_rfl) (by kernel_rfl) (by kernel_rfl) (by kernel_rfl) (by kernel_rfl) (by kernel_rfl) (by kernel_rfl) (by kernel_rfl) (by kernel_rfl) (by kernel_rfl) (by kernel_rfl) (by kernel_rfl) (by kernel_rfl) (by kernel_rfl) (by kernel_rfl) (by kernel_rfl) (by kernel_rfl) (by kernel_rfl) (by kernel_rfl) (by kernel_rfl) ?_ _ (zhy hcs0)
 intro W Em x1 p1 y1 p2 te1 b1 q1 te2 b2 q2 te3 b3 q3 hcs;have hHeld2:=zdD hcs
 refine tK 17 20 ?_ rfl rfl (by kernel_rfl) (fun _ _ _ h=>h) ⟨by rfl,?_⟩ hHeld2 ?_
 rotate_left
 ·(intro wx hSw;(try dsimp only at hSw);go_simp;try with_reducible rfl)
 simp only [yA,yB,yC]
 have hwk:=zlb (k:=k) hcs;rw [<-HNx.out] at hwk
 have hret:=zfo hcs.res hwk (by omega) (by have:=hcs.n0e;omega) hcs.low
 obtain ⟨⟨r0,r1,r2,r3,r4,r5⟩,z0,z1,z2,z3,z4,z5⟩:=cs_res hcs;obtain ⟨f0,f1,f2,f3,f4,f5⟩:=blk6c hret.1;have HR:=hide hret;have HCs:=hide hcs;clear hret hwk hcs hHeld hcs0
 refine wpAnyH_ready (rs:= [18]) (by kernel_rfl) (by simp) ?_
 refine AllReadyH.cons rfl (fun K hK=> ?_) AllReadyH.nil
 go_simp
 refine hK.out _ _ (zic HCs.out) (fun _=> ?_)
 refine wpAnyH_done (by kernel_rfl) ?_ _
 go_wp2_with fail
 refine bodyPost_ret (v:= .agg #[.slice x1 k.ps.length p1,.slice y1 k.ls.length p2,.int .i64 nx,.slice (some ⟨b1,0,none⟩) k.us.length q1,.slice (some ⟨b2,0,none⟩) k.gs.length q2,.slice (some ⟨b3,0,none⟩) k.fs.length q3]) (by simp [results,Tryz.results26,go_sem,f0,f1,f2,f3,f4,f5]) rfl ⟨_,rfl,HR.out.2.1,HR.out.2.2⟩
open Go.RowKit
theorem zfA (v:Value) (k:Wk) (hk:k.small) (w:World) (hd:WorkAt w v k):
  Calls Tryz.prog 53 #[v] w fun e w'=>∃v',e= .returned (.tuple #[v',.int .i64 (giveP k)])/\WorkOwn w' w.heap.size v' (giveK k)/\Below w.heap.size w w':=by
 obtain ⟨i0,hi,hz0,hz1,hz2⟩:=info_parts Tryz.infoIntC;have hfl:=hk.2.2.2.2.2.2;have hpl:=hk.1
 have HC:=hide (fun u wx h=>zc5 u k hk wx h)
 have HD:=hide hd;obtain ⟨vp,vl,vu,vg,vf,rfl,h1,h2,h3,h4,-⟩:=hd;obtain ⟨nx,hnx⟩:∃n,n=k.next:=⟨_,rfl⟩;rw [<-hnx] at HD⊢;have HNx:=hide hnx;clear hk hnx h1 h2 h3 h4;obtain ⟨w0,hw0⟩:∃w0,w0=(w.alloc (Obj.cells #[vp,vl,.int .i64 nx,vu,vg,vf] 34)).alloc (Obj.cells #[.slice none 0 0,.slice none 0 0,.int .i64 0,.slice none 0 0,.slice none 0 0,.slice none 0 0] 34):=⟨_,rfl⟩
 have hb0:Below w.heap.size w w0:=by rw [hw0];exact ((Below.refl w.heap.size w).alloc (Nat.le_refl _) _).alloc (by simp) _
 obtain ⟨q0,q1,hs0⟩:=zaE w (Obj.cells #[vp,vl,.int .i64 nx,vu,vg,vf] 34) (Obj.cells #[.slice none 0 0,.slice none 0 0,.int .i64 0,.slice none 0 0,.slice none 0 0,.slice none 0 0] 34);rw [<-hw0] at q0 q1 hs0;obtain ⟨a0,ha0⟩:∃a,a=w.heap.size:=⟨_,rfl⟩;rw [<-ha0] at q0 q1 hs0;have HA:Hid (a0=w.heap.size/\w0.heap.size=a0+2):=hide ⟨ha0,hs0⟩;have HB0:=hide hb0;have HQ:=hide (⟨q0,q1⟩:_/\_);go_enter Tryz.func53,Tryz.ntmps53;go_wp2_with fail;rw [<-hw0,<-ha0];clear hb0 q0 q1 hs0 hw0 ha0;refine (HC.out _ _ (zae HD.out HB0.out)).mono ?_;rintro e w1 ⟨u,rfl,hnw,hb1⟩;obtain ⟨a1,c1,a2,c2,a3,c3,a4,c4,a5,c5,rfl⟩:=zaR hnw;rw [<-HNx.out] at hnw⊢;obtain ⟨np,hnp⟩:∃n,n=k.ps.length:=⟨_,rfl⟩;obtain ⟨nl,hnl⟩:∃n,n=k.ls.length:=⟨_,rfl⟩;obtain ⟨nu,hnu⟩:∃n,n=k.us.length:=⟨_,rfl⟩;obtain ⟨ng,hng⟩:∃n,n=k.gs.length:=⟨_,rfl⟩;obtain ⟨nf,hnf⟩:∃n,n=k.fs.length:=⟨_,rfl⟩;rw [<-hnp,<-hnl,<-hnu,<-hng,<-hnf] at hnw⊢;rw [<-hnp] at hpl;rw [<-hnf] at hfl;have HLn:=hide (⟨hnp,hnl,hnu,hng,hnf⟩:_/\_/\_/\_/\_);obtain ⟨g,hg⟩:∃g,g=w1.heap.size:=⟨_,rfl⟩;obtain ⟨w2,hw2⟩:∃wx,wx=w1.alloc (Obj.cells #[.slice a1 np c1,.slice a2 nl c2,.int .i64 nx,.slice a3 nu c3,.slice a4 ng c4,.slice a5 nf c5] 34):=⟨_,rfl⟩
 have hb2:Below w1.heap.size w1 w2:=by rw [hw2];exact (Below.refl _ _).alloc (Nat.le_refl _) _
 have hv2:w2.heap[g]?=some (Obj.cells #[.slice a1 np c1,.slice a2 nl c2,.int .i64 nx,.slice a3 nu c3,.slice a4 ng c4,.slice a5 nf c5] 34):=by rw [hw2,hg];exact heap_alloc_new w1 _
 have HB2:Hid (Below w.heap.size w w2):=hide ((HB0.out.trans (hb1.mono HB0.out.size)).trans (hb2.mono (HB0.out.trans (hb1.mono HB0.out.size)).size));have hbx:w2.heap[a0]?=_:=zaD (zaD HQ.out.1 hb1) hb2;have hrs:w2.heap[a0+1]?=_:=zaD (zaD HQ.out.2 hb1) hb2;have HNw:=hide (zcr hnw hb2)
 have HGt:Hid (w0.heap.size<=g/\g<w2.heap.size/\∀j,workBlocks (.agg #[.slice a1 np c1,.slice a2 nl c2,.int .i64 nx,.slice a3 nu c3,.slice a4 ng c4,.slice a5 nf c5]) j->w0.heap.size<=j/\j<g):=hide ⟨by rw [hg];exact hb1.size,(Array.getElem?_eq_some_iff.1 hv2).1,fun j hj=>by rw [hg];exact zal (zaJ hnw) j hj⟩
 have HV2:=hide hv2;have HRs:=hide hrs;have HBx:=hide hbx;obtain ⟨v0,v1,v2,v3,v4,v5⟩:=blk6c hv2;obtain ⟨bx0,bx1,bx2,bx3,bx4,bx5⟩:=blk6c hbx;obtain ⟨r0,r1,r2,r3,r4,r5⟩:=blk6c hrs;have zr0:=(za0 hrs 0).2;have zr1:=(za0 hrs 1).2;have zr2:=(za0 hrs 2).2;have zr3:=(za0 hrs 3).2;have zr4:=(za0 hrs 4).2;have zr5:=(za0 hrs 5).2
 have hng1:a0+1≠g:=by have:=HA.out;have:=HGt.out.1;omega
 have hng0:a0≠g:=by have:=HA.out;have:=HGt.out.1;omega
 have hgt:∀j,g<j->j≠g:=fun j h=>by omega
 have HN1:=hide hnw;have HB1:Hid (Below w.heap.size w w1):=hide (HB0.out.trans (hb1.mono HB0.out.size));have HR1:=hide (zaD HQ.out.2 hb1)
 have HF1:Hid (w1.ownsRow w0.heap.size 3 1 (.slice a5 nf c5) nf (ints k.fs)):=hide (by have:=(zbV hnw).2.2.2.2.1;rw [<-hnf] at this;exact this)
 rw [hw2] at r0 r1 r2 r3 r4 r5 zr0 zr1 zr2 zr3 zr4 zr5;clear v0 v1 v2 v3 v4 v5 bx0 bx1 bx2 bx3 bx4 bx5;clear hbx hrs hnp hnl hnu hng hnf hnw hb1 hb2
 by_cases hu:k.us= []
 ·have hnu0:nu=0:=by rw [HLn.out.2.2.1,hu];rfl
  subst hnu0
  by_cases hn:nx<(np:Int)
  ·have hgv:=zbP (k:=k) hu (by rw [<-HNx.out,<-HLn.out.1];exact hn)
   rw [<-HNx.out] at hgv;have HGv:=hide hgv;clear hgv;clear r0 r1 r2 r3 r4 r5 zr0 zr1 zr2 zr3 zr4 zr5 hv2;have HU0:Hid (IntOwn w1 w0.heap.size (.slice a3 0 c3) k.us):=hide (zan (zbV HN1.out).2.2.1);rw [HNx.out] at HN1;have HUs:=hide hu;clear hu
   go_wp2_with (at_builtin;(refine wpList_append_lies _ rfl _ _ 32 rfl w0.heap.size 3 i0 (.int .i64 0) 1 8 Tryz.underlying32 hi hz0 hz1 hz2 rfl (by decide) _ nf (ints k.fs) rfl ((HF1.out.alloc _).alloc _) ⟨w1.heap.size+1,0,none⟩ 1 1 [.int .i64 (nx)] rfl rfl ?c0 ?c1 (by decide) ?c3 ?c4 ?c5 _ rfl ?_))
   case c0=>exact zdE _ _ (by simp) _ _
   case c1=>intro u hu;simp at hu;subst hu;rfl
   case c3=>unfold maxLen;omega
   case c4=>omega
   case c5=>have:=HGt.out.1;simp;omega
   intro b5 d5 w5 hown5 hg5 hb5 hl5
   obtain ⟨e5,e6,e7,e8,e9,e10⟩:=zfJ (us':=k.us) (n':=wrap64 (nx+1)) HLn.out.2.2.2.2 HN1.out (HU0.out) (fun j e=>e) hg HR1.out (by have:=HA.out;omega) HA.out.1 HGt.out.1 HB1.out hown5 hg5 (by rcases hb5 with hb5 | hb5;exact Or.inl hb5;right;(try simp at hb5);omega)
   have s5:w5.cell? ⟨w1.heap.size,5,none⟩=some (.slice a5 nf c5):=by rw [<-hg];exact (za0 e5 5).1
   have z5:w5.frozen? ⟨w1.heap.size,5,none⟩=false:=by rw [<-hg];exact (za0 e5 5).2
   obtain ⟨w6,hw6⟩:∃w6,w6=w5.setCell ⟨g,5,none⟩ (.slice (some ⟨b5,0,none⟩) (nf+1) d5):=⟨_,rfl⟩;rw [<-hw6] at e6 e7 e8 e9 e10;obtain ⟨v0,v1,v2,v3,v4,v5⟩:=blk6c e6;obtain ⟨r0,r1,r2,r3,r4,r5⟩:=blk6c e7;have zr0:=(za0 e7 0).2;have zr1:=(za0 e7 1).2;have zr2:=(za0 e7 2).2;have zr3:=(za0 e7 3).2;have zr4:=(za0 e7 4).2;have zr5:=(za0 e7 5).2
   have hret:=zaM (w:=w) e7 e8 (by have:=HA.out;omega) (by have:=HA.out;omega) e9
   have HRet:=hide hret;rw [hw6,hg] at v0 v1 v2 v3 v4 v5 r0 r1 r2 r3 r4 r5 zr0 zr1 zr2 zr3 zr4 zr5;have HW6:=hide hw6;have HG:=hide hg;have HE6:=hide (⟨e6,e7,e8,e9,e10⟩:_/\_/\_/\_/\_);clear hown5 hg5 hb5 hl5 e5 e6 e7 e8 e9 e10 hret hw6 hg hw2 hng1 hng0 hgt;go_wp2_with fail;rw [<-HG.out,<-HW6.out];obtain ⟨f0,f1,f2,f3,f4,f5⟩:=blk6c HRet.out.1
   refine bodyPost_ret (v:= .tuple #[.agg #[.slice a1 np c1,.slice a2 nl c2,.int .i64 (wrap64 (nx+1)),.slice a3 0 c3,.slice a4 ng c4,.slice (some ⟨b5,0,none⟩) (nf+1) d5],.int .i64 (nx)]) (by simp [results,Tryz.results53,go_sem,f0,f1,f2,f3,f4,f5]) rfl ⟨_,by rw [HGv.out.2],by rw [HGv.out.1];exact HRet.out.2.1,HRet.out.2.2⟩
  ·have HGv:=hide (zcg (k:=k) hu (by rw [<-HNx.out,<-HLn.out.1];exact hn))
   have hret:=zaM (w:=w) HRs.out (zaJ HNw.out) (by have:=HA.out;omega) (by have:=HA.out;omega) HB2.out
   have HRet:=hide hret;have HUs:=hide hu;have HW2:=hide hw2;have HGg:=hide hg;clear hu hret hv2 hw2 hg hgt hng1 hng0;go_wp2_with fail;rw [<-HW2.out];obtain ⟨f0,f1,f2,f3,f4,f5⟩:=blk6c HRet.out.1
   refine bodyPost_ret (v:= .tuple #[.agg #[.slice a1 np c1,.slice a2 nl c2,.int .i64 nx,.slice a3 0 c3,.slice a4 ng c4,.slice a5 nf c5],.int .i64 0]) (by simp [results,Tryz.results53,go_sem,f0,f1,f2,f3,f4,f5]) rfl ⟨_,by rw [HGv.out.2],by rw [HGv.out.1];exact HRet.out.2.1,HRet.out.2.2⟩
 ·obtain ⟨x,t,hxt⟩:=List.exists_cons_of_ne_nil hu
  have HGv:Hid (giveK k={k with next:=nx,us:=t,fs:=k.fs++ [x]}/\giveP k=x):=hide (by rw [HNx.out];exact zbO (k:=k) hxt)
  have hu3:=(zbV HN1.out).2.2.1;rw [<-HLn.out.2.2.1] at hu3
  have hnt:nu=t.length+1:=by rw [HLn.out.2.2.1,hxt];rfl
  obtain ⟨gu,hgu,hgl,hcx,hnc⟩:∃gu,a3=some ⟨gu,0,none⟩/\gu<w1.heap.size/\w1.cell? ⟨gu,0,none⟩=some (.int .i64 x)/\nu<=c3:=by
   rcases hu3.2 with ⟨e,h0⟩ | ⟨gu,cap,cur,e,-,-,hnc,-⟩
   ·omega
   ·injection e with e1 e2 e3
    subst e1 e3;refine ⟨gu,rfl,(hu3.lt gu rfl).2,?_,hnc⟩
    have:=hu3.cellAt 0 (by omega)
    rw [this,hxt]
    rfl
  subst hgu
  have hcx2:(w1.alloc (Obj.cells #[.slice a1 np c1,.slice a2 nl c2,.int .i64 nx,.slice (some ⟨gu,0,none⟩) nu c3,.slice a4 ng c4,.slice a5 nf c5] 34)).cell? ⟨gu,0,none⟩=some (.int .i64 x):=(((Below.refl _ _).alloc (Nat.le_refl _) _).cell (by exact hgl)).trans hcx
  have hUt:∀y,(c3=1/\y=some (⟨gu,0,none⟩:Addr)\/¬c3=1/\y=some (⟨gu,1,none⟩:Addr))->IntOwn w1 w0.heap.size (.slice y (nu - 1) (c3 - 1)) t/\∀j,(Value.slice y (nu - 1) (c3 - 1)).ownBlock=some j->(Value.slice (some ⟨gu,0,none⟩) nu c3).ownBlock=some j:=fun y hy=>by
   have h:=zan (zbV HN1.out).2.2.1;rw [hxt] at h
   rcases hy with ⟨hc1,rfl⟩ | ⟨hc1,rfl⟩
   ·obtain rfl:t= []:=List.eq_nil_of_length_eq_zero (by omega)
    obtain ⟨cs,hcs⟩:=zh5 h rfl
    refine ⟨⟨some ⟨gu,0,none⟩,c3 - 1,by rw [hnt];rfl,Nat.zero_le _,Or.inr ⟨gu,0,cs,rfl,(zel h gu rfl).1,hcs,fun i hi=>absurd hi (by simp)⟩⟩,fun j e=>e⟩
   ·have h2:=zj5 (c':=c3 - 1) (n':=nu - 1) hnt (by omega) (by omega) h
    rw [Nat.zero_add] at h2
    exact ⟨h2,fun j e=>e⟩
  rw [HNx.out] at HN1
  have hn0:(0:Int)<(nu:Int):=by omega
  have hn1:(1:Int)<=(nu:Int):=by omega
  have hnc2:(nu:Int)<=(c3:Int):=by omega
  have HNt:=hide hnt;have HXt:=hide hxt;clear hu hu3 hcx hgl hxt hv2 r0 r1 r2 r3 r4 r5 zr0 zr1 zr2 zr3 zr4 zr5
  by_cases hc1:c3=1
  ·have HUt:=hide (hUt _ (Or.inl ⟨hc1,rfl⟩))
   clear hUt;subst hc1
   obtain rfl:nu=1:=by omega
   clear hnt hn0 hn1 hnc2 hnc
   go_wp2_with (at_builtin;(refine wpList_append_lies _ rfl _ _ 32 rfl w0.heap.size 3 i0 (.int .i64 0) 1 8 Tryz.underlying32 hi hz0 hz1 hz2 rfl (by decide) _ nf (ints k.fs) rfl ((HF1.out.alloc _).alloc _) ⟨w1.heap.size+1,0,none⟩ 1 1 [.int .i64 (x)] rfl rfl ?c0 ?c1 (by decide) ?c3 ?c4 ?c5 _ rfl ?_))
   case c0=>exact zdE _ _ (by simp) _ _
   case c1=>intro u hu;simp at hu;subst hu;rfl
   case c3=>unfold maxLen;omega
   case c4=>omega
   case c5=>have:=HGt.out.1;simp;omega
   intro b5 d5 w5 hown5 hg5 hb5 hl5
   obtain ⟨e5,e6,e7,e8,e9,e10⟩:=zfJ (us':=t) (n':=nx) HLn.out.2.2.2.2 HN1.out (HUt.out.1) (HUt.out.2) hg HR1.out (by have:=HA.out;omega) HA.out.1 HGt.out.1 HB1.out hown5 hg5 (by rcases hb5 with hb5 | hb5;exact Or.inl hb5;right;(try simp at hb5);omega)
   have s5:w5.cell? ⟨w1.heap.size,5,none⟩=some (.slice a5 nf c5):=by rw [<-hg];exact (za0 e5 5).1
   have z5:w5.frozen? ⟨w1.heap.size,5,none⟩=false:=by rw [<-hg];exact (za0 e5 5).2
   obtain ⟨w6,hw6⟩:∃w6,w6=w5.setCell ⟨g,5,none⟩ (.slice (some ⟨b5,0,none⟩) (nf+1) d5):=⟨_,rfl⟩;rw [<-hw6] at e6 e7 e8 e9 e10;obtain ⟨v0,v1,v2,v3,v4,v5⟩:=blk6c e6;obtain ⟨r0,r1,r2,r3,r4,r5⟩:=blk6c e7;have zr0:=(za0 e7 0).2;have zr1:=(za0 e7 1).2;have zr2:=(za0 e7 2).2;have zr3:=(za0 e7 3).2;have zr4:=(za0 e7 4).2;have zr5:=(za0 e7 5).2
   have hret:=zaM (w:=w) e7 e8 (by have:=HA.out;omega) (by have:=HA.out;omega) e9
   have HRet:=hide hret;rw [hw6,hg] at v0 v1 v2 v3 v4 v5 r0 r1 r2 r3 r4 r5 zr0 zr1 zr2 zr3 zr4 zr5;have HW6:=hide hw6;have HG:=hide hg;have HE6:=hide (⟨e6,e7,e8,e9,e10⟩:_/\_/\_/\_/\_);clear hown5 hg5 hb5 hl5 e5 e6 e7 e8 e9 e10 hret hw6 hg hw2 hng1 hng0 hgt;go_wp2_with fail;rw [<-HG.out,<-HW6.out];obtain ⟨f0,f1,f2,f3,f4,f5⟩:=blk6c HRet.out.1
   refine bodyPost_ret (v:= .tuple #[.agg #[.slice a1 np c1,.slice a2 nl c2,.int .i64 nx,.slice (some ⟨gu,0,none⟩) 0 0,.slice a4 ng c4,.slice (some ⟨b5,0,none⟩) (nf+1) d5],.int .i64 (x)]) (by simp [results,Tryz.results53,go_sem,f0,f1,f2,f3,f4,f5]) rfl ⟨_,by rw [HGv.out.2],by rw [HGv.out.1];exact HRet.out.2.1,HRet.out.2.2⟩
  ·have HUt:=hide (hUt _ (Or.inr ⟨hc1,rfl⟩))
   clear hUt hnt
   go_wp2_with (at_builtin;(refine wpList_append_lies _ rfl _ _ 32 rfl w0.heap.size 3 i0 (.int .i64 0) 1 8 Tryz.underlying32 hi hz0 hz1 hz2 rfl (by decide) _ nf (ints k.fs) rfl ((HF1.out.alloc _).alloc _) ⟨w1.heap.size+1,0,none⟩ 1 1 [.int .i64 (x)] rfl rfl ?c0 ?c1 (by decide) ?c3 ?c4 ?c5 _ rfl ?_))
   case c0=>exact zdE _ _ (by simp) _ _
   case c1=>intro u hu;simp at hu;subst hu;rfl
   case c3=>unfold maxLen;omega
   case c4=>omega
   case c5=>have:=HGt.out.1;simp;omega
   intro b5 d5 w5 hown5 hg5 hb5 hl5
   obtain ⟨e5,e6,e7,e8,e9,e10⟩:=zfJ (us':=t) (n':=nx) HLn.out.2.2.2.2 HN1.out (HUt.out.1) (HUt.out.2) hg HR1.out (by have:=HA.out;omega) HA.out.1 HGt.out.1 HB1.out hown5 hg5 (by rcases hb5 with hb5 | hb5;exact Or.inl hb5;right;(try simp at hb5);omega)
   have s5:w5.cell? ⟨w1.heap.size,5,none⟩=some (.slice a5 nf c5):=by rw [<-hg];exact (za0 e5 5).1
   have z5:w5.frozen? ⟨w1.heap.size,5,none⟩=false:=by rw [<-hg];exact (za0 e5 5).2
   obtain ⟨w6,hw6⟩:∃w6,w6=w5.setCell ⟨g,5,none⟩ (.slice (some ⟨b5,0,none⟩) (nf+1) d5):=⟨_,rfl⟩;rw [<-hw6] at e6 e7 e8 e9 e10;obtain ⟨v0,v1,v2,v3,v4,v5⟩:=blk6c e6;obtain ⟨r0,r1,r2,r3,r4,r5⟩:=blk6c e7;have zr0:=(za0 e7 0).2;have zr1:=(za0 e7 1).2;have zr2:=(za0 e7 2).2;have zr3:=(za0 e7 3).2;have zr4:=(za0 e7 4).2;have zr5:=(za0 e7 5).2
   have hret:=zaM (w:=w) e7 e8 (by have:=HA.out;omega) (by have:=HA.out;omega) e9
   have HRet:=hide hret;rw [hw6,hg] at v0 v1 v2 v3 v4 v5 r0 r1 r2 r3 r4 r5 zr0 zr1 zr2 zr3 zr4 zr5;have HW6:=hide hw6;have HG:=hide hg;have HE6:=hide (⟨e6,e7,e8,e9,e10⟩:_/\_/\_/\_/\_);clear hown5 hg5 hb5 hl5 e5 e6 e7 e8 e9 e10 hret hw6 hg hw2 hng1 hng0 hgt;go_wp2_with fail;rw [<-HG.out,<-HW6.out];obtain ⟨f0,f1,f2,f3,f4,f5⟩:=blk6c HRet.out.1
   refine bodyPost_ret (v:= .tuple #[.agg #[.slice a1 np c1,.slice a2 nl c2,.int .i64 nx,.slice (some ⟨gu,1,none⟩) (nu - 1) (c3 - 1),.slice a4 ng c4,.slice (some ⟨b5,0,none⟩) (nf+1) d5],.int .i64 (x)]) (by simp [results,Tryz.results53,go_sem,f0,f1,f2,f3,f4,f5]) rfl ⟨_,by rw [HGv.out.2],by rw [HGv.out.1];exact HRet.out.2.1,HRet.out.2.2⟩
end Go.Proofs.YtcbogiebfbbmbaaGreatDoor
