/-
  Facts and contracts that the law's own text rests on, by their texts' names: DelF.
-/
import Derived.Lib.SliceRun
import Derived.Test.YtcbogiebfbbmbaaGreatDoorDa1
import Derived.Test.YtcbogiebfbbmbaaGreatDoorDa15
import Derived.Test.YtcbogiebfbbmbaaGreatDoorDa28
set_option maxHeartbeats 16000000
set_option maxRecDepth 100000
namespace Go.Proofs.YtcbogiebfbbmbaaGreatDoor
open Go.RowKit
theorem zkd (page x:Int) (g:Nat) (w:World) (hg:w.heap[g]?=some (.cells #[.int .i64 page] 3 (0,0))):
  Calls Tryz.prog 99 #[.int .i64 x,.pointer (some ⟨g,0,none⟩)] w fun e w'=>e= .returned (.bool (x ==page))/\w=w':=by
 have c0:w.cell? ⟨g,0,none⟩=some (.int .i64 page):=(za0 hg 0).1;obtain ⟨t,ht⟩:∃t,(x ==page)=t:=⟨_,rfl⟩;rw [ht];clear hg
 cases t <;>
 ·go_enter Tryz.func99,Tryz.ntmps99
  go_wp2
  go_ret;exact ⟨rfl,rfl⟩
theorem zn0 (xs:List Int) (hx:xs.length<=1048576) (page:Int) (g:Nat) (v:Value) (w:World) (hr:RowAt w 1 v xs.length (ints xs)) (hg:w.heap[g]?=some (.cells #[.int .i64 page] 3 (0,0))):
  Calls Tryz.prog 129 #[v,.func (.func 99) #[] #[.pointer (some ⟨g,0,none⟩)]] w fun e w'=>∃r:Int,e= .returned (.int .i64 r)/\w=w'/\IdxOf xs page r:=by
 obtain ⟨a,cap,rfl⟩:=zaA hr;have HR:=hide hr
 have HC:=hide (fun x=>zkd page x g w hg)
 clear hr hg;go_enter Tryz.func129,Tryz.ntmps129;go_wp2_with fail
 go_loopg [8] xs.length (fun q iv wr=>∃i:Nat,i<=xs.length/\iv= .int .i64 (i:Int)/\q+i=xs.length/\Hid (∀j,j<i->xs.getD j 0≠page)/\w=wr)
 case atStart=>exact ⟨0,Nat.zero_le _,rfl,rfl,hide (fun j hj=>by omega),rfl⟩
 case round=>
  obtain ⟨i,hi,rfl,hg,HA,rfl⟩:=hrel;have HG:=hide hg;clear hg
  by_cases hlt:i<xs.length
  ·obtain ⟨-,a1,cp1,e1,h0 | ⟨bk,ok,e0,hbk,hck⟩⟩:=HR.out
   ·omega
   injection e1 with e11 _ e12
   subst e11 e12;subst e0;obtain ⟨z,hz⟩:∃z,z=xs.getD i 0:=⟨_,rfl⟩
   have hzc:w.cell? ⟨bk,ok+i,none⟩=some (.int .i64 z):=by rw [hck i (by omega),ints_at xs i hlt,hz];simp [List.getD,hlt]
   have HZ:=hide hz
   have hi0:(0:Int)<=(i:Int):=by omega
   have hi1:(i:Int)<(xs.length:Int):=by omega
   have HCz:=hide (HC.out z);clear hck hz
   by_cases he:z=page
   ·have hd:(z ==page)=true:=by rw [he];exact beq_self_eq_true _
    rw [hd] at HCz;have HE:=hide he;clear he;go_wp2_with fail;refine HCz.out.mono ?_;rintro e w2 ⟨rfl,rfl⟩;go_wp2_with fail;go_ret
    exact ⟨_,rfl,rfl,Or.inl ⟨i,hlt,rfl,HZ.out.symm.trans HE.out,fun j hj=>HA.out j hj⟩⟩
   ·have hd:(z ==page)=false:=beq_eq_false_iff_ne.2 he
    rw [hd] at HCz;go_wp2_with fail;refine HCz.out.mono ?_;rintro e w2 ⟨rfl,rfl⟩;go_wp2_with fail
    go_roundg (gk - 1)
    case measure=>have:=HG.out;omega
    case rel=>exact ⟨i+1,by omega,by go_num,by have:=HG.out;omega,hide (fun j hj=>by
     by_cases e:j=i
     ·rw [e,<-HZ.out];exact he
     ·exact HA.out j (by omega)),rfl⟩
  ·obtain rfl:i=xs.length:=by omega
   go_wp2_with fail;go_ret;exact ⟨_,rfl,rfl,Or.inr ⟨rfl,HA.out⟩⟩
theorem zjm {xs:List Int} {p:Int} {i:Nat} (hi:i<xs.length) (he:xs.getD i 0=p) (hb:∀j,j<i->xs.getD j 0≠p):(xs.take (i+1)).filter (fun x=>x !=p)=xs.take i:=by
 rw [List.take_add_one,List.filter_append]
 have h1:(xs.take i).filter (fun x=>x !=p)=xs.take i:=List.filter_eq_self.2 (fun x hx=>by
  obtain ⟨j,hj,e⟩:=List.getElem_of_mem hx;rw [List.length_take] at hj
  have:=hb j (by omega)
  rw [List.getD_eq_getElem?_getD,List.getElem?_eq_getElem (by omega)] at this
  rw [List.getElem_take] at e;subst e
  simpa using this)
 rw [h1,List.getElem?_eq_getElem hi];rw [List.getD_eq_getElem?_getD,List.getElem?_eq_getElem hi] at he
 simp at he
 simp [he]
def DelR (w wr:World) (B b n c:Nat) (xs:List Int) (page:Int) (i j:Nat):Prop:=
 ∃zs:List Int,zs.length=n/\wr.ownsRow B 3 1 (.slice (some ⟨b,0,none⟩) n c) n (ints zs)/\Kept w wr (fun k=>k=b)/\zs.take i=(xs.take j).filter (fun x=>x !=page)/\zs.drop j=xs.drop j/\wr.heap.size=w.heap.size
theorem zm3 {w wr:World} {B b n c:Nat} {xs:List Int} {page:Int} {i j:Nat} (h:DelR w wr B b n c xs page i j) (hj:j<xs.length) (he:xs.getD j 0=page):DelR w wr B b n c xs page i (j+1):=by
 obtain ⟨zs,h1,h2,h3,h4,h5,h6⟩:=h;refine ⟨zs,h1,h2,h3,?_,?_,h6⟩
 ·rw [h4,List.take_add_one,List.filter_append,List.getElem?_eq_getElem hj]
  rw [List.getD_eq_getElem?_getD,List.getElem?_eq_getElem hj] at he
  simp at he
  simp [he]
 ·rw [show zs.drop (j+1)=(zs.drop j).drop 1 from by rw [List.drop_drop,Nat.add_comm],h5,List.drop_drop,Nat.add_comm]
theorem zm4 {w wr:World} {B b n c:Nat} {xs:List Int} {page:Int} {i j:Nat} (h:DelR w wr B b n c xs page i j) (hn:xs.length=n) (hj:j<xs.length) (hij:i<j) (he:xs.getD j 0≠page):DelR w (wr.setCell ⟨b,i,none⟩ (.int .i64 (xs.getD j 0))) B b n c xs page (i+1) (j+1):=by
 obtain ⟨zs,h1,h2,h3,h4,h5,h6⟩:=h
 refine ⟨zs.set i (xs.getD j 0),by rw [List.length_set];exact h1,?_,kept_trans h3 (za9 _ _ _ _) (fun _ _ h=>h),?_,?_,by simp [h6]⟩
 ·have:=(h2.stored i (.int .i64 (xs.getD j 0))).1
  rw [show ints (zs.set i (xs.getD j 0))=(ints zs).set i (.int .i64 (xs.getD j 0)) from by simp [ints,List.map_set]]
  exact this
 ·rw [List.take_add_one,List.take_set,h4,List.take_add_one,List.filter_append,List.getElem?_eq_getElem hj,List.getElem?_set_self (by omega)]
  have hl:((xs.take j).filter (fun x=>x !=page)).length=i:=by rw [<-h4,List.length_take];omega
  rw [List.set_eq_of_length_le (by omega)]
  rw [List.getD_eq_getElem?_getD,List.getElem?_eq_getElem hj] at he⊢
  simp at he
  simp [he]
 ·rw [List.drop_set_of_lt (by omega),show zs.drop (j+1)=(zs.drop j).drop 1 from by rw [List.drop_drop,Nat.add_comm],h5,List.drop_drop,Nat.add_comm]
theorem zm5 {w wr:World} {B b n c:Nat} {xs:List Int} {page:Int} {i j:Nat} (h:DelR w wr B b n c xs page i j) (_:xs.length=n) (hj:j<xs.length):wr.cell? ⟨b,j,none⟩=some (.int .i64 (xs.getD j 0)):=by
 obtain ⟨zs,h1,h2,h3,h4,h5,h6⟩:=h
 have hz:zs[j]?=some (xs.getD j 0):=by
  have:=congrArg (fun l=>l[0]?) h5
  simp only [List.getElem?_drop,Nat.add_zero] at this
  rw [this,List.getD_eq_getElem?_getD,List.getElem?_eq_getElem hj]
  rfl
 have h7:=h2.cells (g:=b) rfl j (.int .i64 (xs.getD j 0)) (by simp [ints,hz])
 rw [zaT,Nat.zero_add] at h7;exact h7
theorem zfh {w wr:World} {B b n c:Nat} {xs:List Int} {page:Int} {i j:Nat} (h:DelR w wr B b n c xs page i j) (k:Nat) (hk:k<n):(∃v,wr.cell? ⟨b,k,none⟩=some v)/\wr.frozen? ⟨b,k,none⟩=false:=by
 obtain ⟨zs,h1,h2,h3,h4,h5,h6⟩:=h
 have hz:∃z,zs[k]?=some z:=⟨_,List.getElem?_eq_getElem (by omega)⟩
 obtain ⟨z,hz⟩:=hz
 have h7:=h2.cells (g:=b) rfl k (.int .i64 z) (by simp [ints,hz])
 rw [zaT,Nat.zero_add] at h7;refine ⟨⟨_,h7⟩,?_⟩
 rcases h2.2 with ⟨e,-⟩ | ⟨g,cap,cur,e,-,hg,-⟩
 ·cases e
 ·injection e with e1 _ _
  injection e1 with e1
  injection e1 with e1 _ _
  subst e1;exact Lib.frozen_of_heap hg k
theorem zn1 {w:World} {B e sz n cap:Nat} {a:Option Addr} {xs:List Value} (h:w.ownsRow B e sz (.slice a n cap) n xs):n<=cap/\cap<=maxLen:=by
 rcases h.2 with ⟨e,h0⟩ | ⟨g,c,cur,e,-,-,h1,h2,-⟩
 ·injection e with e1 e2 e3
  subst e3
  exact ⟨by omega,by unfold maxLen;omega⟩
 ·injection e with e1 e2 e3
  subst e3;exact ⟨h1,h2⟩
theorem zke {B e b i c:Nat} {xs:List Value}:∀(vs:List Value) (o:Nat) (w:World),w.ownsRow B e 1 (.slice (some ⟨b,0,none⟩) i c) i xs->i<=o->(w.setCells b o vs).ownsRow B e 1 (.slice (some ⟨b,0,none⟩) i c) i xs/\Kept w (w.setCells b o vs) (fun k=>k=b)/\(w.setCells b o vs).heap.size=w.heap.size
 | [],_,w,h,_=>⟨h,kept_refl _ _,rfl⟩
 | v :: r,o,w,h,ho=>by
  have h1:=(h.stored o v).1
  rw [List.set_eq_of_length_le (by rw [h.1];omega)] at h1
  obtain ⟨k1,k2,k3⟩:=zke r (o+1) _ h1 (by omega)
  exact ⟨k1,kept_trans (za9 w b o v) k2 (fun _ _ h=>h),k3.trans (by simp)⟩
theorem zn2 {w:World} {B e b i n c:Nat} {xs:List Value} (h:w.ownsRow B e 1 (.slice (some ⟨b,0,none⟩) n c) n xs) (hi:i<=n):w.ownsRow B e 1 (.slice (some ⟨b,0,none⟩) i c) i (xs.take i):=by
 obtain ⟨hl,h1 | ⟨g,cap,cur,e1,hb,hg,hn,hm,hs,ht⟩⟩:=h
 ·cases h1.1
 ·injection e1 with e2 _ e3
  subst e3
  exact ⟨by rw [List.length_take];omega,Or.inr ⟨g,c,cur,by rw [e2],hb,hg,by omega,hm,hs,by rw [<-ht,List.take_take];congr 1;omega⟩⟩
theorem zn3 {w wr:World} {B b n c:Nat} {xs:List Int} {page:Int} {i:Nat} (h:DelR w wr B b n c xs page i n) (hn:xs.length=n) (hi:i<n) (vs:List Value):i=(xs.filter (fun x=>x !=page)).length/\(wr.setCells b i vs).ownsRow B 3 1 (.slice (some ⟨b,0,none⟩) i c) i (ints (xs.filter (fun x=>x !=page)))/\Kept w (wr.setCells b i vs) (fun k=>k=b)/\(wr.setCells b i vs).heap.size=w.heap.size:=by
 obtain ⟨zs,h1,h2,h3,h4,h5,h6⟩:=h;rw [<-hn,List.take_length] at h4;have h7:=zn2 h2 (Nat.le_of_lt hi)
 rw [show (ints zs).take i=ints (zs.take i) from by simp [ints],h4] at h7
 obtain ⟨k1,k2,k3⟩:=zke vs i wr h7 (Nat.le_refl _)
 exact ⟨by rw [<-h4,List.length_take];omega,k1,kept_trans h3 k2 (fun _ _ h=>h),k3.trans h6⟩
theorem zn4 (xs:List Int) (hx:xs.length<=1048576) (page:Int) (hin:page∈xs) (g b c B:Nat) (hgb:g≠b) (w:World) (ho:w.ownsRow B 3 1 (.slice (some ⟨b,0,none⟩) xs.length c) xs.length (ints xs)) (hg:w.heap[g]?=some (.cells #[.int .i64 page] 3 (0,0))):
  Calls Tryz.prog 98 #[.slice (some ⟨b,0,none⟩) xs.length c,.func (.func 99) #[] #[.pointer (some ⟨g,0,none⟩)]] w fun e w'=>e= .returned (.slice (some ⟨b,0,none⟩) (xs.filter (fun x=>x !=page)).length c)/\w'.ownsRow B 3 1 (.slice (some ⟨b,0,none⟩) (xs.filter (fun x=>x !=page)).length c) (xs.filter (fun x=>x !=page)).length (ints (xs.filter (fun x=>x !=page)))/\Kept w w' (fun k=>k=b)/\w'.heap.size=w.heap.size:=by
 have HI:=hide (zn0 xs hx page g (.slice (some ⟨b,0,none⟩) xs.length c) w (zaa ho) hg)
 have HR0:Hid (DelR w w B b xs.length c xs page 0 0):=hide ⟨xs,rfl,ho,kept_refl _ _,by simp,rfl,rfl⟩
 have HO:=hide ho;have HIn:=hide hin;have HG:=hide hg;have hcap:=(zn1 ho).1;obtain ⟨n,hn⟩:∃n,n=xs.length:=⟨_,rfl⟩;have HN:=hide hn;rw [<-hn] at HI HR0 HO hx hcap⊢;clear ho hin hg hn;go_enter Tryz.func98,Tryz.ntmps98;go_wp2_with fail;refine HI.out.mono ?_;rintro e w1 ⟨r,rfl,rfl,hidx⟩
 obtain ⟨i0,hi0,rfl,he0,hb0⟩:∃i0:Nat,i0<xs.length/\r=(i0:Int)/\xs.getD i0 0=page/\∀j,j<i0->xs.getD j 0≠page:=by
  rcases hidx with ⟨j,h1,h2,h3,h4⟩ | ⟨-,h⟩
  ·exact ⟨j,h1,h2,h3,h4⟩
  ·obtain ⟨j,hj,e⟩:=List.getElem_of_mem HIn.out
   exact absurd (by rw [List.getD_eq_getElem?_getD,List.getElem?_eq_getElem hj];exact e) (h j hj)
 have HD0:Hid (DelR w w B b n c xs page i0 (i0+1)):=hide ⟨xs,HN.out.symm,by rw [HN.out];have:=HO.out;rw [HN.out] at this;exact this,kept_refl _ _,(zjm hi0 he0 hb0).symm,rfl,rfl⟩
 have hin0:i0<n:=by rw [HN.out];exact hi0
 have hne:((i0:Int) == -1)=false:=beq_eq_false_iff_ne.2 (by omega)
 clear hidx he0 hb0 hi0 HI HR0;go_wp2_with fail
 go_loopg [5,6] (n - (i0+1)) (fun q iv jv wr=>∃i j:Nat,iv= .int .i64 (i:Int)/\jv= .int .i64 (j:Int)/\i<j/\j<=n/\q+j=n/\Hid (DelR w wr B b n c xs page i j))
 case atStart=>exact ⟨i0,i0+1,rfl,by go_num,by omega,by omega,by omega,HD0⟩
 case round=>
  obtain ⟨i,j,rfl,rfl,hij,hj,hq,HD⟩:=hrel;have HQ:=hide hq;clear hq
  have hj0:(0:Int)<=(j:Int):=by omega
  by_cases hlt:j<n
  ·have hjl:(j:Int)<(n:Int):=by omega
   have hil:(i:Int)<(n:Int):=by omega
   obtain ⟨z,hz⟩:∃z,z=xs.getD j 0:=⟨_,rfl⟩
   have hzc:=zm5 HD.out HN.out.symm (by rw [<-HN.out];exact hlt)
   rw [<-hz] at hzc;have HZ:=hide hz
   have hgr:wr.heap[g]?=some (.cells #[.int .i64 page] 3 (0,0)):=by
    obtain ⟨zs,-,-,hk,-⟩:=HD.out;exact (hk.2.2.2.2 g (Array.getElem?_eq_some_iff.1 HG.out).1 hgb).trans HG.out
   have HC:=hide (zkd page z g wr hgr)
   obtain ⟨⟨sv,hsv⟩,hsf⟩:=zfh HD.out i (by omega)
   clear hz hgr
   by_cases he:z=page
   ·have hd:(z ==page)=true:=by rw [he];exact beq_self_eq_true _
    rw [hd] at HC
    have HR2:Hid (DelR w wr B b n c xs page i (j+1)):=hide (zm3 HD.out (by rw [<-HN.out];exact hlt) (HZ.out.symm.trans he))
    clear he hd;go_wp2_with fail;refine HC.out.mono ?_;rintro e w2 ⟨rfl,rfl⟩;go_wp2_with fail
    go_roundg (gk - 1)
    case measure=>have:=HQ.out;omega
    case rel=>exact ⟨i,j+1,rfl,by go_num,by omega,by omega,by have:=HQ.out;omega,HR2⟩
   ·have hd:(z ==page)=false:=beq_eq_false_iff_ne.2 he
    rw [hd] at HC
    have HR2:Hid (DelR w (wr.setCell ⟨b,i,none⟩ (.int .i64 z)) B b n c xs page (i+1) (j+1)):=hide (by rw [HZ.out];exact zm4 HD.out HN.out.symm (by rw [<-HN.out];exact hlt) hij (fun e=>he (HZ.out.trans e)))
    clear he hd;go_wp2_with fail;refine HC.out.mono ?_;rintro e w2 ⟨rfl,rfl⟩;go_wp2_with fail
    go_roundg (gk - 1)
    case measure=>have:=HQ.out;omega
    case rel=>exact ⟨i+1,j+1,by go_num,by go_num,by omega,by omega,by have:=HQ.out;omega,HR2⟩
  ·obtain rfl:j=n:=by omega
   have hil:i<=j:=by omega
   have hcl:(i:Int)<=(j:Int):=by omega
   have hin1:i<j:=hij;obtain ⟨vs,hvs⟩:∃vs,vs=List.replicate (j - i) (Value.int .i64 0):=⟨_,rfl⟩
   have hs1:∀wx:World,(Instr.slice 32 (.slice (some ⟨b,0,none⟩) j c) (some (.int .i64 (i:Int))) none none).run Tryz.prog wx= .ok (.slice (some ⟨b,i,none⟩) (j - i) (c - i)) wx:=fun wx=>by
    have ht2:Tryz.prog.underlying 32=some (.slice (Tryz.prog.elem 32)):=by rw [Program.elem,Tryz.underlying32]
    rw [run_slice_l wx 32 _ j c ht2 .i64 (i:Int) (by omega) (by omega)]
    have he:Tryz.prog.elem 32=3:=by rw [Program.elem,Tryz.underlying32]
    obtain ⟨q,hq,hqs⟩:=Option.map_eq_some_iff.1 Tryz.onePart3
    have hz:(sizeOf (Tryz.prog.elem 32)).run Tryz.prog wx= .ok 1 wx:=by rw [he];simp [sizeOf,typeInfo,hq,hqs]
    rw [hz]
    simp only [Result.andThen,Int.toNat_natCast,sliced]
    rw [if_neg (by omega)]
    simp [zaT]
   have hs2:∀wx:World,(Instr.slice 32 (.slice (some ⟨b,0,none⟩) j c) none (some (.int .i64 (i:Int))) none).run Tryz.prog wx= .ok (.slice (some ⟨b,0,none⟩) i c) wx:=fun wx=>by
    have ht2:Tryz.prog.underlying 32=some (.slice (Tryz.prog.elem 32)):=by rw [Program.elem,Tryz.underlying32]
    rw [run_slice_h wx 32 _ j c ht2 .i64 (i:Int) (by omega) (by omega)]
    have he:Tryz.prog.elem 32=3:=by rw [Program.elem,Tryz.underlying32]
    obtain ⟨q,hq,hqs⟩:=Option.map_eq_some_iff.1 Tryz.onePart3
    have hz:(sizeOf (Tryz.prog.elem 32)).run Tryz.prog wx= .ok 1 wx:=by rw [he];simp [sizeOf,typeInfo,hq,hqs]
    rw [hz]
    simp only [Result.andThen,Int.toNat_natCast,sliced]
    rw [if_neg (by omega)]
    simp [zaT]
   have hzv:∀wx:World,(zeroValue 3).run Tryz.prog wx= .ok (.int .i64 0) wx:=fun wx=>by
    obtain ⟨q,hq,hz0,-,-⟩:=info_parts Tryz.infoIntP
    simp [zeroValue,typeInfo,hq,hz0]
   have hcl:∀ty,(Builtin.clear_ #[32] ty #[.slice (some ⟨b,i,none⟩) (j - i) (c - i)]).run Tryz.prog wr= .ok (.tuple #[]) (wr.setCells b i vs):=fun ty=>by
    rw [hvs]
    exact Lib.run_clear_slice wr 32 3 ty (.int .i64 0) Tryz.underlying32 hzv rfl rfl b i (j - i) (c - i) (by omega) (fun k hk=>by obtain ⟨⟨v,h1⟩,-⟩:=zfh HD.out (i+k) (by omega);rw [h1];rfl) (fun k hk=>(zfh HD.out (i+k) (by omega)).2)
   have HE:=hide (zn3 HD.out HN.out.symm hin1 vs);clear hvs hzv hcap;go_wp2_with fail;obtain ⟨e1,e2,e3,e4⟩:=HE.out;rw [<-e1];go_ret;exact ⟨rfl,e2,e3,e4⟩
end Go.Proofs.YtcbogiebfbbmbaaGreatDoor
