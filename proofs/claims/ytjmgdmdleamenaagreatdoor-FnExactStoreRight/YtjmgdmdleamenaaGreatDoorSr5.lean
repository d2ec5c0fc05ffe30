/-
  Facts and contracts that the law's own text rests on, by their texts' names: Var, Plain9, DiskSpecN, AppRow, StepCall, SepWork, Plain8, Plain7, Plain13, Plain15.
-/
import Derived.BigQuiet
import Derived.Deep.QuietTactic
import Derived.Laws.IdiomStrings
import Derived.Outline
import Derived.OwnWalk
import Derived.WalkKit
import Derived.Test.YtjmgdmdleamenaaGreatDoorSr1
import Derived.Test.YtjmgdmdleamenaaGreatDoorProg
import Derived.Test.YtjmgdmdleamenaaGreatDoorSr3
import Derived.Deep.AppendLies
import Derived.Deep.RegionLaw
import Derived.Test.YtjmgdmdleamenaaGreatDoorSr4
import Derived.Lib.Strings
set_option maxHeartbeats 16000000
set_option maxRecDepth 100000
namespace Go.Proofs.YtjmgdmdleamenaaGreatDoor
open Go.RowKit
theorem Tryz.infoU8:(Tryz.prog.info? 5).map (fun i=>(i.zero,i.size,i.bytes))=some (some (.int .u8 0),1,1):=by kernel_rfl
theorem below_app {B:Nat} {w wr w1:World} {v:Value} {n:Nat} {xs:List Value} {o:Obj} (hB:B<=wr.heap.size) (hb:Below B w wr) (hown:wr.ownsRow B 5 1 v n xs) (hg:(wr.alloc o).grownBy w1 v.ownBlock):Below B w w1:=
 (hb.alloc hB o).grown hg (by simp;omega) (fun k hk=>(hown.lt k hk).1)
theorem one_cell (w:World) (x:Value):∀(j:Nat) (u:Value),[x][j]?=some u->(w.alloc (Obj.cells #[x] 5)).cell? ((⟨w.heap.size,0,none⟩:Addr).add j)=some u:=by
 intro j u hj
 match j,hj with
 | 0,hj=>simp at hj;subst hj;simp [Addr.add]
theorem string_of_row {P:Program} {w:World} {B src dst e:TypeId} {v:Value} {l:List UInt8} (hs:P.underlying src=some (.slice e)) (he:P.underlying e=some (.int .u8)) (hd:P.underlying dst=some .string)
  (hown:w.ownsRow B e 1 v l.length (Lib.byteCells l)) (hpos:0<l.length):
  ∃g cap,v= .slice (some ⟨g,0,none⟩) l.length cap/\(convert src dst (.slice (some ⟨g,0,none⟩) l.length cap)).run P w= .ok (.string ⟨l.toArray⟩) w:=by
 rcases hown.2 with ⟨-,h0⟩ | ⟨g,cap,cur,rfl,-,-,-,-,-,-⟩
 ·omega
 ·exact ⟨g,cap,rfl,run_convert_bytes_back (P:=P) w src dst e ⟨g,0,none⟩ cap l hs he hd (fun j hj=>hown.cells (g:=g) rfl j _ (by simp [Lib.byteCells,hj]))⟩
theorem l01Var_any (n:Int) (h0:0<=n) (h1:n<=1000000000) (w:World):
  Calls Tryz.prog 101 #[.int .i64 n] w fun e w'=>e= .returned (.string ⟨(vtext n.toNat).toArray⟩)/\Below w.heap.size w w':=by
 obtain ⟨k,rfl⟩:=Int.eq_ofNat_of_zero_le h0;rw [Int.toNat_natCast];obtain ⟨i0,hi,hz0,hz1,hz2⟩:=info_parts Tryz.infoU8;go_enter Tryz.func101,Tryz.ntmps101
 go_wp2
 go_loopw [0,3] (fun nv v wr=>∃(f m:Nat) (done:List UInt8),nv= .int .i64 m/\m<128 ^ (f+1)/\m<=1000000000/\done.length+f<=4/\done++venc f m=vtext k/\wr.ownsRow w.heap.size 5 1 v done.length (Lib.byteCells done)/\Below w.heap.size w wr)
  (fun nv _ _=>(intOf nv).toNat)
 case atStart=>exact ⟨4,k,[],rfl,pow5 k (by omega),by omega,by simp,by simp [vtext],by simpa [Lib.byteCells] using World.ownsRow_lit (base:=w.heap.size) (e:=5) (size:=1) w #[] 0 (Nat.le_refl _) (by unfold maxLen;omega) (by simp),(Below.refl _ _).alloc (Nat.le_refl _) _⟩
 case round=>
  obtain ⟨f,m,done,rfl,hf,hm,hl,hd,hown,hb⟩:=hrel;have hB:=hb.size
  by_cases hlt:127<m
  ·obtain ⟨g,hg,hf',hv⟩:=venc_step f m (by omega) hf
   have HV:=hide hv;have HG:=hide hg;have HD:=hide hd;clear hv hg hd
   go_wp2_with (at_builtin;refine wpList_append_own _ rfl _ _ 183 rfl w.heap.size 5 i0 (.int .u8 0) 1 1 Tryz.underlying183 hi hz0 hz1 hz2 rfl (by decide) _ _ _ rfl (hown.alloc _) ⟨wr.heap.size,0,none⟩ 1 1 [.int .u8 (m % 128+128)] rfl rfl ?c1 ?c2 ?c3 ?c4 ?c5 ?_)
   case c1=>exact one_cell _ _
   case c2=>intro u hu;simp at hu;subst hu;rfl
   case c3=>unfold maxLen;omega
   case c4=>omega
   case c5=>simp;omega
   intro v' w1 hown' hgrow _;have hb1:=below_app hB hb hown hgrow
   have hown2:w1.ownsRow w.heap.size 5 1 v' (done++ [UInt8.ofNat (m % 128+128)]).length (Lib.byteCells (done++ [UInt8.ofNat (m % 128+128)])):=by
    rw [<-cells_snoc done (m % 128+128) (by omega),List.length_append]
    simpa using hown'
   clear hown' hgrow hown hb
   go_wp2
   go_roundw
   case rel=>exact ⟨g,m / 128,done++ [UInt8.ofNat (m % 128+128)],by go_num,hf',by omega,by have:=HG.out;simp;omega,by rw [List.append_assoc,List.singleton_append,<-HV.out];exact HD.out,hown2,hb1⟩
   case measure=>simp [intOf];omega
  ·have hv:=venc_last f m (by omega)
   rw [hv] at hd;have HD:=hide hd;clear hv hd
   go_wp2_with (at_builtin;refine wpList_append_own _ rfl _ _ 183 rfl w.heap.size 5 i0 (.int .u8 0) 1 1 Tryz.underlying183 hi hz0 hz1 hz2 rfl (by decide) _ _ _ rfl (hown.alloc _) ⟨wr.heap.size,0,none⟩ 1 1 [.int .u8 m] rfl rfl ?c1 ?c2 ?c3 ?c4 ?c5 ?_)
   case c1=>exact one_cell _ _
   case c2=>intro u hu;simp at hu;subst hu;rfl
   case c3=>unfold maxLen;omega
   case c4=>omega
   case c5=>simp;omega
   intro v' w1 hown' hgrow _;have hb1:=below_app hB hb hown hgrow
   have hown2:w1.ownsRow w.heap.size 5 1 v' (vtext k).length (Lib.byteCells (vtext k)):=by
    rw [<-HD.out,<-cells_snoc done m (by omega),List.length_append]
    simpa using hown'
   clear hown' hgrow hown hb
   obtain ⟨gb,cp,hv',hcv⟩:=string_of_row (dst:=9) (src:=183) (e:=5) Tryz.underlying183 Tryz.underlying5 Tryz.underlying9 hown2 (by have:=(vtext_length k).1;omega)
   rw [hv'];clear hv' hown2
   go_wp2
   go_ret;exact ⟨rfl,hb1⟩
theorem l01In_yes (x a b:Int) (w:World) (h1:a<=x) (h2:x<=b):Calls Tryz.prog 35 #[.int .i64 x,.int .i64 a,.int .i64 b] w fun e w'=>e= .returned (.bool true)/\w=w':=by
 go_enter Tryz.func35,Tryz.ntmps35
 go_wp2
 go_ret;exact ⟨rfl,rfl⟩
theorem l01In_no (x a b:Int) (w:World) (h:x<a\/b<x):Calls Tryz.prog 35 #[.int .i64 x,.int .i64 a,.int .i64 b] w fun e w'=>e= .returned (.bool false)/\w=w':=by
 by_cases h1:x<a
 ·go_enter Tryz.func35,Tryz.ntmps35
  go_wp2
  go_ret;exact ⟨rfl,rfl⟩
 ·have h2:b<x:=by omega
  have h3:a<=x:=by omega
  have h4:decide (x<=b)=false:=by simp;omega
  clear h h1;go_enter Tryz.func35,Tryz.ntmps35
  go_wp2
  go_ret;exact ⟨rfl,rfl⟩
open Go.RowKit
def lateAt (ls:List (Int×ByteArray)) (page:Int):Nat->Option ByteArray
 | 0=>none
 | k+1=>match ls[k]? with
  | some p=>if p.1=page then some p.2 else lateAt ls page k
  | none=>lateAt ls page k
theorem lateAt_hit {ls:List (Int×ByteArray)} {page:Int} {k:Nat} {t:ByteArray} (h:ls[k]?=some (page,t)):lateAt ls page (k+1)=some t:=by
 rw [lateAt,h];simp
theorem lateAt_miss {ls:List (Int×ByteArray)} {page q:Int} {k:Nat} {t:ByteArray} (h:ls[k]?=some (q,t)) (hne:q≠page):lateAt ls page (k+1)=lateAt ls page k:=by
 rw [lateAt,h];simp [hne]
def readD (ps:List ByteArray) (ls:List (Int×ByteArray)) (page:Int):ByteArray:=
 if 0<=page/\page<(ps.length:Int) then
  match lateAt ls page ls.length with
  | some t=>t
  | none=>ps.getD page.toNat ⟨#[]⟩
 else ⟨#[]⟩
theorem readD_out {ps:List ByteArray} {ls:List (Int×ByteArray)} {page:Int} (h:page<0\/(ps.length:Int)<=page):readD ps ls page=⟨#[]⟩:=if_neg (by omega)
theorem readD_late {ps:List ByteArray} {ls:List (Int×ByteArray)} {page:Int} {t:ByteArray} (h:0<=page/\page<(ps.length:Int)) (hl:lateAt ls page ls.length=some t):readD ps ls page=t:=by
 rw [readD,if_pos h,hl]
theorem readD_page {ps:List ByteArray} {ls:List (Int×ByteArray)} {page:Int} (h:0<=page/\page<(ps.length:Int)) (hl:lateAt ls page ls.length=none):readD ps ls page=ps.getD page.toNat ⟨#[]⟩:=by
 rw [readD,if_pos h,hl]
open Go.RowKit
theorem l01In_any (x a b:Int) (w:World):Calls Tryz.prog 35 #[.int .i64 x,.int .i64 a,.int .i64 b] w fun e w'=>e= .returned (.bool (decide (a<=x/\x<=b)))/\w=w':=by
 by_cases h:a<=x/\x<=b
 ·rw [decide_eq_true h];exact l01In_yes x a b w h.1 h.2
 ·rw [decide_eq_false h];exact l01In_no x a b w (by omega)
theorem specReadPage_any (v:Value) (ps:List ByteArray) (ls:List (Int×ByteArray)) (hp:ps.length<=1048576) (hl:ls.length<=1048576) (page:Int) (w:World) (hd:DiskAt w v ps ls):
  Calls Tryz.prog 95 #[v,.int .i64 page] w fun e w'=>e= .returned (.string (readD ps ls page))/\Below w.heap.size w w':=by
 obtain ⟨vp,vl,rfl,h1,h2⟩:=hd
 obtain ⟨x1,c1,rfl⟩:∃a cap,vp= .slice a ps.length cap:=by obtain ⟨-,a,cap,e,-⟩:=h1;exact ⟨a,cap,e⟩
 obtain ⟨x2,c2,rfl⟩:∃a cap,vl= .slice a ls.length cap:=by obtain ⟨-,a,cap,e,-⟩:=h2;exact ⟨a,cap,e⟩
 have H1:=hide h1;have H2:=hide h2;clear h1 h2;have HC:=hide (l01In_any page 0 ((ps.length:Int) - 1));have hb0:Below w.heap.size w (w.alloc (Obj.cells #[.slice x1 ps.length c1,.slice x2 ls.length c2] 41)):=(Below.refl w.heap.size w).alloc (Nat.le_refl _) _;have HB0:=hide hb0;clear hb0
 by_cases hin:0<=page/\page<=(ps.length:Int) - 1
 ·rw [decide_eq_true hin] at HC
  go_enter Tryz.func95,Tryz.ntmps95;go_wp2_with fail;refine (HC.out _).mono ?_;rintro e w1 ⟨rfl,rfl⟩;go_wp2_with fail;obtain ⟨w0,hw0⟩:∃w0,w0=w.alloc (Obj.cells #[.slice x1 ps.length c1,.slice x2 ls.length c2] 41):=⟨_,rfl⟩;rw [<-hw0];rw [<-hw0] at HB0
  have hblk:w0.heap[w.heap.size]?=some (Obj.cells #[.slice x1 ps.length c1,.slice x2 ls.length c2] 41):=by rw [hw0];exact heap_alloc_new w _
  have cb0:w0.cell? ⟨w.heap.size,0,none⟩=some (.slice x1 ps.length c1):=(cell_at hblk 0).1;have cb1:w0.cell? ⟨w.heap.size,1,none⟩=some (.slice x2 ls.length c2):=(cell_at hblk 1).1;clear hw0 hblk
  go_loopg [5] ls.length (fun q iv wr=>∃k:Nat,k<=ls.length/\iv= .int .i64 ((k:Int) - 1)/\q=k/\Hid (lateAt ls page ls.length=lateAt ls page k)/\w0=wr)
  case atStart=>exact ⟨ls.length,Nat.le_refl _,rfl,rfl,hide rfl,rfl⟩
  case round=>
   obtain ⟨k,hk,rfl,hgk,HL,rfl⟩:=hrel;have HGk:=hide hgk;clear hgk
   by_cases hk0:k=0
   ·subst hk0
    have HO:Hid (readD ps ls page=ps.getD page.toNat ⟨#[]⟩):=hide (readD_page (by omega) (by rw [HL.out];rfl))
    obtain ⟨n,hn⟩:=Int.eq_ofNat_of_zero_le hin.1
    have hnl:n<ps.length:=by omega
    obtain ⟨x,hx⟩:∃x,x=ps.getD page.toNat ⟨#[]⟩:=⟨_,rfl⟩
    rcases H1.out.2 with ⟨a,cap,e,h0 | ⟨b,off,e2,hbl,hc⟩⟩
    ·omega
    ·injection e with e1 e3 e4
     subst e1 e4;subst e2
     have hcell:w0.cell? ⟨b,off+n,none⟩=some (.string x):=by
      rw [HB0.out.cell (by exact hbl),hc n (by omega),strs_at ps n hnl,hx,hn]
      simp [List.getD,hnl]
     rw [<-hx] at HO;subst hn
     have hi0:(0:Int)<=(n:Int):=by omega
     have hi1:(n:Int)<(ps.length:Int):=by omega
     clear hx hc;go_wp2_with fail;go_ret;rw [HO.out];exact ⟨rfl,HB0.out⟩
   ·obtain ⟨j,rfl⟩:∃j,k=j+1:=⟨k - 1,by omega⟩
    have hjl:j<ls.length:=by omega
    rcases H2.out.2 with ⟨a,cap,e,h0 | ⟨b,off,e2,hbl,hc⟩⟩
    ·omega
    ·injection e with e1 e3 e4
     subst e1 e4;subst e2;obtain ⟨q,t,hqt⟩:∃q t,(q,t)=ls[j]:=⟨_,_,rfl⟩
     have hget:ls[j]?=some (q,t):=by rw [List.getElem?_eq_getElem hjl,hqt]
     have hc0:w0.cell? ⟨b,off+j * 2,none⟩=some (.int .i64 q):=by rw [HB0.out.cell (by exact hbl),hc (j * 2) (by omega),(puts_at ls j hjl).1,<-hqt]
     have hc1:w0.cell? ⟨b,off+j * 2+1,none⟩=some (.string t):=by rw [HB0.out.cell (by exact hbl),Nat.add_assoc,hc (j * 2+1) (by omega),(puts_at ls j hjl).2,<-hqt]
     have hi0:(0:Int)<=(j:Int):=by omega
     have hi1:(j:Int)<(ls.length:Int):=by omega
     have hij:((j+1:Nat):Int) - 1=(j:Int):=by omega
     rw [hij];have HGet:=hide hget;clear hc hqt hget hij
     by_cases hq:q=page
     ·subst hq
      have HO:Hid (readD ps ls q=t):=hide (readD_late (by omega) (by rw [HL.out];exact lateAt_hit HGet.out))
      go_wp2_with fail;go_ret;rw [HO.out];exact ⟨rfl,HB0.out⟩
     ·have HL2:Hid (lateAt ls page ls.length=lateAt ls page j):=hide (by rw [HL.out];exact lateAt_miss HGet.out hq)
      go_wp2_with fail
      go_roundg j
      case measure=>have:=HGk.out;omega
      case rel=>exact ⟨j,by omega,by go_num,rfl,HL2,rfl⟩
 ·rw [decide_eq_false hin] at HC
  have HO:Hid (readD ps ls page=⟨#[]⟩):=hide (readD_out (by omega))
  go_enter Tryz.func95,Tryz.ntmps95;go_wp2_with fail;refine (HC.out _).mono ?_;rintro e w1 ⟨rfl,rfl⟩;go_wp2_with fail;go_ret;rw [HO.out];exact ⟨rfl,HB0.out⟩
open Go.RowKit
theorem run_append_row {P:Program} (w:World) (t ty:TypeId) (base:Nat) (e:TypeId) (i:TypeInfo) (z:Value) (size bytes:Nat) (ht:P.underlying t=some (.slice e)) (hi:P.info? e=some i) (hz:i.zero=some z)
  (hsize:i.size=size) (hby:i.bytes=bytes) (hzs:z.cells.size=size) (hsz:0<size)
  (v:Value) (n:Nat) (xs:List Value) (hown:w.ownsRow base e size v n xs)
  (u:Value) (m:Nat) (ys:List Value) (hrow:RowAt w size u m ys) (h1:∀y∈ys,y.oneCell'=true)
  (h63:n+m<=maxLen) (hbytes:(n+m) * bytes<=140737488355328) (hbase:base<=w.heap.size):
  ∃x c w',(Builtin.append_ #[t,t] ty #[v,u]).run P w= .ok (.slice x (n+m) c) w'/\w'.ownsRow base e size (.slice x (n+m) c) (n+m) (xs++ys)/\w.grownBy w' v.ownBlock:=by
 have key:∀(v':Value) (w':World),w'.ownsRow base e size v' (n+m) (xs++ys)->∃x c,v'=Value.slice x (n+m) c:=fun v' w' h=>by
  obtain ⟨-,a,cap,ee,-⟩:=row_of_own h;exact ⟨a,cap,ee⟩
 obtain ⟨hl,a,cap,rfl,h2⟩:=hrow
 rcases a with _ | ad
 ·rcases h2 with h0 | ⟨b,off,e,_⟩
  ·subst h0
   have hy:ys= []:=List.length_eq_zero_iff.1 (by rw [hl];omega)
   subst hy
   obtain ⟨x,c,hx⟩:=key v w (by rw [List.append_nil];exact hown)
   refine ⟨x,c,w,?_,?_,⟨rfl,rfl,rfl,Nat.le_refl _,fun _ _ _=>rfl⟩⟩
   ·rw [<-hx]
    rcases hown.2 with ⟨rfl,rfl⟩ | ⟨g,cap,cur,rfl,_,_,hnc,_⟩
    ·simp [Builtin.append_,run_underlying ht,sizeOf,typeInfo,hi,Builtin.lenOf,Builtin.firstCells]
    ·simp [Builtin.append_,run_underlying ht,sizeOf,typeInfo,hi,Builtin.lenOf,Builtin.firstCells,hnc,storeCells]
   ·rw [<-hx,List.append_nil];exact hown
  ·cases e
 ·have hnews:∀j y,ys[j]?=some y->w.cell? (ad.add j)=some y:=fun j y hj=>by
   have hjl:j<m * size:=by rw [<-hl];exact (List.getElem?_eq_some_iff.1 hj).1
   rcases h2 with h0 | ⟨b,off,e,hlt,hc⟩
   ·subst h0;simp at hjl
   ·injection e with e
    subst e;rw [Addr.add_lit,hc j hjl,hj]
  obtain ⟨v',w',hr,g2,g3,_⟩:=run_append_own (P:=P) w base t ty e i z size bytes ht hi hz hsize hby hzs hsz v n xs hown ad m cap ys hl hnews h1 h63 hbytes hbase;obtain ⟨x,c,rfl⟩:=key v' w' g2;exact ⟨x,c,w',hr,g2,g3⟩
theorem wp_append_row {P:Program} (w:World) {o:Oper} {a:Act} {K:Act->World->Prop} {Q:Exit->Act->World->Prop} (s x:Operand) (t:TypeId)
  (ho:o.op= .call {callee:= .builtin .append,args:= #[s,x],argTypes:= #[t,t]})
  (base:Nat) (e:TypeId) (i:TypeInfo) (z:Value) (size bytes:Nat) (ht:P.underlying t=some (.slice e)) (hi:P.info? e=some i) (hz:i.zero=some z)
  (hsize:i.size=size) (hby:i.bytes=bytes) (hzs:z.cells.size=size) (hsz:0<size)
  (v:Value) (n:Nat) (xs:List Value) (hs:a.eval s=v) (hown:w.ownsRow base e size v n xs)
  (u:Value) (m:Nat) (ys:List Value) (hx:a.eval x=u) (hrow:RowAt w size u m ys) (h1:∀y∈ys,y.oneCell'=true)
  (h63:n+m<=maxLen) (hbytes:(n+m) * bytes<=140737488355328) (hbase:base<=w.heap.size)
  (h:∀x c w',w'.ownsRow base e size (.slice x (n+m) c) (n+m) (xs++ys)->w.grownBy w' v.ownBlock->K (a.put o.dst (.slice x (n+m) c)) w'):o.wp P a w K Q:=by
 obtain ⟨y,c,w',hr,h2,h3⟩:=run_append_row (P:=P) w t o.type base e i z size bytes ht hi hz hsize hby hzs hsz v n xs hown u m ys hrow h1 h63 hbytes hbase;unfold Oper.wp execOp
 simp only [ho,resolve,invoke,builtin,Sem.run_bind,Sem.run_pure,Result.andThen_ok,List.map_toArray,List.map_cons,List.map_nil,hs,hx,hr]
 exact h y c w' h2 h3
theorem wpList_append_row {P:Program} (w:World) {ops:Array Oper} {rest:List Oper} {o:Oper} {a:Act} {Q:Exit->Act->World->Prop} (hgd:o.guard=none) (s x:Operand) (t:TypeId)
  (ho:o.op= .call {callee:= .builtin .append,args:= #[s,x],argTypes:= #[t,t]})
  (base:Nat) (e:TypeId) (i:TypeInfo) (z:Value) (size bytes:Nat) (ht:P.underlying t=some (.slice e)) (hi:P.info? e=some i) (hz:i.zero=some z)
  (hsize:i.size=size) (hby:i.bytes=bytes) (hzs:z.cells.size=size) (hsz:0<size)
  (v:Value) (n:Nat) (xs:List Value) (hs:a.eval s=v) (hown:w.ownsRow base e size v n xs)
  (u:Value) (m:Nat) (ys:List Value) (hx:a.eval x=u) (hrow:RowAt w size u m ys) (h1:∀y∈ys,y.oneCell'=true)
  (h63:n+m<=maxLen) (hbytes:(n+m) * bytes<=140737488355328) (hbase:base<=w.heap.size)
  (h:∀x c w',w'.ownsRow base e size (.slice x (n+m) c) (n+m) (xs++ys)->w.grownBy w' v.ownBlock->wpList P ops Q rest (a.put o.dst (.slice x (n+m) c)) w'):wpList P ops Q (o :: rest) a w:=
 wpList_plain hgd fun _ hK=>wp_append_row w s x t ho base e i z size bytes ht hi hz hsize hby hzs hsz v n xs hs hown u m ys hx hrow h1 h63 hbytes hbase fun x c w' h2 h3=>hK _ _ (h x c w' h2 h3)
theorem strs_one (l:List ByteArray):∀y∈strs l,y.oneCell'=true:=fun y hy=>by
 obtain ⟨s,_,rfl⟩:=List.mem_map.1 hy
 rfl
open Go.RowKit
theorem step_call2 {P : Program} (w : World) {ops : Array Oper} {o : Oper} {a : Act} {K : Act → World → Prop} {Q : Exit → Act → World → Prop} {E : Prop} (hgd : o.guard = none) (f : FuncId) (fn : Func) (hfn : P.funcs[f]? = some fn) (hname : ¬ fn.name = "runtime.NumGoroutine") (hbody : ¬ fn.body = none) (s x : Operand) (ts : Array TypeId)
  (ho:o.op= .call {callee:= .value (.func f),args:= #[s,x],argTypes:=ts}) (u v:Value) (hs:a.eval s=u) (hx:a.eval x=v)
  (R:Ending→World→Prop) (hc:Calls P f #[u,v] w R) (hR:∀e w',R e w'→∃r,e= .returned r∧K (a.put o.dst r) w'):
  if Region.wanted o (yielded ops a.tmps)=true then Oper.wp P o a w K Q else E:=by
 have hw:Region.wanted o (yielded ops a.tmps)=true:=by simp [Region.wanted,hgd]
 rw [if_pos hw];unfold Oper.wp execOp;have hf:a.eval (.func f)= .func (.func f) #[] #[]:=rfl
 simp only [ho,resolve,invoke,hf,Deferred.ofValue,callFunc,Sem.run_bind,Sem.run_pure,Result.andThen_ok,List.map_toArray,List.map_cons,List.map_nil,hs,hx]
 simp [go_sem,hfn,hname,hbody]
 refine hc.mono ?_;intro e w' h;obtain ⟨r,rfl,hk⟩:=hR e w' h;exact hk
theorem step_call1 {P : Program} (w : World) {ops : Array Oper} {o : Oper} {a : Act} {K : Act → World → Prop} {Q : Exit → Act → World → Prop} {E : Prop} (hgd : o.guard = none) (f : FuncId) (fn : Func) (hfn : P.funcs[f]? = some fn) (hname : ¬ fn.name = "runtime.NumGoroutine") (hbody : ¬ fn.body = none) (s : Operand) (ts : Array TypeId)
  (ho:o.op= .call {callee:= .value (.func f),args:= #[s],argTypes:=ts}) (u:Value) (hs:a.eval s=u)
  (R:Ending→World→Prop) (hc:Calls P f #[u] w R) (hR:∀e w',R e w'→∃r,e= .returned r∧K (a.put o.dst r) w'):
  if Region.wanted o (yielded ops a.tmps)=true then Oper.wp P o a w K Q else E:=by
 have hw:Region.wanted o (yielded ops a.tmps)=true:=by simp [Region.wanted,hgd]
 rw [if_pos hw];unfold Oper.wp execOp;have hf:a.eval (.func f)= .func (.func f) #[] #[]:=rfl
 simp only [ho,resolve,invoke,hf,Deferred.ofValue,callFunc,Sem.run_bind,Sem.run_pure,Result.andThen_ok,List.map_toArray,List.map_cons,List.map_nil,hs]
 simp [go_sem,hfn,hname,hbody]
 refine hc.mono ?_;intro e w' h;obtain ⟨r,rfl,hk⟩:=hR e w' h;exact hk
open Go.RowKit
def diskA (B:Nat) (v:Value) (ps:List ByteArray) (ls:List (Int×ByteArray)):Ast:=⟨diskBlocks v,fun W=>DiskOwn W B v ps ls,fun W W' h hk=>by
 obtain ⟨vp,vl,rfl,h1,h2⟩:=h
 exact ⟨vp,vl,rfl,(rowA B 9 1 vp ps.length (strs ps)).loc W W' h1 (fun k e=>hk k ⟨_,_,rfl,Or.inl e⟩),(rowA B 152 2 vl ls.length (puts ls)).loc W W' h2 (fun k e=>hk k ⟨_,_,rfl,Or.inr e⟩)⟩⟩
theorem row_n {W:World} {B e n:Nat} {v:Value} {l:List Int} (h:W.ownsRow B e 1 v n (ints l)):n=l.length:=by
 have:=h.1;rw [ints_length] at this
 omega
open Go.RowKit
def half (c:Nat):Nat:=if c % 2=1 then (c / 2) ^^^ 3558460437 else c / 2
def half4 (c:Nat):Nat:=half (half (half (half c)))
def sumB (c b:Nat):Nat:=half4 (half4 (c ^^^ b))
def sumL (c:Nat) (l:List UInt8):Nat:=l.foldl (fun c b=>sumB c b.toNat) c
def fourL (x:Nat):List UInt8:= [UInt8.ofNat (x / 16777216 % 256),UInt8.ofNat (x / 65536 % 256),UInt8.ofNat (x / 256 % 256),UInt8.ofNat (x % 256)]
theorem xor_lt32 (a b:Nat) (ha:a<4294967296) (hb:b<4294967296):a ^^^ b<4294967296:=Nat.xor_lt_two_pow (n:=32) ha hb
theorem half_lt (c:Nat) (h:c<4294967296):half c<4294967296:=by
 unfold half
 split
 ·exact xor_lt32 _ _ (by omega) (by omega)
 ·omega
theorem half4_lt (c:Nat) (h:c<4294967296):half4 c<4294967296:=half_lt _ (half_lt _ (half_lt _ (half_lt _ h)))
theorem sumB_lt (c b:Nat) (h:c<4294967296) (hb:b<256):sumB c b<4294967296:=half4_lt _ (half4_lt _ (xor_lt32 _ _ h (by omega)))
theorem sumL_append (c:Nat) (l m:List UInt8):sumL c (l++m)=sumL (sumL c l) m:=by simp [sumL,List.foldl_append]
theorem half_xor (a b:Nat):half (a ^^^ b)=half a ^^^ half b:=by
 have h1:(a ^^^ b) % 2=(a+b) % 2:=by
  have:=Nat.xor_mod_two_pow (a:=a) (b:=b) (n:=1)
  simp only [Nat.pow_one] at this
  rw [this]
  rcases Nat.mod_two_eq_zero_or_one a with ha | ha <;> rcases Nat.mod_two_eq_zero_or_one b with hb | hb <;> rw [ha,hb] <;> simp <;> omega
 have h2:(a ^^^ b) / 2=a / 2 ^^^ b / 2:=by have:=Nat.xor_div_two_pow (a:=a) (b:=b) (n:=1);simpa using this
 unfold half;rw [h1,h2]
 by_cases ha:a % 2=1 <;> by_cases hb:b % 2=1
 ·rw [if_neg (by omega),if_pos ha,if_pos hb,Nat.xor_assoc,Nat.xor_comm (b / 2) 3558460437,<-Nat.xor_assoc 3558460437,Nat.xor_self,Nat.zero_xor]
 ·rw [if_pos (by omega),if_pos ha,if_neg hb,Nat.xor_assoc,Nat.xor_comm (b / 2),<-Nat.xor_assoc]
 ·rw [if_pos (by omega),if_neg ha,if_pos hb,Nat.xor_assoc]
 ·rw [if_neg (by omega),if_neg ha,if_neg hb]
theorem half4_xor (a b:Nat):half4 (a ^^^ b)=half4 a ^^^ half4 b:=by simp only [half4,half_xor]
theorem half4_mul (q:Nat):half4 (16 * q)=q:=by
 have e:∀x,half (2 * x)=x:=fun x=>by unfold half;rw [if_neg (by omega)];omega
 have h:16 * q=2 * (2 * (2 * (2 * q))):=by omega
 unfold half4;rw [h,e,e,e,e]
theorem split16 (x:Nat):x=(16 * (x / 16)) ^^^ (x % 16):=by
 have h1:((16 * (x / 16)) ^^^ (x % 16)) / 16=x / 16:=by
  have:=Nat.xor_div_two_pow (a:=16 * (x / 16)) (b:=x % 16) (n:=4)
  rw [show (2:Nat) ^ 4=16 from rfl] at this
  rw [this,Nat.mul_div_cancel_left _ (by omega),Nat.div_eq_of_lt (by omega:x % 16<16),Nat.xor_zero]
 have h2:((16 * (x / 16)) ^^^ (x % 16)) % 16=x % 16:=by
  have:=Nat.xor_mod_two_pow (a:=16 * (x / 16)) (b:=x % 16) (n:=4)
  rw [show (2:Nat) ^ 4=16 from rfl] at this
  rw [this,Nat.mul_mod_right,Nat.zero_xor,Nat.mod_mod]
 omega
def tab16:List Nat:= [0,1166650509,2333301018,3466261911,3189058079,4221339282,889615109,1888477064,3558460437,2442158232,1594529039,444807554,1779230218,797264519,3776954128,2761298845]
theorem half4_tab (r:Nat) (h:r<16):half4 r=tab16.getD r 0:=by
 revert r
 decide
theorem half4_eq (x:Nat):half4 x=(x / 16) ^^^ tab16.getD (x % 16) 0:=by
 rw [<-half4_tab _ (Nat.mod_lt _ (by omega)),<-half4_mul (x / 16)]
 conv=>lhs;rw [split16 x]
 rw [half4_xor,half4_mul]
theorem fourL_length (x:Nat):(fourL x).length=4:=rfl
def sealL (l:List UInt8):List UInt8:=l++fourL (sumL 4294967295 l)
def isSealed (l:List UInt8):Bool:=decide (4<=l.length/\l.length<=20004/\l.drop (l.length - 4)=fourL (sumL 4294967295 (l.take (l.length - 4))))
theorem sealL_length (l:List UInt8):(sealL l).length=l.length+4:=by simp [sealL,fourL_length]
theorem sealL_is (l:List UInt8) (h:l.length<=20000):isSealed (sealL l)=true:=by
 unfold isSealed;rw [sealL_length,Nat.add_sub_cancel,decide_eq_true_eq]
 refine ⟨by omega,by omega,?_⟩
 simp [sealL]
open Go.RowKit
theorem rv_go (b:Nat->Nat) (len n:Nat) (hn:n<=1000000000):∀(g m j f:Nat),m<128 ^ (g+1)->g+1<=f->(1<=m\/j=0)->accN b j+128 ^ j * m=n->
  (∀i (h:i<(venc g m).length),b (j+i)=((venc g m)[i]).toNat)->j+(venc g m).length<=len->rvGo b len f j=some (n,j+(venc g m).length):=by
 intro g
 induction g with
 | zero=>
  intro m j f hm hf h1 hA hb hlen
  have hm':m<128:=by simpa using hm
  rw [venc_last 0 m hm'] at hb hlen⊢
  obtain ⟨f',rfl⟩:∃f',f=f'+1:=⟨f - 1,by omega⟩
  have h0:b j=m:=by have:=hb 0 (by simp);simpa [toNat_ofNat8 m (by omega)] using this
  have hj:j<len:=by simp at hlen;omega
  have hacc:accN b (j+1)=n:=by rw [accN,h0,Nat.mod_eq_of_lt hm',Nat.mul_comm];exact hA
  rw [rvGo,if_pos hj,if_pos (by omega),if_pos ⟨by omega,by omega⟩,hacc];rfl
 | succ g ih=>
  intro m j f hm hf h1 hA hb hlen
  by_cases hs:m<128
  ·rw [venc_last (g+1) m hs] at hb hlen⊢
   obtain ⟨f',rfl⟩:∃f',f=f'+1:=⟨f - 1,by omega⟩
   have h0:b j=m:=by have:=hb 0 (by simp);simpa [toNat_ofNat8 m (by omega)] using this
   have hj:j<len:=by simp at hlen;omega
   have hacc:accN b (j+1)=n:=by rw [accN,h0,Nat.mod_eq_of_lt hs,Nat.mul_comm];exact hA
   rw [rvGo,if_pos hj,if_pos (by omega),if_pos ⟨by omega,by omega⟩,hacc];rfl
  ·have hv:venc (g+1) m=UInt8.ofNat (m % 128+128) :: venc g (m / 128):=by rw [venc,if_neg hs]
   obtain ⟨f',rfl⟩:∃f',f=f'+1:=⟨f - 1,by omega⟩
   have hb0:=hb 0 (by rw [hv];simp)
   simp only [hv,List.getElem_cons_zero,Nat.add_zero,toNat_ofNat8 (m % 128+128) (by omega)] at hb0
   have hj:j<len:=by rw [hv] at hlen;simp at hlen;omega
   have hq:m / 128<128 ^ (g+1):=by
    rw [Nat.pow_succ] at hm
    exact Nat.div_lt_of_lt_mul (by rw [Nat.mul_comm];exact hm)
   have hA':accN b (j+1)+128 ^ (j+1) * (m / 128)=n:=by
    rw [accN,hb0,<-hA,Nat.pow_succ]
    have e1:(m % 128+128) % 128=m % 128:=by omega
    have e2:m=m % 128+128 * (m / 128):=by omega
    rw [e1]
    conv=>rhs;rw [e2]
    rw [Nat.mul_add,Nat.mul_comm (m % 128),Nat.mul_assoc]
    omega
   have hr:=ih (m / 128) (j+1) f' hq (by omega) (by omega) hA' (fun i h=>by
    have:=hb (i+1) (by rw [hv];simpa using h)
    simp only [hv,List.getElem_cons_succ] at this
    rw [<-this];congr 1;omega) (by rw [hv] at hlen;simp at hlen;omega)
   rw [rvGo,if_pos hj,if_neg (by omega),hr,hv]
   simp;omega
theorem byt_list (l:List UInt8) (i:Nat) (h:i<l.length):byt ⟨l.toArray⟩ i=(l[i]).toNat:=by
 have hs:i<(⟨l.toArray⟩:ByteArray).size:=by simpa [ByteArray.size] using h
 rw [<-byt_eq _ i hs];rfl
theorem size_list (l:List UInt8):(⟨l.toArray⟩:ByteArray).size=l.length:=by simp [ByteArray.size]
theorem rv_round (n:Nat) (hn:n<=1000000000) (pre post:List UInt8):
  rvGo (fun i=>byt ⟨(pre++vtext n++post).toArray⟩ (pre.length+i)) ((⟨(pre++vtext n++post).toArray⟩:ByteArray).size - pre.length) 5 0=some (n,(vtext n).length):=by
 have h:=rv_go (fun i=>byt ⟨(pre++vtext n++post).toArray⟩ (pre.length+i)) ((⟨(pre++vtext n++post).toArray⟩:ByteArray).size - pre.length) n hn 4 n 0 5 (pow5 n hn) (by omega) (Or.inr rfl) (by simp [accN])
  (fun i h=>by
   have hl:pre.length+(0+i)<(pre++vtext n++post).length:=by simp;unfold vtext;omega
   rw [byt_list _ _ hl]
   congr 1
   rw [List.getElem_append_left (by simp;unfold vtext;omega),List.getElem_append_right (by omega)]
   simp [vtext])
  (by rw [size_list];simp [vtext])
 simpa [vtext] using h
open Go.RowKit
theorem ba_cat (A:ByteArray) (l:List UInt8) (X:ByteArray):A++⟨l.toArray⟩++X=⟨(A.data.toList++l++X.data.toList).toArray⟩:=by
 apply ByteArray.ext
 simp [ByteArray.data_append]
theorem ba_len (A:ByteArray):A.data.toList.length=A.size:=by rw [Array.length_toList];rfl
theorem rv_at (t A X:ByteArray) (n:Nat) (hn:n<=1000000000) (ht:t=A++⟨(vtext n).toArray⟩++X):rvGo (fun i=>byt t (A.size+i)) (t.size - A.size) 5 0=some (n,(vtext n).length):=by
 have h:=rv_round n hn A.data.toList X.data.toList;rw [<-ba_cat,<-ht,ba_len] at h;exact h
theorem rvGo_form (b:Nat->Nat) (len n c:Nat):∀f j,rvGo b len f j=some (n,c)->(∀i,i<j->128<=b i)->∃k,c=k+1/\k<f+j/\k<len/\n=accN b (k+1)/\n<=1000000000/\b k<128/\(b k≠0\/k=0)/\∀i,i<k->128<=b i
 | 0,j,h,_=>by simp [rvGo] at h
 | f+1,j,h,hi=>by
  rw [rvGo] at h
  split at h
  ·next hl=>
   split at h
   ·next hb=>
    split at h
    ·next h2=>
     simp at h
     exact ⟨j,by omega,by omega,hl,h.1.symm,by rw [<-h.1];exact h2.1,hb,h2.2,hi⟩
    ·cases h
   ·next hb=>
    obtain ⟨k,h1,h2,h3⟩:=rvGo_form b len n c f (j+1) h (fun i hlt=>by
     by_cases e:i=j
     ·subst e;omega
     ·exact hi i (by omega))
    exact ⟨k,h1,by omega,h3⟩
  ·cases h
theorem rv_back (t:ByteArray) (p n c:Nat) (h:rvGo (fun i=>byt t (p+i)) (t.size - p) 5 0=some (n,c)):1<=c/\p+c<=t.size/\n<=1000000000/\t.extract p (p+c)=⟨(vtext n).toArray⟩:=by
 obtain ⟨k,rfl,hk,hl,hn,hn2,hb,h2,hi⟩:=rvGo_form _ _ _ _ 5 0 h (fun i hlt=>by omega)
 refine ⟨by omega,by omega,hn2,?_⟩
 have he:=extract_bytes t p (k+1) (by omega)
 have hv:=(vtext_iff k (fun i=>byt t (p+i)) (by omega) (fun i=>byt_lt _ _) hi hb).2 h2
 rw [<-hn] at hv;rw [<-hv] at he
 apply ByteArray.ext
 rw [<-he]
def shortB (s:ByteArray):ByteArray:=⟨(vtext s.size).toArray⟩++s
theorem vtB_size (n:Nat):(⟨(vtext n).toArray⟩:ByteArray).size=(vtext n).length:=List.size_toArray
def rdV (t:ByteArray) (p:Nat):Option (Nat×Nat):=(rvGo (fun i=>byt t (p+i)) (t.size - p) 5 0).map fun x=>(x.1,p+x.2)
def rdS (t:ByteArray) (p:Nat):Option (ByteArray×Nat):=(rdV t p).bind fun x=>if x.1<=20000/\x.1<=t.size - x.2 then some (t.extract x.2 (x.2+x.1),x.2+x.1) else none
theorem rdV_past {t:ByteArray} {p:Nat} (h:t.size<p):rdV t p=none:=by
 rw [rdV,show t.size - p=0 from by omega]
 simp [rvGo]
theorem rdS_past {t:ByteArray} {p:Nat} (h:t.size<p):rdS t p=none:=by rw [rdS,rdV_past h];rfl
theorem extract_cat (A B:ByteArray) (X:ByteArray):(A++B++X).extract A.size (A.size+B.size)=B:=by
 apply ByteArray.ext
 apply Array.toList_inj.1
 rw [Lib.extract_data]
 simp only [ByteArray.data_append,Array.toList_append]
 rw [<-ba_len A,<-ba_len B,List.append_assoc,List.drop_left,Nat.add_sub_cancel_left,List.take_left]
theorem extract_two (t:ByteArray) (p q r:Nat) (h1:p<=q) (h2:q<=r):t.extract p r=t.extract p q++t.extract q r:=by
 apply ByteArray.ext
 apply Array.toList_inj.1
 rw [ByteArray.data_append,Array.toList_append,Lib.extract_data,Lib.extract_data,Lib.extract_data]
 rw [show r - p=(q - p)+(r - q) from by omega,List.take_add,List.drop_drop,show p+(q - p)=q from by omega]
theorem rdV_at (t A X:ByteArray) (n:Nat) (hn:n<=1000000000) (ht:t=A++⟨(vtext n).toArray⟩++X):rdV t A.size=some (n,(A++⟨(vtext n).toArray⟩).size):=by
 rw [rdV,rv_at t A X n hn ht,ByteArray.size_append,vtB_size];rfl
theorem rdV_back {t:ByteArray} {p n q:Nat} (h:rdV t p=some (n,q)):p<q/\q<=t.size/\n<=1000000000/\t.extract p q=⟨(vtext n).toArray⟩:=by
 rw [rdV,Option.map_eq_some_iff] at h;obtain ⟨⟨m,c⟩,h1,h2⟩:=h
 simp at h2
 obtain ⟨h3,h4,h5,h6⟩:=rv_back t p m c h1;obtain ⟨rfl,rfl⟩:=h2
 exact ⟨by omega,h4,h5,h6⟩
theorem rdS_at (t A x X:ByteArray) (hx:x.size<=20000) (ht:t=A++shortB x++X):rdS t A.size=some (x,(A++shortB x).size):=by
 have h1:=rdV_at t A (x++X) x.size (by omega) (by rw [ht,shortB];simp only [ByteArray.append_assoc])
 have h2:t=(A++⟨(vtext x.size).toArray⟩)++x++X:=by rw [ht,shortB];simp only [ByteArray.append_assoc]
 have hsz:t.size=(A++⟨(vtext x.size).toArray⟩).size+x.size+X.size:=by rw [h2,ByteArray.size_append,ByteArray.size_append]
 have h3:=extract_cat (A++⟨(vtext x.size).toArray⟩) x X;rw [<-h2] at h3;rw [rdS,h1]
 simp only [Option.bind_some]
 rw [if_pos ⟨hx,by omega⟩,h3,shortB,<-ByteArray.append_assoc,ByteArray.size_append (b:=x)]
theorem rdS_back {t x:ByteArray} {p q:Nat} (h:rdS t p=some (x,q)):p<q/\q<=t.size/\x.size<=20000/\t.extract p q=shortB x:=by
 rw [rdS,Option.bind_eq_some_iff] at h;obtain ⟨⟨n,r⟩,h1,h2⟩:=h;obtain ⟨h3,h4,h5,h6⟩:=rdV_back h1
 simp only at h2
 split at h2
 ·next hc=>
  simp at h2
  obtain ⟨h7,h8⟩:=h2
  have hs:x.size=n:=by rw [<-h7,ByteArray.size_extract];omega
  refine ⟨by omega,by omega,by omega,?_⟩
  rw [extract_two t p r q (by omega) (by omega),h6,shortB,hs,<-h7,<-h8]
 ·cases h2
open Go.RowKit
def keyB (ks:List ByteArray) (i:Nat):Bool:=decide ((ks.getD i ⟨#[]⟩).size<=24) && (decide (i=0) || Op.bytesLess (ks.getD (i - 1) ⟨#[]⟩).toList (ks.getD i ⟨#[]⟩).toList)
def kidB (cs:List Int) (i:Nat):Bool:=decide (2<=cs.getD i 0/\cs.getD i 0<=39) && decide (∀j,j<i->cs.getD j 0≠cs.getD i 0)
def cntB (lf:Bool) (nk nv nc:Nat):Bool:=decide (1<=nk/\nk<=4) && (if lf=true then decide (nv=nk/\nc=0) else decide (nc=nk/\nv=0))
def nodeOkB (lf:Bool) (ks vs:List ByteArray) (cs:List Int):Bool:=
 cntB lf ks.length vs.length cs.length && decide (∀i,i<ks.length->keyB ks i=true) && decide (∀i,i<vs.length->(vs.getD i ⟨#[]⟩).size<=24) && decide (∀i,i<cs.length->kidB cs i=true)
theorem node_cnt {lf:Bool} {ks vs:List ByteArray} {cs:List Int} (h:cntB lf ks.length vs.length cs.length=false):nodeOkB lf ks vs cs=false:=by
 rw [nodeOkB,h];rfl
theorem node_key {lf:Bool} {ks vs:List ByteArray} {cs:List Int} {i:Nat} (hi:i<ks.length) (h:keyB ks i=false):nodeOkB lf ks vs cs=false:=by
 have:decide (∀i,i<ks.length->keyB ks i=true)=false:=decide_eq_false (fun hh=>by rw [hh i hi] at h;cases h)
 rw [nodeOkB,this];simp
theorem node_val {lf:Bool} {ks vs:List ByteArray} {cs:List Int} {i:Nat} (hi:i<vs.length) (h:24<(vs.getD i ⟨#[]⟩).size):nodeOkB lf ks vs cs=false:=by
 have:decide (∀i,i<vs.length->(vs.getD i ⟨#[]⟩).size<=24)=false:=decide_eq_false (fun hh=>by have:=hh i hi;omega)
 rw [nodeOkB,this];simp
theorem node_kid {lf:Bool} {ks vs:List ByteArray} {cs:List Int} {i:Nat} (hi:i<cs.length) (h:kidB cs i=false):nodeOkB lf ks vs cs=false:=by
 have:decide (∀i,i<cs.length->kidB cs i=true)=false:=decide_eq_false (fun hh=>by rw [hh i hi] at h;cases h)
 rw [nodeOkB,this];simp
theorem node_all {lf:Bool} {ks vs:List ByteArray} {cs:List Int} (h0:cntB lf ks.length vs.length cs.length=true) (h1:∀i,i<ks.length->keyB ks i=true) (h2:∀i,i<vs.length->(vs.getD i ⟨#[]⟩).size<=24) (h3:∀i,i<cs.length->kidB cs i=true):nodeOkB lf ks vs cs=true:=by
 rw [nodeOkB,h0,decide_eq_true h1,decide_eq_true h2,decide_eq_true h3];rfl
theorem node_yes {lf:Bool} {ks vs:List ByteArray} {cs:List Int} (h:nodeOkB lf ks vs cs=true):cntB lf ks.length vs.length cs.length=true/\(∀i,i<ks.length->keyB ks i=true)/\(∀i,i<vs.length->(vs.getD i ⟨#[]⟩).size<=24)/\∀i,i<cs.length->kidB cs i=true:=by
 rw [nodeOkB] at h
 simp only [Bool.and_eq_true,decide_eq_true_eq] at h
 exact ⟨h.1.1.1,h.1.1.2,h.1.2,h.2⟩
theorem cnt_yes {lf:Bool} {nk nv nc:Nat} (h:cntB lf nk nv nc=true):1<=nk/\nk<=4/\(lf=true->nv=nk/\nc=0)/\(lf=false->nc=nk/\nv=0):=by
 unfold cntB at h;rw [Bool.and_eq_true,decide_eq_true_eq] at h
 refine ⟨h.1.1,h.1.2,fun e=> ?_,fun e=> ?_⟩
 ·have:=h.2;rw [if_pos e,decide_eq_true_eq] at this;exact this
 ·have:=h.2;rw [if_neg (by rw [e];decide),decide_eq_true_eq] at this;exact this
def headB (lf:Bool):ByteArray:=if lf=true then ⟨#[108]⟩ else ⟨#[98]⟩
def sideT (lf:Bool) (vs:List ByteArray) (cs:List Int) (i:Nat):ByteArray:=if lf=true then shortB (vs.getD i ⟨#[]⟩) else ⟨(vtext (cs.getD i 0).toNat).toArray⟩
def nodeP (lf:Bool) (cnt:Nat) (ks vs:List ByteArray) (cs:List Int):Nat->ByteArray
 | 0=>headB lf++⟨(vtext cnt).toArray⟩
 | k+1=>nodeP lf cnt ks vs cs k++shortB (ks.getD k ⟨#[]⟩)++sideT lf vs cs k
def nodeB (lf:Bool) (ks vs:List ByteArray) (cs:List Int):ByteArray:=nodeP lf ks.length ks vs cs ks.length
theorem shortB_size2 (s:ByteArray):(shortB s).size<=s.size+5:=by
 have h:=(vtext_length s.size).2;rw [shortB,ByteArray.size_append,vtB_size]
 omega
theorem key_short {ks:List ByteArray} {i:Nat} (h:keyB ks i=true):(ks.getD i ⟨#[]⟩).size<=24:=by
 rw [keyB,Bool.and_eq_true,decide_eq_true_eq] at h;exact h.1
theorem kid_page {cs:List Int} {i:Nat} (h:kidB cs i=true):2<=cs.getD i 0/\cs.getD i 0<=39:=by
 rw [kidB,Bool.and_eq_true,decide_eq_true_eq] at h;exact h.1
theorem headB_size (lf:Bool):(headB lf).size=1:=by cases lf <;> rfl
theorem sideT_size {lf:Bool} {ks vs:List ByteArray} {cs:List Int} (h:nodeOkB lf ks vs cs=true) {i:Nat} (hi:i<ks.length):(sideT lf vs cs i).size<=29:=by
 obtain ⟨h0,h1,h2,h3⟩:=node_yes h;obtain ⟨c1,c2,c3,c4⟩:=cnt_yes h0;unfold sideT
 split
 ·next e=>
  have:=shortB_size2 (vs.getD i ⟨#[]⟩)
  have:=h2 i (by have:=(c3 e).1;omega)
  omega
 ·rw [vtB_size]
  have:=(vtext_length (cs.getD i 0).toNat).2
  omega
theorem nodeP_size {lf:Bool} {ks vs:List ByteArray} {cs:List Int} (h:nodeOkB lf ks vs cs=true):∀k,k<=ks.length->(nodeP lf ks.length ks vs cs k).size<=6+58 * k
 | 0,_=>by
  rw [nodeP,ByteArray.size_append,headB_size,vtB_size];have:=(vtext_length ks.length).2
  omega
 | k+1,hk=>by
  have ih:=nodeP_size h k (by omega)
  have h1:=sideT_size h (show k<ks.length by omega)
  have h2:=shortB_size2 (ks.getD k ⟨#[]⟩)
  have h3:=key_short ((node_yes h).2.1 k (by omega))
  rw [nodeP,ByteArray.size_append,ByteArray.size_append]
  omega
theorem nodeB_size {lf:Bool} {ks vs:List ByteArray} {cs:List Int} (h:nodeOkB lf ks vs cs=true):(nodeB lf ks vs cs).size<=238/\2<=(nodeB lf ks vs cs).size:=by
 have h1:=nodeP_size h ks.length (Nat.le_refl _);obtain ⟨c1,c2,-,-⟩:=cnt_yes (node_yes h).1
 refine ⟨by unfold nodeB;omega,?_⟩
 have mono:∀k,2<=(nodeP lf ks.length ks vs cs k).size:=by
  intro k
  induction k with
  | zero=>
   rw [nodeP,ByteArray.size_append,headB_size,vtB_size];have:=(vtext_length ks.length).1
   omega
  | succ k ih=>rw [nodeP,ByteArray.size_append,ByteArray.size_append];omega
 exact mono _
def nodeT (lf:Bool) (ks vs:List ByteArray) (cs:List Int):ByteArray:=⟨(sealL (nodeB lf ks vs cs).data.toList).toArray⟩
def nodeO (lf:Bool) (ks vs:List ByteArray) (cs:List Int):ByteArray:=if nodeOkB lf ks vs cs=true then nodeT lf ks vs cs else ⟨#[]⟩
def placeK (ks:List ByteArray) (key:ByteArray):Nat->Int
 | 0=> -1
 | k+1=>if (Op.bytesLess (ks.getD k ⟨#[]⟩).toList key.toList || (ks.getD k ⟨#[]⟩).toList ==key.toList)=true then (k:Int) else placeK ks key k
end Go.Proofs.YtjmgdmdleamenaaGreatDoor
