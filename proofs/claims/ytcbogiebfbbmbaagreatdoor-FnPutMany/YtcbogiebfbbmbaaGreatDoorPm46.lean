/-
  Facts and contracts that the law's own text rests on, by their texts' names: PutKeyI, PutKeyS, FreeRow, Meta.
-/
import Derived.Test.YtcbogiebfbbmbaaGreatDoorPm45
import Derived.Test.YtcbogiebfbbmbaaGreatDoorPm1
import Derived.Test.YtcbogiebfbbmbaaGreatDoorPm9
set_option maxHeartbeats 16000000
set_option maxRecDepth 100000
namespace Go.Proofs.YtcbogiebfbbmbaaGreatDoor
open Go.RowKit
theorem zlf (v:Value) (k k3:Wk) (root r3:Int) (key val:ByteArray) (w:World) (hd:WorkAt w v k)
  (hp:∀wx,Below w.heap.size w wx->Calls Tryz.prog 25 #[v,.int .i64 root,.string key,.string val] wx fun e w'=>∃v',e= .returned (.tuple #[v',.int .i64 r3,.bool true])/\WorkOwn w' wx.heap.size v' k3/\Below wx.heap.size wx w'):
  Calls Tryz.prog 10 #[v,.int .i64 root,.string key,.string val] w fun e w'=>∃v',e= .returned (.tuple #[v',.int .i64 r3,.bool true])/\WorkOwn w' w.heap.size v' k3/\Below w.heap.size w w':=by
 have HP:=hide hp;obtain ⟨ap,cp,al,cl,au,cu,ag,cg,af,cf,rfl⟩:=zaV hd;obtain ⟨np,hnp⟩:∃n,n=k.ps.length:=⟨_,rfl⟩;obtain ⟨nl,hnl⟩:∃n,n=k.ls.length:=⟨_,rfl⟩;obtain ⟨nu,hnu⟩:∃n,n=k.us.length:=⟨_,rfl⟩;obtain ⟨ng,hng⟩:∃n,n=k.gs.length:=⟨_,rfl⟩;obtain ⟨nf,hnf⟩:∃n,n=k.fs.length:=⟨_,rfl⟩;obtain ⟨nx,hnx⟩:∃n,n=k.next:=⟨_,rfl⟩;rw [<-hnp,<-hnl,<-hnu,<-hng,<-hnf,<-hnx] at HP⊢;obtain ⟨w0,hw0⟩:∃x,x=(w.alloc (Obj.cells #[.slice ap np cp,.slice al nl cl,.int .i64 nx,.slice au nu cu,.slice ag ng cg,.slice af nf cf] 34)).alloc (Obj.cells #[.slice none 0 0,.slice none 0 0,.int .i64 0,.slice none 0 0,.slice none 0 0,.slice none 0 0] 34):=⟨_,rfl⟩
 have hb0:Below w.heap.size w w0:=by rw [hw0];exact ((Below.refl w.heap.size w).alloc (Nat.le_refl _) _).alloc (by simp) _
 have q1:w0.heap[w.heap.size+1]?=some (.cells #[.slice none 0 0,.slice none 0 0,.int .i64 0,.slice none 0 0,.slice none 0 0,.slice none 0 0] 34 (0,0)):=by rw [hw0];simp only [zal,World.size_alloc];simp
 have HB0:=hide (⟨hb0,q1⟩:_/\_);clear hd hp hnp hnl hnu hng hnf hnx hb0 q1;go_enter Tryz.func10,Tryz.ntmps10;go_wp2_with fail;rw [<-hw0];clear hw0;refine (HP.out w0 HB0.out.1).mono ?_;rintro e w1 ⟨v',rfl,ho,hb1⟩;have HB1:Hid (Below w.heap.size w w1):=hide (HB0.out.1.trans (hb1.mono HB0.out.1.size));have hq1:=stays HB0.out.2 hb1;obtain ⟨a1,e1,a2,e2,a3,e3,a4,e4,a5,e5,rfl⟩:=zaX ho
 have hx2:∀o,Below w1.heap.size w1 (w1.alloc o):=fun o=>(Below.refl _ _).alloc (Nat.le_refl _) o
 have hq3:=fun o=>stays hq1 (hx2 o)
 have t0:=fun o=>(za0 (hq3 o) 0).1
 have t1:=fun o=>(za0 (hq3 o) 1).1
 have t2:=fun o=>(za0 (hq3 o) 2).1
 have t3:=fun o=>(za0 (hq3 o) 3).1
 have t4:=fun o=>(za0 (hq3 o) 4).1
 have t5:=fun o=>(za0 (hq3 o) 5).1
 have y0:=fun o=>(za0 (hq3 o) 0).2
 have y1:=fun o=>(za0 (hq3 o) 1).2
 have y2:=fun o=>(za0 (hq3 o) 2).2
 have y3:=fun o=>(za0 (hq3 o) 3).2
 have y4:=fun o=>(za0 (hq3 o) 4).2
 have y5:=fun o=>(za0 (hq3 o) 5).2
 have HQ3:=hide hq3;have HX2:=hide hx2;have HOw:=hide ho
 have hz0:w.heap.size+2<=w0.heap.size:=by have:=(Array.getElem?_eq_some_iff.1 HB0.out.2).1;omega
 have HZ0:=hide hz0;clear ho hb1 hq1 hq3 hx2 HP hz0;go_wp2_with fail;have hA:=HX2.out (Obj.cells #[.slice a1 k3.ps.length e1,.slice a2 k3.ls.length e2,.int .i64 k3.next,.slice a3 k3.us.length e3,.slice a4 k3.gs.length e4,.slice a5 k3.fs.length e5] 34);have fz:=zb4 (u0:= .slice a1 k3.ps.length e1) (u1:= .slice a2 k3.ls.length e2) (u2:= .int .i64 k3.next) (u3:= .slice a3 k3.us.length e3) (u4:= .slice a4 k3.gs.length e4) (u5:= .slice a5 k3.fs.length e5) (HQ3.out (Obj.cells #[.slice a1 k3.ps.length e1,.slice a2 k3.ls.length e2,.int .i64 k3.next,.slice a3 k3.us.length e3,.slice a4 k3.gs.length e4,.slice a5 k3.fs.length e5] 34));have hk6:=zaw (w1.alloc (Obj.cells #[.slice a1 k3.ps.length e1,.slice a2 k3.ls.length e2,.int .i64 k3.next,.slice a3 k3.us.length e3,.slice a4 k3.gs.length e4,.slice a5 k3.fs.length e5] 34)) (w.heap.size+1) (.slice a1 k3.ps.length e1) (.slice a2 k3.ls.length e2) (.int .i64 k3.next) (.slice a3 k3.us.length e3) (.slice a4 k3.gs.length e4) (.slice a5 k3.fs.length e5);obtain ⟨q0,q1,q2,q3,q4,q5⟩:=blk6c fz
 refine bodyPost_ret (v:= .tuple #[.agg #[.slice a1 k3.ps.length e1,.slice a2 k3.ls.length e2,.int .i64 k3.next,.slice a3 k3.us.length e3,.slice a4 k3.gs.length e4,.slice a5 k3.fs.length e5],.int .i64 r3,.bool true]) (by simp [results,Tryz.results10,go_sem,q0,q1,q2,q3,q4,q5]) rfl ⟨_,rfl,zb1 (zaz (zaC HOw.out hA) hk6 (fun j hj e=>by have:=zam HOw.out j hj;have:=HZ0.out;omega)) (by have:=HZ0.out;omega),(HB1.out.trans (hA.mono HB1.out.size)).trans (zae hk6 (Nat.le_trans HB1.out.size hA.size) (fun j e=>by omega))⟩
theorem zjJ (v:Value) (k:Wk) (hk:k.small) (root:Int) (key val:ByteArray) (hl:24<key.size) (w:World) (hd:WorkAt w v k):
  Calls Tryz.prog 10 #[v,.int .i64 root,.string key,.string val] w fun e w'=>∃v',e= .returned (.tuple #[v',.int .i64 root,.bool false])/\WorkNw w' w.heap.size v' k/\Below w.heap.size w w':=by
 have HP:=hide (fun (wx:World) (hb:Below w.heap.size w wx)=>ziY v k root key val hl wx (zaf hd hb))
 have HC:=hide (fun (wx:World) (hb:Below w.heap.size w wx)=>zbZ v k hk wx (zaf hd hb))
 obtain ⟨ap,cp,al,cl,au,cu,ag,cg,af,cf,rfl⟩:=zaV hd;obtain ⟨np,hnp⟩:∃n,n=k.ps.length:=⟨_,rfl⟩;obtain ⟨nl,hnl⟩:∃n,n=k.ls.length:=⟨_,rfl⟩;obtain ⟨nu,hnu⟩:∃n,n=k.us.length:=⟨_,rfl⟩;obtain ⟨ng,hng⟩:∃n,n=k.gs.length:=⟨_,rfl⟩;obtain ⟨nf,hnf⟩:∃n,n=k.fs.length:=⟨_,rfl⟩;obtain ⟨nx,hnx⟩:∃n,n=k.next:=⟨_,rfl⟩;rw [<-hnp,<-hnl,<-hnu,<-hng,<-hnf,<-hnx] at HP HC⊢;obtain ⟨w0,hw0⟩:∃x,x=(w.alloc (Obj.cells #[.slice ap np cp,.slice al nl cl,.int .i64 nx,.slice au nu cu,.slice ag ng cg,.slice af nf cf] 34)).alloc (Obj.cells #[.slice none 0 0,.slice none 0 0,.int .i64 0,.slice none 0 0,.slice none 0 0,.slice none 0 0] 34):=⟨_,rfl⟩
 have hb0:Below w.heap.size w w0:=by rw [hw0];exact ((Below.refl w.heap.size w).alloc (Nat.le_refl _) _).alloc (by simp) _
 have q1:w0.heap[w.heap.size+1]?=some (.cells #[.slice none 0 0,.slice none 0 0,.int .i64 0,.slice none 0 0,.slice none 0 0,.slice none 0 0] 34 (0,0)):=by rw [hw0];simp only [zal,World.size_alloc];simp
 have HB0:=hide (⟨hb0,q1⟩:_/\_)
 have q0:w0.heap[w.heap.size]?=some (.cells #[.slice ap np cp,.slice al nl cl,.int .i64 nx,.slice au nu cu,.slice ag ng cg,.slice af nf cf] 34 (0,0)):=by rw [hw0];simp only [zal,World.size_alloc];simp
 have HQ0:=hide q0;clear hd hk hl hnp hnl hnu hng hnf hnx hb0 q1 q0;go_enter Tryz.func10,Tryz.ntmps10;go_wp2_with fail;rw [<-hw0];clear hw0;refine (HP.out w0 HB0.out.1).mono ?_;rintro e w1 ⟨rfl,hb1⟩;have HB1:Hid (Below w.heap.size w w1):=hide (HB0.out.1.trans (hb1.mono HB0.out.1.size));have HQ1:=hide (⟨stays HQ0.out hb1,stays HB0.out.2 hb1⟩:_/\_)
 have hx1:∀o,Below w1.heap.size w1 (w1.alloc o):=fun o=>(Below.refl _ _).alloc (Nat.le_refl _) o
 have hc:=fun o=>stays HQ1.out.1 (hx1 o)
 have c0:=fun o=>(za0 (hc o) 0).1
 have c1:=fun o=>(za0 (hc o) 1).1
 have c2:=fun o=>(za0 (hc o) 2).1
 have c3:=fun o=>(za0 (hc o) 3).1
 have c4:=fun o=>(za0 (hc o) 4).1
 have c5:=fun o=>(za0 (hc o) 5).1
 have HX1:=hide hx1;clear hb1 HP hc hx1;go_wp2_with fail;obtain ⟨w2,hw2⟩:∃x,x=w1.alloc (Obj.cells #[.slice none 0 0,.slice none 0 0,.int .i64 0,.slice none 0 0,.slice none 0 0,.slice none 0 0] 34):=⟨_,rfl⟩;rw [<-hw2]
 have hb2:Below w1.heap.size w1 w2:=by rw [hw2];exact HX1.out _
 have HB2:Hid (Below w.heap.size w w2):=hide (HB1.out.trans (hb2.mono HB1.out.size));have HQ2:=hide (stays HQ1.out.2 hb2);clear hw2 hb2 c0 c1 c2 c3 c4 c5;refine (HC.out w2 HB2.out).mono ?_;rintro e w3 ⟨u,rfl,hnw,hb3⟩;have HB3:Hid (Below w.heap.size w w3):=hide (HB2.out.trans (hb3.mono HB2.out.size));have hq3:=stays HQ2.out hb3;obtain ⟨a1,e1,a2,e2,a3,e3,a4,e4,a5,e5,rfl⟩:=zb7 hnw;obtain ⟨t0,t1,t2,t3,t4,t5⟩:=blk6c (hq3);have y0:=(za0 (hq3) 0).2;have y1:=(za0 (hq3) 1).2;have y2:=(za0 (hq3) 2).2;have y3:=(za0 (hq3) 3).2;have y4:=(za0 (hq3) 4).2;have y5:=(za0 (hq3) 5).2;have HQ3:=hide hq3;have HNw:=hide hnw
 have HZ2:Hid (w.heap.size+2<=w2.heap.size):=hide (by have:=(Array.getElem?_eq_some_iff.1 HQ2.out).1;omega)
 clear hnw hb3 hq3 HC;go_wp2_with fail
 have hf:=zia (w:=w) HQ3.out HNw.out (by have:=HZ2.out;omega) (Nat.le_succ _) HB3.out
 obtain ⟨f1,f2,f3⟩:=hf;obtain ⟨q0,q1,q2,q3,q4,q5⟩:=blk6c f1
 refine bodyPost_ret (v:= .tuple #[.agg #[.slice a1 k.ps.length e1,.slice a2 k.ls.length e2,.int .i64 k.next,.slice a3 k.us.length e3,.slice a4 k.gs.length e4,.slice a5 k.fs.length e5],.int .i64 root,.bool false]) (by simp [results,Tryz.results10,go_sem,q0,q1,q2,q3,q4,q5]) rfl ⟨_,rfl,f2,f3⟩
open Go.RowKit
theorem zky (key val:ByteArray):∀(f:Nat) (k:Wk) (p:Int),(goPut key val f k p).2.2.2=true->∃ws,wayS k.rd key f p=some ws
 | 0,k,p,h=>by rw [goPut] at h;cases h
 | f+1,k,p,h=>by
  obtain ⟨n,ok,hn⟩:∃n ok,rdN (readD k.ps k.ls p)=(n,ok):=⟨_,_,rfl⟩;have hn':k.rd p=(n,ok):=hn
  cases ok with
  | false=>rw [zdz hn] at h;cases h
  | true=>
   rw [wayS,hn',if_neg (by simp)]
   cases hl:n.lf with
   | true=>exact ⟨_,if_pos rfl⟩
   | false=>
    rw [zbd hn hl rfl rfl] at h
    have hr:(goPut key val f k (n.cs.getD (placeK n.ks key n.ks.length).toNat 0)).2.2.2=true:=by
     cases e:(goPut key val f k (n.cs.getD (placeK n.ks key n.ks.length).toNat 0)).2.2.2 with
     | true=>rfl
     | false=>rw [if_pos e,e] at h;cases h
    obtain ⟨r,hr⟩:=zky key val f k _ hr
    have hmx:(max (placeK n.ks key n.ks.length) 0).toNat=(placeK n.ks key n.ks.length).toNat:=by omega
    refine ⟨(p,n,max (placeK n.ks key n.ks.length) 0) :: r,?_⟩
    rw [if_neg (by decide)]
    dsimp only;rw [hmx,hr]
    rfl
theorem zgK (v:Value) {k:Wk} {root:Int} {L:Prs} {P:List Int} {M:Nat} (h:PutSt k root L P (M+1)) (key val:ByteArray) (hk:key.size<=24) (hv:val.size<=24) (w:World) (hT:SumTab w) (hd:WorkAt w v k):
  Calls Tryz.prog 10 #[v,.int .i64 root,.string key,.string val] w fun e w'=>∃v',e= .returned (.tuple #[v',.int .i64 (putS k root key val).2.1,.bool true])/\WorkOwn w' w.heap.size v' (putS k root key val).1/\Below w.heap.size w w':=by
 obtain ⟨ho,P',hst⟩:=zmE h hk hv
 have hsz:¬(24<key.size\/24<val.size):=by omega
 refine zlf v k _ root _ key val w hd (fun wx hb=> ?_)
 have hT':=zah hT hb;have hd':=zaf hd hb
 by_cases h0:root=0
 ·subst h0
  have hp:putP k true [key] [val] []≠0:=fun e=>by
   unfold putS at ho;rw [if_neg hsz,if_pos rfl,if_pos e] at ho
   cases ho
  have e:putS k 0 key val=(putK k true [key] [val] [],putP k true [key] [val] [],true):=by
   unfold putS;rw [if_neg hsz,if_pos rfl,if_neg hp]
  rw [e];exact ziZ v k (zbW h.sm) key val hk hv hp wx hT' hd'
 ·obtain ⟨R,hR⟩:∃R,R=goPut key val 8 k root:=⟨_,rfl⟩
  have hok:R.2.2.2=true:=by
   cases e:R.2.2.2 with
   | true=>rfl
   | false=>
    unfold putS at ho;rw [if_neg hsz,if_neg h0,<-hR,if_pos e] at ho
    cases ho
  obtain ⟨ws,hws⟩:=zky key val 8 k root (by rw [<-hR];exact hok)
  have hup:=zix key val 8 k root ws hws;rw [<-hR] at hup
  have e:(putS k root key val).2.1=(if R.2.2.1.length=1 then R.2.2.1.getD 0 0 else putP R.1 false R.2.1 [] R.2.2.1)/\(putS k root key val).1=(if R.2.2.1.length=1 then R.1 else putK R.1 false R.2.1 [] R.2.2.1)/\(R.2.2.1.length≠1->putP R.1 false R.2.1 [] R.2.2.1≠0):=by
   by_cases h1:R.2.2.1.length=1
   ·rw [zmD hsz h0 hR hok h1,if_pos h1,if_pos h1]
    exact ⟨rfl,rfl,fun h=>absurd h1 h⟩
   ·have h8:¬8<=deepD (fun q=>rdN (readD R.1.ps R.1.ls q)) (R.2.2.1.getD 0 0):=fun e=>by
     unfold putS at ho
     rw [if_neg hsz,if_neg h0,<-hR,if_neg (by rw [hok];decide),if_neg h1,if_pos e] at ho
     cases ho
    have hp:putP R.1 false R.2.1 [] R.2.2.1≠0:=fun e=>by
     unfold putS at ho
     rw [if_neg hsz,if_neg h0,<-hR,if_neg (by rw [hok];decide),if_neg h1,if_neg h8,if_pos e] at ho
     cases ho
    rw [zmC hsz h0 hR hok h1 h8 hp,if_neg h1,if_neg h1]
    exact ⟨rfl,rfl,fun _=>hp⟩
  have hsh:Sh (putS k root key val).1.rd 8 (putS k root key val).2.1:=by
   rcases hst.tree with ⟨-,e,-⟩ | ⟨hh,f,-,ht,hf⟩
   ·have:(putL L key val).length=0:=by rw [e];rfl
    unfold putL at this
    simp at this
   ·exact zmI hh 8 ht (by have:=(zgo ht hf (by have:=hst.len;omega)).2.1;omega)
  exact zjI v k h.jok (zaD h.sm (by omega)) root h0 key val hk hv ws hws R hup hok e.2.2 _ _ e.2.1 e.1 hsh wx hT' hd'
open Go.RowKit
def frs (l:List (Int×Value)):List Value:=l.flatMap fun p=> [.int .i64 p.1,p.2]
theorem znK (p:Int×Value) (l:List (Int×Value)):frs (p :: l)=Value.int .i64 p.1 :: p.2 :: frs l:=rfl
theorem frs_at (l:List (Int×Value)):∀k p,l[k]?=some p->(frs l)[k * 2]?=some (.int .i64 p.1)/\(frs l)[k * 2+1]?=some p.2:=by
 induction l with
 | nil=>intro k p h;simp at h
 | cons q l ih=>
  intro k p h;rw [znK]
  cases k with
  | zero=>simp at h;subst h;exact ⟨rfl,rfl⟩
  | succ k=>
   have:=ih k p (by simpa using h)
   rw [show (k+1) * 2=k * 2+1+1 from by omega]
   simpa using this
def FreesAt (w:World) (v:Value) (fs:List (Int×List Int)):Prop:=
 ∃l:List (Int×Value),l.length=fs.length/\RowAt w 2 v fs.length (frs l)/\∀(k:Nat) (p:Int×Value) (f:Int×List Int),l[k]?=some p->fs[k]?=some f->p.1=f.1/\RowAt w 1 p.2 f.2.length (ints f.2)
theorem zjK {w:World} {v:Value} {fs:List (Int×List Int)} (h:FreesAt w v fs):∃a cap,v= .slice a fs.length cap:=by
 obtain ⟨l,h1,h2,h3⟩:=h;obtain ⟨-,a,cap,e,-⟩:=h2;exact ⟨a,cap,e⟩
theorem zkz {w:World} {a:Option Addr} {n cap:Nat} {fs:List (Int×List Int)} (h:FreesAt w (.slice a n cap) fs) {k:Nat} {tx:Int} {ps:List Int} (hk:fs[k]?=some (tx,ps)):
  ∃b off x c,a=some ⟨b,off,none⟩/\b<w.heap.size/\w.cell? ⟨b,off+k * 2,none⟩=some (.int .i64 tx)/\w.cell? ⟨b,off+k * 2+1,none⟩=some (.slice x ps.length c)/\RowAt w 1 (.slice x ps.length c) ps.length (ints ps):=by
 obtain ⟨l,h1,h2,h3⟩:=h;have hlt:k<fs.length:=(List.getElem?_eq_some_iff.1 hk).1
 obtain ⟨p,hp⟩:∃p,l[k]?=some p:=⟨_,List.getElem?_eq_getElem (by omega)⟩
 obtain ⟨e1,e2⟩:=h3 k p _ hp hk;obtain ⟨-,a',cap',e,hr⟩:=h2
 injection e with e _ _
 subst e
 rcases hr with h0 | ⟨b,off,rfl,hb,hc⟩
 ·omega
 ·obtain ⟨x,c,hx⟩:∃x c,p.2= .slice x ps.length c:=by obtain ⟨-,x,c,e,-⟩:=e2;exact ⟨x,c,e⟩
  rw [hx] at e2;refine ⟨b,off,x,c,rfl,hb,?_,?_,e2⟩
  ·rw [hc (k * 2) (by omega),(frs_at l k p hp).1,e1]
  ·rw [Nat.add_assoc,hc (k * 2+1) (by omega),(frs_at l k p hp).2,hx]
open Go.RowKit
def MetaAt (w:World) (v:Value) (m:Mt):Prop:=∃vf,v= .agg #[.int .i64 m.tx,.int .i64 m.root,.int .i64 m.next,vf]/\FreesAt w vf m.fs
end Go.Proofs.YtcbogiebfbbmbaaGreatDoor
