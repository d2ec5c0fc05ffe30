/-
  Facts and contracts that the law's own text rests on, by their texts' names: PutPairI.
-/
import Derived.Test.YtcbogiebfbbmbaaGreatDoorPm44
set_option maxHeartbeats 16000000
set_option maxRecDepth 100000
namespace Go.Proofs.YtcbogiebfbbmbaaGreatDoor
open Go.RowKit
theorem zkw {w:World} {b:Nat} {x:Value} {T:TypeId} (h:w.heap[b]?=some (.cells #[x] T (0,0))):RowAt w 1 (.slice (some ⟨b,0,none⟩) 1 1) 1 [x]:=
 zac (B:=0) (e:=T) ⟨rfl,Or.inr ⟨b,1,#[x],rfl,Nat.zero_le _,h,Nat.le_refl _,by unfold maxLen;omega,rfl,rfl⟩⟩
theorem zjH {P : Program} (w : World) {ops : Array Oper} {o : Oper} {a : Act} {K : Act → World → Prop} {Q : Exit → Act → World → Prop} {E : Prop} (hw : Region.wanted o (yielded ops a.tmps) = true) (f : FuncId) (fn : Func) (hfn : P.funcs[f]? = some fn) (hname : ¬ fn.name = "runtime.NumGoroutine") (hbody : ¬ fn.body = none) (s x : Operand) (ts : Array TypeId)
  (ho:o.op= .call {callee:= .value (.func f),args:= #[s,x],argTypes:=ts}) (u v:Value) (hs:a.eval s=u) (hx:a.eval x=v)
  (R:Ending→World→Prop) (hc:Calls P f #[u,v] w R) (hR:∀e w',R e w'→∃r,e= .returned r∧K (a.put o.dst r) w'):
  if Region.wanted o (yielded ops a.tmps)=true then Oper.wp P o a w K Q else E:=by
 rw [if_pos hw];unfold Oper.wp execOp;have hf:a.eval (.func f)= .func (.func f) #[] #[]:=rfl
 simp only [ho,resolve,invoke,hf,Deferred.ofValue,callFunc,Sem.run_bind,Sem.run_pure,Result.andThen_ok,List.map_toArray,List.map_cons,List.map_nil,hs,hx]
 simp [go_sem,hfn,hname,hbody]
 refine hc.mono ?_;intro e w' h;obtain ⟨r,rfl,hk⟩:=hR e w' h;exact hk
theorem zhT {w:World} {a b c d e f:Value} {k:Wk} (h:WorkAt w (.agg #[a,b,c,d,e,f]) k):DiskAt w (.agg #[a,b]) k.ps k.ls:=by
 obtain ⟨vp,vl,vu,vg,vf,h1,h2,-⟩:=h;obtain ⟨rfl,rfl,-⟩:=agg6 h1;exact h2
theorem zkx {R:Int->Nd×Bool} {key:ByteArray}:∀{f:Nat} {p:Int} {ws:List WLvl},wayS R key f p=some ws->ws.length<=f
 | 0,_,_,h=>by cases h
 | f+1,p,ws,h=>by
  rw [wayS] at h
  split at h
  ·cases h
  ·split at h
   ·injection h with h;subst h;simp
   ·obtain ⟨r,hr,h⟩:=Option.map_eq_some_iff.1 h
    subst h;have:=zkx hr
    simp
    omega
theorem ziY (v:Value) (k:Wk) (root:Int) (key val:ByteArray) (hl:24<key.size) (w:World) (hd:WorkAt w v k):
  Calls Tryz.prog 25 #[v,.int .i64 root,.string key,.string val] w fun e w'=>e= .returned (.tuple #[.agg #[.slice none 0 0,.slice none 0 0,.int .i64 0,.slice none 0 0,.slice none 0 0,.slice none 0 0],.int .i64 0,.bool false])/\Below w.heap.size w w':=by
 have HD:=hide hd;obtain ⟨ap,cp,al,cl,au,cu,ag,cg,af,cf,rfl⟩:=zaV hd;obtain ⟨np,hnp⟩:∃n,n=k.ps.length:=⟨_,rfl⟩;obtain ⟨nl,hnl⟩:∃n,n=k.ls.length:=⟨_,rfl⟩;obtain ⟨nu,hnu⟩:∃n,n=k.us.length:=⟨_,rfl⟩;obtain ⟨ng,hng⟩:∃n,n=k.gs.length:=⟨_,rfl⟩;obtain ⟨nf,hnf⟩:∃n,n=k.fs.length:=⟨_,rfl⟩;obtain ⟨nx,hnx⟩:∃n,n=k.next:=⟨_,rfl⟩;rw [<-hnp,<-hnl,<-hnu,<-hng,<-hnf,<-hnx] at HD⊢;obtain ⟨w0,hw0⟩:∃x,x=(w.alloc (Obj.cells #[.slice ap np cp,.slice al nl cl,.int .i64 nx,.slice au nu cu,.slice ag ng cg,.slice af nf cf] 34)).alloc (Obj.cells #[.slice none 0 0,.slice none 0 0,.int .i64 0,.slice none 0 0,.slice none 0 0,.slice none 0 0] 34):=⟨_,rfl⟩
 have hb0:Below w.heap.size w w0:=by rw [hw0];exact ((Below.refl w.heap.size w).alloc (Nat.le_refl _) _).alloc (by simp) _
 have q0:w0.heap[w.heap.size]?=some (.cells #[.slice ap np cp,.slice al nl cl,.int .i64 nx,.slice au nu cu,.slice ag ng cg,.slice af nf cf] 34 (0,0)):=by rw [hw0];simp only [zal,World.size_alloc];simp
 have q1:w0.heap[w.heap.size+1]?=some (.cells #[.slice none 0 0,.slice none 0 0,.int .i64 0,.slice none 0 0,.slice none 0 0,.slice none 0 0] 34 (0,0)):=by rw [hw0];simp only [zal,World.size_alloc];simp
 have HB0:=hide (⟨hb0,q0,q1⟩:_/\_/\_);clear hd hnp hnl hnu hng hnf hnx hb0 q0 q1
 have hl1:(24:Int)<(key.size:Int):=by omega
 go_enter Tryz.func25,Tryz.ntmps25;go_wp2_with fail;rw [<-hw0];obtain ⟨q0,q1,q2,q3,q4,q5⟩:=blk6c HB0.out.2.2
 refine bodyPost_ret (v:= .tuple #[.agg #[.slice none 0 0,.slice none 0 0,.int .i64 0,.slice none 0 0,.slice none 0 0,.slice none 0 0],.int .i64 0,.bool false]) (by simp [results,Tryz.results25,go_sem,q0,q1,q2,q3,q4,q5]) rfl ⟨rfl,HB0.out.1⟩
theorem ziZ (v:Value) (k:Wk) (hk:k.small) (key val:ByteArray) (hkey:key.size<=24) (hval:val.size<=24) (hp:putP k true [key] [val] []≠0) (w:World) (hT:SumTab w) (hd:WorkAt w v k):
  Calls Tryz.prog 25 #[v,.int .i64 0,.string key,.string val] w fun e w'=>∃v',e= .returned (.tuple #[v',.int .i64 (putP k true [key] [val] []),.bool true])/\WorkOwn w' w.heap.size v' (putK k true [key] [val] [])/\Below w.heap.size w w':=by
 have HT:=hide hT;have HD:=hide hd;obtain ⟨ap,cp,al,cl,au,cu,ag,cg,af,cf,rfl⟩:=zaV hd;obtain ⟨np,hnp⟩:∃n,n=k.ps.length:=⟨_,rfl⟩;obtain ⟨nl,hnl⟩:∃n,n=k.ls.length:=⟨_,rfl⟩;obtain ⟨nu,hnu⟩:∃n,n=k.us.length:=⟨_,rfl⟩;obtain ⟨ng,hng⟩:∃n,n=k.gs.length:=⟨_,rfl⟩;obtain ⟨nf,hnf⟩:∃n,n=k.fs.length:=⟨_,rfl⟩;obtain ⟨nx,hnx⟩:∃n,n=k.next:=⟨_,rfl⟩;rw [<-hnp,<-hnl,<-hnu,<-hng,<-hnf,<-hnx] at HD⊢;obtain ⟨w0,hw0⟩:∃x,x=(w.alloc (Obj.cells #[.slice ap np cp,.slice al nl cl,.int .i64 nx,.slice au nu cu,.slice ag ng cg,.slice af nf cf] 34)).alloc (Obj.cells #[.slice none 0 0,.slice none 0 0,.int .i64 0,.slice none 0 0,.slice none 0 0,.slice none 0 0] 34):=⟨_,rfl⟩
 have hb0:Below w.heap.size w w0:=by rw [hw0];exact ((Below.refl w.heap.size w).alloc (Nat.le_refl _) _).alloc (by simp) _
 have q0:w0.heap[w.heap.size]?=some (.cells #[.slice ap np cp,.slice al nl cl,.int .i64 nx,.slice au nu cu,.slice ag ng cg,.slice af nf cf] 34 (0,0)):=by rw [hw0];simp only [zal,World.size_alloc];simp
 have q1:w0.heap[w.heap.size+1]?=some (.cells #[.slice none 0 0,.slice none 0 0,.int .i64 0,.slice none 0 0,.slice none 0 0,.slice none 0 0] 34 (0,0)):=by rw [hw0];simp only [zal,World.size_alloc];simp
 have HB0:=hide (⟨hb0,q0,q1⟩:_/\_/\_);clear hd hnp hnl hnu hng hnf hnx hb0 q0 q1
 have HPn:=hide (fun (wx:World) (nv:Value) (hb:Below w.heap.size w wx) (hn:NodeAt wx nv true [key] [val] [])=>zch _ k hk nv true [key] [val] [] (by simp) (by simp) (by simp) (fun s hs=>by rw [List.mem_singleton] at hs;rw [hs];omega) (fun s hs=>by rw [List.mem_singleton] at hs;rw [hs];omega) wx (zah HT.out hb) (zaf HD.out hb) hn)
 obtain ⟨pg,hpg⟩:∃p,p=putP k true [key] [val] []:=⟨_,rfl⟩;obtain ⟨kn,hkn⟩:∃p,p=putK k true [key] [val] []:=⟨_,rfl⟩;rw [<-hpg] at HPn hp⊢;rw [<-hkn] at HPn⊢
 have hl1:¬(24:Int)<(key.size:Int):=by omega
 have hl2:¬(24:Int)<(val.size:Int):=by omega
 obtain ⟨c0,c1,c2,c3,c4,c5⟩:=blk6c HB0.out.2.1;clear hpg hkn hT;go_enter Tryz.func25,Tryz.ntmps25;go_wp2_with fail;rw [<-hw0];obtain ⟨w1,hw1⟩:∃x,x=(w0.alloc (Obj.cells #[.string key] 9)).alloc (Obj.cells #[.string val] 9):=⟨_,rfl⟩
 have hx1:Below w0.heap.size w0 w1:=by rw [hw1];exact ((Below.refl w0.heap.size w0).alloc (Nat.le_refl _) _).alloc (by simp) _
 have hz0:w0.heap.size=w.heap.size+2:=by rw [hw0];simp
 have g1:w1.heap[w.heap.size+1+1]?=some (.cells #[.string key] 9 (0,0)):=by rw [hw1];simp only [zal,World.size_alloc,hz0];simp
 have g2:w1.heap[w.heap.size+1+1+1]?=some (.cells #[.string val] 9 (0,0)):=by rw [hw1];simp only [zal,World.size_alloc,hz0];simp
 rw [<-hw1];have HB1:Hid (Below w.heap.size w w1):=hide (HB0.out.1.trans (hx1.mono HB0.out.1.size));have HQ1:=hide (stays HB0.out.2.2 hx1);have HNd:Hid (NodeAt w1 (.agg #[.bool true,.slice (some ⟨w.heap.size+1+1,0,none⟩) 1 1,.slice (some ⟨w.heap.size+1+1+1,0,none⟩) 1 1,.slice none 0 0]) true [key] [val] []):=hide ⟨_,_,_,rfl,zkw g1,zkw g2,⟨rfl,none,0,rfl,Or.inl rfl⟩⟩;clear hw0 hw1 hx1 hz0 g1 g2 c0 c1 c2 c3 c4 c5;refine (HPn.out w1 _ HB1.out HNd.out).mono ?_;rintro e w2 ⟨v',rfl,how,hb2⟩;have HB2:Hid (Below w.heap.size w w2):=hide (HB1.out.trans (hb2.mono HB1.out.size));have hq2:=stays HQ1.out hb2;obtain ⟨a1,e1,a2,e2,a3,e3,a4,e4,a5,e5,rfl⟩:=zaX how;have HOw:=hide how
 have hx2:∀o,Below w2.heap.size w2 (w2.alloc o):=fun o=>(Below.refl _ _).alloc (Nat.le_refl _) o
 have hq3:=fun o=>stays hq2 (hx2 o)
 have r0:=fun o=>(za0 (hq3 o) 0).1
 have r1:=fun o=>(za0 (hq3 o) 1).1
 have r2:=fun o=>(za0 (hq3 o) 2).1
 have r3:=fun o=>(za0 (hq3 o) 3).1
 have r4:=fun o=>(za0 (hq3 o) 4).1
 have r5:=fun o=>(za0 (hq3 o) 5).1
 have y0:=fun o=>(za0 (hq3 o) 0).2
 have y1:=fun o=>(za0 (hq3 o) 1).2
 have y2:=fun o=>(za0 (hq3 o) 2).2
 have y3:=fun o=>(za0 (hq3 o) 3).2
 have y4:=fun o=>(za0 (hq3 o) 4).2
 have y5:=fun o=>(za0 (hq3 o) 5).2
 have HQ3:=hide hq3;have HX2:=hide hx2
 have hpb:(pg ==0)=false:=by simpa using hp
 clear how hb2 hq2 hq3 hx2 HPn;go_wp2_with fail;have hA:=HX2.out (Obj.cells #[.slice a1 kn.ps.length e1,.slice a2 kn.ls.length e2,.int .i64 kn.next,.slice a3 kn.us.length e3,.slice a4 kn.gs.length e4,.slice a5 kn.fs.length e5] 34);have hr:=HQ3.out (Obj.cells #[.slice a1 kn.ps.length e1,.slice a2 kn.ls.length e2,.int .i64 kn.next,.slice a3 kn.us.length e3,.slice a4 kn.gs.length e4,.slice a5 kn.fs.length e5] 34);have f1:=zb4 (u0:= .slice a1 kn.ps.length e1) (u1:= .slice a2 kn.ls.length e2) (u2:= .int .i64 kn.next) (u3:= .slice a3 kn.us.length e3) (u4:= .slice a4 kn.gs.length e4) (u5:= .slice a5 kn.fs.length e5) hr;have hk6:=zaw (w2.alloc (Obj.cells #[.slice a1 kn.ps.length e1,.slice a2 kn.ls.length e2,.int .i64 kn.next,.slice a3 kn.us.length e3,.slice a4 kn.gs.length e4,.slice a5 kn.fs.length e5] 34)) (w.heap.size+1) (.slice a1 kn.ps.length e1) (.slice a2 kn.ls.length e2) (.int .i64 kn.next) (.slice a3 kn.us.length e3) (.slice a4 kn.gs.length e4) (.slice a5 kn.fs.length e5);obtain ⟨q0,q1,q2,q3,q4,q5⟩:=blk6c f1
 have hpn:(pg !=0)=true:=by simpa using hp
 have hz1:=(Array.getElem?_eq_some_iff.1 HQ1.out).1
 refine bodyPost_ret (v:= .tuple #[.agg #[.slice a1 kn.ps.length e1,.slice a2 kn.ls.length e2,.int .i64 kn.next,.slice a3 kn.us.length e3,.slice a4 kn.gs.length e4,.slice a5 kn.fs.length e5],.int .i64 pg,.bool (pg !=0)]) (by simp [results,Tryz.results25,go_sem,q0,q1,q2,q3,q4,q5]) rfl ⟨_,by rw [hpn],zb1 (zaz (zaC HOw.out hA) hk6 (fun j hj e=>by have:=zam HOw.out j hj;omega)) HB1.out.size,(HB2.out.trans (hA.mono HB2.out.size)).trans (zae hk6 (Nat.le_trans HB2.out.size hA.size) (fun j e=>by omega))⟩
theorem zjI (v:Value) (k:Wk) (hj:JOk k) (hsm:k.sm 62000) (root:Int) (h0:root≠0) (key val:ByteArray) (hkey:key.size<=24) (hval:val.size<=24) (ws:List WLvl) (hws:wayS (fun q=>rdN (readD k.ps k.ls q)) key 8 root=some ws) (R:Wk×List ByteArray×List Int×Bool) (hR:R=upS key val ws k) (ho:R.2.2.2=true) (hp:R.2.2.1.length≠1->putP R.1 false R.2.1 [] R.2.2.1≠0) (k3:Wk) (r3:Int) (hk3:k3=if R.2.2.1.length=1 then R.1 else putK R.1 false R.2.1 [] R.2.2.1) (hr3:r3=if R.2.2.1.length=1 then R.2.2.1.getD 0 0 else putP R.1 false R.2.1 [] R.2.2.1) (hsh:Sh (fun q=>rdN (readD k3.ps k3.ls q)) 8 r3) (w:World) (hT:SumTab w) (hd:WorkAt w v k):
  Calls Tryz.prog 25 #[v,.int .i64 root,.string key,.string val] w fun e w'=>∃v',e= .returned (.tuple #[v',.int .i64 r3,.bool true])/\WorkOwn w' w.heap.size v' k3/\Below w.heap.size w w':=by
 have HT:=hide hT;have HD:=hide hd;obtain ⟨ap,cp,al,cl,au,cu,ag,cg,af,cf,rfl⟩:=zaV hd;obtain ⟨np,hnp⟩:∃n,n=k.ps.length:=⟨_,rfl⟩;obtain ⟨nl,hnl⟩:∃n,n=k.ls.length:=⟨_,rfl⟩;obtain ⟨nu,hnu⟩:∃n,n=k.us.length:=⟨_,rfl⟩;obtain ⟨ng,hng⟩:∃n,n=k.gs.length:=⟨_,rfl⟩;obtain ⟨nf,hnf⟩:∃n,n=k.fs.length:=⟨_,rfl⟩;obtain ⟨nx,hnx⟩:∃n,n=k.next:=⟨_,rfl⟩;rw [<-hnp,<-hnl,<-hnu,<-hng,<-hnf,<-hnx] at HD⊢;obtain ⟨w0,hw0⟩:∃x,x=(w.alloc (Obj.cells #[.slice ap np cp,.slice al nl cl,.int .i64 nx,.slice au nu cu,.slice ag ng cg,.slice af nf cf] 34)).alloc (Obj.cells #[.slice none 0 0,.slice none 0 0,.int .i64 0,.slice none 0 0,.slice none 0 0,.slice none 0 0] 34):=⟨_,rfl⟩
 have hb0:Below w.heap.size w w0:=by rw [hw0];exact ((Below.refl w.heap.size w).alloc (Nat.le_refl _) _).alloc (by simp) _
 have q0:w0.heap[w.heap.size]?=some (.cells #[.slice ap np cp,.slice al nl cl,.int .i64 nx,.slice au nu cu,.slice ag ng cg,.slice af nf cf] 34 (0,0)):=by rw [hw0];simp only [zal,World.size_alloc];simp
 have q1:w0.heap[w.heap.size+1]?=some (.cells #[.slice none 0 0,.slice none 0 0,.int .i64 0,.slice none 0 0,.slice none 0 0,.slice none 0 0] 34 (0,0)):=by rw [hw0];simp only [zal,World.size_alloc];simp
 have HB0:=hide (⟨hb0,q0,q1⟩:_/\_/\_);clear hd hnp hnl hnu hng hnf hnx hb0 q0 q1;have hl8:ws.length<=8:=zkx hws;have hgood:=ziX (zl5 k.ps k.ls) hws
 obtain ⟨u1,u2,u3,u4,u5⟩:=zgr key val ws 61000 (zaD hsm (by omega))
 rw [<-hR] at u1 u2 u3 u4 u5;have hks:=zbW hsm
 have hk3s:k3.small:=by
  rw [hk3]
  split
  ·exact zbW u4
  ·exact zbW (zii (m:=60999) u4 _ _ _ _)
 have HWd:=hide (fun (vd:Value) (wx:World) (hb:Below w.heap.size w wx) (h:DiskAt wx vd k.ps k.ls)=>zju vd k.ps k.ls hks.1 hks.2.2.1 hks.2.1 hks.2.2.2.1 root key ws hws wx (zah HT.out hb) h)
 have HPw:=hide (fun (u:Value) (Bu:Nat) (wx:World) (hb:Below w.heap.size w wx) (hu:WayOwn wx Bu u ws) (hBu:Bu<=wx.heap.size)=>zld _ k hj (zaD hsm (by omega)) u ws hgood hl8 key val hkey hval Bu wx (zah HT.out hb) (zaf HD.out hb) hu hBu (by rw [<-hR];exact ho))
 rw [<-hR] at HPw
 have HPt:=hide (fun (v2 vh:Value) (l:List (ByteArray×Int)) (wx:World) (hb:Below w.heap.size w wx) (hd2:WorkOwn wx (w.heap.size+2) v2 R.1) (hz:w.heap.size+2<=wx.heap.size) (hh:RowAt wx 2 vh l.length (hvs l)) (e1:l.map (·.1)=R.2.1) (e2:l.map (·.2)=R.2.2.1)=>zle v2 R.1 (zbW u4) vh l (by rw [<-List.length_map (f:=(·.1)),e1];have:=u3 ho;omega) (by rw [<-List.length_map (f:=(·.1)),e1];omega) (fun x hx=>by have:=u5 x.1 (by rw [<-e1];exact List.mem_map_of_mem hx);omega) (fun h=>by rw [e1,e2];exact hp (by rw [<-e2,List.length_map];exact h)) (w.heap.size+2) wx hz (zah HT.out hb) hd2 hh)
 have HTop:Hid (∀l:List (ByteArray×Int),l.map (·.1)=R.2.1->l.map (·.2)=R.2.2.1->topP R.1 l=r3/\topK R.1 l=k3):=hide (fun l e1 e2=>by
  have hl:l.length=R.2.2.1.length:=by rw [<-e2,List.length_map]
  unfold topP topK;rw [hr3,hk3,hl,e1,e2]
  exact ⟨rfl,rfl⟩)
 have HDe:=hide (fun (vd:Value) (wx:World) (hb:Below w.heap.size w wx) (h:DiskAt wx vd k3.ps k3.ls)=>zjG vd k3.ps k3.ls hk3s.1 hk3s.2.2.1 hk3s.2.1 hk3s.2.2.2.1 r3 hsh wx (zah HT.out hb) h)
 have hl1:¬(24:Int)<(key.size:Int):=by omega
 have hl2:¬(24:Int)<(val.size:Int):=by omega
 have hrb:(root ==0)=false:=by simpa using h0
 obtain ⟨c0,c1,c2,c3,c4,c5⟩:=blk6c HB0.out.2.1;clear hT hj hsm hws hR ho hp hk3 hr3 hsh hl8 hgood u1 u2 u3 u4 u5 hks hk3s hkey hval h0;go_enter Tryz.func25,Tryz.ntmps25;go_wp2_with fail;rw [<-hw0];clear hw0 c0 c1 c2 c3 c4 c5;refine (HWd.out _ w0 HB0.out.1 (zhT (zaf HD.out HB0.out.1))).mono ?_;rintro e w1 ⟨u,rfl,hwo,hb1⟩;have HB1:Hid (Below w.heap.size w w1):=hide (HB0.out.1.trans (hb1.mono HB0.out.1.size));have HQ1:=hide (⟨stays HB0.out.2.1 hb1,stays HB0.out.2.2 hb1⟩:_/\_);have HPw1:=hide (HPw.out u _ w1 HB1.out hwo hb1.size);obtain ⟨c0,c1,c2,c3,c4,c5⟩:=blk6c HQ1.out.1;clear hwo hb1 HWd HPw;go_wp2_with fail;refine HPw1.out.mono ?_;rintro e w2 ⟨v2,vh,l,rfl,hnw,hvh,e1,e2,hb2⟩;have HB2:Hid (Below w.heap.size w w2):=hide (HB1.out.trans (hb2.mono HB1.out.size));have HQ2:=hide (stays HQ1.out.2 hb2);obtain ⟨a1,d1,a2,d2,a3,d3,a4,d4,a5,d5,rfl⟩:=zb7 hnw
 have hx2:∀o,Below w2.heap.size w2 (w2.alloc o):=fun o=>(Below.refl _ _).alloc (Nat.le_refl _) o
 obtain ⟨g,hg⟩:∃g,g=w2.heap.size:=⟨_,rfl⟩;obtain ⟨w3,hw3⟩:∃x,x=w2.alloc (Obj.cells #[.slice a1 R.1.ps.length d1,.slice a2 R.1.ls.length d2,.int .i64 R.1.next,.slice a3 R.1.us.length d3,.slice a4 R.1.gs.length d4,.slice a5 R.1.fs.length d5] 34):=⟨_,rfl⟩
 have hb3:Below w2.heap.size w2 w3:=by rw [hw3];exact (Below.refl _ _).alloc (Nat.le_refl _) _
 have hg3:w3.heap[g]?=some (.cells #[.slice a1 R.1.ps.length d1,.slice a2 R.1.ls.length d2,.int .i64 R.1.next,.slice a3 R.1.us.length d3,.slice a4 R.1.gs.length d4,.slice a5 R.1.fs.length d5] 34 (0,0)):=by rw [hw3,hg];exact heap_alloc_new w2 _
 have HB3:Hid (Below w.heap.size w w3):=hide (HB2.out.trans (hb3.mono HB2.out.size));have HQ3:=hide (⟨stays HQ2.out hb3,hg3⟩:_/\_)
 have HPt3:=hide (HPt.out _ vh l w3 HB3.out (zb1 (zaC (zbN hnw) hb3) (by have h1:=(Array.getElem?_eq_some_iff.1 HQ1.out.2).1;omega)) (by have h1:=(Array.getElem?_eq_some_iff.1 (stays HQ2.out hb3)).1;omega) (za1 (zac hvh) hb3) e1 e2)
 rw [(HTop.out l e1 e2).1,(HTop.out l e1 e2).2] at HPt3
 have HGz:Hid (w.heap.size+2<=g):=hide (by have h1:=(Array.getElem?_eq_some_iff.1 HQ2.out).1;omega)
 have HG:=hide hg;have HV2:=hide (zbN hnw);clear hnw hvh e1 e2 hb2 hb3 hg3 hg hx2 HPw1 HPt HTop c0 c1 c2 c3 c4 c5;go_wp2_with fail;rw [<-hw3,<-HG.out];clear hw3;refine HPt3.out.mono ?_;rintro e w4 ⟨v4,rfl,hw4,hbk,hb4⟩;have HB4:Hid (Below w.heap.size w w4):=hide (HB3.out.trans (hb4.mono HB3.out.size));have HQ4:=hide (⟨stays HQ3.out.1 hb4,stays HQ3.out.2 hb4⟩:_/\_);obtain ⟨b1,f1,b2,f2,b3,f3,b4,f4,b5,f5,rfl⟩:=zaX hw4;obtain ⟨t0,t1,t2,t3,t4,t5⟩:=blk6c (HQ4.out.2);have y0:=(za0 (HQ4.out.2) 0).2;have y1:=(za0 (HQ4.out.2) 1).2;have y2:=(za0 (HQ4.out.2) 2).2;have y3:=(za0 (HQ4.out.2) 3).2;have y4:=(za0 (HQ4.out.2) 4).2;have y5:=(za0 (HQ4.out.2) 5).2;obtain ⟨w5,hw5⟩:∃x,x=(set6 w4 g (.slice b1 k3.ps.length f1) (.slice b2 k3.ls.length f2) (.int .i64 k3.next) (.slice b3 k3.us.length f3) (.slice b4 k3.gs.length f4) (.slice b5 k3.fs.length f5)).drew:=⟨_,rfl⟩
 have hk5:Kept w4 w5 (fun k=>k=g):=by rw [hw5];exact kept_trans (zaw w4 g _ _ _ _ _ _) (zcH (Below.refl _ _).drew (fun _=>False)) (fun _ _ h=>h.elim)
 have HB5:Hid (Below w.heap.size w w5):=hide (HB4.out.trans (zae hk5 HB4.out.size (fun j e=>by have:=HGz.out;omega)))
 have HQ5:Hid (w5.heap[w.heap.size+1]?=some (.cells #[.slice none 0 0,.slice none 0 0,.int .i64 0,.slice none 0 0,.slice none 0 0,.slice none 0 0] 34 (0,0))):=hide ((hk5.2.2.2.2 _ (Array.getElem?_eq_some_iff.1 HQ4.out.1).1 (fun e=>by have:=HGz.out;omega)).trans HQ4.out.1)
 have HG5:Hid (w5.heap[g]?=some (.cells #[.slice b1 k3.ps.length f1,.slice b2 k3.ls.length f2,.int .i64 k3.next,.slice b3 k3.us.length f3,.slice b4 k3.gs.length f4,.slice b5 k3.fs.length f5] 34 (0,0))):=hide (by
  rw [hw5,show ∀X:World,X.drew.heap=X.heap from fun _=>rfl]
  exact zb4 HQ4.out.2)
 have HW5:=hide (zaz hw4 hk5 (fun j hj e=>by
  have h1:=HG.out
  rcases hbk j hj with h2 | h2
  ·have:=(zam HV2.out j h2).2;omega
  ·have:=(Array.getElem?_eq_some_iff.1 HQ3.out.2).1;omega))
 have HDe5:=hide (HDe.out (.agg #[.slice b1 k3.ps.length f1,.slice b2 k3.ls.length f2]) w5 HB5.out (zhT (zaF HW5.out)))
 have HSw:Hid (∀wx:World,wx.heap[g]?=some (.cells #[.slice b1 k3.ps.length f1,.slice b2 k3.ls.length f2,.int .i64 k3.next,.slice b3 k3.us.length f3,.slice b4 k3.gs.length f4,.slice b5 k3.fs.length f5] 34 (0,0))->wx.rangeAt g 0 (#[Value.slice b1 k3.ps.length f1,.slice b2 k3.ls.length f2,.int .i64 k3.next,.slice b3 k3.us.length f3,.slice b4 k3.gs.length f4,.slice b5 k3.fs.length f5]:Array Value).toList/\wx.rangeAt g 0 (#[Value.slice b1 k3.ps.length f1,.slice b2 k3.ls.length f2]:Array Value).toList):=hide (fun wx h=>⟨zb0 h,znq h 0 2⟩)
 clear hw4 hb4 hbk HPt3 hk5 HDe;go_wp2_with fail;refine zjF ?_
 refine zcV (S:=fun wx=>wx.rangeAt g 0 (#[Value.slice b1 k3.ps.length f1,.slice b2 k3.ls.length f2,.int .i64 k3.next,.slice b3 k3.us.length f3,.slice b4 k3.gs.length f4,.slice b5 k3.fs.length f5]:Array Value).toList/\wx.rangeAt g 0 (#[Value.slice b1 k3.ps.length f1,.slice b2 k3.ls.length f2]:Array Value).toList) [] (by kernel_rfl) ?_
 rw [set6] at hw5;rw [<-hw5];clear hw5 t0 t1 t2 t3 t4 t5 y0 y1 y2 y3 y4 y5;have hHeld:=HSw.out w5 HG5.out
 refine zaj 0 73 (.agg #[.slice b1 k3.ps.length f1,.slice b2 k3.ls.length f2,.int .i64 k3.next,.slice b3 k3.us.length f3,.slice b4 k3.gs.length f4,.slice b5 k3.fs.length f5]) rfl rfl (by kernel_rfl) (by kernel_rfl) (by kernel_rfl) (by kernel_rfl) (fun _ _ _ h=>h) (zbo (by rfl) 34 (.tmp 15) rfl g 0 rfl #[.slice b1 k3.ps.length f1,.slice b2 k3.ls.length f2,.int .i64 k3.next,.slice b3 k3.us.length f3,.slice b4 k3.gs.length f4,.slice b5 k3.fs.length f5] _ (fun _ h=>h.1) Tryz.underlying34 rfl (by kernel_rfl)) hHeld ?_
 simp only [yA,yB,yC]
 refine zaj 1 74 ?_ rfl rfl (by kernel_rfl) (by kernel_rfl) (by kernel_rfl) (by kernel_rfl) (fun _ _ _ h=>h) (Or.inl ⟨by rfl,?_⟩) hHeld ?_
 rotate_left
 ·(intro wx hSw;(try dsimp only at hSw);go_simp;try with_reducible rfl)
 simp only [yA,yB,yC]
 refine zaj 2 75 ?_ rfl rfl (by kernel_rfl) (by kernel_rfl) (by kernel_rfl) (by kernel_rfl) (fun _ _ _ h=>h) (Or.inl ⟨by rfl,?_⟩) hHeld ?_
 rotate_left
 ·(intro wx hSw;(try dsimp only at hSw);go_simp;try with_reducible rfl)
 simp only [yA,yB,yC]
 refine zaj 3 76 ?_ rfl rfl (by kernel_rfl) (by kernel_rfl) (by kernel_rfl) (by kernel_rfl) (fun _ _ _ h=>h) (Or.inl ⟨by rfl,?_⟩) hHeld ?_
 rotate_left
 ·(intro wx hSw;(try dsimp only at hSw);go_simp;try with_reducible rfl)
 simp only [yA,yB,yC]
 refine zaj 4 77 ?_ rfl rfl (by kernel_rfl) (by kernel_rfl) (by kernel_rfl) (by kernel_rfl) (fun _ _ _ h=>h) (Or.inl ⟨by rfl,?_⟩) hHeld ?_
 rotate_left
 ·(intro wx hSw;(try dsimp only at hSw);go_simp;try with_reducible rfl)
 simp only [yA,yB,yC]
 refine zaj 5 78 (.agg #[.slice b1 k3.ps.length f1,.slice b2 k3.ls.length f2]) rfl rfl (by kernel_rfl) (by kernel_rfl) (by kernel_rfl) (by kernel_rfl) (fun _ _ _ h=>h) (zbo (by rfl) 29 (.tmp 77) rfl g 0 rfl #[.slice b1 k3.ps.length f1,.slice b2 k3.ls.length f2] _ (fun _ h=>h.2) Tryz.underlying29 rfl (by kernel_rfl)) hHeld ?_
 simp only [yA,yB,yC]
 refine zaj 6 79 ?_ rfl rfl (by kernel_rfl) (by kernel_rfl) (by kernel_rfl) (by kernel_rfl) (fun _ _ _ h=>h) (Or.inl ⟨by rfl,?_⟩) hHeld ?_
 rotate_left
 ·(intro wx hSw;(try dsimp only at hSw);go_simp;try with_reducible rfl)
 simp only [yA,yB,yC]
 refine zau (i:=7) (by kernel_rfl) rfl ?_
 intro K hK;refine zjH w5 ?_ 41 Tryz.f41 Tryz.func41 ?_ ?_ (.tmp 78) (.tmp 79) #[29,3] ?_ (.agg #[.slice b1 k3.ps.length f1,.slice b2 k3.ls.length f2]) (.int .i64 r3) ?_ ?_ _ HDe5.out ?_
 ·exact rfl
 ·decide
 ·exact Option.some_ne_none _
 ·exact rfl
 ·exact rfl
 ·exact rfl
 rintro e w6 ⟨rfl,hb6⟩;refine ⟨_,rfl,?_⟩;have hg6:=stays HG5.out hb6;have hq6:=stays HQ5.out hb6;refine hK.out (Act.put _ (some 80) _) _ (Or.inr (HSw.out _ hg6)) ?_;clear hK K
 simp only [Act.put,yA,yB,yC]
 have hHe:=HSw.out _ hg6
 refine zaj 8 81 ?_ rfl rfl (by kernel_rfl) (by kernel_rfl) (by kernel_rfl) (by kernel_rfl) (fun _ _ _ h=>h) (Or.inl ⟨by rfl,?_⟩) hHe ?_
 rotate_left
 ·(intro wx hSw;(try dsimp only at hSw);go_simp;try with_reducible rfl)
 simp only [yA,yB,yC]
 refine zaj 9 82 ?_ rfl rfl (by kernel_rfl) (by kernel_rfl) (by kernel_rfl) (by kernel_rfl) (fun _ _ _ h=>h) (Or.inl ⟨by rfl,?_⟩) hHe ?_
 rotate_left
 ·(intro wx hSw;(try dsimp only at hSw);go_simp;try with_reducible rfl)
 simp only [yA,yB,yC]
 obtain ⟨t0,t1,t2,t3,t4,t5⟩:=blk6c (hq6);have y0:=(za0 (hq6) 0).2;have y1:=(za0 (hq6) 1).2;have y2:=(za0 (hq6) 2).2;have y3:=(za0 (hq6) 3).2;have y4:=(za0 (hq6) 4).2;have y5:=(za0 (hq6) 5).2;have hk6:=zaw w6 (w.heap.size+1) (.slice b1 k3.ps.length f1) (.slice b2 k3.ls.length f2) (.int .i64 k3.next) (.slice b3 k3.us.length f3) (.slice b4 k3.gs.length f4) (.slice b5 k3.fs.length f5)
 have hSs:=HSw.out _ ((hk6.2.2.2.2 g (Array.getElem?_eq_some_iff.1 hg6).1 (by have:=HGz.out;omega)).trans hg6)
 have HK6:=hide (⟨hk6,hq6,hb6⟩:_/\_/\_);clear hk6 hq6 hg6 hb6
 refine zau (i:=10) (by kernel_rfl) rfl ?_
 intro K hK
 go_simp
 refine hK.out _ _ (Or.inr hSs) ?_;clear hK K
 refine zau (i:=11) (by kernel_rfl) rfl ?_
 intro K hK
 go_simp
 refine hK.out _ _ (Or.inr hSs) ?_;clear hK K
 refine zau (i:=12) (by kernel_rfl) rfl ?_
 intro K hK
 go_simp
 refine hK.out _ _ (Or.inr hSs) ?_;clear hK K
 refine zgs (by kernel_rfl) ?_ _
 dsimp only [onlyN];clear t0 t1 t2 t3 t4 t5 y0 y1 y2 y3 y4 y5 hSs hHe hHeld;go_wp2_with fail;obtain ⟨hk6,hq6,hb6⟩:=HK6.out;have fz:=zb4 (u0:= .slice b1 k3.ps.length f1) (u1:= .slice b2 k3.ls.length f2) (u2:= .int .i64 k3.next) (u3:= .slice b3 k3.us.length f3) (u4:= .slice b4 k3.gs.length f4) (u5:= .slice b5 k3.fs.length f5) hq6;obtain ⟨q0,q1,q2,q3,q4,q5⟩:=blk6c fz;have hB6:Below w.heap.size w w6:=HB5.out.trans (hb6.mono HB5.out.size)
 refine bodyPost_ret (v:= .tuple #[.agg #[.slice b1 k3.ps.length f1,.slice b2 k3.ls.length f2,.int .i64 k3.next,.slice b3 k3.us.length f3,.slice b4 k3.gs.length f4,.slice b5 k3.fs.length f5],.int .i64 r3,.bool true]) (by simp [results,Tryz.results25,go_sem,q0,q1,q2,q3,q4,q5]) rfl ⟨_,rfl,?_,hB6.trans (zae hk6 hB6.size (fun j e=>by omega))⟩
 exact zb1 (zaz (zaC HW5.out hb6) hk6 (fun j hj e=>by have:=zam HW5.out j hj;omega)) (by omega)
end Go.Proofs.YtcbogiebfbbmbaaGreatDoor
