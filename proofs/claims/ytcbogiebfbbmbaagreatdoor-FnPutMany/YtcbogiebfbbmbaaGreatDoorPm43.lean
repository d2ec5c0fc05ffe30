/-
  Facts and contracts that the law's own text rests on, by their texts' names: PutWayI.
-/
import Derived.Test.YtcbogiebfbbmbaaGreatDoorPm42
import Derived.Test.YtcbogiebfbbmbaaGreatDoorPm39
import Derived.Test.YtcbogiebfbbmbaaGreatDoorPm24
set_option maxHeartbeats 16000000
set_option maxRecDepth 100000
namespace Go.Proofs.YtcbogiebfbbmbaaGreatDoor
open Go.RowKit
theorem zkv {wx:World} {b n c:Nat} {l:List LvV} (h:RowAt wx 6 (.slice (some ⟨b,0,none⟩) n c) n (wlvs l)) (hn:n=l.length) {i:Nat} {e:LvV} (he:l[i]?=some e):wx.rangeAt b (i * 6) (lv6 e):=fun j v hv=>by
 have hi:=(List.getElem?_eq_some_iff.1 he).1
 have hj:j<6:=by have:=(List.getElem?_eq_some_iff.1 hv).1;simpa [lv6] using this
 obtain ⟨hl,a,cap,e1,h0 | ⟨b',o',rfl,hlt,hc⟩⟩:=h
 ·omega
 ·injection e1 with e1
  injection e1 with e1
  injection e1 with e1 e2
  subst e1 e2
  have h1:=hc (i * 6+j) (by omega)
  rw [wlvs_at l i j e he hj,hv] at h1
  simpa using h1
def pwF (s:Nat) (v u vh:Value) (key val:ByteArray) (n:Int) (g:Nat) (at_:Value) (x17 x18 x19 x20 x21 x22 x23 x24 x25 x26 x27 x28 x29 x30 x31 x32 x33 x34 x35 x36:Value):Act:=
 ⟨#[v,u,.string key,.string val,.pointer (some ⟨s,0,none⟩),undef,undef,undef,.pointer (some ⟨s+1,0,none⟩),.slice none 0 0,.bool false,.int .i64 n,.pointer (some ⟨g,0,none⟩),vh,.bool true,at_,u,x17,x18,x19,x20,x21,x22,x23,x24,x25,x26,x27,x28,x29,x30,x31,x32,x33,x34,x35,x36,undef,undef,undef,undef,undef,undef,undef,undef,undef,undef,undef,undef,undef,undef,undef,undef,undef,undef,undef,undef,undef,undef,undef,undef,undef,undef,undef,undef,undef],[]⟩
structure PwSt (w:World) (key val:ByteArray) (ws:List WLvl) (k:Wk) (i g:Nat) (cs:Array Value) (vh:Value) (wx:World):Prop where
 g0:w.heap.size+2<=g
 gc:wx.heap[g]?=some (.cells cs 34 (0,0))
 wk:WorkNw wx (w.heap.size+2) (.agg cs) (upS key val (ws.drop i) k).1
 ap:∀j,workBlocks (.agg cs) j->j≠g
 hv:∃l:List (ByteArray×Int),wx.ownsRow (w.heap.size+2) 111 2 vh l.length (hvs l)/\l.map (·.1)=(upS key val (ws.drop i) k).2.1/\l.map (·.2)=(upS key val (ws.drop i) k).2.2.1
 rs:wx.heap[w.heap.size+1]?=some (.cells #[.slice none 0 0,.slice none 0 0,.int .i64 0,.slice none 0 0,.slice none 0 0,.slice none 0 0] 34 (0,0))
 bl:Below w.heap.size w wx
theorem zew {w W wx:World} {key val:ByteArray} {ws:List WLvl} {k:Wk} {i g:Nat} {u0 u1 u2 u3 u4 u5 r0 r1 r2 r3 r4 r5 vh:Value} {l:List (ByteArray×Int)} (h0:w.heap.size+2<=g) (hg:wx.heap[g]?=some (.cells #[r0,r1,r2,r3,r4,r5] 34 (0,0))) (hw:WorkNw wx W.heap.size (.agg #[u0,u1,u2,u3,u4,u5]) (upS key val (ws.drop i) k).1) (hap:∀j,workBlocks (.agg #[u0,u1,u2,u3,u4,u5]) j->j≠g) (hW:w.heap.size+2<=W.heap.size)
  (hv:wx.ownsRow W.heap.size 111 2 vh l.length (hvs l)) (h1:l.map (·.1)=(upS key val (ws.drop i) k).2.1) (h2:l.map (·.2)=(upS key val (ws.drop i) k).2.2.1) (hr:wx.heap[w.heap.size+1]?=some (.cells #[.slice none 0 0,.slice none 0 0,.int .i64 0,.slice none 0 0,.slice none 0 0,.slice none 0 0] 34 (0,0))) (hb:Below w.heap.size w wx):
  PwSt w key val ws k i g #[u0,u1,u2,u3,u4,u5] vh (set6 wx g u0 u1 u2 u3 u4 u5):=by
 have hk:=zaw wx g u0 u1 u2 u3 u4 u5
 refine ⟨h0,zb4 hg,zfF (zeD hw hk (fun j hj=>hap j hj)) hW,hap,⟨l,zaa (za7 hv hk (fun j e hn=> ?_)) hW,h1,h2⟩,(hk.2.2.2.2 _ (Array.getElem?_eq_some_iff.1 hr).1 (by omega)).trans hr,hb.trans (zae hk hb.size (fun j e=>by omega))⟩
 subst hn
 exact absurd (zcg (zcR hv e) ⟨_,_,hg⟩) (by decide)
theorem zjF {P:Program} {c:Code} {Q:Exit->Act->World->Prop} {a:Act} {w:World} (h:c.wp P (onlyN Q) a w):c.wp P Q a w:=
 wp_mono h (fun e a w h=>by
  cases e with
  | normal=>exact h
  | _=>exact h.elim)
theorem zmG {w0 X:World} (hb:Below w0.heap.size w0 X) (cs:Array Value) (T:TypeId):∃Y g,Y=X.alloc (Obj.cells cs T)/\g=X.heap.size/\Y.heap[g]?=some (.cells cs T (0,0))/\Below w0.heap.size w0 Y/\Below X.heap.size X Y:=
 ⟨_,_,rfl,rfl,heap_alloc_new X _,hb.alloc hb.size _,(Below.refl _ _).alloc (Nat.le_refl _) _⟩
theorem nw_lt {w:World} {B:Nat} {v:Value} {k:Wk} (h:WorkNw w B v k):∀j,workBlocks v j->B<=j/\j<w.heap.size:=zam (zbN h)
theorem znH {w w':World} {B:Nat} {v:Value} {lf:Bool} {ks vs:List ByteArray} {cs:List Int} (h:NdOwn w B v lf ks vs cs) (hb:Below w.heap.size w w'):NdOwn w' B v lf ks vs cs:=by
 obtain ⟨vk,vv,vc,e,h1,h2,h3⟩:=h;exact ⟨vk,vv,vc,e,za6 h1 hb,za6 h2 hb,za6 h3 hb⟩
theorem zld (v:Value) (k:Wk) (hj:JOk k) (hsm:k.sm 61000) (u:Value) (ws:List WLvl) (hg:WGood ws) (hl8:ws.length<=8) (key val:ByteArray) (hkey:key.size<=24) (hval:val.size<=24) (Bu:Nat) (w:World) (hT:SumTab w) (hd:WorkAt w v k) (hu:WayOwn w Bu u ws) (hBu:Bu<=w.heap.size) (ho:(upS key val ws k).2.2.2=true):
  Calls Tryz.prog 39 #[v,u,.string key,.string val] w fun e w'=>∃v' vh l,e= .returned (.tuple #[v',vh,.bool true])/\WorkNw w' w.heap.size v' (upS key val ws k).1/\w'.ownsRow w.heap.size 111 2 vh l.length (hvs l)/\l.map (·.1)=(upS key val ws k).2.1/\l.map (·.2)=(upS key val ws k).2.2.1/\Below w.heap.size w w':=by
 have HD:=hide hd;have HT:=hide hT;obtain ⟨ap,cp,al,cl,au,cu,ag,cg,af,cf,rfl⟩:=zaV hd;obtain ⟨l,hlw,hrow,hlv⟩:=hu
 obtain ⟨n,hn⟩:∃n,l.length=n+1:=by
  cases l with
  | nil=>rw [<-hlw] at hg;exact hg.elim
  | cons e l=>exact ⟨l.length,rfl⟩
 have hln:ws.length=n+1:=by rw [<-hlw,List.length_map,hn]
 rw [hn] at hrow
 obtain ⟨gu,cu',rfl⟩:=zcT hrow (by omega)
 obtain ⟨np,hnp⟩:∃n,n=k.ps.length:=⟨_,rfl⟩;obtain ⟨nl,hnl⟩:∃n,n=k.ls.length:=⟨_,rfl⟩;obtain ⟨nu,hnu⟩:∃n,n=k.us.length:=⟨_,rfl⟩;obtain ⟨ng,hng⟩:∃n,n=k.gs.length:=⟨_,rfl⟩;obtain ⟨nf,hnf⟩:∃n,n=k.fs.length:=⟨_,rfl⟩;obtain ⟨nx,hnx⟩:∃n,n=k.next:=⟨_,rfl⟩;rw [<-hnp,<-hnl,<-hnu,<-hng,<-hnf,<-hnx] at HD⊢;have HG:=hide hg
 have HO:=hide (fun i h=>up_all ho i h)
 have HJ:=hide (fun ws'=>zjD key val hj ws')
 have HSm:=hide (fun i=>zgr key val (ws.drop i) 60900 (zaD hsm (by rw [List.length_drop];omega)))
 have HL:=hide (⟨hlw,hn,hln,hl8⟩:_/\_/\_/\_)
 have HRow:=hide (fun wx (hb:Below w.heap.size w wx)=>za1 (zac hrow) hb)
 have HLv:=hide (fun e he wx (hb:Below w.heap.size w wx)=>(hlv e he).below hb)
 have HK:=hide (⟨hkey,hval,hj,hsm,hBu⟩:_/\_/\_/\_/\_)
 obtain ⟨ee,hee⟩:∃e,l[n]?=some e:=⟨l[n]'(by omega),List.getElem?_eq_getElem (by omega)⟩
 have HE:=hide hee;clear hd hT hg ho hj hsm hkey hval hlw hn hln hl8 hrow hlv hnp hnl hnu hng hnf hnx hee hBu;obtain ⟨w0,hw0⟩:∃x,x=(w.alloc (Obj.cells #[.slice ap np cp,.slice al nl cl,.int .i64 nx,.slice au nu cu,.slice ag ng cg,.slice af nf cf] 34)).alloc (Obj.cells #[.slice none 0 0,.slice none 0 0,.int .i64 0,.slice none 0 0,.slice none 0 0,.slice none 0 0] 34):=⟨_,rfl⟩
 have hb0:Below w.heap.size w w0:=by rw [hw0];exact ((Below.refl w.heap.size w).alloc (Nat.le_refl _) _).alloc (by simp) _
 have hz0:w0.heap.size=w.heap.size+2:=by rw [hw0];simp
 have q0:w0.heap[w.heap.size]?=some (.cells #[.slice ap np cp,.slice al nl cl,.int .i64 nx,.slice au nu cu,.slice ag ng cg,.slice af nf cf] 34 (0,0)):=by rw [hw0];simp only [zal,World.size_alloc];simp
 have q1:w0.heap[w.heap.size+1]?=some (.cells #[.slice none 0 0,.slice none 0 0,.int .i64 0,.slice none 0 0,.slice none 0 0,.slice none 0 0] 34 (0,0)):=by rw [hw0];simp only [zal,World.size_alloc];simp
 have HB0:=hide (⟨hb0,hz0,q0,q1⟩:_/\_/\_/\_);clear hb0 hz0 q0 q1;go_enter Tryz.func39,Tryz.ntmps39;go_wp2_with fail;rw [<-hw0];clear hw0;obtain ⟨⟨⟨p,nd,at_⟩,vk,vv,vc⟩,hee⟩:∃e,e=ee:=⟨_,rfl⟩;subst hee
 have hwn:wrap64 (n:Int)=(n:Int):=zas _ (by omega) (by have:=HL.out.2.2.1;have:=HL.out.2.2.2;omega)
 have hi0:n<n+1:=Nat.lt_succ_self n
 have hi1:(n:Int)<(n:Int)+1:=by omega
 have hwsn:ws[n]?=some (p,nd,at_):=by
  rw [<-HL.out.1,List.getElem?_map,HE.out]
  rfl
 obtain ⟨hnl,hwsn⟩:=List.getElem?_eq_some_iff.1 hwsn;have hgd:=zhQ hnl HG.out;have hul:=up_leaf (key:=key) (val:=val) (k:=k) HL.out.2.2.1;have hon:=HO.out n hnl;rw [hul] at hon;rw [hwsn] at hgd hul hon
 have hlf:nd.lf=true:=(hgd.2.2.resolve_left (fun h=>by have:=h.1;have:=HL.out.2.2.1;omega)).2.1
 have ha1: -1<=at_:=(hgd.2.2.resolve_left (fun h=>by have:=h.1;have:=HL.out.2.2.1;omega)).2.2
 have hwp:=znF hgd.1 hlf ha1 hgd.2.1 HK.out.1 HK.out.2.1;obtain ⟨n1,n2,n3,n4⟩:=zgl hgd.1
 have HPair:=hide (fun (wx:World) (hb:Below w0.heap.size w0 wx)=>ziF p at_ nd hlf ((zaY hgd.1).1 hlf).1 (by have:nd.ks.length<=4:=n4;omega) ha1 hgd.2.1 vk vv vc Bu key val wx (Nat.le_trans HK.out.2.2.2.2 (HB0.out.1.trans (hb.mono HB0.out.1.size)).size) (HLv.out _ (List.mem_of_getElem? HE.out) wx (HB0.out.1.trans (hb.mono HB0.out.1.size))))
 have HAnew:=hide (fun (wx:World) (nv:Value) (B:Nat) (hb:Below w0.heap.size w0 wx) (hnd:NdOwn wx B nv true (wpK nd at_ key) (wpV nd at_ key val) [])=>zgk _ k HK.out.2.2.1 (zaD HK.out.2.2.2.1 (by omega)) p nv B true (wpK nd at_ key) (wpV nd at_ key val) [] (fun _=>⟨hwp.1,rfl⟩) (fun e=>by cases e) hwp.2.1 hwp.2.2.1 hwp.2.2.2.1 hwp.2.2.2.2 wx (zah HT.out (HB0.out.1.trans (hb.mono HB0.out.1.size))) (zaf HD.out (HB0.out.1.trans (hb.mono HB0.out.1.size))) hnd (zem hon))
 have HSw:Hid (∀wx:World,Below w0.heap.size w0 wx->wx.rangeAt w.heap.size 0 (#[Value.slice ap np cp,.slice al nl cl,.int .i64 nx,.slice au nu cu,.slice ag ng cg,.slice af nf cf]:Array Value).toList/\wx.cell? ⟨gu,n * 6,none⟩=some (.int .i64 p)/\wx.rangeAt gu (n * 6) (#[Value.int .i64 p,.bool nd.lf,vk,vv,vc,.int .i64 at_]:Array Value).toList):=hide (fun wx hb=>by
  have hr:=zkv (HRow.out wx (HB0.out.1.trans (hb.mono HB0.out.1.size))) HL.out.2.1.symm HE.out
  exact ⟨zb0 (stays HB0.out.2.2.1 hb),hr 0 _ rfl,hr⟩)
 have HUl:=hide hul;have HLf:=hide hlf;have hWd0:Below w0.heap.size w0 w0.drew:=(Below.refl _ _).drew;clear hnl hwsn hgd hul hon ha1 hwp n1 n2 n3 n4 hlf;rw [hwn]
 refine wp_mono (Q:=onlyN (fun _ a wx=>∃(g:Nat) (cs:Array Value) (vh x17 x18 x19 x20 x21 x22 x23 x24 x25 x26 x27 x28 x29 x30 x31 x32 x33 x34 x35 x36:Value),PwSt w key val ws k n g cs vh wx/\a=pwF w.heap.size (.agg #[.slice ap np cp,.slice al nl cl,.int .i64 nx,.slice au nu cu,.slice ag ng cg,.slice af nf cf]) (.slice (some ⟨gu,0,none⟩) (n+1) cu') vh key val n g undef x17 x18 x19 x20 x21 x22 x23 x24 x25 x26 x27 x28 x29 x30 x31 x32 x33 x34 x35 x36)) ?region ?after
 case region=>
  refine zcV (S:=fun wx=>wx.rangeAt w.heap.size 0 (#[Value.slice ap np cp,.slice al nl cl,.int .i64 nx,.slice au nu cu,.slice ag ng cg,.slice af nf cf]:Array Value).toList/\wx.cell? ⟨gu,n * 6,none⟩=some (.int .i64 p)/\wx.rangeAt gu (n * 6) (#[Value.int .i64 p,.bool nd.lf,vk,vv,vc,.int .i64 at_]:Array Value).toList) [] (by kernel_rfl) ?_
  obtain ⟨wd,hwd⟩:∃wd,wd=w0.drew:=⟨_,rfl⟩;rw [<-hwd] at hWd0⊢;clear hwd;have hHeld:=HSw.out wd hWd0
  refine zaj 0 20 (.agg #[.slice ap np cp,.slice al nl cl,.int .i64 nx,.slice au nu cu,.slice ag ng cg,.slice af nf cf]) rfl rfl (by kernel_rfl) (by kernel_rfl) (by kernel_rfl) (by kernel_rfl) (fun _ _ _ h=>h) (zbo (by rfl) 34 (.tmp 4) rfl w.heap.size 0 rfl #[.slice ap np cp,.slice al nl cl,.int .i64 nx,.slice au nu cu,.slice ag ng cg,.slice af nf cf] _ (fun _ h=>h.1) Tryz.underlying34 rfl (by kernel_rfl)) hHeld ?_
  simp only [yA,yB,yC]
  refine zaj 1 21 ?_ rfl rfl (by kernel_rfl) (by kernel_rfl) (by kernel_rfl) (by kernel_rfl) (fun _ _ _ h=>h) (Or.inl ⟨by rfl,?_⟩) hHeld ?_
  rotate_left
  ·(intro wx hSw;(try dsimp only at hSw);go_simp;try with_reducible rfl)
  simp only [yA,yB,yC]
  refine zaj 2 22 ?_ rfl rfl (by kernel_rfl) (by kernel_rfl) (by kernel_rfl) (by kernel_rfl) (fun _ _ _ h=>h) (Or.inl ⟨by rfl,?_⟩) hHeld ?_
  rotate_left
  ·(intro wx hSw;(try dsimp only at hSw);go_simp;try with_reducible rfl)
  simp only [yA,yB,yC]
  refine zaj 3 23 ?_ rfl rfl (by kernel_rfl) (by kernel_rfl) (by kernel_rfl) (by kernel_rfl) (fun _ _ _ h=>h) (Or.inl ⟨by rfl,?_⟩) hHeld ?_
  rotate_left
  ·(intro wx hSw;(try dsimp only at hSw);go_simp;try with_reducible rfl)
  simp only [yA,yB,yC]
  refine zaj 4 24 ?_ rfl rfl (by kernel_rfl) (by kernel_rfl) (by kernel_rfl) (by kernel_rfl) (fun _ _ _ h=>h) (Or.inl ⟨by rfl,?_⟩) hHeld ?_
  rotate_left
  ·(intro wx hSw;(try dsimp only at hSw);go_simp;try with_reducible rfl)
  simp only [yA,yB,yC]
  refine zaj 5 25 ?_ rfl rfl (by kernel_rfl) (by kernel_rfl) (by kernel_rfl) (by kernel_rfl) (fun _ _ _ h=>h) (Or.inl ⟨by rfl,?_⟩) hHeld ?_
  rotate_left
  ·(intro wx hSw;(try dsimp only at hSw);go_simp;try with_reducible rfl)
  simp only [yA,yB,yC]
  refine zaj 6 26 ?_ rfl rfl (by kernel_rfl) (by kernel_rfl) (by kernel_rfl) (by kernel_rfl) (fun _ _ _ h=>h) (Or.inl ⟨by rfl,?_⟩) hHeld ?_
  rotate_left
  ·(intro wx hSw;(try dsimp only at hSw);go_simp;try with_reducible rfl)
  simp only [yA,yB,yC]
  refine zaj 7 27 ?_ rfl rfl (by kernel_rfl) (by kernel_rfl) (by kernel_rfl) (by kernel_rfl) (fun _ _ _ h=>h) (Or.inl ⟨by rfl,?_⟩) hHeld ?_
  rotate_left
  ·(intro wx hSw;(try dsimp only at hSw);go_simp;try with_reducible rfl)
  simp only [yA,yB,yC]
  refine zaj 8 28 ?_ rfl rfl (by kernel_rfl) (by kernel_rfl) (by kernel_rfl) (by kernel_rfl) (fun _ _ _ h=>h) (Or.inl ⟨by rfl,?_⟩) hHeld ?_
  rotate_left
  ·(intro wx hSw;(try dsimp only at hSw);go_simp;try with_reducible rfl)
  simp only [yA,yB,yC]
  refine zaj 9 29 (.agg #[.int .i64 p,.bool nd.lf,vk,vv,vc,.int .i64 at_]) rfl rfl (by kernel_rfl) (by kernel_rfl) (by kernel_rfl) (by kernel_rfl) (fun _ _ _ h=>h) (zbo (by rfl) 97 (.tmp 28) rfl gu (n * 6) rfl #[.int .i64 p,.bool nd.lf,vk,vv,vc,.int .i64 at_] _ (fun _ h=>h.2.2) Tryz.underlying97 rfl (by kernel_rfl)) hHeld ?_
  simp only [yA,yB,yC]
  refine zaj 10 30 ?_ rfl rfl (by kernel_rfl) (by kernel_rfl) (by kernel_rfl) (by kernel_rfl) (fun _ _ _ h=>h) (Or.inl ⟨by rfl,?_⟩) hHeld ?_
  rotate_left
  ·(intro wx hSw;(try dsimp only at hSw);go_simp;try with_reducible rfl)
  simp only [yA,yB,yC]
  refine zaj 11 31 ?_ rfl rfl (by kernel_rfl) (by kernel_rfl) (by kernel_rfl) (by kernel_rfl) (fun _ _ _ h=>h) (Or.inl ⟨by rfl,?_⟩) hHeld ?_
  rotate_left
  ·(intro wx hSw;(try dsimp only at hSw);go_simp;try with_reducible rfl)
  simp only [yA,yB,yC]
  refine zhS (i:=12) (i':=18) (by kernel_rfl) rfl rfl ?_ ?_
  ·-- the pair first
   intro K hK;refine zbD wd ?_ 59 Tryz.f59 Tryz.func59 ?_ ?_ (.tmp 29) (.tmp 30) (.tmp 31) #[97,9,9] ?_ (.agg #[.int .i64 p,.bool nd.lf,vk,vv,vc,.int .i64 at_]) (.string key) (.string val) ?_ ?_ ?_ _ (HPair.out wd hWd0) ?_
   ·exact rfl
   ·decide
   ·exact Option.some_ne_none _
   ·exact rfl
   ·exact rfl
   ·exact rfl
   ·exact rfl
   rintro e w1 ⟨nv,rfl,hnd,hw1⟩;refine ⟨_,rfl,?_⟩;have hbw1:Below w0.heap.size w0 w1:=hWd0.trans (hw1.mono hWd0.size);refine hK.out (Act.put _ (some 32) _) _ (Or.inr (HSw.out _ hbw1)) ?_;clear hK K
   simp only [Act.put,yA,yB,yC]
   refine zhS (i:=13) (i':=18) (by kernel_rfl) rfl rfl ?_ ?_
   ·-- then the node,the variable last
    intro K hK;refine zbD w1 ?_ 58 Tryz.f58 Tryz.func58 ?_ ?_ (.tmp 20) (.tmp 25) (.tmp 32) #[34,3,71] ?_ (.agg #[.slice ap np cp,.slice al nl cl,.int .i64 nx,.slice au nu cu,.slice ag ng cg,.slice af nf cf]) (.int .i64 p) nv ?_ ?_ ?_ _ (HAnew.out w1 nv _ hbw1 hnd) ?_
    ·exact rfl
    ·decide
    ·exact Option.some_ne_none _
    ·exact rfl
    ·exact rfl
    ·exact rfl
    ·exact rfl
    rintro e w2 ⟨v2,vh,lh,rfl,hnw,hvh,hl1,hl2,hw2⟩;refine ⟨_,rfl,?_⟩;have hbw2:Below w0.heap.size w0 w2:=hbw1.trans (hw2.mono hbw1.size);refine hK.out (Act.put _ (some 33) _) _ (Or.inr (HSw.out _ hbw2)) ?_;clear hK K
    simp only [Act.put,yA,yB,yC]
    have hHe:=HSw.out _ hbw2
    refine zaj 14 19 ?_ rfl rfl (by kernel_rfl) (by kernel_rfl) (by kernel_rfl) (by kernel_rfl) (fun _ _ _ h=>h) (Or.inl ⟨by rfl,?_⟩) hHe ?_
    rotate_left
    ·(intro wx hSw;(try dsimp only at hSw);go_simp;try with_reducible rfl)
    simp only [yA,yB,yC]
    refine zaj 15 34 ?_ rfl rfl (by kernel_rfl) (by kernel_rfl) (by kernel_rfl) (by kernel_rfl) (fun _ _ _ h=>h) (Or.inl ⟨by rfl,?_⟩) hHe ?_
    rotate_left
    ·(intro wx hSw;(try dsimp only at hSw);go_simp;try with_reducible rfl)
    simp only [yA,yB,yC]
    refine zaj 16 35 ?_ rfl rfl (by kernel_rfl) (by kernel_rfl) (by kernel_rfl) (by kernel_rfl) (fun _ _ _ h=>h) (Or.inl ⟨by rfl,?_⟩) hHe ?_
    rotate_left
    ·(intro wx hSw;(try dsimp only at hSw);go_simp;try with_reducible rfl)
    simp only [yA,yB,yC]
    refine zaj 17 36 ?_ rfl rfl (by kernel_rfl) (by kernel_rfl) (by kernel_rfl) (by kernel_rfl) (fun _ _ _ h=>h) (Or.inl ⟨by rfl,?_⟩) hHe ?_
    rotate_left
    ·(intro wx hSw;(try dsimp only at hSw);go_simp;try with_reducible rfl)
    simp only [yA,yB,yC]
    refine zau (i:=18) (by kernel_rfl) rfl ?_
    intro K hK
    go_simp
    refine hK.out _ _ (Or.inr (HSw.out _ (hbw2.alloc hbw2.size _))) ?_;clear hK K;obtain ⟨w3,g,hYw3,hGw3,hneww3,hbw3,hxw3⟩:=zmG hbw2 #[.slice none 0 0,.slice none 0 0,.int .i64 0,.slice none 0 0,.slice none 0 0,.slice none 0 0] 34;rw [<-hYw3,<-hGw3];have HG:=hide hGw3;clear hYw3 hGw3;have hnw0:=hnw;have hnw:=zjQ hnw hxw3;have hvh:=za6 hvh hxw3;obtain ⟨a1,d1,a2,d2,a3,d3,a4,d4,a5,d5,rfl⟩:=zb7 hnw;obtain ⟨c0,c1,c2,c3,c4,c5⟩:=blk6c hneww3;have z0:=(za0 hneww3 0).2;have z1:=(za0 hneww3 1).2;have z2:=(za0 hneww3 2).2;have z3:=(za0 hneww3 3).2;have z4:=(za0 hneww3 4).2;have z5:=(za0 hneww3 5).2
    have hgz:w0.heap.size<=g:=by have:=HB0.out.2.1;have:w.heap.size+2<=g:=(by have:=HB0.out.2.1;have:=hbw2.size;have:=HG.out;omega);omega
    have hSs:=HSw.out _ (hbw3.trans (zae (zaw w3 g (.slice a1 (finK p (halfS k true (wpK nd at_ key) (wpV nd at_ key val) [])).1.ps.length d1) (.slice a2 (finK p (halfS k true (wpK nd at_ key) (wpV nd at_ key val) [])).1.ls.length d2) (.int .i64 (finK p (halfS k true (wpK nd at_ key) (wpV nd at_ key val) [])).1.next) (.slice a3 (finK p (halfS k true (wpK nd at_ key) (wpV nd at_ key val) [])).1.us.length d3) (.slice a4 (finK p (halfS k true (wpK nd at_ key) (wpV nd at_ key val) [])).1.gs.length d4) (.slice a5 (finK p (halfS k true (wpK nd at_ key) (wpV nd at_ key val) [])).1.fs.length d5)) hbw3.size (fun j e=>by omega)))
    refine zau (i:=19) (by kernel_rfl) rfl ?_
    intro K hK
    go_simp
    refine hK.out _ _ (Or.inr hSs) ?_;clear hK K
    refine zau (i:=20) (by kernel_rfl) rfl ?_
    intro K hK
    go_simp
    refine hK.out _ _ (Or.inr hSs) ?_;clear hK K
    refine zau (i:=21) (by kernel_rfl) rfl ?_
    intro K hK
    go_simp
    refine hK.out _ _ (Or.inr hSs) ?_;clear hK K
    refine zgs (by kernel_rfl) ?_ _
    have hul:=HUl.out
    refine ⟨g,_,vh,_,_,_,_,_,_,_,_,_,_,_,_,_,_,_,_,_,_,_,_,zew (l:=lh) (by have:=HB0.out.2.1;have:=hbw2.size;have:=HG.out;omega) hneww3 (W:=w1) (by rw [hul];exact hnw) (fun j hj e=>by have:=nw_lt hnw0 j hj;have:=HG.out;omega) (by have:=HB0.out.2.1;have:=hbw1.size;omega) hvh (by rw [hul];exact hl1) (by rw [hul];exact hl2) (stays HB0.out.2.2.2 hbw3) (HB0.out.1.trans (hbw3.mono HB0.out.1.size)),rfl⟩
   ·-- then the variable,the node last
    intro K hK
    go_simp
    refine hK.out _ _ (Or.inr (HSw.out _ (hbw1.alloc hbw1.size _))) ?_;clear hK K;obtain ⟨w2,g,hYw2,hGw2,hneww2,hbw2,hxw2⟩:=zmG hbw1 #[.slice none 0 0,.slice none 0 0,.int .i64 0,.slice none 0 0,.slice none 0 0,.slice none 0 0] 34;rw [<-hYw2,<-hGw2];have HG:=hide hGw2;clear hYw2 hGw2
    refine zau (i:=13) (by kernel_rfl) rfl ?_
    intro K hK;refine zbD w2 ?_ 58 Tryz.f58 Tryz.func58 ?_ ?_ (.tmp 20) (.tmp 25) (.tmp 32) #[34,3,71] ?_ (.agg #[.slice ap np cp,.slice al nl cl,.int .i64 nx,.slice au nu cu,.slice ag ng cg,.slice af nf cf]) (.int .i64 p) nv ?_ ?_ ?_ _ (HAnew.out w2 nv _ hbw2 (znH hnd hxw2)) ?_
    ·exact rfl
    ·decide
    ·exact Option.some_ne_none _
    ·exact rfl
    ·exact rfl
    ·exact rfl
    ·exact rfl
    rintro e w3 ⟨v2,vh,lh,rfl,hnw,hvh,hl1,hl2,hw3⟩;refine ⟨_,rfl,?_⟩;have hbw3:Below w0.heap.size w0 w3:=hbw2.trans (hw3.mono hbw2.size);refine hK.out (Act.put _ (some 33) _) _ (Or.inr (HSw.out _ hbw3)) ?_;clear hK K
    simp only [Act.put,yA,yB,yC]
    have hHe:=HSw.out _ hbw3
    refine zaj 14 19 ?_ rfl rfl (by kernel_rfl) (by kernel_rfl) (by kernel_rfl) (by kernel_rfl) (fun _ _ _ h=>h) (Or.inl ⟨by rfl,?_⟩) hHe ?_
    rotate_left
    ·(intro wx hSw;(try dsimp only at hSw);go_simp;try with_reducible rfl)
    simp only [yA,yB,yC]
    refine zaj 15 34 ?_ rfl rfl (by kernel_rfl) (by kernel_rfl) (by kernel_rfl) (by kernel_rfl) (fun _ _ _ h=>h) (Or.inl ⟨by rfl,?_⟩) hHe ?_
    rotate_left
    ·(intro wx hSw;(try dsimp only at hSw);go_simp;try with_reducible rfl)
    simp only [yA,yB,yC]
    refine zaj 16 35 ?_ rfl rfl (by kernel_rfl) (by kernel_rfl) (by kernel_rfl) (by kernel_rfl) (fun _ _ _ h=>h) (Or.inl ⟨by rfl,?_⟩) hHe ?_
    rotate_left
    ·(intro wx hSw;(try dsimp only at hSw);go_simp;try with_reducible rfl)
    simp only [yA,yB,yC]
    refine zaj 17 36 ?_ rfl rfl (by kernel_rfl) (by kernel_rfl) (by kernel_rfl) (by kernel_rfl) (fun _ _ _ h=>h) (Or.inl ⟨by rfl,?_⟩) hHe ?_
    rotate_left
    ·(intro wx hSw;(try dsimp only at hSw);go_simp;try with_reducible rfl)
    simp only [yA,yB,yC]
    have hgc:=stays hneww2 hw3;obtain ⟨a1,d1,a2,d2,a3,d3,a4,d4,a5,d5,rfl⟩:=zb7 hnw;obtain ⟨c0,c1,c2,c3,c4,c5⟩:=blk6c hgc;have z0:=(za0 hgc 0).2;have z1:=(za0 hgc 1).2;have z2:=(za0 hgc 2).2;have z3:=(za0 hgc 3).2;have z4:=(za0 hgc 4).2;have z5:=(za0 hgc 5).2
    have hgz:w0.heap.size<=g:=by have:=HB0.out.2.1;have:w.heap.size+2<=g:=(by have:=HB0.out.2.1;have:=hbw1.size;have:=HG.out;omega);omega
    have hSs:=HSw.out _ (hbw3.trans (zae (zaw w3 g (.slice a1 (finK p (halfS k true (wpK nd at_ key) (wpV nd at_ key val) [])).1.ps.length d1) (.slice a2 (finK p (halfS k true (wpK nd at_ key) (wpV nd at_ key val) [])).1.ls.length d2) (.int .i64 (finK p (halfS k true (wpK nd at_ key) (wpV nd at_ key val) [])).1.next) (.slice a3 (finK p (halfS k true (wpK nd at_ key) (wpV nd at_ key val) [])).1.us.length d3) (.slice a4 (finK p (halfS k true (wpK nd at_ key) (wpV nd at_ key val) [])).1.gs.length d4) (.slice a5 (finK p (halfS k true (wpK nd at_ key) (wpV nd at_ key val) [])).1.fs.length d5)) hbw3.size (fun j e=>by omega)))
    refine zau (i:=19) (by kernel_rfl) rfl ?_
    intro K hK
    go_simp
    refine hK.out _ _ (Or.inr hSs) ?_;clear hK K
    refine zau (i:=20) (by kernel_rfl) rfl ?_
    intro K hK
    go_simp
    refine hK.out _ _ (Or.inr hSs) ?_;clear hK K
    refine zau (i:=21) (by kernel_rfl) rfl ?_
    intro K hK
    go_simp
    refine hK.out _ _ (Or.inr hSs) ?_;clear hK K
    refine zgs (by kernel_rfl) ?_ _
    have hul:=HUl.out
    refine ⟨g,_,vh,_,_,_,_,_,_,_,_,_,_,_,_,_,_,_,_,_,_,_,_,zew (l:=lh) (by have:=HB0.out.2.1;have:=hbw1.size;have:=HG.out;omega) hgc (W:=w2) (by rw [hul];exact hnw) (fun j hj e=>by have:=nw_lt hnw j hj;have:=(Array.getElem?_eq_some_iff.1 hneww2).1;omega) (by have:=HB0.out.2.1;have:=hbw2.size;omega) hvh (by rw [hul];exact hl1) (by rw [hul];exact hl2) (stays HB0.out.2.2.2 hbw3) (HB0.out.1.trans (hbw3.mono HB0.out.1.size)),rfl⟩
  ·-- the variable first
   intro K hK
   go_simp
   refine hK.out _ _ (Or.inr (HSw.out _ (hWd0.alloc hWd0.size _))) ?_;clear hK K;obtain ⟨w1,g,hYw1,hGw1,hneww1,hbw1,hxw1⟩:=zmG hWd0 #[.slice none 0 0,.slice none 0 0,.int .i64 0,.slice none 0 0,.slice none 0 0,.slice none 0 0] 34;rw [<-hYw1,<-hGw1];have HG:=hide hGw1;clear hYw1 hGw1
   refine zau (i:=12) (by kernel_rfl) rfl ?_
   intro K hK;refine zbD w1 ?_ 59 Tryz.f59 Tryz.func59 ?_ ?_ (.tmp 29) (.tmp 30) (.tmp 31) #[97,9,9] ?_ (.agg #[.int .i64 p,.bool nd.lf,vk,vv,vc,.int .i64 at_]) (.string key) (.string val) ?_ ?_ ?_ _ (HPair.out w1 hbw1) ?_
   ·exact rfl
   ·decide
   ·exact Option.some_ne_none _
   ·exact rfl
   ·exact rfl
   ·exact rfl
   ·exact rfl
   rintro e w2 ⟨nv,rfl,hnd,hw2⟩;refine ⟨_,rfl,?_⟩;have hbw2:Below w0.heap.size w0 w2:=hbw1.trans (hw2.mono hbw1.size);refine hK.out (Act.put _ (some 32) _) _ (Or.inr (HSw.out _ hbw2)) ?_;clear hK K
   simp only [Act.put,yA,yB,yC]
   refine zau (i:=13) (by kernel_rfl) rfl ?_
   intro K hK;refine zbD w2 ?_ 58 Tryz.f58 Tryz.func58 ?_ ?_ (.tmp 20) (.tmp 25) (.tmp 32) #[34,3,71] ?_ (.agg #[.slice ap np cp,.slice al nl cl,.int .i64 nx,.slice au nu cu,.slice ag ng cg,.slice af nf cf]) (.int .i64 p) nv ?_ ?_ ?_ _ (HAnew.out w2 nv _ hbw2 hnd) ?_
   ·exact rfl
   ·decide
   ·exact Option.some_ne_none _
   ·exact rfl
   ·exact rfl
   ·exact rfl
   ·exact rfl
   rintro e w3 ⟨v2,vh,lh,rfl,hnw,hvh,hl1,hl2,hw3⟩;refine ⟨_,rfl,?_⟩;have hbw3:Below w0.heap.size w0 w3:=hbw2.trans (hw3.mono hbw2.size);refine hK.out (Act.put _ (some 33) _) _ (Or.inr (HSw.out _ hbw3)) ?_;clear hK K
   simp only [Act.put,yA,yB,yC]
   have hHe:=HSw.out _ hbw3
   refine zaj 14 19 ?_ rfl rfl (by kernel_rfl) (by kernel_rfl) (by kernel_rfl) (by kernel_rfl) (fun _ _ _ h=>h) (Or.inl ⟨by rfl,?_⟩) hHe ?_
   rotate_left
   ·(intro wx hSw;(try dsimp only at hSw);go_simp;try with_reducible rfl)
   simp only [yA,yB,yC]
   refine zaj 15 34 ?_ rfl rfl (by kernel_rfl) (by kernel_rfl) (by kernel_rfl) (by kernel_rfl) (fun _ _ _ h=>h) (Or.inl ⟨by rfl,?_⟩) hHe ?_
   rotate_left
   ·(intro wx hSw;(try dsimp only at hSw);go_simp;try with_reducible rfl)
   simp only [yA,yB,yC]
   refine zaj 16 35 ?_ rfl rfl (by kernel_rfl) (by kernel_rfl) (by kernel_rfl) (by kernel_rfl) (fun _ _ _ h=>h) (Or.inl ⟨by rfl,?_⟩) hHe ?_
   rotate_left
   ·(intro wx hSw;(try dsimp only at hSw);go_simp;try with_reducible rfl)
   simp only [yA,yB,yC]
   refine zaj 17 36 ?_ rfl rfl (by kernel_rfl) (by kernel_rfl) (by kernel_rfl) (by kernel_rfl) (fun _ _ _ h=>h) (Or.inl ⟨by rfl,?_⟩) hHe ?_
   rotate_left
   ·(intro wx hSw;(try dsimp only at hSw);go_simp;try with_reducible rfl)
   simp only [yA,yB,yC]
   have hgc:=stays (stays hneww1 hw2) hw3;obtain ⟨a1,d1,a2,d2,a3,d3,a4,d4,a5,d5,rfl⟩:=zb7 hnw;obtain ⟨c0,c1,c2,c3,c4,c5⟩:=blk6c hgc;have z0:=(za0 hgc 0).2;have z1:=(za0 hgc 1).2;have z2:=(za0 hgc 2).2;have z3:=(za0 hgc 3).2;have z4:=(za0 hgc 4).2;have z5:=(za0 hgc 5).2
   have hgz:w0.heap.size<=g:=by have:=HB0.out.2.1;have:w.heap.size+2<=g:=(by have:=HB0.out.2.1;have:=hWd0.size;have:=HG.out;omega);omega
   have hSs:=HSw.out _ (hbw3.trans (zae (zaw w3 g (.slice a1 (finK p (halfS k true (wpK nd at_ key) (wpV nd at_ key val) [])).1.ps.length d1) (.slice a2 (finK p (halfS k true (wpK nd at_ key) (wpV nd at_ key val) [])).1.ls.length d2) (.int .i64 (finK p (halfS k true (wpK nd at_ key) (wpV nd at_ key val) [])).1.next) (.slice a3 (finK p (halfS k true (wpK nd at_ key) (wpV nd at_ key val) [])).1.us.length d3) (.slice a4 (finK p (halfS k true (wpK nd at_ key) (wpV nd at_ key val) [])).1.gs.length d4) (.slice a5 (finK p (halfS k true (wpK nd at_ key) (wpV nd at_ key val) [])).1.fs.length d5)) hbw3.size (fun j e=>by omega)))
   refine zau (i:=19) (by kernel_rfl) rfl ?_
   intro K hK
   go_simp
   refine hK.out _ _ (Or.inr hSs) ?_;clear hK K
   refine zau (i:=20) (by kernel_rfl) rfl ?_
   intro K hK
   go_simp
   refine hK.out _ _ (Or.inr hSs) ?_;clear hK K
   refine zau (i:=21) (by kernel_rfl) rfl ?_
   intro K hK
   go_simp
   refine hK.out _ _ (Or.inr hSs) ?_;clear hK K
   refine zgs (by kernel_rfl) ?_ _
   have hul:=HUl.out
   refine ⟨g,_,vh,_,_,_,_,_,_,_,_,_,_,_,_,_,_,_,_,_,_,_,_,zew (l:=lh) (by have:=HB0.out.2.1;have:=hWd0.size;have:=HG.out;omega) hgc (W:=w2) (by rw [hul];exact hnw) (fun j hj e=>by have:=nw_lt hnw j hj;have:=(Array.getElem?_eq_some_iff.1 (stays hneww1 hw2)).1;omega) (by have:=HB0.out.2.1;have:=hbw2.size;omega) hvh (by rw [hul];exact hl1) (by rw [hul];exact hl2) (stays HB0.out.2.2.2 hbw3) (HB0.out.1.trans (hbw3.mono HB0.out.1.size)),rfl⟩
 case after=>
  intro x a wx hx
  cases x with
  | normal=> ?_
  | _=>exact hx.elim
  obtain ⟨g,cs,vh,x17,x18,x19,x20,x21,x22,x23,x24,x25,x26,x27,x28,x29,x30,x31,x32,x33,x34,x35,x36,hst,rfl⟩:=hx;have HSt:=hide hst
  have hwn1:wrap64 ((n:Int) - 1)=(n:Int) - 1:=IntWalk.wrap64_in _ (by have:=HL.out.2.2.1;have:=HL.out.2.2.2;omega)
  clear hst HPair HAnew HSw HUl hWd0 HLf hwn hi0 hi1 HE HB0;rw [pwF];go_wp2_with fail;rw [hwn1];clear hwn1
  go_loopg [13,14,15] n (fun q hv kv av wr=>∃(i:Nat) (cs:Array Value),i<=n/\q=i/\kv= .bool true/\av= .int .i64 ((i:Int) - 1)/\Hid (PwSt w key val ws k i g cs hv wr))
  case atStart=>exact ⟨n,cs,Nat.le_refl n,rfl,rfl,rfl,HSt⟩
  case round=>
   obtain ⟨i,cs,hin,hq,rfl,rfl,HS⟩:=hrel;have HQ:=hide hq;clear hq
   cases i with
   | zero=>
    have hno:¬(0:Int)<=((0:Nat):Int) - 1:=by omega
    have hwk0:WorkNw wr (w.heap.size+2) (.agg cs) (upS key val ws k).1:=HS.out.wk;obtain ⟨a1,d1,a2,d2,a3,d3,a4,d4,a5,d5,e⟩:=zb7 hwk0
    injection e with e
    subst e;obtain ⟨c0,c1,c2,c3,c4,c5⟩:=blk6c HS.out.gc;have hr:=HS.out.rs;obtain ⟨r0,r1,r2,r3,r4,r5⟩:=blk6c hr;have y0:=(za0 hr 0).2;have y1:=(za0 hr 1).2;have y2:=(za0 hr 2).2;have y3:=(za0 hr 3).2;have y4:=(za0 hr 4).2;have y5:=(za0 hr 5).2;clear hr;have HW0:=hide hwk0;clear hwk0;go_wp2_with fail;have hwk0:=HW0.out;obtain ⟨lh,o1,o2,o3⟩:=HS.out.hv;have hf:=zia (w:=w) HS.out.rs hwk0 (Nat.lt_succ_self _) (Nat.le_succ _) HS.out.bl;obtain ⟨f1,f2,f3⟩:=hf;obtain ⟨q0,q1,q2,q3,q4,q5⟩:=blk6c f1
    refine bodyPost_ret (v:= .tuple #[.agg #[.slice a1 (upS key val ws k).1.ps.length d1,.slice a2 (upS key val ws k).1.ls.length d2,.int .i64 (upS key val ws k).1.next,.slice a3 (upS key val ws k).1.us.length d3,.slice a4 (upS key val ws k).1.gs.length d4,.slice a5 (upS key val ws k).1.fs.length d5],u13,.bool true]) (by simp [results,Tryz.results39,go_sem,q0,q1,q2,q3,q4,q5]) rfl ⟨_,_,rfl,f2,lh,zaa (za7 o1 (zaw _ _ _ _ _ _ _ _) (fun j e hn=>by have:=(o1.lt j e).1;omega)) (by omega),o2,o3,f3⟩
   | succ m=>
    have hm1:((m+1:Nat):Int) - 1=(m:Int):=by omega
    rw [hm1]
    have hyes:(0:Int)<=(m:Int):=by omega
    have hml:m<ws.length:=by have:=HL.out.2.2.1;omega
    obtain ⟨⟨⟨p,nd,at_⟩,vk,vv,vc⟩,hee⟩:∃e,l[m]?=some e:=⟨l[m]'(by have:=HL.out.2.1;omega),List.getElem?_eq_getElem (by have:=HL.out.2.1;omega)⟩
    have hwsm:ws[m]?=some (p,nd,at_):=by
     rw [<-HL.out.1,List.getElem?_map,hee]
     rfl
    obtain ⟨hml',hwsm⟩:=List.getElem?_eq_some_iff.1 hwsm;have hgd:=zhQ hml HG.out
    have hup:=zmF (key:=key) (val:=val) (k:=k) (i:=m) (by have:=HL.out.2.2.1;omega) (HO.out m hml)
    rw [hwsm] at hgd hup
    have hor:=hgd.2.2.resolve_right (fun h=>by have:=h.1;have:=HL.out.2.2.1;omega)
    have hlf:nd.lf=false:=hor.2.1
    obtain ⟨a,rfl⟩:∃a:Nat,at_=(a:Int):=⟨at_.toNat,by have:0<=at_:=hor.2.2;omega⟩
    have hak:a<nd.ks.length:=by have:(a:Int)<(nd.ks.length:Int):=hgd.2.1;omega
    have hsmm:=HSm.out (m+1);have hjm:=HJ.out (ws.drop (m+1));obtain ⟨lh,o1,o2,o3⟩:=HS.out.hv;have hwk:=HS.out.wk;obtain ⟨R,hR⟩:∃R,R=upS key val (ws.drop (m+1)) k:=⟨_,rfl⟩;rw [<-hR] at hup hsmm hjm o2 o3 hwk
    have hll:lh.length=R.2.1.length:=by rw [<-o2,List.length_map]
    have hwh:=znG hgd.1 hlf hak hsmm.1 (hsmm.2.2.1 hup.1) hsmm.2.1 hsmm.2.2.2.2;obtain ⟨n1,n2,n3,n4⟩:=zgl hgd.1;have hul:upS key val (ws.drop m) k=finK p (halfS R.1 false (whK nd a R.2.1) [] (whC nd a R.2.2.1)):=hup.2.1;have hon:(halfS R.1 false (whK nd a R.2.1) [] (whC nd a R.2.2.1)).2.2.2=true:=hup.2.2
    have HHalf:Hid (∀wx:World,Below wr.heap.size wr wx->Calls Tryz.prog 60 #[.agg #[.int .i64 p,.bool nd.lf,vk,vv,vc,.int .i64 (a:Int)],u13] wx fun e w'=>∃v,e= .returned v/\NdOwn w' Bu v false (whK nd a R.2.1) [] (whC nd a R.2.2.1)/\Below wx.heap.size wx w'):=hide (fun wx hb=>by
     have h:=zgG p nd hlf ((zaY hgd.1).2 hlf).1 (by have:nd.ks.length<=4:=n4;omega) a hak vk vv vc Bu lh (by have:=hsmm.2.2.1 hup.1;omega) (by have:=hsmm.2.1;omega) u13 wx (Nat.le_trans HK.out.2.2.2.2 (HS.out.bl.trans (hb.mono HS.out.bl.size)).size) (HLv.out _ (List.mem_of_getElem? hee) wx (HS.out.bl.trans (hb.mono HS.out.bl.size))) (za1 (zac o1) hb)
     rw [o2,o3] at h
     exact h)
    have HAnew:=hide (fun (wx:World) (nv:Value) (B:Nat) (hb:Below wr.heap.size wr wx) (hnd:NdOwn wx B nv false (whK nd a R.2.1) [] (whC nd a R.2.2.1))=>zgk (.agg cs) R.1 hjm (zaD hsmm.2.2.2.1 (by omega)) p nv B false (whK nd a R.2.1) [] (whC nd a R.2.2.1) (fun e=>by cases e) (fun _=>⟨hwh.1,rfl⟩) hwh.2.1 hwh.2.2.1 hwh.2.2.2 (fun s hs=>by cases hs) wx (zah HT.out (HS.out.bl.trans (hb.mono HS.out.bl.size))) (zaf (zaF (zbN hwk)) hb) hnd hon)
    have HSw:Hid (∀wx:World,Below w.heap.size w wx->wx.cell? ⟨gu,m * 6,none⟩=some (.int .i64 p)/\wx.rangeAt gu (m * 6) (#[Value.int .i64 p,.bool nd.lf,vk,vv,vc,.int .i64 (a:Int)]:Array Value).toList):=hide (fun wx hb=>by
     have hr:=zkv (HRow.out wx hb) HL.out.2.1.symm hee
     exact ⟨hr 0 _ rfl,hr⟩)
    obtain ⟨m1,k1,m2,k2,b3,m3,k3,m4,k4,m5,k5,m6,e⟩:∃m1 k1 m2 k2 b3 m3 k3 m4 k4 m5 k5 m6,cs= #[.slice m1 R.1.ps.length k1,.slice m2 R.1.ls.length k2,.int .i64 b3,.slice m3 R.1.us.length k3,.slice m4 R.1.gs.length k4,.slice m5 m6 k5]:=by
     obtain ⟨a1,d1,a2,d2,a3,d3,a4,d4,a5,d5,e⟩:=zb7 hwk
     injection e with e
     exact ⟨a1,d1,a2,d2,R.1.next,a3,d3,a4,d4,a5,d5,R.1.fs.length,e⟩
    subst e;obtain ⟨l1,hl1⟩:∃n,n=R.1.ps.length:=⟨_,rfl⟩;obtain ⟨l2,hl2⟩:∃n,n=R.1.ls.length:=⟨_,rfl⟩;obtain ⟨l3,hl3⟩:∃n,n=R.1.us.length:=⟨_,rfl⟩;obtain ⟨l4,hl4⟩:∃n,n=R.1.gs.length:=⟨_,rfl⟩;rw [<-hl1,<-hl2,<-hl3,<-hl4] at HS HAnew;have HUl:=hide hul
    have hin0:m<n+1:=by omega
    have hin1:(m:Int)<(n:Int)+1:=by omega
    clear hml hee hml' hwsm hgd hup hor hlf hak hsmm hjm o1 o2 o3 hwk hR hll hwh n1 n2 n3 n4 hul hon hl1 hl2 hl3 hl4;go_wp2_with fail;refine zjF ?_
    refine zcV (S:=fun wx=>wx.cell? ⟨gu,m * 6,none⟩=some (.int .i64 p)/\wx.rangeAt gu (m * 6) (#[Value.int .i64 p,.bool nd.lf,vk,vv,vc,.int .i64 (a:Int)]:Array Value).toList) [] (by kernel_rfl) ?_
    obtain ⟨wd,hwd⟩:∃wd,wd=wr.drew:=⟨_,rfl⟩
    have hWd:Below wr.heap.size wr wd:=by rw [hwd];exact (Below.refl _ _).drew
    have hWw:Below w.heap.size w wd:=HS.out.bl.trans (hWd.mono HS.out.bl.size);rw [<-hwd];clear hwd;have hHeld:=HSw.out wd hWw
    refine zaj 1 48 ?_ rfl rfl (by kernel_rfl) (by kernel_rfl) (by kernel_rfl) (by kernel_rfl) (fun _ _ _ h=>h) (Or.inl ⟨by rfl,?_⟩) hHeld ?_
    rotate_left
    ·(intro wx hSw;(try dsimp only at hSw);go_simp;try with_reducible rfl)
    simp only [yA,yB,yC]
    refine zaj 2 49 ?_ rfl rfl (by kernel_rfl) (by kernel_rfl) (by kernel_rfl) (by kernel_rfl) (fun _ _ _ h=>h) (Or.inl ⟨by rfl,?_⟩) hHeld ?_
    rotate_left
    ·(intro wx hSw;(try dsimp only at hSw);go_simp;try with_reducible rfl)
    simp only [yA,yB,yC]
    refine zaj 3 50 ?_ rfl rfl (by kernel_rfl) (by kernel_rfl) (by kernel_rfl) (by kernel_rfl) (fun _ _ _ h=>h) (Or.inl ⟨by rfl,?_⟩) hHeld ?_
    rotate_left
    ·(intro wx hSw;(try dsimp only at hSw);go_simp;try with_reducible rfl)
    simp only [yA,yB,yC]
    refine zaj 4 51 ?_ rfl rfl (by kernel_rfl) (by kernel_rfl) (by kernel_rfl) (by kernel_rfl) (fun _ _ _ h=>h) (Or.inl ⟨by rfl,?_⟩) hHeld ?_
    rotate_left
    ·(intro wx hSw;(try dsimp only at hSw);go_simp;try with_reducible rfl)
    simp only [yA,yB,yC]
    refine zaj 5 52 ?_ rfl rfl (by kernel_rfl) (by kernel_rfl) (by kernel_rfl) (by kernel_rfl) (fun _ _ _ h=>h) (Or.inl ⟨by rfl,?_⟩) hHeld ?_
    rotate_left
    ·(intro wx hSw;(try dsimp only at hSw);go_simp;try with_reducible rfl)
    simp only [yA,yB,yC]
    refine zaj 6 53 ?_ rfl rfl (by kernel_rfl) (by kernel_rfl) (by kernel_rfl) (by kernel_rfl) (fun _ _ _ h=>h) (Or.inl ⟨by rfl,?_⟩) hHeld ?_
    rotate_left
    ·(intro wx hSw;(try dsimp only at hSw);go_simp;try with_reducible rfl)
    simp only [yA,yB,yC]
    refine zaj 7 54 ?_ rfl rfl (by kernel_rfl) (by kernel_rfl) (by kernel_rfl) (by kernel_rfl) (fun _ _ _ h=>h) (Or.inl ⟨by rfl,?_⟩) hHeld ?_
    rotate_left
    ·(intro wx hSw;(try dsimp only at hSw);go_simp;try with_reducible rfl)
    simp only [yA,yB,yC]
    refine zaj 8 55 ?_ rfl rfl (by kernel_rfl) (by kernel_rfl) (by kernel_rfl) (by kernel_rfl) (fun _ _ _ h=>h) (Or.inl ⟨by rfl,?_⟩) hHeld ?_
    rotate_left
    ·(intro wx hSw;(try dsimp only at hSw);go_simp;try with_reducible rfl)
    simp only [yA,yB,yC]
    refine zaj 9 56 (.agg #[.int .i64 p,.bool nd.lf,vk,vv,vc,.int .i64 (a:Int)]) rfl rfl (by kernel_rfl) (by kernel_rfl) (by kernel_rfl) (by kernel_rfl) (fun _ _ _ h=>h) (zbo (by rfl) 97 (.tmp 55) rfl gu (m * 6) rfl #[.int .i64 p,.bool nd.lf,vk,vv,vc,.int .i64 (a:Int)] _ (fun _ h=>h.2) Tryz.underlying97 rfl (by kernel_rfl)) hHeld ?_
    simp only [yA,yB,yC]
    refine zaj 10 57 ?_ rfl rfl (by kernel_rfl) (by kernel_rfl) (by kernel_rfl) (by kernel_rfl) (fun _ _ _ h=>h) (Or.inl ⟨by rfl,?_⟩) hHeld ?_
    rotate_left
    ·(intro wx hSw;(try dsimp only at hSw);go_simp;try with_reducible rfl)
    simp only [yA,yB,yC]
    refine zhS (i:=0) (i':=11) (by kernel_rfl) rfl rfl ?_ ?_
    ·-- the work is loaded first
     have hgd:=stays HS.out.gc hWd;obtain ⟨c0,c1,c2,c3,c4,c5⟩:=blk6c hgd;intro K hK
     go_simp
     refine hK.out _ _ (Or.inr hHeld) ?_;clear hK K c0 c1 c2 c3 c4 c5;clear hgd
     refine zau (i:=11) (by kernel_rfl) rfl ?_
     have hbwd:=hWd;intro K hK;refine zdr wd ?_ 60 Tryz.f60 Tryz.func60 ?_ ?_ (.tmp 56) (.tmp 57) #[97,83] ?_ (.agg #[.int .i64 p,.bool nd.lf,vk,vv,vc,.int .i64 (a:Int)]) u13 ?_ ?_ _ (HHalf.out wd hWd) ?_
     ·exact rfl
     ·decide
     ·exact Option.some_ne_none _
     ·exact rfl
     ·exact rfl
     ·exact rfl
     rintro e w1 ⟨nv,rfl,hnd,hw1⟩;refine ⟨_,rfl,?_⟩;have hbw1:Below wr.heap.size wr w1:=hWd.trans (hw1.mono hWd.size);have hBw1:Below w.heap.size w w1:=HS.out.bl.trans (hbw1.mono HS.out.bl.size);refine hK.out (Act.put _ (some 58) _) _ (Or.inr (HSw.out _ hBw1)) ?_;clear hK K
     simp only [Act.put,yA,yB,yC]
     refine zau (i:=12) (by kernel_rfl) rfl ?_
     intro K hK;refine zbD w1 ?_ 58 Tryz.f58 Tryz.func58 ?_ ?_ (.tmp 47) (.tmp 52) (.tmp 58) #[34,3,71] ?_ (.agg #[.slice m1 l1 k1,.slice m2 l2 k2,.int .i64 b3,.slice m3 l3 k3,.slice m4 l4 k4,.slice m5 m6 k5]) (.int .i64 p) nv ?_ ?_ ?_ _ (HAnew.out w1 nv _ hbw1 hnd) ?_
     ·exact rfl
     ·decide
     ·exact Option.some_ne_none _
     ·exact rfl
     ·exact rfl
     ·exact rfl
     ·exact rfl
     rintro e w2 ⟨v2,vh,lh,rfl,hnw,hvh,hl1,hl2,hw2⟩;refine ⟨_,rfl,?_⟩;have hbw2:Below wr.heap.size wr w2:=hbw1.trans (hw2.mono hbw1.size);have hBw2:Below w.heap.size w w2:=HS.out.bl.trans (hbw2.mono HS.out.bl.size);refine hK.out (Act.put _ (some 59) _) _ (Or.inr (HSw.out _ hBw2)) ?_;clear hK K
     simp only [Act.put,yA,yB,yC]
     have hHe:=HSw.out _ hBw2
     refine zaj 13 46 ?_ rfl rfl (by kernel_rfl) (by kernel_rfl) (by kernel_rfl) (by kernel_rfl) (fun _ _ _ h=>h) (Or.inl ⟨by rfl,?_⟩) hHe ?_
     rotate_left
     ·(intro wx hSw;(try dsimp only at hSw);go_simp;try with_reducible rfl)
     simp only [yA,yB,yC]
     refine zaj 14 60 ?_ rfl rfl (by kernel_rfl) (by kernel_rfl) (by kernel_rfl) (by kernel_rfl) (fun _ _ _ h=>h) (Or.inl ⟨by rfl,?_⟩) hHe ?_
     rotate_left
     ·(intro wx hSw;(try dsimp only at hSw);go_simp;try with_reducible rfl)
     simp only [yA,yB,yC]
     refine zaj 15 61 ?_ rfl rfl (by kernel_rfl) (by kernel_rfl) (by kernel_rfl) (by kernel_rfl) (fun _ _ _ h=>h) (Or.inl ⟨by rfl,?_⟩) hHe ?_
     rotate_left
     ·(intro wx hSw;(try dsimp only at hSw);go_simp;try with_reducible rfl)
     simp only [yA,yB,yC]
     refine zaj 16 62 ?_ rfl rfl (by kernel_rfl) (by kernel_rfl) (by kernel_rfl) (by kernel_rfl) (fun _ _ _ h=>h) (Or.inl ⟨by rfl,?_⟩) hHe ?_
     rotate_left
     ·(intro wx hSw;(try dsimp only at hSw);go_simp;try with_reducible rfl)
     simp only [yA,yB,yC]
     obtain ⟨a1,d1,a2,d2,a3,d3,a4,d4,a5,d5,rfl⟩:=zb7 hnw;have hgc:=stays HS.out.gc hbw2;obtain ⟨c0,c1,c2,c3,c4,c5⟩:=blk6c hgc;have z0:=(za0 hgc 0).2;have z1:=(za0 hgc 1).2;have z2:=(za0 hgc 2).2;have z3:=(za0 hgc 3).2;have z4:=(za0 hgc 4).2;have z5:=(za0 hgc 5).2;have hg0:=HS.out.g0;have hgl:=(Array.getElem?_eq_some_iff.1 HS.out.gc).1;have hul:=HUl.out
     have hpw:=zew (l:=lh) (i:=m) (W:=w1) HS.out.g0 hgc (by rw [hul];exact hnw) (fun j hj e=>by have:=nw_lt hnw j hj;have:=hbw1.size;omega) (by have:=hbw1.size;omega) hvh (by rw [hul];exact hl1) (by rw [hul];exact hl2) (stays HS.out.rs hbw2) hBw2
     have hSs:=HSw.out _ hpw.bl;have HPw:=hide hpw;clear hpw hgc
     refine zau (i:=17) (by kernel_rfl) rfl ?_
     intro K hK
     go_simp
     refine hK.out _ _ (Or.inr hSs) ?_;clear hK K c0 c1 c2 c3 c4 c5 z0 z1 z2 z3 z4 z5
     refine zau (i:=18) (by kernel_rfl) rfl ?_
     intro K hK
     go_simp
     refine hK.out _ _ (Or.inr hSs) ?_;clear hK K
     refine zau (i:=19) (by kernel_rfl) rfl ?_
     intro K hK
     go_simp
     refine hK.out _ _ (Or.inr hSs) ?_;clear hK K
     refine zgs (by kernel_rfl) ?_ _
     dsimp only [onlyN]
     have hwm:wrap64 ((m:Int) - 1)=(m:Int) - 1:=IntWalk.wrap64_in _ (by have:=HL.out.2.2.1;have:=HL.out.2.2.2;omega)
     clear hSs hul;go_wp2_with fail
     go_roundg (gk - 1)
     case measure=>have:=HQ.out;omega
     case rel=>exact ⟨m,_,by omega,by have:=HQ.out;omega,rfl,by rw [hwm],HPw⟩
    ·-- the node first
     have hbwd:=hWd;intro K hK;refine zdr wd ?_ 60 Tryz.f60 Tryz.func60 ?_ ?_ (.tmp 56) (.tmp 57) #[97,83] ?_ (.agg #[.int .i64 p,.bool nd.lf,vk,vv,vc,.int .i64 (a:Int)]) u13 ?_ ?_ _ (HHalf.out wd hWd) ?_
     ·exact rfl
     ·decide
     ·exact Option.some_ne_none _
     ·exact rfl
     ·exact rfl
     ·exact rfl
     rintro e w1 ⟨nv,rfl,hnd,hw1⟩;refine ⟨_,rfl,?_⟩;have hbw1:Below wr.heap.size wr w1:=hWd.trans (hw1.mono hWd.size);have hBw1:Below w.heap.size w w1:=HS.out.bl.trans (hbw1.mono HS.out.bl.size);refine hK.out (Act.put _ (some 58) _) _ (Or.inr (HSw.out _ hBw1)) ?_;clear hK K
     simp only [Act.put,yA,yB,yC]
     refine zau (i:=0) (by kernel_rfl) rfl ?_
     have hgd:=stays HS.out.gc hbw1;obtain ⟨c0,c1,c2,c3,c4,c5⟩:=blk6c hgd;intro K hK
     go_simp
     refine hK.out _ _ (Or.inr (HSw.out _ hBw1)) ?_;clear hK K c0 c1 c2 c3 c4 c5;clear hgd
     refine zau (i:=12) (by kernel_rfl) rfl ?_
     intro K hK;refine zbD w1 ?_ 58 Tryz.f58 Tryz.func58 ?_ ?_ (.tmp 47) (.tmp 52) (.tmp 58) #[34,3,71] ?_ (.agg #[.slice m1 l1 k1,.slice m2 l2 k2,.int .i64 b3,.slice m3 l3 k3,.slice m4 l4 k4,.slice m5 m6 k5]) (.int .i64 p) nv ?_ ?_ ?_ _ (HAnew.out w1 nv _ hbw1 hnd) ?_
     ·exact rfl
     ·decide
     ·exact Option.some_ne_none _
     ·exact rfl
     ·exact rfl
     ·exact rfl
     ·exact rfl
     rintro e w2 ⟨v2,vh,lh,rfl,hnw,hvh,hl1,hl2,hw2⟩;refine ⟨_,rfl,?_⟩;have hbw2:Below wr.heap.size wr w2:=hbw1.trans (hw2.mono hbw1.size);have hBw2:Below w.heap.size w w2:=HS.out.bl.trans (hbw2.mono HS.out.bl.size);refine hK.out (Act.put _ (some 59) _) _ (Or.inr (HSw.out _ hBw2)) ?_;clear hK K
     simp only [Act.put,yA,yB,yC]
     have hHe:=HSw.out _ hBw2
     refine zaj 13 46 ?_ rfl rfl (by kernel_rfl) (by kernel_rfl) (by kernel_rfl) (by kernel_rfl) (fun _ _ _ h=>h) (Or.inl ⟨by rfl,?_⟩) hHe ?_
     rotate_left
     ·(intro wx hSw;(try dsimp only at hSw);go_simp;try with_reducible rfl)
     simp only [yA,yB,yC]
     refine zaj 14 60 ?_ rfl rfl (by kernel_rfl) (by kernel_rfl) (by kernel_rfl) (by kernel_rfl) (fun _ _ _ h=>h) (Or.inl ⟨by rfl,?_⟩) hHe ?_
     rotate_left
     ·(intro wx hSw;(try dsimp only at hSw);go_simp;try with_reducible rfl)
     simp only [yA,yB,yC]
     refine zaj 15 61 ?_ rfl rfl (by kernel_rfl) (by kernel_rfl) (by kernel_rfl) (by kernel_rfl) (fun _ _ _ h=>h) (Or.inl ⟨by rfl,?_⟩) hHe ?_
     rotate_left
     ·(intro wx hSw;(try dsimp only at hSw);go_simp;try with_reducible rfl)
     simp only [yA,yB,yC]
     refine zaj 16 62 ?_ rfl rfl (by kernel_rfl) (by kernel_rfl) (by kernel_rfl) (by kernel_rfl) (fun _ _ _ h=>h) (Or.inl ⟨by rfl,?_⟩) hHe ?_
     rotate_left
     ·(intro wx hSw;(try dsimp only at hSw);go_simp;try with_reducible rfl)
     simp only [yA,yB,yC]
     obtain ⟨a1,d1,a2,d2,a3,d3,a4,d4,a5,d5,rfl⟩:=zb7 hnw;have hgc:=stays HS.out.gc hbw2;obtain ⟨c0,c1,c2,c3,c4,c5⟩:=blk6c hgc;have z0:=(za0 hgc 0).2;have z1:=(za0 hgc 1).2;have z2:=(za0 hgc 2).2;have z3:=(za0 hgc 3).2;have z4:=(za0 hgc 4).2;have z5:=(za0 hgc 5).2;have hg0:=HS.out.g0;have hgl:=(Array.getElem?_eq_some_iff.1 HS.out.gc).1;have hul:=HUl.out
     have hpw:=zew (l:=lh) (i:=m) (W:=w1) HS.out.g0 hgc (by rw [hul];exact hnw) (fun j hj e=>by have:=nw_lt hnw j hj;have:=hbw1.size;omega) (by have:=hbw1.size;omega) hvh (by rw [hul];exact hl1) (by rw [hul];exact hl2) (stays HS.out.rs hbw2) hBw2
     have hSs:=HSw.out _ hpw.bl;have HPw:=hide hpw;clear hpw hgc
     refine zau (i:=17) (by kernel_rfl) rfl ?_
     intro K hK
     go_simp
     refine hK.out _ _ (Or.inr hSs) ?_;clear hK K c0 c1 c2 c3 c4 c5 z0 z1 z2 z3 z4 z5
     refine zau (i:=18) (by kernel_rfl) rfl ?_
     intro K hK
     go_simp
     refine hK.out _ _ (Or.inr hSs) ?_;clear hK K
     refine zau (i:=19) (by kernel_rfl) rfl ?_
     intro K hK
     go_simp
     refine hK.out _ _ (Or.inr hSs) ?_;clear hK K
     refine zgs (by kernel_rfl) ?_ _
     dsimp only [onlyN]
     have hwm:wrap64 ((m:Int) - 1)=(m:Int) - 1:=IntWalk.wrap64_in _ (by have:=HL.out.2.2.1;have:=HL.out.2.2.2;omega)
     clear hSs hul;go_wp2_with fail
     go_roundg (gk - 1)
     case measure=>have:=HQ.out;omega
     case rel=>exact ⟨m,_,by omega,by have:=HQ.out;omega,rfl,by rw [hwm],HPw⟩
end Go.Proofs.YtcbogiebfbbmbaaGreatDoor
