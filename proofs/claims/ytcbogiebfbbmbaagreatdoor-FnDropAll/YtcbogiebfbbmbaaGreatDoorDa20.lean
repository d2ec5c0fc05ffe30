/-
  Facts and contracts that the law's own text rests on, by their texts' names: SpecBuild.
-/
import Derived.Test.YtcbogiebfbbmbaaGreatDoorDa19
set_option maxHeartbeats 16000000
set_option maxRecDepth 100000
namespace Go.Proofs.YtcbogiebfbbmbaaGreatDoor
open Go.RowKit
theorem zk5 {α:Type} (l:List α) (i:Nat):(l.drop (4 * i)).take (min 4 (l.length - 4 * i))=four l i:=by
 unfold four
 by_cases h4:4<=l.length - 4 * i
 ·rw [Nat.min_eq_left h4]
 ·rw [Nat.min_eq_right (by omega),List.take_of_length_le (by rw [List.length_drop];exact Nat.le_refl _),List.take_of_length_le (by rw [List.length_drop];omega)]
theorem zfa (v:Value) (k:Wk) (hk:k.rm 951424) (L:List (ByteArray×ByteArray)) (hl:L.length<=1048576) (hL:∀p∈L,p.1.size<=1048576/\p.2.size<=1048576) (lv:Value) (W:World) (hd:WorkAt W v k) (hRw:RowAt W 2 lv L.length (prs L)):
  Calls Tryz.prog 15 #[v,lv] W fun e w'=>∃v',e= .returned (.tuple #[v',.int .i64 (bldS k L).2.1,.bool (bldS k L).2.2])/\WorkOwn w' W.heap.size v' (bldS k L).1/\Below W.heap.size W w':=by
 obtain ⟨cs,rfl,hcs,hco⟩:=zlK hd;obtain ⟨hlen,a,cap,rfl,hrow⟩:=hRw;obtain ⟨a0,ha0⟩:∃a0,a0=W.heap.size:=⟨_,rfl⟩;have hs1:=zaB (zcV W.heap.size W) (Obj.cells cs 34) (Nat.le_refl _)
 have hs2:=zaB hs1 (Obj.cells #[.slice none 0 0,.slice none 0 0,.int .i64 0,.slice none 0 0,.slice none 0 0,.slice none 0 0] 34) (by simp)
 simp only [World.size_alloc] at hs2
 obtain ⟨w2,hw2⟩:∃w2,w2=(W.alloc (Obj.cells cs 34)).alloc (Obj.cells #[.slice none 0 0,.slice none 0 0,.int .i64 0,.slice none 0 0,.slice none 0 0,.slice none 0 0] 34):=⟨_,rfl⟩
 have hb2:Below W.heap.size W w2:=by rw [hw2];exact ((Below.refl W.heap.size W).alloc (Nat.le_refl _) _).alloc (by simp) _
 rw [<-hw2,<-ha0] at hs2;rw [<-ha0] at hb2⊢;have HS2:=hide hs2;have HB2:=hide hb2
 have HCp:=hide (fun wx (hb:Below a0 W wx)=>zcW (.agg cs) k (zhG hk) wx (zae hd (by rw [<-ha0];exact hb)))
 have HZ:Hid (∀wx,Below a0 W wx->a0<=wx.heap.size):=hide (fun wx h=>by rw [ha0] at h⊢;exact h.size)
 have HRg:Hid (w2.rangeAt a0 0 cs.toList):=hide (zaj (za2 hs2 1 rfl:w2.heap[a0]?=some (Obj.cells cs 34)))
 have HSz:Hid ((Tryz.prog.info? 34).map (·.size)=some cs.size):=hide (by rw [hcs];exact Tryz.sizeWorkB)
 obtain ⟨n,hn⟩:∃n,L.length=n:=⟨_,rfl⟩;rw [hn] at hrow hl⊢;have HN:=hide hn
 have HRw:Hid (0<n->∃b off,a=some ⟨b,off,none⟩/\∀wx,Below a0 W wx->∀j,j<n->∃x y,wx.cell? ⟨b,off+j * 2,none⟩=some (.string x)/\wx.cell? ⟨b,off+j * 2+1,none⟩=some (.string y)/\L[j]?=some (x,y)):=hide (fun h0=>by
  rcases hrow with h | ⟨b,off,rfl,hbl,hc⟩
  ·omega
  ·refine ⟨b,off,rfl,fun wx hb j hj=> ?_⟩
   obtain ⟨p1,p2⟩:=prs_at L j (by omega)
   refine ⟨L[j].1,L[j].2,?_,?_,?_⟩
   ·rw [hb.cell (by rw [ha0];exact hbl),hc (j * 2) (by omega),p1]
   ·rw [hb.cell (by rw [ha0];exact hbl),Nat.add_assoc,hc (j * 2+1) (by omega),p2]
   ·rw [List.getElem?_eq_getElem (by omega)])
 have HL:=hide hL;have HK:=hide hk;have HE:=hide (⟨hw2,ha0⟩:_/\_);clear hs1 hs2 hb2 hcs hco ha0 hn hk hd hrow hw2 hL hlen;go_enter Tryz.func15,Tryz.ntmps15
 go_upto_region 1 with fail
 obtain ⟨hw2,ha0⟩:=HE.out;rw [<-hw2,<-ha0];clear hw2 ha0 HE
 go_wp2_with ((with_reducible refine zay ?_ 34 (.tmp 2) ?_ a0 0 ?_ cs HRg.out _ Tryz.underlying34 ?_ ?_ ?_);exact rfl;exact rfl;exact rfl;exact rfl;exact HSz.out)
 refine (HCp.out _ HB2.out).mono ?_;rintro e w3 ⟨v3,rfl,hnw,hb3⟩;have ho3:=zaJ hnw;obtain ⟨ss,rfl,hss,hso⟩:=zeA ho3;have hz2:=HZ.out w2 HB2.out
 have hs3:=zdf HS2.out hb3 (workA a0 (.agg ss) k) (zaU ho3 hz2) (fun j hj=>zal ho3 j hj) hz2
 have HB3:Hid (Below a0 W w3):=hide (HB2.out.trans (hb3.mono hz2));have hz3:=HZ.out w3 HB3.out
 have hs4:=zaq (zaB hs3 (Obj.cells #[.slice none 0 0,.slice none 0 0,.int .i64 0,.slice none 0 0,.slice none 0 0,.slice none 0 0] 34) hz3) 0 rfl ss (by rw [hss];rfl)
 have hth:Hid ((w3.alloc (Obj.cells #[.slice none 0 0,.slice none 0 0,.int .i64 0,.slice none 0 0,.slice none 0 0,.slice none 0 0] 34)).there w3.heap.size 0 ss.size):=hide (by rw [hss];exact zav (heap_alloc_new w3 (Obj.cells #[.slice none 0 0,.slice none 0 0,.int .i64 0,.slice none 0 0,.slice none 0 0,.slice none 0 0] 34)) 0 6 (show 0+6<=6 by decide))
 obtain ⟨w4,hw4⟩:∃w4,w4=(w3.alloc (Obj.cells #[.slice none 0 0,.slice none 0 0,.int .i64 0,.slice none 0 0,.slice none 0 0,.slice none 0 0] 34)).setCells w3.heap.size 0 ss.toList:=⟨_,rfl⟩
 have HB4:Hid (Below a0 W w4):=hide (by rw [hw4];exact zai hz3 _ 0 _ (HB3.out.alloc hz3 _))
 obtain ⟨g7,hg7⟩:∃g,g=w3.heap.size:=⟨_,rfl⟩;rw [<-hw4,<-hg7] at hs4
 have HS4:=hide (zb3 (pre:= [_,_,_,_]) (rest:= []) hs4 [1,0,2,3] (by decide) [_,_,_,_] rfl)
 have HW4:=hide hw4.symm
 have HSs:Hid ((Tryz.prog.info? 34).map (·.size)=some ss.size):=hide (by rw [hss];exact Tryz.sizeWorkB)
 have HSo:=hide hso;have HSsz:=hide hss;clear hs4 hw4 hb3 hss hso hz2 hz3 HS2 HB2 HRg ho3 hs3 hnw
 go_upto_region 2 with ((with_reducible refine zao ?_ 34 (.tmp 7) (.tmp 24) ?_ w3.heap.size 0 ss ?_ ?_ hth.out ?_ ?_ HW4.out ?_);exact rfl;exact rfl;exact rfl;exact rfl;exact HSs.out;exact HSo.out)
 rw [<-hg7];clear hg7 hth HW4 HB3;go_wp2_with fail
 go_loopg [8] n (fun q iv wr=>∃(i:Nat),1<=i/\i<=n+1/\q+i=n+1/\iv= .int .i64 (i:Int)/\Hid (∀k,k<i->k<n->0<k->Op.bytesLess (L.getD (k - 1) (⟨#[]⟩,⟨#[]⟩)).1.toList (L.getD k (⟨#[]⟩,⟨#[]⟩)).1.toList=true)/\Hid (Sep a0 wr [workA a0 (.agg ss) k,cellA g7 (Obj.cells ss 34),cellA (a0+1) (Obj.cells #[.slice none 0 0,.slice none 0 0,.int .i64 0,.slice none 0 0,.slice none 0 0,.slice none 0 0] 34),cellA a0 (Obj.cells cs 34)])/\Hid (Below a0 W wr))
 case atStart=>exact ⟨1,Nat.le_refl _,by omega,rfl,rfl,hide (fun k h1 h2 h3=>by omega),HS4,HB4⟩
 case round=>
  clear HS4 HB4;obtain ⟨i,hi1,hi2,hq,rfl,HU,HS,HB⟩:=hrel;have HQ:=hide hq;clear hq
  by_cases hlt:i<n
  ·obtain ⟨b,off,rfl,hc⟩:=HRw.out (by omega)
   obtain ⟨j,rfl⟩:∃j,i=j+1:=⟨i - 1,by omega⟩
   obtain ⟨x,x',c0,-,hx⟩:=hc wr HB.out j (by omega)
   obtain ⟨y,y',c1,-,hy⟩:=hc wr HB.out (j+1) hlt;obtain ⟨t,ht⟩:∃t,Op.bytesLess x.toList y.toList=t:=⟨_,rfl⟩
   have HT:Hid (Op.bytesLess (L.getD j (⟨#[]⟩,⟨#[]⟩)).1.toList (L.getD (j+1) (⟨#[]⟩,⟨#[]⟩)).1.toList=t):=hide (by rw [List.getD_eq_getElem?_getD,List.getD_eq_getElem?_getD,hx,hy];exact ht)
   have hj0:(0:Int)<=(j:Int):=by omega
   have hj1:(j:Int)+1<(n:Int):=by omega
   have hj2:(j:Int)<(n:Int):=by omega
   clear hx hy hc
   cases t with
   | true=>
    go_wp2_with fail
    go_quiet (fail)
    go_wp2_with fail
    go_roundg (gk - 1)
    case measure=>have:=HQ.out;omega
    case rel=>exact ⟨j+1+1,by omega,by omega,by have:=HQ.out;omega,by go_num,hide (fun k h1 h2 h3=>by
     by_cases e:k=j+1
     ·subst e;exact HT.out
     ·exact HU.out k (by omega) h2 h3),hide (zb5 HS.out (below_drewN (Below.refl _ _) _)),hide (below_drewN HB.out _)⟩
   | false=>
    go_wp2_with fail
    go_quiet (fail)
    obtain ⟨wq,hwq⟩:∃wq,wq=wr.drewN nq:=⟨_,rfl⟩
    have HSq:Hid (Sep a0 wq [workA a0 (.agg ss) k,cellA g7 (Obj.cells ss 34),cellA (a0+1) (Obj.cells #[.slice none 0 0,.slice none 0 0,.int .i64 0,.slice none 0 0,.slice none 0 0,.slice none 0 0] 34),cellA a0 (Obj.cells cs 34)]):=hide (by rw [hwq];exact zb5 HS.out (below_drewN (Below.refl _ _) _))
    have HBq:Hid (Below a0 W wq):=hide (by rw [hwq];exact below_drewN HB.out _)
    have HRes:Hid (bldS k L=(k,0,false)):=hide (bld_no (asc_no (by rw [HN.out];exact hlt) HT.out))
    rw [<-hwq];clear hwq c0 c1;have HR7:Hid (wq.rangeAt g7 0 ss.toList):=hide (zaj (za2 HSq.out 1 rfl:wq.heap[g7]?=some (Obj.cells ss 34)))
    have hth:Hid (wq.there (a0+1) 0 ss.size):=hide (by rw [HSsz.out];exact zav (za2 HSq.out 2 rfl:wq.heap[a0+1]?=some (Obj.cells #[.slice none 0 0,.slice none 0 0,.int .i64 0,.slice none 0 0,.slice none 0 0,.slice none 0 0] 34)) 0 6 (show 0+6<=6 by decide))
    obtain ⟨wf,hwf⟩:∃wf,wf=wq.setCells (a0+1) 0 ss.toList:=⟨_,rfl⟩
    have hsf:=zaq HSq.out 2 rfl ss (by rw [HSsz.out];rfl)
    have hbf:=zai (Nat.le_add_right a0 1) ss.toList 0 wq HBq.out;rw [<-hwf] at hsf hbf;have HSf:=hide hsf;have HBf:=hide hbf;have HWf:=hide hwf.symm;clear hsf hbf hwf
    go_wp2_with (first | ((with_reducible refine zay ?_ 34 (.tmp 7) ?_ g7 0 ?_ ss HR7.out _ Tryz.underlying34 ?_ ?_ ?_);exact rfl;exact rfl;exact rfl;exact rfl;exact HSs.out) | ((with_reducible refine zao ?_ 34 (.tmp 4) (.tmp 43) ?_ (a0+1) 0 ss ?_ ?_ hth.out ?_ ?_ HWf.out ?_);exact rfl;exact rfl;exact rfl;exact rfl;exact HSs.out;exact HSo.out))
    refine bodyPost_ret (v:= .tuple #[.agg ss,.int .i64 0,.bool false]) (zcm Tryz.results15 rfl rfl rfl (zcX (zaj (za2 HSf.out 2 rfl:wf.heap[a0+1]?=some (Obj.cells ss 34))) Tryz.underlying34 rfl HSs.out)) rfl ⟨.agg ss,?_,?_,HBf.out⟩
    ·rw [HRes.out]
    ·rw [HRes.out];exact za2 HSf.out 0 rfl
  ·have HAsc:Hid (ascB L=true):=hide ((zhE L).2 fun k h1 h2=>HU.out k (by have:=HN.out;omega) (by have:=HN.out;omega) h2)
   clear HU
   by_cases hn0:n=0
   ·have HRes:Hid (bldS k L=(k,0,true)):=hide (by
     obtain rfl:L= []:=List.eq_nil_of_length_eq_zero (by rw [HN.out];exact hn0)
     exact zfR HAsc.out (zjU k))
    subst hn0
    go_upto_region 8 with fail
    have HR7:Hid (wr.rangeAt g7 0 ss.toList):=hide (zaj (za2 HS.out 1 rfl:wr.heap[g7]?=some (Obj.cells ss 34)))
    have hth:Hid (wr.there (a0+1) 0 ss.size):=hide (by rw [HSsz.out];exact zav (za2 HS.out 2 rfl:wr.heap[a0+1]?=some (Obj.cells #[.slice none 0 0,.slice none 0 0,.int .i64 0,.slice none 0 0,.slice none 0 0,.slice none 0 0] 34)) 0 6 (show 0+6<=6 by decide))
    obtain ⟨wf,hwf⟩:∃wf,wf=wr.setCells (a0+1) 0 ss.toList:=⟨_,rfl⟩
    have hsf:=zaq HS.out 2 rfl ss (by rw [HSsz.out];rfl)
    have hbf:=zai (Nat.le_add_right a0 1) ss.toList 0 wr HB.out;rw [<-hwf] at hsf hbf;have HSf:=hide hsf;have HBf:=hide hbf;have HWf:=hide hwf.symm;clear hsf hbf hwf
    go_wp2_with (first | ((with_reducible refine zay ?_ 34 (.tmp 7) ?_ g7 0 ?_ ss HR7.out _ Tryz.underlying34 ?_ ?_ ?_);exact rfl;exact rfl;exact rfl;exact rfl;exact HSs.out) | ((with_reducible refine zao ?_ 34 (.tmp 4) (.tmp 47) ?_ (a0+1) 0 ss ?_ ?_ hth.out ?_ ?_ HWf.out ?_);exact rfl;exact rfl;exact rfl;exact rfl;exact HSs.out;exact HSo.out))
    refine bodyPost_ret (v:= .tuple #[.agg ss,.int .i64 0,.bool true]) (zcm Tryz.results15 rfl rfl rfl (zcX (zaj (za2 HSf.out 2 rfl:wf.heap[a0+1]?=some (Obj.cells ss 34))) Tryz.underlying34 rfl HSs.out)) rfl ⟨.agg ss,?_,?_,HBf.out⟩
    ·rw [HRes.out]
    ·rw [HRes.out];exact za2 HSf.out 0 rfl
   ·have hnb:((n:Int) ==0)=false:=by simp;omega
    have hn1:0<n:=by omega
    obtain ⟨b,off,rfl,hc⟩:=HRw.out hn1;have HC:=hide hc;have HRg2:Hid (wr.rangeAt a0 0 cs.toList):=hide (zaj (za2 HS.out 3 rfl:wr.heap[a0]?=some (Obj.cells cs 34)));clear hc HRw
    go_wp2_with ((with_reducible refine zay ?_ 34 (.tmp 2) ?_ a0 0 ?_ cs HRg2.out _ Tryz.underlying34 ?_ ?_ ?_);exact rfl;exact rfl;exact rfl;exact rfl;exact HSz.out)
    refine (HCp.out _ HB.out).mono ?_;rintro e w5 ⟨v5,rfl,hnw,hb5⟩;have ho5:=zaJ hnw;obtain ⟨os,rfl,hos,hoo⟩:=zeA ho5;have hzr:=HZ.out wr HB.out
    have hs5:=zdf HS.out hb5 (workA a0 (.agg os) k) (zaU ho5 hzr) (fun j hj=>zal ho5 j hj) hzr
    have HB5:Hid (Below a0 W w5):=hide (HB.out.trans (hb5.mono hzr));have hz5:=HZ.out w5 HB5.out
    have hs6:=zaq (zaB hs5 (Obj.cells #[.slice none 0 0,.slice none 0 0,.int .i64 0,.slice none 0 0,.slice none 0 0,.slice none 0 0] 34) hz5) 0 rfl os (by rw [hos];rfl)
    have hth:Hid ((w5.alloc (Obj.cells #[.slice none 0 0,.slice none 0 0,.int .i64 0,.slice none 0 0,.slice none 0 0,.slice none 0 0] 34)).there w5.heap.size 0 os.size):=hide (by rw [hos];exact zav (heap_alloc_new w5 (Obj.cells #[.slice none 0 0,.slice none 0 0,.int .i64 0,.slice none 0 0,.slice none 0 0,.slice none 0 0] 34)) 0 6 (show 0+6<=6 by decide))
    obtain ⟨w6,hw6⟩:∃w6,w6=(w5.alloc (Obj.cells #[.slice none 0 0,.slice none 0 0,.int .i64 0,.slice none 0 0,.slice none 0 0,.slice none 0 0] 34)).setCells w5.heap.size 0 os.toList:=⟨_,rfl⟩
    have HB6:Hid (Below a0 W w6):=hide (by rw [hw6];exact zai hz5 _ 0 _ (HB5.out.alloc hz5 _))
    obtain ⟨g9,hg9⟩:∃g,g=w5.heap.size:=⟨_,rfl⟩;rw [<-hw6,<-hg9] at hs6;have hz6:=HZ.out w6 HB6.out;have hs7:=zex (zaB hs6 (Obj.cells #[] 9) hz6)
    have hs8:=zex (zaB hs7 (Obj.cells #[] 3) (by simp;omega))
    rw [World.size_alloc] at hs8;obtain ⟨w8,hw8⟩:∃w8,w8=(w6.alloc (Obj.cells #[] 9)).alloc (Obj.cells #[] 3):=⟨_,rfl⟩
    have HB8:Hid (Below a0 W w8):=hide (by rw [hw8];exact (HB6.out.alloc hz6 _).alloc (by simp;omega) _)
    obtain ⟨g10,hg10⟩:∃g,g=w6.heap.size:=⟨_,rfl⟩;rw [<-hw8,<-hg10] at hs8
    have HS8:=hide (zb3 (pre:= [_,_,_,_,_,_,_,_]) (rest:= []) hs8 [3,1,0,2,4,5,6,7] (by decide) [_,_,_,_,_,_,_,_] rfl)
    have HW6:=hide hw6.symm
    have HOs:Hid ((Tryz.prog.info? 34).map (·.size)=some os.size):=hide (by rw [hos];exact Tryz.sizeWorkB)
    have HOo:Hid (os.size=6/\os.toList.all (·.oneCell')=true):=hide ⟨hos,hoo⟩;have HOo2:=hide hoo;have HWe:=hide hw8;clear hs5 hs6 hs7 hs8 hb5 hos hoo hzr hz5 hz6 ho5 hnw hw6 hw8 HS HB HB5 HB6 HRg2
    go_upto_region 10 with ((with_reducible refine zao ?_ 34 (.tmp 9) (.tmp 49) ?_ w5.heap.size 0 os ?_ ?_ hth.out ?_ ?_ HW6.out ?_);exact rfl;exact rfl;exact rfl;exact rfl;exact HOs.out;exact HOo2.out)
    rw [<-hg9];clear hg9 hth HW6
    go_upto_region 12 with fail
    rw [<-HWe.out,<-hg10];clear hg10 HWe HOo2 HOs;obtain ⟨M,hM⟩:∃M,fours n=M:=⟨_,rfl⟩
    have HMf:Hid (∀i,4 * i<n↔i<M):=hide (fun i=>by rw [<-hM];exact zfQ)
    have hMl:M<=262144:=by rw [<-hM];unfold fours;omega
    have hM1:0<M:=(HMf.out 0).1 (by omega)
    have HMe:=hide hM;obtain ⟨R,hR⟩:∃R,lvlR (lfN L) M 0 (k,[],[])=R:=⟨_,rfl⟩
    have HRl:Hid (lvs k L=R):=hide (by rw [<-hR,<-hM,<-HN.out];rfl)
    have HR0:=hide hR.symm;clear hM hR hnb;go_wp2_with fail
    go_loopg [10,11,12] M (fun q kv cv iv wr=>∃(i o:Nat) (st:Bst) (os:Array Value) (vk vc:Value),i<=M/\q+i=M/\iv= .int .i64 (o:Int)/\Hid (o=4 * i)/\vk=kv/\vc=cv/\Hid (os.size=6/\os.toList.all (·.oneCell')=true)/\Hid (R=lvlR (lfN L) (M - i) i st)/\Hid (st.ok i (M - i))/\Hid (Sep a0 wr [workA a0 (.agg os) st.1,rowA a0 9 1 vk i (strs st.2.1),rowA a0 3 1 vc i (ints st.2.2),cellA g9 (Obj.cells os 34),workA a0 (.agg ss) k,cellA g7 (Obj.cells ss 34),cellA (a0+1) (Obj.cells #[.slice none 0 0,.slice none 0 0,.int .i64 0,.slice none 0 0,.slice none 0 0,.slice none 0 0] 34),cellA a0 (Obj.cells cs 34)])/\Hid (Below a0 W wr))
    case atStart=>exact ⟨0,0,(k,[],[]),os,_,_,Nat.zero_le _,rfl,rfl,hide rfl,rfl,rfl,HOo,HR0,hide (zeu (zhH HK.out (by omega))),HS8,HB8⟩
    case round=>
     clear HS8 HB8 HR0 HOo;obtain ⟨i,o,st,os,vk,vc,hiM,hq,rfl,HO,rfl,rfl,HOo,HR,HOk,HS,HB⟩:=hrel;have HQ:=hide hq;clear hq
     by_cases hlt:i<M
     ·have h4:4 * i<n:=(HMf.out i).2 hlt
      have h4i:(o:Int)<(n:Int):=by have:=HO.out;omega
      obtain ⟨m,hm⟩:∃m,(four L i).length=m:=⟨_,rfl⟩
      have hml:m=min 4 (n - 4 * i):=by rw [<-hm,zcu,HN.out]
      have hmp:4 * i+m<=n/\m<=4/\0<m:=by omega
      have HX:Hid (∀j,j<m->∃x y,(∀wx,Below a0 W wx->wx.cell? ⟨b,off+(4 * i+j) * 2,none⟩=some (.string x)/\wx.cell? ⟨b,off+(4 * i+j) * 2+1,none⟩=some (.string y))/\((four L i).map (·.1)).take (j+1)=((four L i).map (·.1)).take j++ [x]/\((four L i).map (·.2)).take (j+1)=((four L i).map (·.2)).take j++ [y]):=hide (fun j hj=>by
       have hjl:4 * i+j<L.length:=by have:=HN.out;omega
       have hjf:j<(four L i).length:=by rw [hm];exact hj
       have he:(four L i)[j]=L[4 * i+j]:=by simp [four]
       refine ⟨L[4 * i+j].1,L[4 * i+j].2,fun wx hb=> ?_,?_,?_⟩
       ·obtain ⟨x,y,e1,e2,e3⟩:=HC.out wx hb (4 * i+j) (by omega)
        rw [List.getElem?_eq_getElem hjl] at e3
        injection e3 with e3
        rw [e1,e2,e3];exact ⟨rfl,rfl⟩
       ·rw [List.take_succ_eq_append_getElem (by simpa using hjf),List.getElem_map,he]
       ·rw [List.take_succ_eq_append_getElem (by simpa using hjf),List.getElem_map,he])
      have HPs:Hid ((∀s∈(four L i).map (·.1),s.size<=1048576)/\∀s∈(four L i).map (·.2),s.size<=1048576):=hide ⟨fun s hs=>by
       obtain ⟨p,hp,rfl⟩:=List.mem_map.1 hs
       exact (HL.out p (zc2 hp)).1,fun s hs=>by
       obtain ⟨p,hp,rfl⟩:=List.mem_map.1 hs
       exact (HL.out p (zc2 hp)).2⟩
      have HNo:Hid (putP st.1 true ((four L i).map (·.1)) ((four L i).map (·.2)) []=0->R=none):=hide (fun h=>by rw [HR.out];exact lvl_no (N:=lfN L) hlt rfl h)
      have HYes:Hid (putP st.1 true ((four L i).map (·.1)) ((four L i).map (·.2)) []≠0->R=lvlR (lfN L) (M - (i+1)) (i+1) (putK st.1 true ((four L i).map (·.1)) ((four L i).map (·.2)) [],st.2.1++ [((four L i).map (·.1)).getD 0 ⟨#[]⟩],st.2.2++ [putP st.1 true ((four L i).map (·.1)) ((four L i).map (·.2)) []])/\Bst.ok (putK st.1 true ((four L i).map (·.1)) ((four L i).map (·.2)) [],st.2.1++ [((four L i).map (·.1)).getD 0 ⟨#[]⟩],st.2.2++ [putP st.1 true ((four L i).map (·.1)) ((four L i).map (·.2)) []]) (i+1) (M - (i+1))):=hide (fun h=>⟨by
       rw [HR.out]
       exact zlI (N:=lfN L) hlt rfl h,zlJ (by rw [show M - (i+1)+1=M - i from by omega];exact HOk.out) HPs.out.1 h⟩)
      obtain ⟨K,hK⟩:∃K,(four L i).map (·.1)=K:=⟨_,rfl⟩;obtain ⟨V,hV⟩:∃V,(four L i).map (·.2)=V:=⟨_,rfl⟩
      have HKm:Hid (K.length=m/\V.length=m):=hide (by rw [<-hK,<-hV,List.length_map,List.length_map];exact ⟨hm,hm⟩)
      rw [hK,hV] at HX HPs HNo HYes;have hzr:=HZ.out wr HB.out;have hs1:=zc6 (zc6 (zaB HS.out (Obj.cells #[.bool true,.slice none 0 0,.slice none 0 0,.slice none 0 0] 71) hzr) a0 9) a0 9;obtain ⟨w1,hw1⟩:∃w1,w1=wr.alloc (Obj.cells #[.bool true,.slice none 0 0,.slice none 0 0,.slice none 0 0] 71):=⟨_,rfl⟩
      have HB1:Hid (Below a0 W w1):=hide (by rw [hw1];exact HB.out.alloc hzr _)
      obtain ⟨g13,hg13⟩:∃g,g=wr.heap.size:=⟨_,rfl⟩;rw [<-hw1,<-hg13] at hs1;have HS1:=hide hs1;have HMl:=hide hml;clear hs1 hzr hK hV hm hml HR
      go_upto_region 16 with fail
      rw [<-hw1,<-hg13];clear hw1 hg13;go_wp2_with fail;obtain ⟨gO,rfl⟩:∃gO,gO=gk:=⟨gk,rfl⟩
      go_loopg [14] m (fun q jv wr=>∃(j p:Nat) (x1 x2:Option Addr) (c1 c2:Nat),j<=m/\q+j=m/\jv= .int .i64 (p:Int)/\Hid (p=4 * i+j)/\Hid (Sep a0 wr [rowA a0 9 1 (.slice x1 j c1) j (strs (K.take j)),rowA a0 9 1 (.slice x2 j c2) j (strs (V.take j)),cellA g13 (Obj.cells #[.bool true,.slice x1 j c1,.slice x2 j c2,.slice none 0 0] 71),workA a0 (.agg os) st.1,rowA a0 9 1 vk i (strs st.2.1),rowA a0 3 1 vc i (ints st.2.2),cellA g9 (Obj.cells os 34),workA a0 (.agg ss) k,cellA g7 (Obj.cells ss 34),cellA (a0+1) (Obj.cells #[.slice none 0 0,.slice none 0 0,.int .i64 0,.slice none 0 0,.slice none 0 0,.slice none 0 0] 34),cellA a0 (Obj.cells cs 34)])/\Hid (Below a0 W wr))
      case atStart=>exact ⟨0,o,none,none,0,0,Nat.zero_le _,rfl,rfl,HO,HS1,HB1⟩
      case round=>
       clear HS1 HB1 HS HB;obtain ⟨j,p,x1,x2,c1,c2,hjm,hq2,rfl,HPj,HS,HB⟩:=hrel;have HQ2:=hide hq2;clear hq2
       by_cases hjl:j<m
       ·obtain ⟨x,y,hcell,hT1,hT2⟩:=HX.out j hjl
        rw [<-HPj.out] at hcell;have HCe:=hide hcell;have HT:=hide (⟨hT1,hT2⟩:_/\_)
        have hj3:p<n:=by have:=HPj.out;omega
        have hj1:(p:Int)<(n:Int):=by omega
        have hj2:(p:Int)<(o:Int)+4:=by have:=HO.out;have:=HPj.out;omega
        have hj4:(0:Int)<=(p:Int):=by omega
        have hj5:j<=3000000:=by omega
        clear hcell hT1 hT2;go_wp2_with fail;obtain ⟨wd,hwd⟩:∃wd,wd=wr.drew:=⟨_,rfl⟩;have HSd:=hide (zcw HS.out);have HBd:=hide HB.out.drew;rw [<-hwd] at HSd HBd
        have HSw:Hid (∀wx,Below a0 W wx->wx.heap[g13]?=some (Obj.cells #[.bool true,.slice x1 j c1,.slice x2 j c2,.slice none 0 0] 71)->(fun wx=>wx.cell? ⟨b,off+p * 2,none⟩=some (.string x)/\wx.cell? ⟨g13,1,none⟩=some (.slice x1 j c1)) wx):=hide (fun wx hb h=>⟨(HCe.out wx hb).1,(za0 h 1).1⟩)
        have hSd:=HSw.out wd HBd.out (za2 HSd.out 2 rfl)
        refine zhi (S:=fun wx=>wx.cell? ⟨b,off+p * 2,none⟩=some (.string x)/\wx.cell? ⟨g13,1,none⟩=some (.slice x1 j c1)) 10 (by kernel_rfl) ?_
        rw [<-hwd];clear hwd
        refine takeZ 0 72 ?_ rfl rfl (by kernel_rfl) (by kernel_rfl) (by kernel_rfl) (by kernel_rfl) (fun _ _ _ h=>h) (Or.inl ⟨by rfl,?_⟩) hSd ?_
        rotate_left
        ·(intro wx hSw;obtain ⟨hSa,hSb⟩:=hSw;go_simp;try with_reducible rfl)
        (try simp only [yA,yB,yC])
        refine takeZ 1 73 ?_ rfl rfl (by kernel_rfl) (by kernel_rfl) (by kernel_rfl) (by kernel_rfl) (fun _ _ _ h=>h) (Or.inl ⟨by rfl,?_⟩) hSd ?_
        rotate_left
        ·(intro wx hSw;obtain ⟨hSa,hSb⟩:=hSw;go_simp;try with_reducible rfl)
        (try simp only [yA,yB,yC])
        refine takeZ 2 74 ?_ rfl rfl (by kernel_rfl) (by kernel_rfl) (by kernel_rfl) (by kernel_rfl) (fun _ _ _ h=>h) (Or.inl ⟨by rfl,?_⟩) hSd ?_
        rotate_left
        ·(intro wx hSw;obtain ⟨hSa,hSb⟩:=hSw;go_simp;try with_reducible rfl)
        (try simp only [yA,yB,yC])
        refine takeZ 3 75 ?_ rfl rfl (by kernel_rfl) (by kernel_rfl) (by kernel_rfl) (by kernel_rfl) (fun _ _ _ h=>h) (Or.inl ⟨by rfl,?_⟩) hSd ?_
        rotate_left
        ·(intro wx hSw;obtain ⟨hSa,hSb⟩:=hSw;go_simp;try with_reducible rfl)
        (try simp only [yA,yB,yC])
        refine takeZ 4 76 ?_ rfl rfl (by kernel_rfl) (by kernel_rfl) (by kernel_rfl) (by kernel_rfl) (fun _ _ _ h=>h) (Or.inl ⟨by rfl,?_⟩) hSd ?_
        rotate_left
        ·(intro wx hSw;obtain ⟨hSa,hSb⟩:=hSw;go_simp;try with_reducible rfl)
        (try simp only [yA,yB,yC])
        refine takeZ 5 77 ?_ rfl rfl (by kernel_rfl) (by kernel_rfl) (by kernel_rfl) (by kernel_rfl) (fun _ _ _ h=>h) (Or.inl ⟨by rfl,?_⟩) hSd ?_
        rotate_left
        ·(intro wx hSw;obtain ⟨hSa,hSb⟩:=hSw;go_simp;try with_reducible rfl)
        (try simp only [yA,yB,yC])
        refine takeZ 6 78 ?_ rfl rfl (by kernel_rfl) (by kernel_rfl) (by kernel_rfl) (by kernel_rfl) (fun _ _ _ h=>h) (Or.inl ⟨by rfl,?_⟩) hSd ?_
        rotate_left
        ·(intro wx hSw;obtain ⟨hSa,hSb⟩:=hSw;go_simp;try with_reducible rfl)
        (try simp only [yA,yB,yC])
        have hzd:=HZ.out wd HBd.out;have hSa:=HSw.out _ (HBd.out.alloc hzd (Obj.cells #[.string x] 9)) (za2 (zgk HSd.out _) 2 rfl)
        refine zhh (i:=7) (by kernel_rfl) rfl (fun K hK=> ?_)
        go_simp
        refine hK.out _ _ (Or.inr hSa) ?_;clear hK K
        refine zhh (i:=8) (by kernel_rfl) rfl (fun K hK=> ?_)
        refine ziq HSd.out 0 rfl (Nat.le_refl _) hzd hzd rfl (.tmp 73) (.tmp 79) rfl rfl x rfl rfl hj5 ?_;intro b1 d1 w4 hs4 hb4;have HS4:=hide hs4;have HB4:=hide (HBd.out.trans hb4);have hS4:=HSw.out w4 HB4.out (za2 hs4 2 rfl);refine hK.out (Act.put _ (some 80) _) _ (Or.inr hS4) ?_;clear hK K
        simp only [Act.put,yA,yB,yC]
        refine takeZ 9 81 ?_ rfl rfl (by kernel_rfl) (by kernel_rfl) (by kernel_rfl) (by kernel_rfl) (fun _ _ _ h=>h) (Or.inl ⟨by rfl,?_⟩) hS4 ?_
        rotate_left
        ·(intro wx hSw;obtain ⟨hSa,hSb⟩:=hSw;go_simp;try with_reducible rfl)
        (try simp only [yA,yB,yC])
        have y1c:=(za0 (za2 HS4.out 2 rfl:w4.heap[g13]?=some (Obj.cells #[.bool true,.slice x1 j c1,.slice x2 j c2,.slice none 0 0] 71)) 1).1;have z1c:=(za0 (za2 HS4.out 2 rfl:w4.heap[g13]?=some (Obj.cells #[.bool true,.slice x1 j c1,.slice x2 j c2,.slice none 0 0] 71)) 1).2;have hs5:=zb6 HS4.out 2 rfl 1 (.slice (some ⟨b1,0,none⟩) (j+1) d1);have hb5:=HB4.out.setCell (p:=⟨g13,1,none⟩) (zcv HS4.out 2 rfl g13 rfl).1 (.slice (some ⟨b1,0,none⟩) (j+1) d1);obtain ⟨w1,hw5⟩:∃wx,wx=w4.setCell ⟨g13,1,none⟩ (.slice (some ⟨b1,0,none⟩) (j+1) d1):=⟨_,rfl⟩;rw [<-hw5] at hs5 hb5;have HS1:=hide hs5;have HB1:=hide hb5
        refine zhh (i:=10) (by kernel_rfl) rfl (fun K hK=> ?_)
        go_simp
        rw [<-hw5];refine hK.out _ _ (Or.inl rfl) ?_;clear hK K
        refine doneZ (by kernel_rfl) ?_ _
        clear hs4 hb4 hs5 hb5 hw5 y1c z1c hS4 hSa hSd hzd HSw HSd HBd HS4 HB4;go_wp2_with fail;obtain ⟨wd,hwd⟩:∃wd,wd=w1.drew:=⟨_,rfl⟩;have HSd:=hide (zcw HS1.out);have HBd:=hide HB1.out.drew;rw [<-hwd] at HSd HBd
        have HSw:Hid (∀wx,Below a0 W wx->wx.heap[g13]?=some (Obj.cells #[.bool true,.slice (some ⟨b1,0,none⟩) (j+1) d1,.slice x2 j c2,.slice none 0 0] 71)->(fun wx=>wx.cell? ⟨b,off+p * 2+1,none⟩=some (.string y)/\wx.cell? ⟨g13,2,none⟩=some (.slice x2 j c2)) wx):=hide (fun wx hb h=>⟨(HCe.out wx hb).2,(za0 h 2).1⟩)
        have hSd:=HSw.out wd HBd.out (za2 HSd.out 2 rfl)
        refine zhi (S:=fun wx=>wx.cell? ⟨b,off+p * 2+1,none⟩=some (.string y)/\wx.cell? ⟨g13,2,none⟩=some (.slice x2 j c2)) 10 (by kernel_rfl) ?_
        rw [<-hwd];clear hwd
        refine takeZ 0 82 ?_ rfl rfl (by kernel_rfl) (by kernel_rfl) (by kernel_rfl) (by kernel_rfl) (fun _ _ _ h=>h) (Or.inl ⟨by rfl,?_⟩) hSd ?_
        rotate_left
        ·(intro wx hSw;obtain ⟨hSa,hSb⟩:=hSw;go_simp;try with_reducible rfl)
        (try simp only [yA,yB,yC])
        refine takeZ 1 83 ?_ rfl rfl (by kernel_rfl) (by kernel_rfl) (by kernel_rfl) (by kernel_rfl) (fun _ _ _ h=>h) (Or.inl ⟨by rfl,?_⟩) hSd ?_
        rotate_left
        ·(intro wx hSw;obtain ⟨hSa,hSb⟩:=hSw;go_simp;try with_reducible rfl)
        (try simp only [yA,yB,yC])
        refine takeZ 2 84 ?_ rfl rfl (by kernel_rfl) (by kernel_rfl) (by kernel_rfl) (by kernel_rfl) (fun _ _ _ h=>h) (Or.inl ⟨by rfl,?_⟩) hSd ?_
        rotate_left
        ·(intro wx hSw;obtain ⟨hSa,hSb⟩:=hSw;go_simp;try with_reducible rfl)
        (try simp only [yA,yB,yC])
        refine takeZ 3 85 ?_ rfl rfl (by kernel_rfl) (by kernel_rfl) (by kernel_rfl) (by kernel_rfl) (fun _ _ _ h=>h) (Or.inl ⟨by rfl,?_⟩) hSd ?_
        rotate_left
        ·(intro wx hSw;obtain ⟨hSa,hSb⟩:=hSw;go_simp;try with_reducible rfl)
        (try simp only [yA,yB,yC])
        refine takeZ 4 86 ?_ rfl rfl (by kernel_rfl) (by kernel_rfl) (by kernel_rfl) (by kernel_rfl) (fun _ _ _ h=>h) (Or.inl ⟨by rfl,?_⟩) hSd ?_
        rotate_left
        ·(intro wx hSw;obtain ⟨hSa,hSb⟩:=hSw;go_simp;try with_reducible rfl)
        (try simp only [yA,yB,yC])
        refine takeZ 5 87 ?_ rfl rfl (by kernel_rfl) (by kernel_rfl) (by kernel_rfl) (by kernel_rfl) (fun _ _ _ h=>h) (Or.inl ⟨by rfl,?_⟩) hSd ?_
        rotate_left
        ·(intro wx hSw;obtain ⟨hSa,hSb⟩:=hSw;go_simp;try with_reducible rfl)
        (try simp only [yA,yB,yC])
        refine takeZ 6 88 ?_ rfl rfl (by kernel_rfl) (by kernel_rfl) (by kernel_rfl) (by kernel_rfl) (fun _ _ _ h=>h) (Or.inl ⟨by rfl,?_⟩) hSd ?_
        rotate_left
        ·(intro wx hSw;obtain ⟨hSa,hSb⟩:=hSw;go_simp;try with_reducible rfl)
        (try simp only [yA,yB,yC])
        have hzd:=HZ.out wd HBd.out;have hSa:=HSw.out _ (HBd.out.alloc hzd (Obj.cells #[.string y] 9)) (za2 (zgk HSd.out _) 2 rfl)
        refine zhh (i:=7) (by kernel_rfl) rfl (fun K hK=> ?_)
        go_simp
        refine hK.out _ _ (Or.inr hSa) ?_;clear hK K
        refine zhh (i:=8) (by kernel_rfl) rfl (fun K hK=> ?_)
        refine ziq HSd.out 1 rfl (Nat.le_refl _) hzd hzd rfl (.tmp 83) (.tmp 89) rfl rfl y rfl rfl hj5 ?_;intro b2 d2 w4 hs4 hb4;have HS4:=hide hs4;have HB4:=hide (HBd.out.trans hb4);have hS4:=HSw.out w4 HB4.out (za2 hs4 2 rfl);refine hK.out (Act.put _ (some 90) _) _ (Or.inr hS4) ?_;clear hK K
        simp only [Act.put,yA,yB,yC]
        refine takeZ 9 91 ?_ rfl rfl (by kernel_rfl) (by kernel_rfl) (by kernel_rfl) (by kernel_rfl) (fun _ _ _ h=>h) (Or.inl ⟨by rfl,?_⟩) hS4 ?_
        rotate_left
        ·(intro wx hSw;obtain ⟨hSa,hSb⟩:=hSw;go_simp;try with_reducible rfl)
        (try simp only [yA,yB,yC])
        have y1c:=(za0 (za2 HS4.out 2 rfl:w4.heap[g13]?=some (Obj.cells #[.bool true,.slice (some ⟨b1,0,none⟩) (j+1) d1,.slice x2 j c2,.slice none 0 0] 71)) 2).1;have z1c:=(za0 (za2 HS4.out 2 rfl:w4.heap[g13]?=some (Obj.cells #[.bool true,.slice (some ⟨b1,0,none⟩) (j+1) d1,.slice x2 j c2,.slice none 0 0] 71)) 2).2;have hs5:=zb6 HS4.out 2 rfl 2 (.slice (some ⟨b2,0,none⟩) (j+1) d2);have hb5:=HB4.out.setCell (p:=⟨g13,2,none⟩) (zcv HS4.out 2 rfl g13 rfl).1 (.slice (some ⟨b2,0,none⟩) (j+1) d2);obtain ⟨w2,hw5⟩:∃wx,wx=w4.setCell ⟨g13,2,none⟩ (.slice (some ⟨b2,0,none⟩) (j+1) d2):=⟨_,rfl⟩;rw [<-hw5] at hs5 hb5;have HS2:=hide hs5;have HB2:=hide hb5
        refine zhh (i:=10) (by kernel_rfl) rfl (fun K hK=> ?_)
        go_simp
        rw [<-hw5];refine hK.out _ _ (Or.inl rfl) ?_;clear hK K
        refine doneZ (by kernel_rfl) ?_ _
        clear hs4 hb4 hs5 hb5 hw5 y1c z1c hS4 hSa hSd hzd HSw HSd HBd HS4 HB4;go_wp2_with fail
        go_roundg (gk - 1)
        case measure=>have:=HQ2.out;omega
        case rel=>exact ⟨j+1,p+1,_,_,_,_,by omega,by have:=HQ2.out;omega,by go_num,hide (by have:=HPj.out;omega),hide (by rw [HT.out.1,HT.out.2];exact HS2.out),HB2⟩
       ·obtain rfl:j=m:=by omega
        have hcase:(¬(p:Int)<(n:Int))\/((p:Int)<(n:Int)/\¬(p:Int)<(o:Int)+4):=by have:=HO.out;have:=HPj.out;have:=HMl.out;omega
        have hj0:0<j:=by omega
        have HPut:=hide (fun wx h1 h2=>zdn (.agg os) st.1 (zhG HOk.out.2.2.2) (.agg #[.bool true,.slice x1 j c1,.slice x2 j c2,.slice none 0 0]) true K V [] (by rw [HKm.out.1];omega) (by rw [HKm.out.2];omega) (Nat.zero_le _) HPs.out.1 HPs.out.2 wx h1 h2)
        have HNA:Hid (NodeAt wr (.agg #[.bool true,.slice x1 j c1,.slice x2 j c2,.slice none 0 0]) true K V []):=hide (by
         have h:=zbi (zmM (lf:=true) (cs:= []) (zb3 (pre:= [_,_,_,_,_,_,_,_,_,_,_,_]) (rest:= []) (zc6 HS.out a0 3) [1,2,0] (by decide) [_,_,_] rfl))
         rw [List.take_of_length_le (by rw [HKm.out.1];exact Nat.le_refl _),List.take_of_length_le (by rw [HKm.out.2];exact Nat.le_refl _)] at h
         exact h)
        obtain ⟨d0,d1,d2,d3⟩:=blk4c (za2 HS.out 2 rfl:wr.heap[g13]?=some (Obj.cells #[.bool true,.slice x1 j c1,.slice x2 j c2,.slice none 0 0] 71));have HRd:Hid (wr.rangeAt g9 0 os.toList):=hide (zaj (za2 HS.out 6 rfl:wr.heap[g9]?=some (Obj.cells os 34)))
        have HOz:Hid ((Tryz.prog.info? 34).map (·.size)=some os.size):=hide (by rw [HOo.out.1];exact Tryz.sizeWorkB)
        rcases hcase with hc1 | ⟨hc1,hc2⟩
        all_goals
         go_wp2_with ((with_reducible refine zay ?_ 34 (.tmp 9) ?_ g9 0 ?_ os HRd.out _ Tryz.underlying34 ?_ ?_ ?_);exact rfl;exact rfl;exact rfl;exact rfl;exact HOz.out)
         refine (HPut.out wr (zap (za2 HS.out 3 rfl)) HNA.out).mono ?_;rintro e w3 ⟨v3,rfl,hown3,hb3⟩;obtain ⟨es,rfl,hes,heo⟩:=zeA hown3;obtain ⟨k2,hk2⟩:∃k2,k2=putK st.1 true K V []:=⟨_,rfl⟩;obtain ⟨pg,hpg⟩:∃p,p=putP st.1 true K V []:=⟨_,rfl⟩;rw [<-hk2] at hown3;rw [<-hpg];rw [<-hk2,<-hpg] at HYes;rw [<-hpg] at HNo;have hzr:=HZ.out wr HB.out
         have hs3:=zdf HS.out hb3 (workA a0 (.agg es) k2) (zaU hown3 hzr) (fun j hj=>zal hown3 j hj) hzr
         have HB3:Hid (Below a0 W w3):=hide (HB.out.trans (hb3.mono hzr));have hbr3:=HZ.out w3 HB3.out;have hs4:=zaq (zaB hs3 (Obj.cells #[.slice none 0 0,.slice none 0 0,.int .i64 0,.slice none 0 0,.slice none 0 0,.slice none 0 0] 34) hbr3) 0 rfl es hes
         have hth:Hid ((w3.alloc (Obj.cells #[.slice none 0 0,.slice none 0 0,.int .i64 0,.slice none 0 0,.slice none 0 0,.slice none 0 0] 34)).there w3.heap.size 0 es.size):=hide (by rw [hes];exact zav (heap_alloc_new w3 (Obj.cells #[.slice none 0 0,.slice none 0 0,.int .i64 0,.slice none 0 0,.slice none 0 0,.slice none 0 0] 34)) 0 6 (show 0+6<=6 by decide))
         obtain ⟨w4,hw4⟩:∃w4,w4=(w3.alloc (Obj.cells #[.slice none 0 0,.slice none 0 0,.int .i64 0,.slice none 0 0,.slice none 0 0,.slice none 0 0] 34)).setCells w3.heap.size 0 es.toList:=⟨_,rfl⟩
         have HB4:Hid (Below a0 W w4):=hide (by rw [hw4];exact zai hbr3 _ 0 _ (HB3.out.alloc hbr3 _))
         obtain ⟨g15,hg15⟩:∃g,g=w3.heap.size:=⟨_,rfl⟩;rw [<-hw4,<-hg15] at hs4;have HS4:=hide hs4;have HW4:=hide hw4.symm
         have HEs:Hid ((Tryz.prog.info? 34).map (·.size)=some es.size):=hide (by rw [hes];exact Tryz.sizeWorkB)
         have HEo:=hide heo;have HEz:=hide hes;clear hs3 hs4 hown3 hb3 hzr hbr3 hes heo hw4 hk2 hpg d0 d1 d2 d3 HPut HB3
         go_upto_region 22 with ((with_reducible refine zao ?_ 34 (.tmp 15) (.tmp 96) ?_ w3.heap.size 0 es ?_ ?_ hth.out ?_ ?_ HW4.out ?_);exact rfl;exact rfl;exact rfl;exact rfl;exact HEs.out;exact HEo.out)
         rw [<-hg15];clear hg15 hth HW4
         by_cases hpz:pg=0
         ·have HRes:Hid (bldS k L=(k,0,false)):=hide (zjT HAsc.out (by unfold bldO;rw [HRl.out,HNo.out hpz];rfl))
          subst hpz
          go_upto_region 23 with fail
          have HR7:Hid (w4.rangeAt g7 0 ss.toList):=hide (zaj (za2 HS4.out 10 rfl:w4.heap[g7]?=some (Obj.cells ss 34)))
          have hth:Hid (w4.there (a0+1) 0 ss.size):=hide (by rw [HSsz.out];exact zav (za2 HS4.out 11 rfl:w4.heap[a0+1]?=some (Obj.cells #[.slice none 0 0,.slice none 0 0,.int .i64 0,.slice none 0 0,.slice none 0 0,.slice none 0 0] 34)) 0 6 (show 0+6<=6 by decide))
          obtain ⟨wf,hwf⟩:∃wf,wf=w4.setCells (a0+1) 0 ss.toList:=⟨_,rfl⟩
          have hsf:=zaq HS4.out 11 rfl ss (by rw [HSsz.out];rfl)
          have hbf:=zai (Nat.le_add_right a0 1) ss.toList 0 w4 HB4.out;rw [<-hwf] at hsf hbf;have HSf:=hide hsf;have HBf:=hide hbf;have HWf:=hide hwf.symm;clear hsf hbf hwf
          go_wp2_with (first | ((with_reducible refine zay ?_ 34 (.tmp 7) ?_ g7 0 ?_ ss HR7.out _ Tryz.underlying34 ?_ ?_ ?_);exact rfl;exact rfl;exact rfl;exact rfl;exact HSs.out) | ((with_reducible refine zao ?_ 34 (.tmp 4) (.tmp 100) ?_ (a0+1) 0 ss ?_ ?_ hth.out ?_ ?_ HWf.out ?_);exact rfl;exact rfl;exact rfl;exact rfl;exact HSs.out;exact HSo.out))
          refine bodyPost_ret (v:= .tuple #[.agg ss,.int .i64 0,.bool false]) (zcm Tryz.results15 rfl rfl rfl (zcX (zaj (za2 HSf.out 11 rfl:wf.heap[a0+1]?=some (Obj.cells ss 34))) Tryz.underlying34 rfl HSs.out)) rfl ⟨.agg ss,?_,?_,HBf.out⟩
          ·rw [HRes.out]
          ·rw [HRes.out];exact za2 HSf.out 9 rfl
         ·have hpb:(pg ==0)=false:=by simp [hpz]
          obtain ⟨hR2,hOk2⟩:=HYes.out hpz;have HR2:=hide hR2;have HOk2:=hide hOk2;have HRd4:Hid (w4.rangeAt g15 0 es.toList):=hide (zaj (za2 HS4.out 0 rfl:w4.heap[g15]?=some (Obj.cells es 34)))
          have hth:Hid (w4.there g9 0 es.size):=hide (by rw [HEz.out];exact zav (za2 HS4.out 8 rfl:w4.heap[g9]?=some (Obj.cells os 34)) 0 6 (by rw [HOo.out.1];decide))
          have hs5:=zaq HS4.out 8 rfl es (by rw [HEz.out,HOo.out.1])
          have hb5:=zai (zcv HS4.out 8 rfl g9 rfl).1 es.toList 0 w4 HB4.out;obtain ⟨w5,hw5⟩:∃wx,wx=w4.setCells g9 0 es.toList:=⟨_,rfl⟩;rw [<-hw5] at hs5 hb5;have HS5:=hide hs5;have HB5:=hide hb5;have HW5:=hide hw5.symm;have HZ5:=hide (HZ.out w5 hb5);clear hs5 hb5 hw5 hR2 hOk2
          go_upto_region 25 with (first | ((with_reducible refine zay ?_ 34 (.tmp 15) ?_ g15 0 ?_ es HRd4.out _ Tryz.underlying34 ?_ ?_ ?_);exact rfl;exact rfl;exact rfl;exact rfl;exact HEs.out) | ((with_reducible refine zao ?_ 34 (.tmp 9) (.tmp 101) ?_ g9 0 es ?_ ?_ hth.out ?_ ?_ HW5.out ?_);exact rfl;exact rfl;exact rfl;exact rfl;exact HEs.out;exact HEo.out))
          clear hth HRd4 HW5 HS4 HB4;obtain ⟨d0,d1,d2,d3⟩:=blk4c (za2 HS5.out 4 rfl:w5.heap[g13]?=some (Obj.cells #[.bool true,.slice x1 j c1,.slice x2 j c2,.slice none 0 0] 71));have r1:RowAt w5 1 (.slice x1 j c1) j (strs (K.take j)):=zaa (za2 HS5.out 2 rfl);obtain ⟨bk,fk,hx1⟩:=zkG r1 hj0;obtain ⟨key,hkey⟩:∃s,s=K.getD 0 ⟨#[]⟩:=⟨_,rfl⟩
          rw [List.take_of_length_le (by rw [HKm.out.1];exact Nat.le_refl _)] at r1
          subst hx1;have e0:=zgn r1 (Below.refl _ _) 0 hj0 HKm.out.1.symm;rw [Nat.add_zero,<-hkey] at e0
          have hl0:(0:Int)<(j:Int):=by omega
          have HKy:=hide hkey
          have hi2:i<=3000000:=by omega
          clear r1 hkey hpb
          go_wp2_with (at_builtin;refine zgm HS5.out 6 rfl (Nat.le_refl _) HZ5.out HZ5.out rfl (.tmp 102) (.tmp 107) rfl rfl key rfl rfl hi2 ?_)
          intro b6 c6 w6 hs6 hb6;have HS6:=hide hs6;have HB6:=hide (HB5.out.trans hb6);have HZ6:=hide (HZ.out w6 HB6.out);clear hs6 hb6 d0 d1 d2 d3 e0
          go_wp2_with (at_builtin;refine zcl HS6.out 7 rfl (Nat.le_refl _) HZ6.out HZ6.out rfl (.tmp 109) (.tmp 111) rfl rfl pg rfl rfl hi2 ?_)
          intro b7 c7 w7 hs7 hb7
          have HS7:=hide (zb3 (pre:= [_,_,_,_,_,_,_,_,_,_,_,_,_]) (rest:= []) hs7 [1,6,7,8,9,10,11,12] (by decide) [_,_,_,_,_,_,_,_] rfl)
          have HB7:=hide (HB6.out.trans hb7);clear hs7 hb7;go_wp2_with fail
          go_roundg (gO - 1)
          case measure=>have:=HQ.out;omega
          case rel=>exact ⟨i+1,o+4,(k2,st.2.1++ [key],st.2.2++ [pg]),es,_,_,by omega,by have:=HQ.out;omega,by go_num,hide (by have:=HO.out;omega),rfl,rfl,hide ⟨HEz.out,HEo.out⟩,hide (by rw [HKy.out];exact HR2.out),hide (by rw [HKy.out];exact HOk2.out),HS7,HB7⟩
     ·obtain rfl:i=M:=by omega
      have hRs:R=some st:=by have h:=HR.out;rw [Nat.sub_self] at h;exact h
      obtain ⟨hfit,hlen⟩:=lvs_fit (fun p hp=>(HL.out p hp).1) (by rw [HN.out];exact hl) HK.out (by rw [HRl.out];exact hRs)
      rw [HN.out,HMe.out] at hlen;obtain ⟨T,hT⟩:∃T,lup 21 i=T:=⟨_,rfl⟩;obtain ⟨Rb,hRb⟩:∃Rb,its T st=Rb:=⟨_,rfl⟩
      have HRb:Hid (bldO k L=Rb):=hide (by unfold bldO;rw [HRl.out,hRs,<-hRb,<-hT,<-hlen];rfl)
      have HT0:Hid (Rb=its T st/\st.fit/\lup 21 i=T):=hide ⟨hRb.symm,hfit,hT⟩;have HM0:Hid (i=st.2.2.length/\os.size=6/\os.toList.all (·.oneCell')=true):=hide ⟨hlen.symm,HOo.out.1,HOo.out.2⟩;obtain ⟨x1,c1,rfl⟩:=za4 (za2 HS.out 1 rfl:wr.ownsRow a0 9 1 vk i (strs st.2.1));obtain ⟨x2,c2,rfl⟩:=za4 (za2 HS.out 2 rfl:wr.ownsRow a0 3 1 vc i (ints st.2.2))
      have h4n:¬(o:Int)<(n:Int):=by have:=HO.out;have:=(HMf.out i);omega
      clear hRs hfit hlen hT hRb HOo HR HOk HO HRl HMe HMf HC HQ;go_wp2_with fail
      go_loopg [10,11] T (fun q kv cv wr=>∃(st:Bst) (os:Array Value) (x1 x2:Option Addr) (m c1 c2:Nat),kv= .slice x1 m c1/\cv= .slice x2 m c2/\1<=m/\m<=262144/\Hid (m=st.2.2.length/\os.size=6/\os.toList.all (·.oneCell')=true)/\Hid (Rb=its q st/\st.fit/\lup 21 m=q)/\Hid (Sep a0 wr [workA a0 (.agg os) st.1,rowA a0 9 1 (.slice x1 m c1) m (strs st.2.1),rowA a0 3 1 (.slice x2 m c2) m (ints st.2.2),cellA g9 (Obj.cells os 34),workA a0 (.agg ss) k,cellA g7 (Obj.cells ss 34),cellA (a0+1) (Obj.cells #[.slice none 0 0,.slice none 0 0,.int .i64 0,.slice none 0 0,.slice none 0 0,.slice none 0 0] 34),cellA a0 (Obj.cells cs 34)])/\Hid (Below a0 W wr))
      case atStart=>exact ⟨st,os,x1,x2,i,c1,c2,rfl,rfl,hM1,hMl,HM0,HT0,HS,HB⟩
      case round=>
       clear HS HB HM0 HT0;obtain ⟨st,os,x1,x2,m,c1,c2,rfl,rfl,hm1,hml,HM,HF,HS,HB⟩:=hrel;have hk1:=zk4 (za2 HS.out 1 rfl:wr.ownsRow a0 9 1 (.slice x1 m c1) m (strs st.2.1));have hk2:=zk4 (za2 HS.out 2 rfl:wr.ownsRow a0 3 1 (.slice x2 m c2) m (ints st.2.2))
       obtain ⟨bk,rfl⟩:∃bk,x1=some ⟨bk,0,none⟩:=by
        rcases (za2 HS.out 1 rfl:wr.ownsRow a0 9 1 (.slice x1 m c1) m (strs st.2.1)).2 with ⟨e,h0⟩ | ⟨g,cc,cur,e,-⟩
        ·omega
        ·injection e with e;exact ⟨g,e⟩
       obtain ⟨bc,rfl⟩:∃bc,x2=some ⟨bc,0,none⟩:=by
        rcases (za2 HS.out 2 rfl:wr.ownsRow a0 3 1 (.slice x2 m c2) m (ints st.2.2)).2 with ⟨e,h0⟩ | ⟨g,cc,cur,e,-⟩
        ·omega
        ·injection e with e;exact ⟨g,e⟩
       by_cases hm2:1<m
       ·have hm2i:(1:Int)<(m:Int):=by omega
        obtain ⟨M2,hM2⟩:∃M2,fours m=M2:=⟨_,rfl⟩
        have HMf:Hid (∀i,4 * i<m↔i<M2):=hide (fun i=>by rw [<-hM2];exact zfQ)
        have hM2l:M2<=262144/\1<=M2:=by rw [<-hM2];unfold fours;omega
        obtain ⟨R2,hR2⟩:∃R2,mds st=R2:=⟨_,rfl⟩
        have HR20:Hid (R2=lvlR (mdN st.2.1 st.2.2) M2 0 (st.1,[],[])):=hide (by rw [<-hR2,<-hM2,HM.out.1];rfl)
        have HOk0:Hid (Bst.ok (st.1,[],[]) 0 M2):=hide (zeu (zhH HF.out.2.1.2.2.2 (by rw [<-hM2,<-HM.out.1];have:=zev hm2;omega)))
        have HNx:Hid (∀s2,R2=some s2->Rb=its (gk - 1) s2/\s2.fit/\s2.2.2.length=M2/\lup 21 M2=gk - 1/\0<gk):=hide (fun s2 h=>by
         obtain ⟨f1,f2,f3⟩:=HF.out
         have h4:=fit_up f2 (by rw [<-HM.out.1];exact hm2) (by rw [hR2];exact h)
         rw [<-HM.out.1,hM2] at h4
         rw [zlq hm2 (by omega),hM2] at f3
         refine ⟨?_,h4.1,h4.2,by omega,by omega⟩
         rw [f1,show gk=gk - 1+1 from by omega,its,hR2,h]
         rfl)
        have HNn:Hid (R2=none->bldO k L=none):=hide (fun h=>by
         obtain ⟨f1,f2,f3⟩:=HF.out
         rw [zlq hm2 (by omega),hM2] at f3
         rw [HRb.out,f1,show gk=gk - 1+1 from by omega,its,hR2,h]
         rfl)
        have HKl:Hid (st.2.1.length=m/\st.2.2.length=m/\∀s∈st.2.1,s.size<=1048576):=hide ⟨by rw [HM.out.1];exact HF.out.2.1.1,HM.out.1.symm,HF.out.2.1.2.2.1⟩
        have hzr:=HZ.out wr HB.out;have hs1:=zex (zaB HS.out (Obj.cells #[] 9) hzr)
        have hs2:=zex (zaB hs1 (Obj.cells #[] 3) (by simp;omega))
        rw [World.size_alloc] at hs2;obtain ⟨w2,hw2⟩:∃w2,w2=(wr.alloc (Obj.cells #[] 9)).alloc (Obj.cells #[] 3):=⟨_,rfl⟩
        have HB2:Hid (Below a0 W w2):=hide (by rw [hw2];exact (HB.out.alloc hzr _).alloc (by simp;omega) _)
        obtain ⟨g17,hg17⟩:∃g,g=wr.heap.size:=⟨_,rfl⟩;rw [<-hw2,<-hg17] at hs2
        have HS2:=hide (zb3 (pre:= [_,_,_,_,_,_,_,_,_,_]) (rest:= []) hs2 [2,1,0,5,3,4,6,7,8,9] (by decide) [_,_,_,_,_,_,_,_,_,_] rfl)
        have HO0:Hid (os.size=6/\os.toList.all (·.oneCell')=true):=hide HM.out.2;clear hs1 hs2 hzr hM2 hR2 HM HF
        go_upto_region 30 with fail
        rw [<-hw2,<-hg17];clear hw2 hg17 HS HB;go_wp2_with fail;obtain ⟨gO,rfl⟩:∃gO,gO=gk:=⟨gk,rfl⟩
        go_loopg [17,18,19] M2 (fun q kv cv iv wr=>∃(i o:Nat) (s2:Bst) (os:Array Value) (vk vc:Value),i<=M2/\q+i=M2/\iv= .int .i64 (o:Int)/\Hid (o=4 * i)/\vk=kv/\vc=cv/\Hid (os.size=6/\os.toList.all (·.oneCell')=true)/\Hid (R2=lvlR (mdN st.2.1 st.2.2) (M2 - i) i s2)/\Hid (s2.ok i (M2 - i))/\Hid (Sep a0 wr [workA a0 (.agg os) s2.1,rowA a0 9 1 vk i (strs s2.2.1),rowA a0 3 1 vc i (ints s2.2.2),cellA g9 (Obj.cells os 34),rowA a0 9 1 (.slice (some ⟨bk,0,none⟩) m c1) m (strs st.2.1),rowA a0 3 1 (.slice (some ⟨bc,0,none⟩) m c2) m (ints st.2.2),workA a0 (.agg ss) k,cellA g7 (Obj.cells ss 34),cellA (a0+1) (Obj.cells #[.slice none 0 0,.slice none 0 0,.int .i64 0,.slice none 0 0,.slice none 0 0,.slice none 0 0] 34),cellA a0 (Obj.cells cs 34)])/\Hid (Below a0 W wr))
        case atStart=>exact ⟨0,0,(st.1,[],[]),os,_,_,Nat.zero_le _,rfl,rfl,hide rfl,rfl,rfl,HO0,HR20,HOk0,HS2,HB2⟩
        case round=>
         clear HS2 HB2 HR20 HOk0 HO0;obtain ⟨i,o,s2,os,vk,vc,hiM2,hq2,rfl,HO,rfl,rfl,HOo,HR,HOk,HS,HB⟩:=hrel;have HQ2:=hide hq2;clear hq2
         by_cases hlt2:i<M2
         ·have h4:4 * i<m:=(HMf.out i).2 hlt2
          obtain ⟨f,hf⟩:∃f,f=min (o+4) m:=⟨_,rfl⟩;have ho4:=HO.out
          have hof:o<=f/\f<=m/\o<m/\o<f:=by omega
          have h4i:(o:Int)<(m:Int):=by omega
          have HFo:Hid (f - o=min 4 (m - 4 * i)/\o=4 * i):=hide ⟨by omega,ho4⟩
          have HNA:Hid (∀wx,Sep a0 wx [workA a0 (.agg os) s2.1,rowA a0 9 1 vk i (strs s2.2.1),rowA a0 3 1 vc i (ints s2.2.2),cellA g9 (Obj.cells os 34),rowA a0 9 1 (.slice (some ⟨bk,0,none⟩) m c1) m (strs st.2.1),rowA a0 3 1 (.slice (some ⟨bc,0,none⟩) m c2) m (ints st.2.2),workA a0 (.agg ss) k,cellA g7 (Obj.cells ss 34),cellA (a0+1) (Obj.cells #[.slice none 0 0,.slice none 0 0,.int .i64 0,.slice none 0 0,.slice none 0 0,.slice none 0 0] 34),cellA a0 (Obj.cells cs 34)]->NodeAt wx (.agg #[.bool false,.slice (some ⟨bk,o,none⟩) (f - o) (c1 - o),.slice none 0 0,.slice (some ⟨bc,o,none⟩) (f - o) (c2 - o)]) false (four st.2.1 i) [] (four st.2.2 i)):=hide (fun wx h=>by
           have q1:=zhe (c':=c1 - o) (zhf (c':=c1 - o) (zaa (za2 h 4 rfl:wx.ownsRow a0 9 1 (.slice (some ⟨bk,0,none⟩) m c1) m (strs st.2.1))) o (by omega)) (f - o) (by omega)
           have q2:=zhe (c':=c2 - o) (zhf (c':=c2 - o) (zaa (za2 h 5 rfl:wx.ownsRow a0 3 1 (.slice (some ⟨bc,0,none⟩) m c2) m (ints st.2.2))) o (by omega)) (f - o) (by omega)
           rw [Nat.zero_add,zlz,zly] at q1;rw [Nat.zero_add,zlB,zlA] at q2
           have e1:(st.2.1.drop o).take (f - o)=four st.2.1 i:=by rw [HFo.out.1,HFo.out.2,<-HKl.out.1];exact zk5 _ _
           have e2:(st.2.2.drop o).take (f - o)=four st.2.2 i:=by rw [HFo.out.1,HFo.out.2,<-HKl.out.2.1];exact zk5 _ _
           have l1:(four st.2.1 i).length=f - o:=by rw [zcu,HKl.out.1,HFo.out.1]
           have l2:(four st.2.2 i).length=f - o:=by rw [zcu,HKl.out.2.1,HFo.out.1]
           rw [e1] at q1;rw [e2] at q2
           exact ⟨_,_,_,rfl,by rw [l1];exact q1,⟨rfl,none,0,rfl,Or.inl rfl⟩,by rw [l2];exact q2⟩)
          obtain ⟨Kk,hKk⟩:∃x,four st.2.1 i=x:=⟨_,rfl⟩;obtain ⟨Cc,hCc⟩:∃x,four st.2.2 i=x:=⟨_,rfl⟩
          have HPs:Hid (Kk.length<=1048576/\Cc.length<=1048576/\∀s∈Kk,s.size<=1048576):=hide ⟨by rw [<-hKk,zcu];omega,by rw [<-hCc,zcu];omega,fun s hs=>by rw [<-hKk] at hs;exact HKl.out.2.2 s (zc2 hs)⟩
          have HNo:Hid (putP s2.1 false Kk [] Cc=0->R2=none):=hide (fun h=>by rw [HR.out];exact lvl_no (N:=mdN st.2.1 st.2.2) hlt2 rfl (by show putP s2.1 false (four st.2.1 i) [] (four st.2.2 i)=0;rw [hKk,hCc];exact h))
          have HYes:Hid (putP s2.1 false Kk [] Cc≠0->R2=lvlR (mdN st.2.1 st.2.2) (M2 - (i+1)) (i+1) (putK s2.1 false Kk [] Cc,s2.2.1++ [Kk.getD 0 ⟨#[]⟩],s2.2.2++ [putP s2.1 false Kk [] Cc])/\Bst.ok (putK s2.1 false Kk [] Cc,s2.2.1++ [Kk.getD 0 ⟨#[]⟩],s2.2.2++ [putP s2.1 false Kk [] Cc]) (i+1) (M2 - (i+1))):=hide (fun h=>⟨by
           rw [HR.out,<-hKk,<-hCc]
           exact zlI (N:=mdN st.2.1 st.2.2) hlt2 rfl (by show putP s2.1 false (four st.2.1 i) [] (four st.2.2 i)≠0;rw [hKk,hCc];exact h),zlJ (by rw [show M2 - (i+1)+1=M2 - i from by omega];exact HOk.out) HPs.out.2.2 h⟩)
          obtain ⟨key,hkey⟩:∃s,s=Kk.getD 0 ⟨#[]⟩:=⟨_,rfl⟩
          have HKc:Hid (∀wx:World,wx.ownsRow a0 9 1 (.slice (some ⟨bk,0,none⟩) m c1) m (strs st.2.1)->wx.cell? ⟨bk,o,none⟩=some (.string key)):=hide (fun wx h=>by
           have h1:=zgn (zaa h) (Below.refl _ _) o (by omega) HKl.out.1.symm
           rw [Nat.zero_add] at h1
           rw [h1,hkey,<-hKk,zij,HFo.out.2])
          rw [hKk,hCc] at HNA
          have HPut:=hide (fun u wx h1 h2=>zdn (.agg os) s2.1 (zhG HOk.out.2.2.2) u false Kk [] Cc HPs.out.1 (Nat.zero_le _) HPs.out.2.1 HPs.out.2.2 (fun s hs=>by cases hs) wx h1 h2)
          have HKy:=hide hkey
          have hcase:((m:Int)<(o:Int)+4/\f=m)\/(¬(m:Int)<(o:Int)+4/\(o:Int)+4=(f:Int)):=by omega
          have HOz:Hid ((Tryz.prog.info? 34).map (·.size)=some os.size):=hide (by rw [HOo.out.1];exact Tryz.sizeWorkB)
          clear hKk hCc hkey hf HR ho4
          rcases hcase with ⟨hc1,hc2⟩ | ⟨hc1,hc2⟩
          rotate_left;have HC2:=hide hc2;clear hc2;go_wp2_with fail;rw [HC2.out];clear HC2;rotate_left;subst hc2;go_wp2_with fail
          all_goals
           obtain ⟨wd,hwd⟩:∃wd,wd=wr.drew:=⟨_,rfl⟩;have HSd:=hide (zcw HS.out);have HBd:=hide HB.out.drew;rw [<-hwd] at HSd HBd
           have hSd:(fun wx=>wx.heap[g9]?=some (Obj.cells os 34)) wd:=za2 HSd.out 3 rfl
           obtain ⟨of1,of2,of3,of4⟩:=hof
           have of5:f<=c1:=by omega
           have of6:f<=c2:=by omega
           have hne1:c1≠o:=by omega
           have hne2:c2≠o:=by omega
           have hzd:=HZ.out wd HBd.out
           refine wp_region_held_drew (S:=fun wx=>wx.heap[g9]?=some (Obj.cells os 34)) (by kernel_rfl) (by rw [<-hwd];exact hSd) (fun _=> ?_)
           rw [<-hwd];clear hwd
           refine takeW 0 133 (.agg os) rfl rfl (by kernel_rfl) (by kernel_rfl) (by kernel_rfl) (fun _ _ _ h=>h) (zbT (by rfl) 34 (.tmp 9) rfl g9 0 rfl os _ (fun _ h=>zaj h) Tryz.underlying34 rfl HOz.out) hSd ?_
           simp only [yA,yB,yC]
           refine tK 1 134 ?_ rfl rfl (by kernel_rfl) (fun _ _ _ h=>h) ⟨by rfl,?_⟩ hSd ?_
           rotate_left
           ·(intro wx hSw;(try dsimp only at hSw);go_simp;try with_reducible rfl)
           (try simp only [yA,yB,yC])
           refine tK 2 135 ?_ rfl rfl (by kernel_rfl) (fun _ _ _ h=>h) ⟨by rfl,?_⟩ hSd ?_
           rotate_left
           ·(intro wx hSw;(try dsimp only at hSw);go_simp;try with_reducible rfl)
           (try simp only [yA,yB,yC])
           refine tK 3 136 ?_ rfl rfl (by kernel_rfl) (fun _ _ _ h=>h) ⟨by rfl,?_⟩ hSd ?_
           rotate_left
           ·(intro wx hSw;(try dsimp only at hSw);go_simp;try with_reducible rfl)
           (try simp only [yA,yB,yC])
           refine takeW 4 137 (.slice (some ⟨bk,o,none⟩) (f - o) (c1 - o)) rfl rfl (by kernel_rfl) (by kernel_rfl) (by kernel_rfl) (fun _ _ _ h=>h) (Or.inl ⟨by rfl,?_⟩) hSd ?_
           ·(intro wx hSw;(try dsimp only at hSw);go_simp)
           (try simp only [yA,yB,yC])
           refine tK 5 138 ?_ rfl rfl (by kernel_rfl) (fun _ _ _ h=>h) ⟨by rfl,?_⟩ hSd ?_
           rotate_left
           ·(intro wx hSw;(try dsimp only at hSw);go_simp;try with_reducible rfl)
           (try simp only [yA,yB,yC])
           refine tK 6 139 ?_ rfl rfl (by kernel_rfl) (fun _ _ _ h=>h) ⟨by rfl,?_⟩ hSd ?_
           rotate_left
           ·(intro wx hSw;(try dsimp only at hSw);go_simp;try with_reducible rfl)
           (try simp only [yA,yB,yC])
           refine tK 7 140 ?_ rfl rfl (by kernel_rfl) (fun _ _ _ h=>h) ⟨by rfl,?_⟩ hSd ?_
           rotate_left
           ·(intro wx hSw;(try dsimp only at hSw);go_simp;try with_reducible rfl)
           (try simp only [yA,yB,yC])
           refine takeW 8 141 (.slice (some ⟨bc,o,none⟩) (f - o) (c2 - o)) rfl rfl (by kernel_rfl) (by kernel_rfl) (by kernel_rfl) (fun _ _ _ h=>h) (Or.inl ⟨by rfl,?_⟩) hSd ?_
           ·(intro wx hSw;(try dsimp only at hSw);go_simp)
           (try simp only [yA,yB,yC])
           refine tK 9 142 ?_ rfl rfl (by kernel_rfl) (fun _ _ _ h=>h) ⟨by rfl,?_⟩ hSd ?_
           rotate_left
           ·(intro wx hSw;(try dsimp only at hSw);go_simp;try with_reducible rfl)
           (try simp only [yA,yB,yC])
           refine wpAnyH_ready (rs:= [10,14]) (by kernel_rfl) (by simp) ?_
           refine AllReadyH.cons rfl (fun K hK=> ?_) (AllReadyH.cons rfl (fun K hK=> ?_) AllReadyH.nil)
           refine zbz wd ?_ 32 Tryz.f32 Tryz.func32 ?_ ?_ (.tmp 133) (.tmp 142) #[34,71] ?_ (.agg os) (.agg #[.bool false,.slice (some ⟨bk,o,none⟩) (f - o) (c1 - o),.slice none 0 0,.slice (some ⟨bc,o,none⟩) (f - o) (c2 - o)]) ?_ ?_ _ (HPut.out _ wd (zap (za2 (HSd.out) 0 rfl)) (HNA.out wd (HSd.out))) ?_
           ·exact rfl
           ·decide
           ·exact Option.some_ne_none _
           ·exact rfl
           ·exact rfl
           ·exact rfl
           rintro e w3 ⟨v3,rfl,hown3,hb3⟩;obtain ⟨es,rfl,hes,heo⟩:=zeA hown3;obtain ⟨k2,hk2⟩:∃k2,k2=putK s2.1 false Kk [] Cc:=⟨_,rfl⟩;obtain ⟨pg,hpg⟩:∃p,p=putP s2.1 false Kk [] Cc:=⟨_,rfl⟩;rw [<-hk2] at hown3;rw [<-hpg];rw [<-hk2,<-hpg] at HYes;rw [<-hpg] at HNo;clear hk2 hpg;refine ⟨_,rfl,?_⟩
           have hs3:=zdf HSd.out hb3 (workA a0 (.agg es) k2) (zaU hown3 hzd) (fun j hj=>zal hown3 j hj) hzd
           have HB3:Hid (Below a0 W w3):=hide (HBd.out.trans (hb3.mono hzd));have hz3:=HZ.out w3 HB3.out
           have hS3:(fun wx=>wx.heap[g9]?=some (Obj.cells os 34)) w3:=za2 hs3 4 rfl
           refine hK.out (Act.put _ (some 143) _) _ hS3 (fun _=> ?_)
           clear hK K
           simp only [Act.put,yA,yB,yC]
           refine tK 11 132 ?_ rfl rfl (by kernel_rfl) (fun _ _ _ h=>h) ⟨by rfl,?_⟩ hS3 ?_
           rotate_left
           ·(intro wx hSw;(try dsimp only at hSw);go_simp;try with_reducible rfl)
           (try simp only [yA,yB,yC])
           refine tK 12 144 ?_ rfl rfl (by kernel_rfl) (fun _ _ _ h=>h) ⟨by rfl,?_⟩ hS3 ?_
           rotate_left
           ·(intro wx hSw;(try dsimp only at hSw);go_simp;try with_reducible rfl)
           (try simp only [yA,yB,yC])
           refine tK 13 145 ?_ rfl rfl (by kernel_rfl) (fun _ _ _ h=>h) ⟨by rfl,?_⟩ hS3 ?_
           rotate_left
           ·(intro wx hSw;(try dsimp only at hSw);go_simp;try with_reducible rfl)
           (try simp only [yA,yB,yC])
           have hs4a:=zaB hs3 (Obj.cells #[.slice none 0 0,.slice none 0 0,.int .i64 0,.slice none 0 0,.slice none 0 0,.slice none 0 0] 34) hz3
           have hS4a:(fun wx=>wx.heap[g9]?=some (Obj.cells os 34)) (w3.alloc (Obj.cells #[.slice none 0 0,.slice none 0 0,.int .i64 0,.slice none 0 0,.slice none 0 0,.slice none 0 0] 34)):=za2 hs4a 5 rfl
           refine wpAnyH_ready (rs:= [14]) (by kernel_rfl) (by simp) ?_
           refine AllReadyH.cons rfl (fun K hK=> ?_) AllReadyH.nil
           go_simp
           refine hK.out _ _ hS4a (fun _=> ?_)
           clear hK K
           have HEs:Hid ((Tryz.prog.info? 34).map (·.size)=some es.size):=hide (by rw [hes];exact Tryz.sizeWorkB)
           have HEo:=hide heo;have HEz:=hide hes;have hs4:=zaq hs4a 0 rfl es hes
           have hth:(w3.alloc (Obj.cells #[.slice none 0 0,.slice none 0 0,.int .i64 0,.slice none 0 0,.slice none 0 0,.slice none 0 0] 34)).there w3.heap.size 0 es.size:=by rw [hes];exact zav (heap_alloc_new w3 (Obj.cells #[.slice none 0 0,.slice none 0 0,.int .i64 0,.slice none 0 0,.slice none 0 0,.slice none 0 0] 34)) 0 6 (show 0+6<=6 by decide)
           obtain ⟨w4,hw4⟩:∃w4,w4=(w3.alloc (Obj.cells #[.slice none 0 0,.slice none 0 0,.int .i64 0,.slice none 0 0,.slice none 0 0,.slice none 0 0] 34)).setCells w3.heap.size 0 es.toList:=⟨_,rfl⟩
           have HB4:Hid (Below a0 W w4):=hide (by rw [hw4];exact zai hz3 _ 0 _ (HB3.out.alloc hz3 _))
           obtain ⟨g21,hg21⟩:∃g,g=w3.heap.size:=⟨_,rfl⟩;rw [<-hw4,<-hg21] at hs4;have HS4:=hide hs4;have HW4:=hide hw4.symm
           have hS4:(fun wx=>wx.heap[g9]?=some (Obj.cells os 34)) w4:=za2 HS4.out 5 rfl
           clear hs4 hs4a hw4
           refine wpAnyH_ready (rs:= [15]) (by kernel_rfl) (by simp) ?_
           refine AllReadyH.cons rfl (fun K hK=> ?_) AllReadyH.nil
           refine zb0 ?_ 34 (.tmp 21) (.tmp 144) ?_ w3.heap.size 0 es ?_ ?_ hth ?_ ?_ HW4.out ?_
           ·exact rfl
           ·exact rfl
           ·exact rfl
           ·exact rfl
           ·exact HEs.out
           ·exact HEo.out
           refine hK.out (Act.put _ none _) _ hS4 (fun _=> ?_)
           clear hK K
           simp only [Act.put]
           refine tK 16 22 ?_ rfl rfl (by kernel_rfl) (fun _ _ _ h=>h) ⟨by rfl,?_⟩ hS4 ?_
           rotate_left
           ·(intro wx hSw;(try dsimp only at hSw);go_simp;try with_reducible rfl)
           (try simp only [yA,yB,yC])
           refine wpAnyH_done (by kernel_rfl) ?_ _
           rw [<-hg21];clear hg21 hth HW4 hs3 hown3 hb3 hes heo HB3 hz3;rotate_left;have hsa:=zaB HSd.out (Obj.cells #[.slice none 0 0,.slice none 0 0,.int .i64 0,.slice none 0 0,.slice none 0 0,.slice none 0 0] 34) hzd
           have hSa:(fun wx=>wx.heap[g9]?=some (Obj.cells os 34)) (wd.alloc (Obj.cells #[.slice none 0 0,.slice none 0 0,.int .i64 0,.slice none 0 0,.slice none 0 0,.slice none 0 0] 34)):=za2 hsa 4 rfl
           have hBa:=HBd.out.alloc hzd (Obj.cells #[.slice none 0 0,.slice none 0 0,.int .i64 0,.slice none 0 0,.slice none 0 0,.slice none 0 0] 34);obtain ⟨wa,hwa⟩:∃wx,wx=wd.alloc (Obj.cells #[.slice none 0 0,.slice none 0 0,.int .i64 0,.slice none 0 0,.slice none 0 0,.slice none 0 0] 34):=⟨_,rfl⟩;obtain ⟨g21,hg21⟩:∃g,g=wd.heap.size:=⟨_,rfl⟩;rw [<-hwa] at hsa hSa hBa;rw [<-hg21] at hsa;have hza:=HZ.out wa hBa
           go_simp
           rw [<-hwa,<-hg21]
           refine hK.out _ _ hSa (fun _=> ?_)
           clear hK K hwa hg21
           refine wpAnyH_ready (rs:= [10]) (by kernel_rfl) (by simp) ?_
           refine AllReadyH.cons rfl (fun K hK=> ?_) AllReadyH.nil
           refine zbz wa ?_ 32 Tryz.f32 Tryz.func32 ?_ ?_ (.tmp 133) (.tmp 142) #[34,71] ?_ (.agg os) (.agg #[.bool false,.slice (some ⟨bk,o,none⟩) (f - o) (c1 - o),.slice none 0 0,.slice (some ⟨bc,o,none⟩) (f - o) (c2 - o)]) ?_ ?_ _ (HPut.out _ wa (zap (za2 (zlu hsa) 0 rfl)) (HNA.out wa (zlu hsa))) ?_
           ·exact rfl
           ·decide
           ·exact Option.some_ne_none _
           ·exact rfl
           ·exact rfl
           ·exact rfl
           rintro e w3 ⟨v3,rfl,hown3,hb3⟩;obtain ⟨es,rfl,hes,heo⟩:=zeA hown3;obtain ⟨k2,hk2⟩:∃k2,k2=putK s2.1 false Kk [] Cc:=⟨_,rfl⟩;obtain ⟨pg,hpg⟩:∃p,p=putP s2.1 false Kk [] Cc:=⟨_,rfl⟩;rw [<-hk2] at hown3;rw [<-hpg];rw [<-hk2,<-hpg] at HYes;rw [<-hpg] at HNo;clear hk2 hpg;refine ⟨_,rfl,?_⟩
           have hs3:=zdf hsa hb3 (workA a0 (.agg es) k2) (zaU hown3 hza) (fun j hj=>zal hown3 j hj) hza
           have HB3:Hid (Below a0 W w3):=hide (hBa.trans (hb3.mono hza))
           have hS3:(fun wx=>wx.heap[g9]?=some (Obj.cells os 34)) w3:=za2 hs3 5 rfl
           refine hK.out (Act.put _ (some 143) _) _ hS3 (fun _=> ?_)
           clear hK K
           simp only [Act.put,yA,yB,yC]
           refine tK 11 132 ?_ rfl rfl (by kernel_rfl) (fun _ _ _ h=>h) ⟨by rfl,?_⟩ hS3 ?_
           rotate_left
           ·(intro wx hSw;(try dsimp only at hSw);go_simp;try with_reducible rfl)
           (try simp only [yA,yB,yC])
           refine tK 12 144 ?_ rfl rfl (by kernel_rfl) (fun _ _ _ h=>h) ⟨by rfl,?_⟩ hS3 ?_
           rotate_left
           ·(intro wx hSw;(try dsimp only at hSw);go_simp;try with_reducible rfl)
           (try simp only [yA,yB,yC])
           refine tK 13 145 ?_ rfl rfl (by kernel_rfl) (fun _ _ _ h=>h) ⟨by rfl,?_⟩ hS3 ?_
           rotate_left
           ·(intro wx hSw;(try dsimp only at hSw);go_simp;try with_reducible rfl)
           (try simp only [yA,yB,yC])
           have HEs:Hid ((Tryz.prog.info? 34).map (·.size)=some es.size):=hide (by rw [hes];exact Tryz.sizeWorkB)
           have HEo:=hide heo;have HEz:=hide hes;have hs4:=zk2 (zaq hs3 1 rfl es hes)
           have hth:w3.there g21 0 es.size:=by rw [hes];exact zav (za2 hs3 1 rfl:w3.heap[g21]?=some (Obj.cells #[.slice none 0 0,.slice none 0 0,.int .i64 0,.slice none 0 0,.slice none 0 0,.slice none 0 0] 34)) 0 6 (show 0+6<=6 by decide)
           obtain ⟨w4,hw4⟩:∃w4,w4=w3.setCells g21 0 es.toList:=⟨_,rfl⟩
           have HB4:Hid (Below a0 W w4):=hide (by rw [hw4];exact zai (zcv hs3 1 rfl g21 rfl).1 _ 0 _ HB3.out)
           rw [<-hw4] at hs4;have HS4:=hide hs4;have HW4:=hide hw4.symm
           have hS4:(fun wx=>wx.heap[g9]?=some (Obj.cells os 34)) w4:=za2 HS4.out 5 rfl
           clear hs4 hw4
           refine wpAnyH_ready (rs:= [15]) (by kernel_rfl) (by simp) ?_
           refine AllReadyH.cons rfl (fun K hK=> ?_) AllReadyH.nil
           refine zb0 ?_ 34 (.tmp 21) (.tmp 144) ?_ g21 0 es ?_ ?_ hth ?_ ?_ HW4.out ?_
           ·exact rfl
           ·exact rfl
           ·exact rfl
           ·exact rfl
           ·exact HEs.out
           ·exact HEo.out
           refine hK.out (Act.put _ none _) _ hS4 (fun _=> ?_)
           clear hK K
           simp only [Act.put]
           refine tK 16 22 ?_ rfl rfl (by kernel_rfl) (fun _ _ _ h=>h) ⟨by rfl,?_⟩ hS4 ?_
           rotate_left
           ·(intro wx hSw;(try dsimp only at hSw);go_simp;try with_reducible rfl)
           (try simp only [yA,yB,yC])
           refine wpAnyH_done (by kernel_rfl) ?_ _
           clear hth HW4 hs3 hown3 hb3 hes heo HB3 hsa hSa hBa hza
           all_goals
            clear HSd HBd hSd hzd HNA HPut of1 of2 of4 of5 of6 hne1 hne2
            by_cases hpz:pg=0
            ·have HRes:Hid (bldS k L=(k,0,false)):=hide (zjT HAsc.out (HNn.out (HNo.out hpz)))
             subst hpz
             go_upto_region 38 with fail
             have HR7:Hid (w4.rangeAt g7 0 ss.toList):=hide (zaj (za2 HS4.out 9 rfl:w4.heap[g7]?=some (Obj.cells ss 34)))
             have hth:Hid (w4.there (a0+1) 0 ss.size):=hide (by rw [HSsz.out];exact zav (za2 HS4.out 10 rfl:w4.heap[a0+1]?=some (Obj.cells #[.slice none 0 0,.slice none 0 0,.int .i64 0,.slice none 0 0,.slice none 0 0,.slice none 0 0] 34)) 0 6 (show 0+6<=6 by decide))
             obtain ⟨wf,hwf⟩:∃wf,wf=w4.setCells (a0+1) 0 ss.toList:=⟨_,rfl⟩
             have hsf:=zaq HS4.out 10 rfl ss (by rw [HSsz.out];rfl)
             have hbf:=zai (Nat.le_add_right a0 1) ss.toList 0 w4 HB4.out;rw [<-hwf] at hsf hbf;have HSf:=hide hsf;have HBf:=hide hbf;have HWf:=hide hwf.symm;clear hsf hbf hwf
             go_wp2_with (first | ((with_reducible refine zay ?_ 34 (.tmp 7) ?_ g7 0 ?_ ss HR7.out _ Tryz.underlying34 ?_ ?_ ?_);exact rfl;exact rfl;exact rfl;exact rfl;exact HSs.out) | ((with_reducible refine zao ?_ 34 (.tmp 4) (.tmp 148) ?_ (a0+1) 0 ss ?_ ?_ hth.out ?_ ?_ HWf.out ?_);exact rfl;exact rfl;exact rfl;exact rfl;exact HSs.out;exact HSo.out))
             refine bodyPost_ret (v:= .tuple #[.agg ss,.int .i64 0,.bool false]) (zcm Tryz.results15 rfl rfl rfl (zcX (zaj (za2 HSf.out 10 rfl:wf.heap[a0+1]?=some (Obj.cells ss 34))) Tryz.underlying34 rfl HSs.out)) rfl ⟨.agg ss,?_,?_,HBf.out⟩
             ·rw [HRes.out]
             ·rw [HRes.out];exact za2 HSf.out 8 rfl
            ·have hpb:(pg ==0)=false:=by simp [hpz]
             obtain ⟨hR2,hOk2⟩:=HYes.out hpz;have HR2:=hide hR2;have HOk2:=hide hOk2;have HRd4:Hid (w4.rangeAt g21 0 es.toList):=hide (zaj (za2 HS4.out 0 rfl:w4.heap[g21]?=some (Obj.cells es 34)))
             have hth:Hid (w4.there g9 0 es.size):=hide (by rw [HEz.out];exact zav (za2 HS4.out 5 rfl:w4.heap[g9]?=some (Obj.cells os 34)) 0 6 (by rw [HOo.out.1];decide))
             have hs5:=zaq HS4.out 5 rfl es (by rw [HEz.out,HOo.out.1])
             have hb5:=zai (zcv HS4.out 5 rfl g9 rfl).1 es.toList 0 w4 HB4.out;obtain ⟨w5,hw5⟩:∃wx,wx=w4.setCells g9 0 es.toList:=⟨_,rfl⟩;rw [<-hw5] at hs5 hb5;have HS5:=hide hs5;have HB5:=hide hb5;have HW5:=hide hw5.symm;have HZ5:=hide (HZ.out w5 hb5);have e0:=HKc.out w5 (za2 hs5 6 rfl);clear hs5 hb5 hw5 hR2 hOk2
             have hi2:i<=3000000:=by omega
             go_upto_region 40 with (first | ((with_reducible refine zay ?_ 34 (.tmp 21) ?_ g21 0 ?_ es HRd4.out _ Tryz.underlying34 ?_ ?_ ?_);exact rfl;exact rfl;exact rfl;exact rfl;exact HEs.out) | ((with_reducible refine zao ?_ 34 (.tmp 9) (.tmp 149) ?_ g9 0 es ?_ ?_ hth.out ?_ ?_ HW5.out ?_);exact rfl;exact rfl;exact rfl;exact rfl;exact HEs.out;exact HEo.out))
             clear hth HRd4 HW5 HS4 HB4 hpb
             go_wp2_with (at_builtin;refine zgm HS5.out 3 rfl (Nat.le_refl _) HZ5.out HZ5.out rfl (.tmp 150) (.tmp 155) rfl rfl key rfl rfl hi2 ?_)
             intro b6 c6 w6 hs6 hb6;have HS6:=hide hs6;have HB6:=hide (HB5.out.trans hb6);have HZ6:=hide (HZ.out w6 HB6.out);clear hs6 hb6 e0
             go_wp2_with (at_builtin;refine zcl HS6.out 4 rfl (Nat.le_refl _) HZ6.out HZ6.out rfl (.tmp 157) (.tmp 159) rfl rfl pg rfl rfl hi2 ?_)
             intro b7 c7 w7 hs7 hb7
             have HS7:=hide (zb3 (pre:= [_,_,_,_,_,_,_,_,_,_,_,_]) (rest:= []) hs7 [1,3,4,5,6,7,8,9,10,11] (by decide) [_,_,_,_,_,_,_,_,_,_] rfl)
             have HB7:=hide (HB6.out.trans hb7);clear hs7 hb7;go_wp2_with fail
             go_roundg (gk - 1)
             case measure=>have:=HQ2.out;omega
             case rel=>exact ⟨i+1,o+4,(k2,s2.2.1++ [key],s2.2.2++ [pg]),es,_,_,by omega,by have:=HQ2.out;omega,by go_num,hide (by have:=HO.out;omega),rfl,rfl,hide ⟨HEz.out,HEo.out⟩,hide (by rw [HKy.out];exact HR2.out),hide (by rw [HKy.out];exact HOk2.out),HS7,HB7⟩
         ·obtain rfl:i=M2:=by omega
          have hRs:R2=some s2:=by have h:=HR.out;rw [Nat.sub_self] at h;exact h
          obtain ⟨n1,n2,n3,n4,n5⟩:=HNx.out s2 hRs;obtain ⟨x3,c3,rfl⟩:=za4 (za2 HS.out 1 rfl:wr.ownsRow a0 9 1 vk i (strs s2.2.1));obtain ⟨x4,c4,rfl⟩:=za4 (za2 HS.out 2 rfl:wr.ownsRow a0 3 1 vc i (ints s2.2.2))
          have h4n:¬(o:Int)<(m:Int):=by have:=HO.out;have:=(HMf.out i);omega
          have HS5:=hide (zb3 (pre:= [_,_,_,_,_,_,_,_,_,_]) (rest:= []) HS.out [0,1,2,3,6,7,8,9] (by decide) [_,_,_,_,_,_,_,_] rfl)
          have HNn2:=hide (⟨n1,n2,n4⟩:_/\_/\_);have HM2:Hid (i=s2.2.2.length/\os.size=6/\os.toList.all (·.oneCell')=true):=hide ⟨n3.symm,HOo.out.1,HOo.out.2⟩;clear hRs n1 n2 n3 n4 HR HOk HNx HNn;go_wp2_with fail
          go_roundg (gO - 1)
          case measure=>omega
          case rel=>exact ⟨s2,os,x3,x4,i,c3,c4,rfl,rfl,hM2l.2,hM2l.1,HM2,HNn2,HS5,HB⟩
       ·obtain rfl:m=1:=by omega
        obtain ⟨f1,f2,f3⟩:=HF.out;rw [zgh (Nat.le_refl 1)] at f3;obtain ⟨pg,hpg⟩:∃p,p=st.2.2.getD 0 0:=⟨_,rfl⟩
        have HRes:Hid (bldS k L=(st.1,pg,true)):=hide (by rw [hpg];exact zfR HAsc.out (by rw [HRb.out,f1,<-f3];rfl))
        have HPc:Hid (∀wx:World,wx.ownsRow a0 3 1 (.slice (some ⟨bc,0,none⟩) 1 c2) 1 (ints st.2.2)->wx.cell? ⟨bc,0,none⟩=some (.int .i64 pg)):=hide (fun wx h=>by
         have h1:=zkH (zaa h) (Below.refl _ _) 0 (by omega) HM.out.1
         rw [hpg]
         exact h1)
        have HOz:Hid ((Tryz.prog.info? 34).map (·.size)=some os.size):=hide (by rw [HM.out.2.1];exact Tryz.sizeWorkB)
        have HOone:=hide HM.out.2.2;clear f1 f2 f3 hpg;go_wp2_with fail;obtain ⟨wd,hwd⟩:∃wd,wd=wr.drew:=⟨_,rfl⟩;have HSd:=hide (zcw HS.out);have HBd:=hide HB.out.drew;rw [<-hwd] at HSd HBd
        have hSd:(fun wx=>wx.heap[g9]?=some (Obj.cells os 34)/\wx.cell? ⟨bc,0,none⟩=some (.int .i64 pg)) wd:=⟨za2 HSd.out 3 rfl,HPc.out wd (za2 HSd.out 2 rfl)⟩
        have hth:wd.there (a0+1) 0 os.size:=by rw [HM.out.2.1];exact zav (za2 HSd.out 6 rfl:wd.heap[a0+1]?=some (Obj.cells #[.slice none 0 0,.slice none 0 0,.int .i64 0,.slice none 0 0,.slice none 0 0,.slice none 0 0] 34)) 0 6 (show 0+6<=6 by decide)
        have hsf:=zaq HSd.out 6 rfl os (by rw [HM.out.2.1];rfl)
        have hbf:=zai (Nat.le_add_right a0 1) os.toList 0 wd HBd.out;obtain ⟨we,hwe⟩:∃we,we=wd.setCells (a0+1) 0 os.toList:=⟨_,rfl⟩;rw [<-hwe] at hsf hbf;have HSf:=hide hsf;have HBf:=hide hbf;have HWe:=hide hwe.symm
        have hSe:(fun wx=>wx.heap[g9]?=some (Obj.cells os 34)/\wx.cell? ⟨bc,0,none⟩=some (.int .i64 pg)) we:=⟨za2 HSf.out 3 rfl,HPc.out we (za2 HSf.out 2 rfl)⟩
        refine wp_region_held_drew (S:=fun wx=>wx.heap[g9]?=some (Obj.cells os 34)/\wx.cell? ⟨bc,0,none⟩=some (.int .i64 pg)) (by kernel_rfl) (by rw [<-hwd];exact hSd) (fun _=> ?_)
        rw [<-hwd];clear hwd hwe hsf hbf
        refine takeW 0 163 (.agg os) rfl rfl (by kernel_rfl) (by kernel_rfl) (by kernel_rfl) (fun _ _ _ h=>h) (zbT (by rfl) 34 (.tmp 9) rfl g9 0 rfl os _ (fun _ h=>zaj h.1) Tryz.underlying34 rfl HOz.out) hSd ?_
        simp only [yA,yB,yC]
        refine tK 1 164 ?_ rfl rfl (by kernel_rfl) (fun _ _ _ h=>h) ⟨by rfl,?_⟩ hSd ?_
        rotate_left
        ·(intro wx hSw;(try dsimp only at hSw);obtain ⟨hSa,hSb⟩:=hSw;go_simp;try with_reducible rfl)
        (try simp only [yA,yB,yC])
        refine tK 2 165 ?_ rfl rfl (by kernel_rfl) (fun _ _ _ h=>h) ⟨by rfl,?_⟩ hSd ?_
        rotate_left
        ·(intro wx hSw;(try dsimp only at hSw);obtain ⟨hSa,hSb⟩:=hSw;go_simp;try with_reducible rfl)
        (try simp only [yA,yB,yC])
        refine tK 3 166 ?_ rfl rfl (by kernel_rfl) (fun _ _ _ h=>h) ⟨by rfl,?_⟩ hSd ?_
        rotate_left
        ·(intro wx hSw;(try dsimp only at hSw);obtain ⟨hSa,hSb⟩:=hSw;go_simp;try with_reducible rfl)
        (try simp only [yA,yB,yC])
        refine wpAnyH_ready (rs:= [4]) (by kernel_rfl) (by simp) ?_
        refine AllReadyH.cons rfl (fun K hK=> ?_) AllReadyH.nil
        refine zb0 ?_ 34 (.tmp 4) (.tmp 163) ?_ (a0+1) 0 os ?_ ?_ hth ?_ ?_ HWe.out ?_
        ·exact rfl
        ·exact rfl
        ·exact rfl
        ·exact rfl
        ·exact HOz.out
        ·exact HOone.out
        refine hK.out (Act.put _ none _) _ hSe (fun _=> ?_)
        clear hK K
        simp only [Act.put]
        refine tK 5 5 ?_ rfl rfl (by kernel_rfl) (fun _ _ _ h=>h) ⟨by rfl,?_⟩ hSe ?_
        rotate_left
        ·(intro wx hSw;(try dsimp only at hSw);obtain ⟨hSa,hSb⟩:=hSw;go_simp;try with_reducible rfl)
        (try simp only [yA,yB,yC])
        refine tK 6 6 ?_ rfl rfl (by kernel_rfl) (fun _ _ _ h=>h) ⟨by rfl,?_⟩ hSe ?_
        rotate_left
        ·(intro wx hSw;(try dsimp only at hSw);obtain ⟨hSa,hSb⟩:=hSw;go_simp;try with_reducible rfl)
        (try simp only [yA,yB,yC])
        refine wpAnyH_done (by kernel_rfl) ?_ _
        go_wp2_with fail;refine bodyPost_ret (v:= .tuple #[.agg os,.int .i64 pg,.bool true]) (zcm Tryz.results15 rfl rfl rfl (zcX (zaj (za2 HSf.out 6 rfl:we.heap[a0+1]?=some (Obj.cells os 34))) Tryz.underlying34 rfl HOz.out)) rfl ⟨.agg os,?_,?_,HBf.out⟩
        ·rw [HRes.out]
        ·rw [HRes.out];exact za2 HSf.out 0 rfl
end Go.Proofs.YtcbogiebfbbmbaaGreatDoor
