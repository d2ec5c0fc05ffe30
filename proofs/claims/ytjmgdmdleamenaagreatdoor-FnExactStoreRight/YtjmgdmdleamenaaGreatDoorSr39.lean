/-
  Facts and contracts that the law's own text rests on, by their texts' names: ReadSpec3.
-/
import Derived.Test.YtjmgdmdleamenaaGreatDoorSr34
set_option maxHeartbeats 16000000
set_option maxRecDepth 100000
namespace Go.Proofs.YtjmgdmdleamenaaGreatDoor
open Go.RowKit
theorem vals_snoc (l:List (Int×ByteArray)) (f:Int×ByteArray):puts l++puts [f]=puts (l++ [f]):=by simp [puts]
theorem val_at (w:World) (n:Nat) (hn:n=w.heap.size) (q:Int) (x:ByteArray):RowAt (w.alloc (Obj.cells #[.int .i64 q,.string x] 144)) 2 (.slice (some ⟨n,0,none⟩) 1 1) 1 (puts [(q,x)]):=by
 subst hn
 refine ⟨rfl,_,_,rfl,Or.inr ⟨w.heap.size,0,rfl,by simp,fun j hj=> ?_⟩⟩
 rw [Nat.zero_add,(cell_at (heap_alloc_new w _) j).1]
 simp [puts]
theorem vals_one (l:List (Int×ByteArray)):∀y∈puts l,y.oneCell'=true:=fun y hy=>by
 obtain ⟨p,_,hp⟩:=List.mem_flatMap.1 hy
 simp at hp
 rcases hp with rfl | rfl <;> rfl
theorem own_vals0 (w:World) (B:Nat) (hB:B<=w.heap.size):(w.alloc (Obj.cells #[] 144)).ownsRow B 144 2 (.slice (some ⟨w.heap.size,0,none⟩) 0 0) ([]:List (Int×ByteArray)).length (puts []):=by
 simpa [puts] using World.ownsRow_lit (base:=B) (e:=144) (size:=2) w #[] 0 hB (by unfold maxLen;omega) (by simp)
def ThRound (fs:List (ByteArray×Int)) (t:ByteArray) (vs:List (Int×ByteArray)) (u:Int×ByteArray) (q:Nat) (bad:Bool):Prop:=u.2.size<=20000/\q<=1048576/\ThTry fs t (vs++ [u]) q/\(bad=true->∀us,¬IsTh fs t us)
theorem th_round1 {fs:List (ByteArray×Int)} {t:ByteArray} (ht:t.size<=1048576) {vs:List (Int×ByteArray)} {p:Nat} {bad:Bool} (hp:p<=1048576) (h:ThTry fs t vs p) (hb:bad=true->∀us,¬IsTh fs t us) (hk:vs.length<fs.length) (hk1:fs[vs.length].2=1) (g:Nat):∃(n:Int) (q:Nat) (bad2:Bool),
  (∀wx,CurT wx g t p bad->Calls Tryz.prog 72 #[.pointer (some ⟨g,0,none⟩)] wx fun e w'=>e= .returned (.int .i64 n)/\CurT w' g t q bad2/\wx.grownBy w' (some g))/\ThRound fs t vs (n,⟨#[]⟩) q bad2:=by
 by_cases hbad:bad=true
 ·exact ⟨0,p,true,fun wx hc=>l04Var_bad g t ht p bad (Or.inl hbad) wx hc,Nat.zero_le _,hp,fun us hg=>absurd hg (hb hbad us),fun _=>hb hbad⟩
 ·obtain rfl:bad=false:=by cases bad;rfl;exact absurd rfl hbad
  cases ho:rdV t p with
  | none=>
   have hn:=thTry_none h hk (by rw [hk1,rdVal,if_pos rfl,ho];rfl)
   exact ⟨0,p,true,fun wx hc=>l04Var_bad g t ht p false (Or.inr ho) wx hc,Nat.zero_le _,hp,fun us hg=>absurd hg (hn us),fun _=>hn⟩
  | some r=>
   obtain ⟨n,q⟩:=r;obtain ⟨h1,h2,h3,-⟩:=rdV_back ho
   exact ⟨n,q,false,fun wx hc=>l04Var_good g t ht p n q ho wx hc,Nat.zero_le _,by omega,thTry_some h hk (by rw [hk1,rdVal,if_pos rfl,ho];rfl),fun e=>by cases e⟩
theorem th_round2 {fs:List (ByteArray×Int)} {t:ByteArray} (ht:t.size<=1048576) {vs:List (Int×ByteArray)} {p:Nat} {bad:Bool} (hp:p<=1048576) (h:ThTry fs t vs p) (hb:bad=true->∀us,¬IsTh fs t us) (hk:vs.length<fs.length) (hk1:¬fs[vs.length].2=1) (g:Nat):∃(x:ByteArray) (q:Nat) (bad2:Bool),
  (∀wx,CurT wx g t p bad->Calls Tryz.prog 73 #[.pointer (some ⟨g,0,none⟩)] wx fun e w'=>e= .returned (.string x)/\CurT w' g t q bad2/\wx.grownBy w' (some g))/\ThRound fs t vs (0,x) q bad2:=by
 by_cases hbad:bad=true
 ·exact ⟨⟨#[]⟩,p,true,fun wx hc=>l04ReadShort_bad g t ht p bad (Or.inl hbad) wx hc,Nat.zero_le _,hp,fun us hg=>absurd hg (hb hbad us),fun _=>hb hbad⟩
 ·obtain rfl:bad=false:=by cases bad;rfl;exact absurd rfl hbad
  cases ho:rdS t p with
  | none=>
   have hn:=thTry_none h hk (by rw [rdVal,if_neg hk1,ho];rfl)
   exact ⟨⟨#[]⟩,p,true,fun wx hc=>l04ReadShort_bad g t ht p false (Or.inr ho) wx hc,Nat.zero_le _,hp,fun us hg=>absurd hg (hn us),fun _=>hn⟩
  | some r=>
   obtain ⟨x,q⟩:=r;obtain ⟨h1,h2,h3,-⟩:=rdS_back ho
   exact ⟨x,q,false,fun wx hc=>l04ReadShort_good g t ht p x q ho wx hc,h3,by omega,thTry_some h hk (by rw [rdVal,if_neg hk1,ho];rfl),fun e=>by cases e⟩
theorem specReadThing_any (fs:List (ByteArray×Int)) (hl:fs.length<=1048576) (hn:∀f∈fs,f.1.size<=1048576) (t:ByteArray) (ht:t.size<=1048576) (v:Value) (w:World) (hr:RowAt w 2 v fs.length (flds fs)):
  Calls Tryz.prog 43 #[v,.string t] w fun e w'=>∃u vs ok,e= .returned (.tuple #[u,.bool ok])/\w'.ownsRow w.heap.size 144 2 u vs.length (puts vs)/\ReadTh fs t vs ok/\Below w.heap.size w w':=by
 obtain ⟨i0,hi,hz0,hz1,hz2⟩:=info_parts Tryz.infoVal;have HRv:=hide hr;obtain ⟨-,fa,fcap,rfl,h2⟩:=hr;have HR:=hide h2;have HNf:=hide hn;clear h2 hn;obtain ⟨w1,hw1⟩:∃w1,w1=w.alloc (Obj.cells #[.string t,.int .i64 0,.bool false] 142):=⟨_,rfl⟩
 have hb1:Below w.heap.size w w1:=by rw [hw1];exact (Below.refl w.heap.size w).alloc (Nat.le_refl _) _
 have hs1:w1.heap.size=w.heap.size+1:=by rw [hw1];simp
 have hcu:CurT w1 w.heap.size t 0 false:=by rw [hw1];exact heap_alloc_new w _
 have HSt:Hid (∀o,CurT (w1.alloc o) w.heap.size t 0 false/\Below w.heap.size w (w1.alloc o)):=hide (fun o=>⟨(Below.heap_alloc w1 o w.heap.size (by omega)).trans hcu,hb1.alloc hb1.size _⟩)
 have hOw:=own_vals0 w1 (w.heap.size+1) (by omega)
 rw [hs1] at hOw;have HOw:=hide hOw;clear hb1 hcu hOw hs1;go_enter Tryz.func43,Tryz.ntmps43;go_wp2_with fail;rw [<-hw1];clear hw1
 go_loopg [7,8] fs.length (fun q ov iv wr=>∃(vs:List (Int×ByteArray)) (p:Nat) (bad:Bool),vs.length<=fs.length/\vs.length<=10/\iv= .int .i64 (vs.length:Int)/\q+vs.length=fs.length/\wr.ownsRow (w.heap.size+1) 144 2 ov vs.length (puts vs)/\CurT wr w.heap.size t p bad/\Hid (Below w.heap.size w wr)/\p<=1048576/\Hid (∀f∈vs,f.2.size<=1048576)/\Hid (ThTry fs t vs p/\(bad=true->∀us,¬IsTh fs t us)))
 case atStart=>exact ⟨[],0,false,by simp,by simp,rfl,rfl,HOw.out,(HSt.out _).1,hide (HSt.out _).2,by omega,hide (fun f h=>by simp at h),hide ⟨thTry_nil fs t,fun h=>by cases h⟩⟩
 case round=>
  obtain ⟨vs,p,bad,hvl,hv10,rfl,hgk,hown,hcu,HB,hp,HN,HT⟩:=hrel;have HG:=hide hgk;have HCu:=hide hcu;have HOn:=hide hown;have hgl:=curT_lt hcu;have c1:wr.cell? ⟨w.heap.size,1,none⟩=some (.int .i64 (p:Int)):=(cell_at hcu 1).1;have c2:wr.cell? ⟨w.heap.size,2,none⟩=some (.bool bad):=(cell_at hcu 2).1
  obtain ⟨a,cap,hov⟩:∃a cap,u7= .slice a vs.length cap:=by obtain ⟨-,a,cap,e,-⟩:=row_of_own hown;exact ⟨a,cap,e⟩
  subst hov;have HVl:=hide hvl;clear hgk hcu hown hvl
  by_cases hlf:vs.length<fs.length
  ·by_cases h10:vs.length<10
   ·rcases HR.out with h0 | ⟨b,off,rfl,hbl,hc⟩
    ·omega
    ·obtain ⟨k,hkk⟩:∃k,k=fs[vs.length].2:=⟨_,rfl⟩
     have hf1:wr.cell? ⟨b,off+vs.length * 2+1,none⟩=some (.int .i64 k):=by rw [HB.out.cell (by exact hbl),Nat.add_assoc,hc (vs.length * 2+1) (by omega),(flds_at fs vs.length hlf).2,hkk]
     have hf1:∀o,(wr.alloc o).cell? ⟨b,off+vs.length * 2+1,none⟩=some (.int .i64 k):=fun o=>(World.cell?_of_block (Below.heap_alloc wr o b (Nat.lt_of_lt_of_le hbl HB.out.size))).trans hf1
     have hi0:(0:Int)<=(vs.length:Int):=by omega
     have hi1:(vs.length:Int)<(fs.length:Int):=by omega
     have d10:decide ((vs.length:Int)<10)=true:=by simp;omega
     obtain ⟨wx,hwx⟩:∃wx,wx=wr.alloc (Obj.cells #[.int .i64 0,.string ⟨#[]⟩] 144):=⟨_,rfl⟩
     have hmv:CurT wx w.heap.size t p bad/\wr.grownBy wx (some w.heap.size)/\wx.heap[wr.heap.size]?=some (Obj.cells #[.int .i64 0,.string ⟨#[]⟩] 144):=by
      rw [hwx];exact ⟨(Below.heap_alloc wr _ _ hgl).trans HCu.out,World.grownBy_alloc wr _ _,heap_alloc_new wr _⟩
     have HMv:=hide hmv;clear hmv hc
     by_cases hk1:k=1
     ·obtain ⟨x,q,bad2,HCall,HT2⟩:=th_round1 ht hp HT.out.1 HT.out.2 hlf (by rw [<-hkk];exact hk1) w.heap.size
      subst hk1;have HCl:=hide HCall;have HT3:=hide HT2;clear HCall HT2 hkk;go_wp2_with fail;rw [<-hwx];clear hwx c1 c2 hf1 d10 hi0 hi1;refine (HCl.out _ HMv.out.1).mono ?_;rintro e w2 ⟨rfl,hcu2,hg2⟩;have hg12:=grown_trans HMv.out.2.1 hg2
      have hne:wr.heap.size≠w.heap.size:=by omega
      have hF2:w2.heap[wr.heap.size]?=some (Obj.cells #[.int .i64 0,.string ⟨#[]⟩] 144):=(hg2.block _ (Array.getElem?_eq_some_iff.1 HMv.out.2.2).1 (by simpa using hne)).trans HMv.out.2.2
      have e0:w2.frozen? ⟨wr.heap.size,0,none⟩=false:=(cell_at hF2 0).2;have e0c:w2.cell? ⟨wr.heap.size,0,none⟩=some (.int .i64 0):=(cell_at hF2 0).1;have e1c:w2.cell? ⟨wr.heap.size,1,none⟩=some (.string ⟨#[]⟩):=(cell_at hF2 1).1;obtain ⟨w3,hw3⟩:∃w3,w3=w2.setCell ⟨wr.heap.size,0,none⟩ (.int .i64 x):=⟨_,rfl⟩
      have hg3:w2.grownBy w3 (some wr.heap.size):=by rw [hw3];exact grown_setCell _ _ _ _
      have HS3:Hid (w2.heap.size=w3.heap.size):=hide (by rw [hw3];simp)
      have hlt0:=HOn.out.lt
      have hown2:=HOn.out.kept hg12 (Or.inr (fun e=>by have:=(hlt0 _ e).1;omega))
      have hown3:=hown2.kept hg3 (Or.inr (fun e=>by have:=(hlt0 _ e).2;omega))
      have hsz2:=hg12.size;have HSz3:=hg3.size
      have HB3:Hid (Below w.heap.size w w3):=hide ((HB.out.grown hg12 HB.out.size (fun k hk=>by injection hk with hk;omega)).grown hg3 (by omega) (fun k hk=>by injection hk with hk;omega))
      have HCu3:Hid (CurT w3 w.heap.size t q bad2):=hide (curT_grown hcu2 hg3 (by simpa using Ne.symm hne))
      have HO3:=hide hown3
      have HLt:Hid (∀k,Value.ownBlock (.slice a vs.length cap)=some k->w.heap.size+1<=k):=hide (fun k hk=>(hlt0 k hk).1)
      have hs3:w.heap.size+1<=w3.heap.size:=by omega
      clear hcu2 hg2 hg12 hF2 hlt0 hown2 hown3 hg3 hsz2 HSz3 hne
      go_wp2_with (at_builtin;(rw [<-hw3];refine wpList_append_row _ rfl _ _ 102 rfl (w.heap.size+1) 144 i0 (.agg #[.int .i64 0,.string ⟨#[]⟩]) 2 24 Tryz.underlying102 hi hz0 hz1 hz2 rfl (by decide) _ _ _ rfl (HO3.out.alloc _) _ 1 (puts [(x,(⟨#[]⟩:ByteArray))]) rfl (val_at w3 w2.heap.size HS3.out x ⟨#[]⟩) (vals_one _) ?_ ?_ ?_ ?_))
      ·unfold maxLen;omega
      ·omega
      ·simp;omega
      intro y6 d6 w6 hown6 hg6;rw [<-hw3] at hg6
      have hown7:w6.ownsRow (w.heap.size+1) 144 2 (.slice y6 (vs.length+1) d6) (vs++ [(x,(⟨#[]⟩:ByteArray))]).length (puts (vs++ [(x,(⟨#[]⟩:ByteArray))])):=by
       rw [<-vals_snoc,List.length_append];exact hown6
      have hg36:=grown_trans (World.grownBy_alloc w3 _ _) hg6
      have HB6:Hid (Below w.heap.size w w6):=hide (HB3.out.grown hg36 HB3.out.size (fun k hk=>by have:=HLt.out k hk;omega))
      have hcu6:CurT w6 w.heap.size t q bad2:=curT_grown HCu3.out hg36 (fun e=>by have:=HLt.out _ e.symm;omega)
      clear hown6 hg6 hg36 e0 e0c e1c hw3;go_wp2_with fail
      go_roundg (gk - 1)
      case measure=>have:=HG.out;omega
      case rel=>exact ⟨vs++ [(x,(⟨#[]⟩:ByteArray))],q,bad2,by simp;omega,by simp;omega,by rw [List.length_append];go_num,by have:=HG.out;simp;omega,hown7,hcu6,HB6,HT3.out.2.1,hide (fun f hf=>by
       rcases List.mem_append.1 hf with hf | hf
       ·exact HN.out f hf
       ·obtain rfl:=List.mem_singleton.1 hf
        exact Nat.le_trans HT3.out.1 (by omega)),hide HT3.out.2.2⟩
     ·obtain ⟨x,q,bad2,HCall,HT2⟩:=th_round2 ht hp HT.out.1 HT.out.2 hlf (by rw [<-hkk];exact hk1) w.heap.size
      have dk:(k ==1)=false:=by simp [hk1]
      have dk2:decide (k=1)=false:=by simp [hk1]
      clear hk1;have HCl:=hide HCall;have HT3:=hide HT2;clear HCall HT2 hkk;go_wp2_with fail;rw [<-hwx];clear hwx c1 c2 hf1 d10 hi0 hi1;refine (HCl.out _ HMv.out.1).mono ?_;rintro e w2 ⟨rfl,hcu2,hg2⟩;have hg12:=grown_trans HMv.out.2.1 hg2
      have hne:wr.heap.size≠w.heap.size:=by omega
      have hF2:w2.heap[wr.heap.size]?=some (Obj.cells #[.int .i64 0,.string ⟨#[]⟩] 144):=(hg2.block _ (Array.getElem?_eq_some_iff.1 HMv.out.2.2).1 (by simpa using hne)).trans HMv.out.2.2
      have e0:w2.frozen? ⟨wr.heap.size,1,none⟩=false:=(cell_at hF2 1).2;have e0c:w2.cell? ⟨wr.heap.size,0,none⟩=some (.int .i64 0):=(cell_at hF2 0).1;have e1c:w2.cell? ⟨wr.heap.size,1,none⟩=some (.string ⟨#[]⟩):=(cell_at hF2 1).1;obtain ⟨w3,hw3⟩:∃w3,w3=w2.setCell ⟨wr.heap.size,1,none⟩ (.string x):=⟨_,rfl⟩
      have hg3:w2.grownBy w3 (some wr.heap.size):=by rw [hw3];exact grown_setCell _ _ _ _
      have HS3:Hid (w2.heap.size=w3.heap.size):=hide (by rw [hw3];simp)
      have hlt0:=HOn.out.lt
      have hown2:=HOn.out.kept hg12 (Or.inr (fun e=>by have:=(hlt0 _ e).1;omega))
      have hown3:=hown2.kept hg3 (Or.inr (fun e=>by have:=(hlt0 _ e).2;omega))
      have hsz2:=hg12.size;have HSz3:=hg3.size
      have HB3:Hid (Below w.heap.size w w3):=hide ((HB.out.grown hg12 HB.out.size (fun k hk=>by injection hk with hk;omega)).grown hg3 (by omega) (fun k hk=>by injection hk with hk;omega))
      have HCu3:Hid (CurT w3 w.heap.size t q bad2):=hide (curT_grown hcu2 hg3 (by simpa using Ne.symm hne))
      have HO3:=hide hown3
      have HLt:Hid (∀k,Value.ownBlock (.slice a vs.length cap)=some k->w.heap.size+1<=k):=hide (fun k hk=>(hlt0 k hk).1)
      have hs3:w.heap.size+1<=w3.heap.size:=by omega
      clear hcu2 hg2 hg12 hF2 hlt0 hown2 hown3 hg3 hsz2 HSz3 hne
      go_wp2_with (at_builtin;(rw [<-hw3];refine wpList_append_row _ rfl _ _ 102 rfl (w.heap.size+1) 144 i0 (.agg #[.int .i64 0,.string ⟨#[]⟩]) 2 24 Tryz.underlying102 hi hz0 hz1 hz2 rfl (by decide) _ _ _ rfl (HO3.out.alloc _) _ 1 (puts [(0,x)]) rfl (val_at w3 w2.heap.size HS3.out 0 x) (vals_one _) ?_ ?_ ?_ ?_))
      ·unfold maxLen;omega
      ·omega
      ·simp;omega
      intro y6 d6 w6 hown6 hg6;rw [<-hw3] at hg6
      have hown7:w6.ownsRow (w.heap.size+1) 144 2 (.slice y6 (vs.length+1) d6) (vs++ [(0,x)]).length (puts (vs++ [(0,x)])):=by
       rw [<-vals_snoc,List.length_append];exact hown6
      have hg36:=grown_trans (World.grownBy_alloc w3 _ _) hg6
      have HB6:Hid (Below w.heap.size w w6):=hide (HB3.out.grown hg36 HB3.out.size (fun k hk=>by have:=HLt.out k hk;omega))
      have hcu6:CurT w6 w.heap.size t q bad2:=curT_grown HCu3.out hg36 (fun e=>by have:=HLt.out _ e.symm;omega)
      clear hown6 hg6 hg36 e0 e0c e1c hw3;go_wp2_with fail
      go_roundg (gk - 1)
      case measure=>have:=HG.out;omega
      case rel=>exact ⟨vs++ [(0,x)],q,bad2,by simp;omega,by simp;omega,by rw [List.length_append];go_num,by have:=HG.out;simp;omega,hown7,hcu6,HB6,HT3.out.2.1,hide (fun f hf=>by
       rcases List.mem_append.1 hf with hf | hf
       ·exact HN.out f hf
       ·obtain rfl:=List.mem_singleton.1 hf
        exact Nat.le_trans HT3.out.1 (by omega)),hide HT3.out.2.2⟩
   ·have HE:Hid (∀us,IsTh fs t us->us=vs):=hide (fun us hg=>by
     have:=(thing_yes hg.1).2.2.1
     omega)
    have d1:decide ((vs.length:Int)<(fs.length:Int))=true:=by simp;omega
    have d10:decide ((vs.length:Int)<10)=false:=by simp;omega
    cases bad with
    | true=>
     have HSp:=hide (specThingText_any fs vs hl HNf.out (by omega) HN.out (.slice fa fs.length fcap) (.slice a vs.length cap) wr (row_below HRv.out HB.out) (row_of_own HOn.out))
     have HNo:Hid (∀us,¬IsTh fs t us):=hide (HT.out.2 rfl);go_wp2_with fail;refine HSp.out.mono ?_;rintro e w2 ⟨rfl,hb2⟩;have HB2:Hid (Below w.heap.size w w2):=hide (HB.out.trans (hb2.mono HB.out.size))
     have k2:w2.cell? ⟨w.heap.size,2,none⟩=some (.bool true):=(hb2.cell (by exact hgl)).trans c2
     clear hb2 c1 c2;go_wp2_with fail;go_ret2;exact ⟨_,[],false,rfl,own_vals0 _ _ HB2.out.size,Or.inr ⟨rfl,rfl,HNo.out⟩,HB2.out.alloc HB2.out.size _⟩
    | false=>
     have HSp:=hide (specThingText_any fs vs hl HNf.out (by omega) HN.out (.slice fa fs.length fcap) (.slice a vs.length cap) wr (row_below HRv.out HB.out) (row_of_own HOn.out))
     cases hok:thingOkB fs vs with
     | false=>
      rw [hok] at HSp
      have HNo:Hid (∀us,¬IsTh fs t us):=hide (fun us hg=>by
       have:=HE.out us hg;subst this
       rw [hg.1] at hok;cases hok)
      clear hok;go_wp2_with fail;refine HSp.out.mono ?_;rintro e w2 ⟨rfl,hb2⟩;have HB2:Hid (Below w.heap.size w w2):=hide (HB.out.trans (hb2.mono HB.out.size))
      have k2:w2.cell? ⟨w.heap.size,2,none⟩=some (.bool false):=(hb2.cell (by exact hgl)).trans c2
      clear hb2 c1 c2;go_wp2_with fail;go_ret2;exact ⟨_,[],false,rfl,own_vals0 _ _ HB2.out.size,Or.inr ⟨rfl,rfl,HNo.out⟩,HB2.out.alloc HB2.out.size _⟩
     | true=>
      have hso:thingO fs vs=thT fs vs:=by rw [thingO,if_pos hok,thT]
      rw [hok,hso] at HSp;have hbq:=ba_beq (thT fs vs) t
      by_cases hst:thT fs vs=t
      ·have HYs:Hid (IsTh fs t vs):=hide ⟨hok,hst⟩
       rw [decide_eq_true hst] at hbq;obtain ⟨bk,hbk⟩:∃bk,bk=thT fs vs:=⟨_,rfl⟩;rw [<-hbk] at hbq HSp;clear hok hso hst hbk;go_wp2_with fail;refine HSp.out.mono ?_;rintro e w2 ⟨rfl,hb2⟩;have HB2:Hid (Below w.heap.size w w2):=hide (HB.out.trans (hb2.mono HB.out.size));have HO2:=hide (own_stays HOn.out hb2)
       have k2:w2.cell? ⟨w.heap.size,2,none⟩=some (.bool false):=(hb2.cell (by exact hgl)).trans c2
       clear hb2 c1 c2;go_wp2_with fail;go_ret2
       exact ⟨_,vs,true,rfl,own_down HO2.out (by omega),Or.inl ⟨rfl,HYs.out,HE.out⟩,HB2.out⟩
      ·have HNo:Hid (∀us,¬IsTh fs t us):=hide (fun us hg=>by
        have:=HE.out us hg;subst this
        exact hst hg.2)
       rw [decide_eq_false hst] at hbq;obtain ⟨bk,hbk⟩:∃bk,bk=thT fs vs:=⟨_,rfl⟩;rw [<-hbk] at hbq HSp;clear hok hso hst hbk;go_wp2_with fail;refine HSp.out.mono ?_;rintro e w2 ⟨rfl,hb2⟩;have HB2:Hid (Below w.heap.size w w2):=hide (HB.out.trans (hb2.mono HB.out.size))
       have k2:w2.cell? ⟨w.heap.size,2,none⟩=some (.bool false):=(hb2.cell (by exact hgl)).trans c2
       clear hb2 c1 c2;go_wp2_with fail;go_ret2;exact ⟨_,[],false,rfl,own_vals0 _ _ HB2.out.size,Or.inr ⟨rfl,rfl,HNo.out⟩,HB2.out.alloc HB2.out.size _⟩
  ·have HE:Hid (∀us,IsTh fs t us->us=vs):=hide (fun us hg=>(thTry_end HT.out.1 (by omega) us hg).1)
   have d1:decide ((vs.length:Int)<(fs.length:Int))=false:=by simp;omega
   cases bad with
   | true=>
    have HSp:=hide (specThingText_any fs vs hl HNf.out (by omega) HN.out (.slice fa fs.length fcap) (.slice a vs.length cap) wr (row_below HRv.out HB.out) (row_of_own HOn.out))
    have HNo:Hid (∀us,¬IsTh fs t us):=hide (HT.out.2 rfl);go_wp2_with fail;refine HSp.out.mono ?_;rintro e w2 ⟨rfl,hb2⟩;have HB2:Hid (Below w.heap.size w w2):=hide (HB.out.trans (hb2.mono HB.out.size))
    have k2:w2.cell? ⟨w.heap.size,2,none⟩=some (.bool true):=(hb2.cell (by exact hgl)).trans c2
    clear hb2 c1 c2;go_wp2_with fail;go_ret2;exact ⟨_,[],false,rfl,own_vals0 _ _ HB2.out.size,Or.inr ⟨rfl,rfl,HNo.out⟩,HB2.out.alloc HB2.out.size _⟩
   | false=>
    have HSp:=hide (specThingText_any fs vs hl HNf.out (by omega) HN.out (.slice fa fs.length fcap) (.slice a vs.length cap) wr (row_below HRv.out HB.out) (row_of_own HOn.out))
    cases hok:thingOkB fs vs with
    | false=>
     rw [hok] at HSp
     have HNo:Hid (∀us,¬IsTh fs t us):=hide (fun us hg=>by
      have:=HE.out us hg;subst this
      rw [hg.1] at hok;cases hok)
     clear hok;go_wp2_with fail;refine HSp.out.mono ?_;rintro e w2 ⟨rfl,hb2⟩;have HB2:Hid (Below w.heap.size w w2):=hide (HB.out.trans (hb2.mono HB.out.size))
     have k2:w2.cell? ⟨w.heap.size,2,none⟩=some (.bool false):=(hb2.cell (by exact hgl)).trans c2
     clear hb2 c1 c2;go_wp2_with fail;go_ret2;exact ⟨_,[],false,rfl,own_vals0 _ _ HB2.out.size,Or.inr ⟨rfl,rfl,HNo.out⟩,HB2.out.alloc HB2.out.size _⟩
    | true=>
     have hso:thingO fs vs=thT fs vs:=by rw [thingO,if_pos hok,thT]
     rw [hok,hso] at HSp;have hbq:=ba_beq (thT fs vs) t
     by_cases hst:thT fs vs=t
     ·have HYs:Hid (IsTh fs t vs):=hide ⟨hok,hst⟩
      rw [decide_eq_true hst] at hbq;obtain ⟨bk,hbk⟩:∃bk,bk=thT fs vs:=⟨_,rfl⟩;rw [<-hbk] at hbq HSp;clear hok hso hst hbk;go_wp2_with fail;refine HSp.out.mono ?_;rintro e w2 ⟨rfl,hb2⟩;have HB2:Hid (Below w.heap.size w w2):=hide (HB.out.trans (hb2.mono HB.out.size));have HO2:=hide (own_stays HOn.out hb2)
      have k2:w2.cell? ⟨w.heap.size,2,none⟩=some (.bool false):=(hb2.cell (by exact hgl)).trans c2
      clear hb2 c1 c2;go_wp2_with fail;go_ret2
      exact ⟨_,vs,true,rfl,own_down HO2.out (by omega),Or.inl ⟨rfl,HYs.out,HE.out⟩,HB2.out⟩
     ·have HNo:Hid (∀us,¬IsTh fs t us):=hide (fun us hg=>by
       have:=HE.out us hg;subst this
       exact hst hg.2)
      rw [decide_eq_false hst] at hbq;obtain ⟨bk,hbk⟩:∃bk,bk=thT fs vs:=⟨_,rfl⟩;rw [<-hbk] at hbq HSp;clear hok hso hst hbk;go_wp2_with fail;refine HSp.out.mono ?_;rintro e w2 ⟨rfl,hb2⟩;have HB2:Hid (Below w.heap.size w w2):=hide (HB.out.trans (hb2.mono HB.out.size))
      have k2:w2.cell? ⟨w.heap.size,2,none⟩=some (.bool false):=(hb2.cell (by exact hgl)).trans c2
      clear hb2 c1 c2;go_wp2_with fail;go_ret2;exact ⟨_,[],false,rfl,own_vals0 _ _ HB2.out.size,Or.inr ⟨rfl,rfl,HNo.out⟩,HB2.out.alloc HB2.out.size _⟩
end Go.Proofs.YtjmgdmdleamenaaGreatDoor
