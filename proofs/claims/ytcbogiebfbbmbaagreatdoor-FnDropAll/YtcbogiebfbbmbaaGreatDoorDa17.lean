/-
  Facts and contracts that the law's own text rests on, by their texts' names: ImplNodeText.
-/
import Derived.Lib.AppendStr
import Derived.Test.YtcbogiebfbbmbaaGreatDoorDa15
import Derived.Test.YtcbogiebfbbmbaaGreatDoorDa7
import Derived.Test.YtcbogiebfbbmbaaGreatDoorDa16
set_option maxHeartbeats 16000000
set_option maxRecDepth 100000
namespace Go.Proofs.YtcbogiebfbbmbaaGreatDoor
open Go.RowKit
theorem zez (l:List UInt8) (s:ByteArray):Lib.byteCells l++Lib.strCells s=Lib.byteCells (l++s.data.toList):=by
 simp [Lib.byteCells,Lib.strCells]
theorem zk3 (w:World) (q:Nat) (hq:q<256):(w.alloc (Obj.cells #[.int .u8 (q:Int)] 5)).ownsRow w.heap.size 5 1 (.slice (some ⟨w.heap.size,0,none⟩) 1 1) ([UInt8.ofNat q]:List UInt8).length (Lib.byteCells [UInt8.ofNat q]):=by
 have:=World.ownsRow_lit (base:=w.heap.size) (e:=5) (size:=1) w #[.int .u8 (q:Int)] 1 (Nat.le_refl _) (by unfold maxLen;omega) (by simp)
 have e:Lib.byteCells [UInt8.ofNat q]= [.int .u8 (q:Int)]:=by simp [Lib.byteCells];omega
 rw [e]
 simpa using this
theorem zhK (v:Value) (lf:Bool) (ks vs:List ByteArray) (cs:List Int) (hok:nodeOkB lf ks vs cs=true) (i:Nat) (hlt:i<ks.length) (w:World) (hd:NodeAt w v lf ks vs cs):
  Calls Tryz.prog 76 #[v,.int .i64 (i:Int)] w fun e w'=>e= .returned (.tuple #[.string (shortB (ks.getD i ⟨#[]⟩)++sideT lf vs cs i),.bool true])/\Below w.heap.size w w':=by
 obtain ⟨vk,vv,vc,rfl,h1,h2,h3⟩:=hd;obtain ⟨xk,ck,rfl⟩:=zaA h1;obtain ⟨xv,cv,rfl⟩:=zaA h2;obtain ⟨xc,cc,rfl⟩:=zaA h3;obtain ⟨w0,hw0⟩:∃w0,w0=w.alloc (Obj.cells #[.bool lf,.slice xk ks.length ck,.slice xv vs.length cv,.slice xc cs.length cc] 71):=⟨_,rfl⟩
 have hb0:Below w.heap.size w w0:=by rw [hw0];exact (Below.refl w.heap.size w).alloc (Nat.le_refl _) _
 have hblk:w0.heap[w.heap.size]?=some (Obj.cells #[.bool lf,.slice xk ks.length ck,.slice xv vs.length cv,.slice xc cs.length cc] 71):=by rw [hw0];exact heap_alloc_new w _
 obtain ⟨y1,y2,y3,y4⟩:=zam hok;obtain ⟨z1,z2,z3,z4⟩:=zaX y1;obtain ⟨x,hx⟩:∃x,x=ks.getD i ⟨#[]⟩:=⟨_,rfl⟩
 have hx24:x.size<=24:=by rw [hx];exact zbQ (y2 i hlt)
 have HR:=hide (⟨za8 h1 hb0,za8 h2 hb0,za8 h3 hb0⟩:_/\_/\_)
 have HV1:=hide (zcF x (by omega))
 rw [<-hx,shortB];obtain ⟨b1,hb1⟩:∃b:ByteArray,b=⟨(vtext x.size).toArray⟩++x:=⟨_,rfl⟩
 have hs1:b1.size<=29:=by have:=zaN x;rw [shortB,<-hb1] at this;omega
 rw [<-hb1] at HV1⊢;obtain ⟨-,a1,cp1,e1,h0 | ⟨bk,ok,e0,hbk,hck⟩⟩:=HR.out.1
 ·omega
 injection e1 with e11 _ e12
 subst e11 e12;subst e0;have c1:w0.cell? ⟨w.heap.size,1,none⟩=some (.slice (some ⟨bk,ok,none⟩) ks.length ck):=(za0 hblk 1).1
 have hxc:w0.cell? ⟨bk,ok+i,none⟩=some (.string x):=by rw [hck i (by omega),zaP ks i hlt,hx];simp [List.getD,hlt]
 have hi0:(0:Int)<=(i:Int):=by omega
 have hi1:(i:Int)<(ks.length:Int):=by omega
 have HPb:Hid (∀wx,Below w0.heap.size w0 wx->wx.cell? ⟨w.heap.size,0,none⟩=some (.bool lf)/\wx.cell? ⟨w.heap.size,2,none⟩=some (.slice xv vs.length cv)/\wx.cell? ⟨w.heap.size,3,none⟩=some (.slice xc cs.length cc)):=hide (fun wx hb=>by
  have hq:=(hb.block _ (Array.getElem?_eq_some_iff.1 hblk).1).trans hblk
  exact ⟨(za0 hq 0).1,(za0 hq 2).1,(za0 hq 3).1⟩)
 have HB0:=hide hb0;clear hb0 hblk hck hx h1 h2 h3 hb1 y1 y2
 cases lf with
 | true=>
  have hlv:i<vs.length:=by have:=(z3 rfl).1;omega
  obtain ⟨-,a2,cp2,e2,h0 | ⟨bv,ov,e3,hbv,hcv⟩⟩:=HR.out.2.1
  ·omega
  injection e2 with e21 _ e22
  subst e21 e22;subst e3;obtain ⟨z,hz⟩:∃z,z=vs.getD i ⟨#[]⟩:=⟨_,rfl⟩
  have HZc:Hid (∀wx,Below w0.heap.size w0 wx->wx.cell? ⟨bv,ov+i,none⟩=some (.string z)):=hide (fun wx hb=>by rw [hb.cell (by exact hbv),hcv i (by omega),zaP vs i hlv,hz];simp [List.getD,hlv])
  have hz24:z.size<=24:=by rw [hz];exact y3 i hlv
  have hiv:(i:Int)<(vs.length:Int):=by omega
  have HV2:=hide (zcF z (by omega))
  have hSd:sideT true vs cs i=⟨(vtext z.size).toArray⟩++z:=by rw [sideT,if_pos rfl,<-hz,shortB]
  have hs2:=zaN z;rw [shortB] at hs2;obtain ⟨b2,hb2⟩:∃b:ByteArray,b=⟨(vtext z.size).toArray⟩++z:=⟨_,rfl⟩;rw [<-hb2] at HV2 hSd hs2;rw [hSd];clear hcv hz hb2 hSd y3 y4 z3 z4;rw [hw0] at hxc;go_enter Tryz.func76,Tryz.ntmps76;go_wp2_with fail;rw [<-hw0];clear hw0;refine (HV1.out _).mono ?_;rintro e w2 ⟨rfl,hb⟩;have HB2:=hide hb;obtain ⟨p0,p2,p3⟩:=HPb.out w2 hb;have hzc:=HZc.out w2 hb;clear hb c1 hxc;go_wp2_with fail;refine (HV2.out _).mono ?_;rintro e w3 ⟨rfl,hb⟩;have HB3:Hid (Below w.heap.size w w3):=hide (HB0.out.trans ((HB2.out.trans (hb.mono HB2.out.size)).mono HB0.out.size));clear hb p0 p2 p3 hzc;go_wp2_with fail;go_ret2;exact ⟨rfl,HB3.out⟩
 | false=>
  have hlv:i<cs.length:=by have:=(z4 rfl).1;omega
  obtain ⟨-,a2,cp2,e2,h0 | ⟨bv,ov,e3,hbv,hcv⟩⟩:=HR.out.2.2
  ·omega
  injection e2 with e21 _ e22
  subst e21 e22;subst e3;obtain ⟨z,hz⟩:∃z,z=cs.getD i 0:=⟨_,rfl⟩
  have HZc:Hid (∀wx,Below w0.heap.size w0 wx->wx.cell? ⟨bv,ov+i,none⟩=some (.int .i64 z)):=hide (fun wx hb=>by rw [hb.cell (by exact hbv),hcv i (by omega),ints_at cs i hlv,hz];simp [List.getD,hlv])
  have hz24:2<=z/\z<=39:=by rw [hz];exact zdF (y4 i hlv)
  have hiv:(i:Int)<(cs.length:Int):=by omega
  have HV2:=hide (zcd z (by omega) (by omega))
  have hSd:sideT false vs cs i=⟨(vtext z.toNat).toArray⟩:=by rw [sideT,if_neg (by decide),<-hz]
  have hs2:(⟨(vtext z.toNat).toArray⟩:ByteArray).size<=29:=by rw [zbe];have:=(zau z.toNat).2;omega
  obtain ⟨b2,hb2⟩:∃b:ByteArray,b=⟨(vtext z.toNat).toArray⟩:=⟨_,rfl⟩;rw [<-hb2] at HV2 hSd hs2;rw [hSd];clear hcv hz hb2 hSd y3 y4 z3 z4;rw [hw0] at hxc;go_enter Tryz.func76,Tryz.ntmps76;go_wp2_with fail;rw [<-hw0];clear hw0;refine (HV1.out _).mono ?_;rintro e w2 ⟨rfl,hb⟩;have HB2:=hide hb;obtain ⟨p0,p2,p3⟩:=HPb.out w2 hb;have hzc:=HZc.out w2 hb;clear hb c1 hxc;go_wp2_with fail;refine (HV2.out _).mono ?_;rintro e w3 ⟨rfl,hb⟩;have HB3:Hid (Below w.heap.size w w3):=hide (HB0.out.trans ((HB2.out.trans (hb.mono HB2.out.size)).mono HB0.out.size));clear hb p0 p2 p3 hzc;go_wp2_with fail;go_ret2;exact ⟨rfl,HB3.out⟩
def headN (lf:Bool):Nat:=if lf=true then 108 else 98
theorem zkI (lf:Bool):(headB lf).data.toList= [UInt8.ofNat (headN lf)]:=by cases lf <;> rfl
theorem zh1 (v:Value) (lf:Bool) (ks vs:List ByteArray) (cs:List Int) (hok:nodeOkB lf ks vs cs=true) (hk:ks.length<=1048576) (hv:vs.length<=1048576) (hc:cs.length<=1048576) (hks:∀s∈ks,s.size<=1048576) (hvs:∀s∈vs,s.size<=1048576) (w:World) (hT:SumTab w) (hd:NodeAt w v lf ks vs cs):
  Calls Tryz.prog 52 #[v] w fun e w'=>e= .returned (.tuple #[.string (nodeT lf ks vs cs),.bool true])/\Below w.heap.size w w':=by
 obtain ⟨i0,hi,hz0,hz1,hz2⟩:=info_parts Tryz.infoU8
 have HS:=hide (fun wx h=>zbF v lf ks vs cs hk hv hc hks hvs wx h)
 rw [hok] at HS
 have HE:=hide (fun i hi wx h=>zhK v lf ks vs cs hok i hi wx h)
 have HD:=hide hd;obtain ⟨vk,vv,vc,rfl,h1,h2,h3⟩:=hd;obtain ⟨xk,ck,rfl⟩:=zaA h1;obtain ⟨xv,cv,rfl⟩:=zaA h2;obtain ⟨xc,cc,rfl⟩:=zaA h3;obtain ⟨w0,hw0⟩:∃w0,w0=w.alloc (Obj.cells #[.bool lf,.slice xk ks.length ck,.slice xv vs.length cv,.slice xc cs.length cc] 71):=⟨_,rfl⟩
 have hb0:Below w.heap.size w w0:=by rw [hw0];exact (Below.refl w.heap.size w).alloc (Nat.le_refl _) _
 have hblk:w0.heap[w.heap.size]?=some (Obj.cells #[.bool lf,.slice xk ks.length ck,.slice xv vs.length cv,.slice xc cs.length cc] 71):=by rw [hw0];exact heap_alloc_new w _
 have HPb:Hid (∀wx,Below w0.heap.size w0 wx->wx.cell? ⟨w.heap.size,0,none⟩=some (.bool lf)/\wx.cell? ⟨w.heap.size,1,none⟩=some (.slice xk ks.length ck)/\wx.cell? ⟨w.heap.size,2,none⟩=some (.slice xv vs.length cv)/\wx.cell? ⟨w.heap.size,3,none⟩=some (.slice xc cs.length cc)):=hide (fun wx hb=>by
  have hq:=(hb.block _ (Array.getElem?_eq_some_iff.1 hblk).1).trans hblk
  exact ⟨(za0 hq 0).1,(za0 hq 1).1,(za0 hq 2).1,(za0 hq 3).1⟩)
 have HB0:=hide hb0;have HT:=hide hT;have HOk:=hide hok;have HCn:=hide (zaX (zam hok).1);have hk4:=HCn.out.2.1
 have HVk:=hide (zcd (ks.length:Int) (by omega) (by omega))
 rw [Int.toNat_natCast] at HVk;obtain ⟨z0,hz⟩:∃z:ByteArray,z=⟨(vtext ks.length).toArray⟩:=⟨_,rfl⟩;rw [<-hz] at HVk
 have hzs:z0.size<=5:=by rw [hz,zbe];exact (zau _).2
 have HP0:Hid ((nodeP lf ks.length ks vs cs 0).data.toList= [UInt8.ofNat (headN lf)]++z0.data.toList):=hide (by rw [nodeP,<-hz,ByteArray.data_append,Array.toList_append,zkI])
 have HSe:=hide (fun wx h=>zgV (nodeB lf ks vs cs) (by have:=(zdG hok).1;omega) wx h)
 have HTt:Hid (nodeT lf ks vs cs=⟨(sealL (nodeB lf ks vs cs).data.toList).toArray⟩):=hide rfl;have HNB:Hid (nodeB lf ks vs cs=nodeP lf ks.length ks vs cs ks.length):=hide rfl
 have hSzw:w.heap.size<w0.heap.size:=by rw [hw0];simp
 have HSz:=hide hSzw;clear hok hT hb0 hblk h1 h2 h3 hz hks hvs hk hv hc hSzw
 have hmark:∀(lfx:Bool),headN lfx<256:=fun l=>by cases l <;> decide
 have HMk:=hide (hmark lf);clear hmark
 cases lf with
 | true=>
  go_enter Tryz.func52,Tryz.ntmps52;go_wp2_with fail;rw [<-hw0];clear hw0;refine (HS.out _ (zat HD.out HB0.out)).mono ?_;rintro e w1 ⟨rfl,hb⟩;have HC1:=hide hb;obtain ⟨p0,p1,p2,p3⟩:=HPb.out w1 hb;clear hb;go_wp2_with fail;refine (HVk.out _).mono ?_;rintro e w2 ⟨rfl,hb⟩;have HC2:Hid (Below w0.heap.size w0 w2):=hide (HC1.out.trans (hb.mono HC1.out.size))
  have hown:=zk3 w2 108 (by omega)
  have hB2:w0.heap.size<=w2.heap.size:=HC2.out.size;have hownB:=zad hown hB2
  have hs2:w0.heap.size<=(w2.alloc (Obj.cells #[.int .u8 108] 5)).heap.size:=by simp;omega
  clear hb p0 p1 p2 p3 hown
  go_wp2_with (at_builtin;refine Lib.wpList_append_own_string _ rfl _ _ 22 9 rfl w0.heap.size 5 i0 Tryz.underlying22 Tryz.underlying9 hi hz0 hz1 hz2 _ _ _ rfl hownB z0 rfl ?d1 ?d2 hs2 ?_)
  case d1=>unfold maxLen;simp;omega
  case d2=>simp;omega
  intro v3 w3 hown3 hgrow3 _;have hl3:(nodeP true ks.length ks vs cs 0).data.toList= [UInt8.ofNat 108]++z0.data.toList:=HP0.out
  have hownP:w3.ownsRow w0.heap.size 5 1 v3 (nodeP true ks.length ks vs cs 0).data.toList.length (Lib.byteCells (nodeP true ks.length ks vs cs 0).data.toList):=by
   rw [hl3,List.length_append,zch z0,<-zez];exact hown3
  have HC3:Hid (Below w0.heap.size w0 w3):=hide ((HC2.out.alloc hB2 _).grown hgrow3 hs2 (fun k hk=>(hownB.lt k hk).1))
  obtain ⟨p0,p1,p2,p3⟩:=HPb.out w3 HC3.out;clear hown3 hgrow3 hl3 hownB hB2 hs2;go_wp2_with fail;clear p0 p1 p2 p3
  go_loopg [7,32] ks.length (fun g sv iv wr=>∃k:Nat,k<=ks.length/\iv= .int .i64 (k:Int)/\g+k=ks.length/\wr.ownsRow w0.heap.size 5 1 sv (nodeP true ks.length ks vs cs k).data.toList.length (Lib.byteCells (nodeP true ks.length ks vs cs k).data.toList)/\Hid (Below w0.heap.size w0 wr))
  case atStart=>exact ⟨0,Nat.zero_le _,rfl,rfl,hownP,HC3⟩
  case round=>
   obtain ⟨k,hk,rfl,hg,hown,HB⟩:=hrel;have HG:=hide hg;clear hg
   have hsz:(nodeP true ks.length ks vs cs k).data.toList.length<=238:=by have h1:=zc9 HOk.out k hk;rw [zch];omega
   by_cases hlt:k<ks.length
   ·obtain ⟨p0,p1,p2,p3⟩:=HPb.out wr HB.out
    have HEk:=hide (HE.out k hlt)
    have HK:Hid ((nodeP true ks.length ks vs cs (k+1)).data.toList=(nodeP true ks.length ks vs cs k).data.toList++(shortB (ks.getD k ⟨#[]⟩)++sideT true vs cs k).data.toList):=hide (by rw [nodeP,ByteArray.append_assoc,ByteArray.data_append,Array.toList_append])
    have hes:(shortB (ks.getD k ⟨#[]⟩)++sideT true vs cs k).size<=100:=by
     have h1:=zf2 HOk.out hlt;have h2:=zaN (ks.getD k ⟨#[]⟩);have h3:=zbQ ((zam HOk.out).2.1 k hlt);rw [ByteArray.size_append]
     omega
    obtain ⟨z,hz⟩:∃z,z=shortB (ks.getD k ⟨#[]⟩)++sideT true vs cs k:=⟨_,rfl⟩;rw [<-hz] at HEk HK hes;obtain ⟨l,hl⟩:∃l,l=(nodeP true ks.length ks vs cs k).data.toList:=⟨_,rfl⟩;rw [<-hl] at HK hown hsz;have HOn:=hide hown;have HDr:=hide (zat HD.out (HB0.out.trans (HB.out.mono HB0.out.size)));clear hz hl hown;go_wp2_with fail;refine (HEk.out _ HDr.out).mono ?_;rintro e w5 ⟨rfl,hb5⟩;have hown5:=zaf HOn.out hb5;have HB5:Hid (Below w0.heap.size w0 w5):=hide (HB.out.trans (hb5.mono HB.out.size));have hBs:=HB5.out.size;clear hb5 p0 p1 p2 p3
    go_wp2_with (at_builtin;refine Lib.wpList_append_own_string _ rfl _ _ 22 9 rfl w0.heap.size 5 i0 Tryz.underlying22 Tryz.underlying9 hi hz0 hz1 hz2 _ _ _ rfl hown5 z rfl ?d1 ?d2 hBs ?_)
    case d1=>unfold maxLen;omega
    case d2=>omega
    intro v6 w6 hown6 hgrow6 _;have HB6:Hid (Below w0.heap.size w0 w6):=hide (below_grow HB5.out hBs hown5 (Below.refl _ _) hgrow6)
    have hown7:w6.ownsRow w0.heap.size 5 1 v6 (nodeP true ks.length ks vs cs (k+1)).data.toList.length (Lib.byteCells (nodeP true ks.length ks vs cs (k+1)).data.toList):=by
     rw [HK.out,List.length_append,zch z,<-zez];exact hown6
    clear hown6 hgrow6 hown5;go_wp2_with fail
    go_roundg (gk - 1)
    case measure=>have:=HG.out;omega
    case rel=>exact ⟨k+1,by omega,by go_num,by have:=HG.out;omega,hown7,HB6⟩
   ·obtain rfl:k=ks.length:=by omega
    have hcv:=zdB (dst:=9) (src:=22) Tryz.underlying22 Tryz.underlying5 Tryz.underlying9 hown
    have hnb:(⟨(nodeP true ks.length ks vs cs ks.length).data.toList.toArray⟩:ByteArray)=nodeB true ks vs cs:=by rw [nodeB]
    rw [hnb] at hcv;have HTr:=hide (zag HT.out (HB0.out.trans (HB.out.mono HB0.out.size)));clear hown hnb hsz;go_wp2_with fail;refine (HSe.out _ HTr.out).mono ?_;rintro e w7 ⟨rfl,hb7⟩
    have HB7:Hid (Below w.heap.size w w7):=hide ((HB0.out.trans (HB.out.mono HB0.out.size)).trans (hb7.mono (by have:=HB0.out.size;have:=HB.out.size;omega)))
    clear hb7 hcv;go_wp2_with fail;go_ret2;rw [HTt.out];exact ⟨rfl,HB7.out⟩
 | false=>
  go_enter Tryz.func52,Tryz.ntmps52;go_wp2_with fail;rw [<-hw0];clear hw0;refine (HS.out _ (zat HD.out HB0.out)).mono ?_;rintro e w1 ⟨rfl,hb⟩;have HC1:=hide hb;obtain ⟨p0,p1,p2,p3⟩:=HPb.out w1 hb;clear hb;go_wp2_with fail;refine (HVk.out _).mono ?_;rintro e w2 ⟨rfl,hb⟩;have HC2:Hid (Below w0.heap.size w0 w2):=hide (HC1.out.trans (hb.mono HC1.out.size))
  have hown:=zk3 w2 98 (by omega)
  have hB2:w0.heap.size<=w2.heap.size:=HC2.out.size;have hownB:=zad hown hB2
  have hs2:w0.heap.size<=(w2.alloc (Obj.cells #[.int .u8 98] 5)).heap.size:=by simp;omega
  clear hb p0 p1 p2 p3 hown
  go_wp2_with (at_builtin;refine Lib.wpList_append_own_string _ rfl _ _ 22 9 rfl w0.heap.size 5 i0 Tryz.underlying22 Tryz.underlying9 hi hz0 hz1 hz2 _ _ _ rfl hownB z0 rfl ?d1 ?d2 hs2 ?_)
  case d1=>unfold maxLen;simp;omega
  case d2=>simp;omega
  intro v3 w3 hown3 hgrow3 _;have hl3:(nodeP false ks.length ks vs cs 0).data.toList= [UInt8.ofNat 98]++z0.data.toList:=HP0.out
  have hownP:w3.ownsRow w0.heap.size 5 1 v3 (nodeP false ks.length ks vs cs 0).data.toList.length (Lib.byteCells (nodeP false ks.length ks vs cs 0).data.toList):=by
   rw [hl3,List.length_append,zch z0,<-zez];exact hown3
  have HC3:Hid (Below w0.heap.size w0 w3):=hide ((HC2.out.alloc hB2 _).grown hgrow3 hs2 (fun k hk=>(hownB.lt k hk).1))
  obtain ⟨p0,p1,p2,p3⟩:=HPb.out w3 HC3.out;clear hown3 hgrow3 hl3 hownB hB2 hs2;go_wp2_with fail;clear p0 p1 p2 p3
  go_loopg [7,32] ks.length (fun g sv iv wr=>∃k:Nat,k<=ks.length/\iv= .int .i64 (k:Int)/\g+k=ks.length/\wr.ownsRow w0.heap.size 5 1 sv (nodeP false ks.length ks vs cs k).data.toList.length (Lib.byteCells (nodeP false ks.length ks vs cs k).data.toList)/\Hid (Below w0.heap.size w0 wr))
  case atStart=>exact ⟨0,Nat.zero_le _,rfl,rfl,hownP,HC3⟩
  case round=>
   obtain ⟨k,hk,rfl,hg,hown,HB⟩:=hrel;have HG:=hide hg;clear hg
   have hsz:(nodeP false ks.length ks vs cs k).data.toList.length<=238:=by have h1:=zc9 HOk.out k hk;rw [zch];omega
   by_cases hlt:k<ks.length
   ·obtain ⟨p0,p1,p2,p3⟩:=HPb.out wr HB.out
    have HEk:=hide (HE.out k hlt)
    have HK:Hid ((nodeP false ks.length ks vs cs (k+1)).data.toList=(nodeP false ks.length ks vs cs k).data.toList++(shortB (ks.getD k ⟨#[]⟩)++sideT false vs cs k).data.toList):=hide (by rw [nodeP,ByteArray.append_assoc,ByteArray.data_append,Array.toList_append])
    have hes:(shortB (ks.getD k ⟨#[]⟩)++sideT false vs cs k).size<=100:=by
     have h1:=zf2 HOk.out hlt;have h2:=zaN (ks.getD k ⟨#[]⟩);have h3:=zbQ ((zam HOk.out).2.1 k hlt);rw [ByteArray.size_append]
     omega
    obtain ⟨z,hz⟩:∃z,z=shortB (ks.getD k ⟨#[]⟩)++sideT false vs cs k:=⟨_,rfl⟩;rw [<-hz] at HEk HK hes;obtain ⟨l,hl⟩:∃l,l=(nodeP false ks.length ks vs cs k).data.toList:=⟨_,rfl⟩;rw [<-hl] at HK hown hsz;have HOn:=hide hown;have HDr:=hide (zat HD.out (HB0.out.trans (HB.out.mono HB0.out.size)));clear hz hl hown;go_wp2_with fail;refine (HEk.out _ HDr.out).mono ?_;rintro e w5 ⟨rfl,hb5⟩;have hown5:=zaf HOn.out hb5;have HB5:Hid (Below w0.heap.size w0 w5):=hide (HB.out.trans (hb5.mono HB.out.size));have hBs:=HB5.out.size;clear hb5 p0 p1 p2 p3
    go_wp2_with (at_builtin;refine Lib.wpList_append_own_string _ rfl _ _ 22 9 rfl w0.heap.size 5 i0 Tryz.underlying22 Tryz.underlying9 hi hz0 hz1 hz2 _ _ _ rfl hown5 z rfl ?d1 ?d2 hBs ?_)
    case d1=>unfold maxLen;omega
    case d2=>omega
    intro v6 w6 hown6 hgrow6 _;have HB6:Hid (Below w0.heap.size w0 w6):=hide (below_grow HB5.out hBs hown5 (Below.refl _ _) hgrow6)
    have hown7:w6.ownsRow w0.heap.size 5 1 v6 (nodeP false ks.length ks vs cs (k+1)).data.toList.length (Lib.byteCells (nodeP false ks.length ks vs cs (k+1)).data.toList):=by
     rw [HK.out,List.length_append,zch z,<-zez];exact hown6
    clear hown6 hgrow6 hown5;go_wp2_with fail
    go_roundg (gk - 1)
    case measure=>have:=HG.out;omega
    case rel=>exact ⟨k+1,by omega,by go_num,by have:=HG.out;omega,hown7,HB6⟩
   ·obtain rfl:k=ks.length:=by omega
    have hcv:=zdB (dst:=9) (src:=22) Tryz.underlying22 Tryz.underlying5 Tryz.underlying9 hown
    have hnb:(⟨(nodeP false ks.length ks vs cs ks.length).data.toList.toArray⟩:ByteArray)=nodeB false ks vs cs:=by rw [nodeB]
    rw [hnb] at hcv;have HTr:=hide (zag HT.out (HB0.out.trans (HB.out.mono HB0.out.size)));clear hown hnb hsz;go_wp2_with fail;refine (HSe.out _ HTr.out).mono ?_;rintro e w7 ⟨rfl,hb7⟩
    have HB7:Hid (Below w.heap.size w w7):=hide ((HB0.out.trans (HB.out.mono HB0.out.size)).trans (hb7.mono (by have:=HB0.out.size;have:=HB.out.size;omega)))
    clear hb7 hcv;go_wp2_with fail;go_ret2;rw [HTt.out];exact ⟨rfl,HB7.out⟩
theorem zfB (v:Value) (lf:Bool) (ks vs:List ByteArray) (cs:List Int) (hk:ks.length<=1048576) (hv:vs.length<=1048576) (hc:cs.length<=1048576) (hks:∀s∈ks,s.size<=1048576) (hvs:∀s∈vs,s.size<=1048576) (w:World) (hT:SumTab w) (hd:NodeAt w v lf ks vs cs):
  Calls Tryz.prog 52 #[v] w fun e w'=>e= .returned (.tuple #[.string (nodeO lf ks vs cs),.bool (nodeOkB lf ks vs cs)])/\Below w.heap.size w w':=by
 cases hok:nodeOkB lf ks vs cs with
 | true=>
  rw [nodeO,hok,if_pos rfl];exact zh1 v lf ks vs cs hok hk hv hc hks hvs w hT hd
 | false=>
  have HS:=hide (fun wx h=>zbF v lf ks vs cs hk hv hc hks hvs wx h)
  rw [hok] at HS;have HD:=hide hd;obtain ⟨vk,vv,vc,rfl,-,-,-⟩:=hd;obtain ⟨w0,hw0⟩:∃w0,w0=w.alloc (Obj.cells #[.bool lf,vk,vv,vc] 71):=⟨_,rfl⟩
  have HB0:Hid (Below w.heap.size w w0):=hide (by rw [hw0];exact (Below.refl w.heap.size w).alloc (Nat.le_refl _) _)
  have HO:Hid (nodeO lf ks vs cs=⟨#[]⟩):=hide (by rw [nodeO,hok];rfl)
  clear hok hk hv hc hks hvs hT;go_enter Tryz.func52,Tryz.ntmps52;go_wp2_with fail;rw [<-hw0];clear hw0;refine (HS.out _ (zat HD.out HB0.out)).mono ?_;rintro e w1 ⟨rfl,hb⟩;go_wp2_with fail;go_ret2;rw [HO.out];exact ⟨rfl,HB0.out.trans (hb.mono HB0.out.size)⟩
end Go.Proofs.YtcbogiebfbbmbaaGreatDoor
