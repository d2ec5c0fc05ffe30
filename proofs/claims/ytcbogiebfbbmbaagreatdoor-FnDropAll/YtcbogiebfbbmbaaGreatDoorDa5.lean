/-
  Facts and contracts that the law's own text rests on, by their texts' names: Plain26, Plain10.
-/
import Derived.Test.YtcbogiebfbbmbaaGreatDoorDa4
import Derived.Test.YtcbogiebfbbmbaaGreatDoorDa1
set_option maxHeartbeats 16000000
set_option maxRecDepth 100000
namespace Go.Proofs.YtcbogiebfbbmbaaGreatDoor
theorem zgc {n:Nat} (h:n<128):(vtext n).length=1:=by rw [vtext,zcA 4 n h];rfl
theorem zfp (s:ByteArray) (h:s.size<128):(shortB s).size=s.size+1:=by
 rw [shortB,ByteArray.size_append,zbe,zgc h]
 omega
theorem zj8 {lf:Bool} {ks vs:List ByteArray} {cs:List Int} (h:nodeOkB lf ks vs cs=true) {i:Nat} (hi:i<ks.length):(sideT lf vs cs i).size<=25:=by
 obtain ⟨h0,h1,h2,h3⟩:=zam h;obtain ⟨c1,c2,c3,c4⟩:=zaX h0;unfold sideT
 split
 ·next e=>
  have hv:=h2 i (by have:=(c3 e).1;omega)
  rw [zfp _ (by omega)]
  omega
 ·next e=>
  have e':lf=false:=by cases lf;rfl;exact absurd rfl e
  have hk:=zdF (h3 i (by have:=(c4 e').1;omega))
  rw [zbe,zgc (by omega)]
  omega
theorem zgd {lf:Bool} {ks vs:List ByteArray} {cs:List Int} (h:nodeOkB lf ks vs cs=true):∀k,k<=ks.length->(nodeP lf ks.length ks vs cs k).size<=2+50 * k
 | 0,_=>by
  have c2:=(zaX (zam h).1).2.1
  rw [nodeP,ByteArray.size_append,zc8,zbe,zgc (by omega)]
  omega
 | k+1,hk=>by
  have ih:=zgd h k (by omega)
  have h1:=zj8 h (show k<ks.length by omega)
  have h3:=zbQ ((zam h).2.1 k (by omega))
  have h2:=zfp (ks.getD k ⟨#[]⟩) (by omega)
  rw [nodeP,ByteArray.size_append,ByteArray.size_append]
  omega
theorem zkE {lf:Bool} {ks vs:List ByteArray} {cs:List Int} (h:nodeOkB lf ks vs cs=true):(nodeT lf ks vs cs).size<=206:=by
 have h1:=zgd h ks.length (Nat.le_refl _);obtain ⟨c1,c2,-,-⟩:=zaX (zam h).1
 have h2:(nodeT lf ks vs cs).size=(nodeB lf ks vs cs).size+4:=by
  unfold nodeT
  show (sealL (nodeB lf ks vs cs).data.toList).toArray.size=_
  rw [List.size_toArray,zdd]
  rfl
 rw [h2];unfold nodeB
 omega
open Go.RowKit
def newP (n:Int):List ByteArray:=if 4<=n/\n<=40 then List.replicate n.toNat ⟨#[]⟩ else []
def writeOk (ps:List ByteArray) (ls:List (Int×ByteArray)) (page:Int) (text:ByteArray):Bool:=diskOkB ps ls && decide (0<=page/\page<=(ps.length:Int) - 1) && decide (text.size<=240) && decide (ls.length≠200)
def writeL (ps:List ByteArray) (ls:List (Int×ByteArray)) (page:Int) (text:ByteArray):List (Int×ByteArray):=if writeOk ps ls page text=true then ls++ [(page,text)] else ls
theorem zll {ps:List ByteArray} {ls:List (Int×ByteArray)} {page:Int} {text:ByteArray} (h:ls.length<=1048576):(writeL ps ls page text).length<=1048576:=by
 rw [writeL]
 split
 ·next hw=>
  rw [writeOk] at hw
  simp only [Bool.and_eq_true] at hw
  have:=(zeX hw.1.1.1).2.2.2.2
  simp
  omega
 ·exact h
end Go.Proofs.YtcbogiebfbbmbaaGreatDoor
