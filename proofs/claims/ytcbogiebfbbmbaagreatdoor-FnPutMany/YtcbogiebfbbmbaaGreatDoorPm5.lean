/-
  Facts and contracts that the law's own text rests on, by their texts' names: Plain26, Plain10.
-/
import Derived.Test.YtcbogiebfbbmbaaGreatDoorPm4
import Derived.Test.YtcbogiebfbbmbaaGreatDoorPm1
set_option maxHeartbeats 16000000
set_option maxRecDepth 100000
namespace Go.Proofs.YtcbogiebfbbmbaaGreatDoor
theorem zfN {n:Nat} (h:n<128):(vtext n).length=1:=by rw [vtext,zcs 4 n h];rfl
theorem zeX (s:ByteArray) (h:s.size<128):(shortB s).size=s.size+1:=by
 rw [shortB,ByteArray.size_append,zbg,zfN h]
 omega
theorem zjf {lf:Bool} {ks vs:List ByteArray} {cs:List Int} (h:nodeOkB lf ks vs cs=true) {i:Nat} (hi:i<ks.length):(sideT lf vs cs i).size<=25:=by
 obtain ⟨h0,h1,h2,h3⟩:=zan h;obtain ⟨c1,c2,c3,c4⟩:=zaP h0;unfold sideT
 split
 ·next e=>
  have hv:=h2 i (by have:=(c3 e).1;omega)
  rw [zeX _ (by omega)]
  omega
 ·next e=>
  have e':lf=false:=by cases lf;rfl;exact absurd rfl e
  have hk:=zds (h3 i (by have:=(c4 e').1;omega))
  rw [zbg,zfN (by omega)]
  omega
theorem zfO {lf:Bool} {ks vs:List ByteArray} {cs:List Int} (h:nodeOkB lf ks vs cs=true):∀k,k<=ks.length->(nodeP lf ks.length ks vs cs k).size<=2+50 * k
 | 0,_=>by
  have c2:=(zaP (zan h).1).2.1
  rw [nodeP,ByteArray.size_append,zc0,zbg,zfN (by omega)]
  omega
 | k+1,hk=>by
  have ih:=zfO h k (by omega)
  have h1:=zjf h (show k<ks.length by omega)
  have h3:=zbO ((zan h).2.1 k (by omega))
  have h2:=zeX (ks.getD k ⟨#[]⟩) (by omega)
  rw [nodeP,ByteArray.size_append,ByteArray.size_append]
  omega
theorem zkQ {lf:Bool} {ks vs:List ByteArray} {cs:List Int} (h:nodeOkB lf ks vs cs=true):(nodeT lf ks vs cs).size<=206:=by
 have h1:=zfO h ks.length (Nat.le_refl _);obtain ⟨c1,c2,-,-⟩:=zaP (zan h).1
 have h2:(nodeT lf ks vs cs).size=(nodeB lf ks vs cs).size+4:=by
  unfold nodeT
  show (sealL (nodeB lf ks vs cs).data.toList).toArray.size=_
  rw [List.size_toArray,zd7]
  rfl
 rw [h2];unfold nodeB
 omega
open Go.RowKit
def newP (n:Int):List ByteArray:=if 4<=n/\n<=40 then List.replicate n.toNat ⟨#[]⟩ else []
def writeOk (ps:List ByteArray) (ls:List (Int×ByteArray)) (page:Int) (text:ByteArray):Bool:=diskOkB ps ls && decide (0<=page/\page<=(ps.length:Int) - 1) && decide (text.size<=240) && decide (ls.length≠200)
def writeL (ps:List ByteArray) (ls:List (Int×ByteArray)) (page:Int) (text:ByteArray):List (Int×ByteArray):=if writeOk ps ls page text=true then ls++ [(page,text)] else ls
end Go.Proofs.YtcbogiebfbbmbaaGreatDoor
