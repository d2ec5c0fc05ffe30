/-
  Facts and contracts that the law's own text rests on, by their texts' names: Short.
-/
import Derived.Laws.Concat
import Derived.Test.YtcbogiebfbbmbaaGreatDoorDa1
set_option maxHeartbeats 16000000
set_option maxRecDepth 100000
namespace Go.Proofs.YtcbogiebfbbmbaaGreatDoor
open Go.RowKit
theorem zcF (s:ByteArray) (h:s.size<=20000) (w:World):
  Calls Tryz.prog 106 #[.string s] w fun e w'=>e= .returned (.tuple #[.string (⟨(vtext s.size).toArray⟩++s),.bool true])/\Below w.heap.size w w':=by
 have hlen:=(zau s.size).2;go_enter Tryz.func106,Tryz.ntmps106;go_wp2_with fail
 refine (zcd s.size (by omega) (by omega) _).mono ?_
 rintro e w2 ⟨rfl,hb⟩;rw [Int.toNat_natCast]
 go_wp2
 go_ret2;exact ⟨rfl,hb⟩
end Go.Proofs.YtcbogiebfbbmbaaGreatDoor
