/-
  Facts and contracts that the law's own text rests on, by their texts' names: HalvesOf.
-/
import Derived.ArgAppend
import Derived.ControlIn
import Derived.Laws.EntriesVeiled
import Derived.Test.YtcbogiebfbbmbaaGreatDoorDa7
import Derived.Test.YtcbogiebfbbmbaaGreatDoorDa29
import Derived.Test.YtcbogiebfbbmbaaGreatDoorDa27
import Derived.Test.YtcbogiebfbbmbaaGreatDoorDa11
import Derived.Test.YtcbogiebfbbmbaaGreatDoorDa24
import Derived.Test.YtcbogiebfbbmbaaGreatDoorDa30
set_option maxHeartbeats 16000000
set_option maxRecDepth 100000
namespace Go.Proofs.YtcbogiebfbbmbaaGreatDoor
open Go.RowKit Go.Shelf
attribute [local go_sem] Oper.semAt_some
theorem zbC (W:World) (o:Obj) (k:Nat):(W.alloc o).heap[k]?=if k=W.heap.size then some o else W.heap[k]?:=by
 by_cases h:k=W.heap.size
 ·rw [if_pos h,h];exact World.alloc_heap_new W o
 ·rw [if_neg h]
  by_cases h2:k<W.heap.size
  ·exact Below.heap_alloc _ _ _ h2
  ·have h3:(W.alloc o).heap.size<=k:=by rw [World.size_alloc];omega
   rw [Array.getElem?_eq_none h3,Array.getElem?_eq_none (by omega)]
end Go.Proofs.YtcbogiebfbbmbaaGreatDoor
