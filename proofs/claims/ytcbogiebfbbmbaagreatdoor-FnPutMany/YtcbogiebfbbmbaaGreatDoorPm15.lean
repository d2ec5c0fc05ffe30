/-
  Facts and contracts that the law's own text rests on, by their texts' names: ReadPost.
-/
import Derived.Deep.RegionLaw
import Derived.Test.YtcbogiebfbbmbaaGreatDoorPm14
import Derived.Test.YtcbogiebfbbmbaaGreatDoorPm13
import Derived.Test.YtcbogiebfbbmbaaGreatDoorPm9
set_option maxHeartbeats 16000000
set_option maxRecDepth 100000
namespace Go.Proofs.YtcbogiebfbbmbaaGreatDoor
open Go.RowKit
def RnPost (w:World) (g:Nat) (s:ByteArray) (e:Ending) (w':World):Prop:=
 w.grownBy w' (some g)/\((∃n v,e= .returned v/\IsIn s n/\(∀m,IsIn s m->m=n)/\NodeOwn w' w.heap.size v n.lf n.ks n.vs n.cs)\/(e= .panicked misread/\∀m,¬IsIn s m))
theorem zcn {w w':World} {g:Nat} {s:ByteArray} (h:w.grownBy w' (some g)) (hn:∀m,¬IsIn s m):RnPost w g s (.panicked misread) w':=⟨h,Or.inr ⟨rfl,hn⟩⟩
theorem zcB {w:World} {g p:Nat} {t:ByteArray} (h:RdT w g t p) (o:Obj):RdT (w.alloc o) g t p:=(Below.heap_alloc w o g (zf0 h)).trans h
theorem zbJ {a b:World} {r:Option Nat} (h:a.grownBy b r):a.grownBy b.drew r:=za3 h ⟨rfl,rfl,rfl,Nat.le_refl _,fun _ _ _=>rfl⟩
theorem zhH {w w':World} {g gn p:Nat} {t:ByteArray} (h:RdT w g t p) (hb:Below gn w w') (hlt:g<gn):RdT w' g t p:=(hb.block g hlt).trans h
end Go.Proofs.YtcbogiebfbbmbaaGreatDoor
