/-
  Facts and contracts that the law's own text rests on, by their texts' names: ReadAny.
-/
import Derived.Test.YtjmgdmdleamenaaGreatDoorSr18
import Derived.Test.YtjmgdmdleamenaaGreatDoorSr17
set_option maxHeartbeats 16000000
set_option maxRecDepth 100000
namespace Go.Proofs.YtjmgdmdleamenaaGreatDoor
open Go.RowKit
theorem rnode_any (g:Nat) (s:ByteArray) (hs:s.size<=1048576) (w:World) (hc:RdT w g s 0):
  Calls Tryz.prog 135 #[.pointer (some ⟨g,0,none⟩)] w fun e w'=>RnPost w g s e w':=by
 by_cases h0:s.size=0
 ·obtain ⟨wa,hwa⟩:∃wa,wa=w.alloc (Obj.cells #[.bool false,.slice none 0 0,.slice none 0 0,.slice none 0 0] 115):=⟨_,rfl⟩
  have HRa:Hid (RdT wa g s 0):=hide (by rw [hwa];exact rdT_alloc hc _)
  have HGa:Hid (w.grownBy wa (some g)):=hide (by rw [hwa];exact World.grownBy_alloc w _ _)
  have HDie:Hid (∀m,¬IsIn s m):=hide (fun m hm=>by have:=(isIn_head hm).1;omega)
  clear hc;go_enter Tryz.func135,Tryz.ntmps135;go_wp2_with fail;rw [<-hwa];refine (mark_bad g s h0 wa HRa.out).mono ?_;rintro e w1 ⟨rfl,hg1⟩;exact ⟨rfl,rn_die (grown_trans HGa.out hg1) HDie.out⟩
 ·by_cases h1:byt s 0=108
  ·exact rnode_true g s hs (by omega) h1 w hc
  ·by_cases h2:byt s 0=98
   ·exact rnode_false g s hs (by omega) h2 w hc
   ·have HDie:=hide (nt_nohead h1 h2)
    obtain ⟨wa,hwa⟩:∃wa,wa=w.alloc (Obj.cells #[.bool false,.slice none 0 0,.slice none 0 0,.slice none 0 0] 115):=⟨_,rfl⟩
    have HRa:Hid (RdT wa g s 0):=hide (by rw [hwa];exact rdT_alloc hc _)
    have HGa:Hid (w.grownBy wa (some g)):=hide (by rw [hwa];exact World.grownBy_alloc w _ _)
    have HM:=hide (mark_good g s hs (by omega) wa HRa.out)
    obtain ⟨y,hy⟩:∃y,y=byt s 0:=⟨_,rfl⟩;rw [<-hy] at HM h1 h2
    have e1:((y:Int) ==108)=false:=beq_eq_false_iff_ne.2 (by omega)
    have e2:((y:Int) ==98)=false:=beq_eq_false_iff_ne.2 (by omega)
    clear hc hy h1 h2;go_enter Tryz.func135,Tryz.ntmps135;go_wp2_with fail;rw [<-hwa];clear hwa;refine HM.out.mono ?_;rintro e w1 ⟨rfl,hr1,hg1⟩;clear hr1;go_wp2_with fail;refine (must_no g _).mono ?_;rintro e w2 ⟨rfl,rfl⟩;exact ⟨rfl,rn_die (grown_trans HGa.out hg1) HDie.out⟩
end Go.Proofs.YtjmgdmdleamenaaGreatDoor
