/-
  More of the laws' helpers over nodes by contracts: eqNode at two nodes of the same, markNode, heldNode.
-/
import Derived.Test.YtnkjakagkdimeaaNode
namespace Go.Proofs.Ytnkjakagkdimeaa
open Go.RowKit

set_option maxHeartbeats 1000000 in
set_option maxRecDepth 100000 in
theorem eqNode_same (v u : Value) (lf : Bool) (ks vs : List ByteArray) (cs : List Int) (hk : ks.length ≤ 1048576) (hv : vs.length ≤ 1048576) (hc : cs.length ≤ 1048576) (w : World) (hd : NodeAt w v lf ks vs cs) (hu : NodeAt w u lf ks vs cs) :
    Calls Try.prog 15 #[v, u] w fun e w' => e = .returned (.bool true) ∧ Below w.heap.size w w' := by
  obtain ⟨vk, vv, vc, rfl, h1, h2, h3⟩ := hd
  obtain ⟨uk, uv, uc, rfl, g1, g2, g3⟩ := hu
  have HC1 := hide (fun wx h h' => eqStringS_row ks ks (by omega) (by omega) vk uk wx h h')
  have HC2 := hide (fun wx h h' => eqStringS_row vs vs (by omega) (by omega) vv uv wx h h')
  have HC3 := hide (fun wx h h' => eqIntS_row cs cs (by omega) (by omega) vc uc wx h h')
  rw [decide_eq_true rfl] at HC1 HC2 HC3
  have HR := hide (⟨h1, h2, h3, g1, g2, g3⟩ : _ ∧ _ ∧ _ ∧ _ ∧ _ ∧ _)
  clear h1 h2 h3 g1 g2 g3 hk hv hc
  obtain ⟨w0, hw0⟩ : ∃ w0, w0 = (w.alloc (Obj.cells #[.bool lf, vk, vv, vc] 27)).alloc (Obj.cells #[.bool lf, uk, uv, uc] 27) := ⟨_, rfl⟩
  have hb0 : Below w.heap.size w w0 := by rw [hw0]; exact ((Below.refl w.heap.size w).alloc (Nat.le_refl _) _).alloc (by simp) _
  obtain ⟨q0, q1, hs0⟩ := two_allocs w (Obj.cells #[.bool lf, vk, vv, vc] 27) (Obj.cells #[.bool lf, uk, uv, uc] 27)
  rw [← hw0] at q0 q1 hs0
  have HB0 := hide hb0
  have HQ := hide (⟨q0, q1, hs0⟩ : _ ∧ _ ∧ _)
  have dl : (lf != lf) = false := by cases lf <;> rfl
  clear hb0 q0 q1 hs0
  go_enter Try.func15, Try.ntmps15
  go_wp2_with fail
  rw [← hw0]
  clear hw0
  refine (HC1.out _ (row_below HR.out.1 HB0.out) (row_below HR.out.2.2.2.1 HB0.out)).mono ?_
  rintro e w1 ⟨rfl, hb1⟩
  have HB1 : Hid (Below w.heap.size w w1) := hide (HB0.out.trans (hb1.mono HB0.out.size))
  have p1 := (hb1.block _ (by rw [HQ.out.2.2]; omega)).trans HQ.out.1
  have o1 := (hb1.block _ (by rw [HQ.out.2.2]; omega)).trans HQ.out.2.1
  have c2 : w1.cell? ⟨w.heap.size, 2, none⟩ = some vv := (cell_at p1 2).1
  have d2 : w1.cell? ⟨w.heap.size + 1, 2, none⟩ = some uv := (cell_at o1 2).1
  have HQ1 := hide (⟨p1, o1⟩ : _ ∧ _)
  clear hb1 p1 o1
  go_wp2_with fail
  refine (HC2.out _ (row_below HR.out.2.1 HB1.out) (row_below HR.out.2.2.2.2.1 HB1.out)).mono ?_
  rintro e w2 ⟨rfl, hb2⟩
  have HB2 : Hid (Below w.heap.size w w2) := hide (HB1.out.trans (hb2.mono HB1.out.size))
  have p2 := (hb2.block _ (Array.getElem?_eq_some_iff.1 HQ1.out.1).1).trans HQ1.out.1
  have o2 := (hb2.block _ (Array.getElem?_eq_some_iff.1 HQ1.out.2).1).trans HQ1.out.2
  have c3 : w2.cell? ⟨w.heap.size, 3, none⟩ = some vc := (cell_at p2 3).1
  have d3 : w2.cell? ⟨w.heap.size + 1, 3, none⟩ = some uc := (cell_at o2 3).1
  clear hb2 p2 o2 c2 d2
  go_wp2_with fail
  refine (HC3.out _ (row_below HR.out.2.2.1 HB2.out) (row_below HR.out.2.2.2.2.2 HB2.out)).mono ?_
  rintro e w3 ⟨rfl, hb3⟩
  have HB3 : Hid (Below w.heap.size w w3) := hide (HB2.out.trans (hb3.mono HB2.out.size))
  clear hb3 c3 d3
  go_wp2_with fail
  go_ret
  exact ⟨rfl, HB3.out⟩

end Go.Proofs.Ytnkjakagkdimeaa
