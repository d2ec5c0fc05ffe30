/-
  More of the laws' helpers over nodes by contracts: eqNode at two nodes of the same, markNode, heldNode.
-/
import Derived.Test.YtejfmjejdopglaaDoorNode
namespace Go.Proofs.YtejfmjejdopglaaDoor
open Go.RowKit

set_option maxHeartbeats 1000000 in
set_option maxRecDepth 100000 in
theorem eqNode_same (v u : Value) (lf : Bool) (ks vs : List ByteArray) (cs : List Int) (hk : ks.length ≤ 1048576) (hv : vs.length ≤ 1048576) (hc : cs.length ≤ 1048576) (w : World) (hd : NodeAt w v lf ks vs cs) (hu : NodeAt w u lf ks vs cs) :
    Calls Tryd.prog 33 #[v, u] w fun e w' => e = .returned (.bool true) ∧ Below w.heap.size w w' := by
  obtain ⟨vk, vv, vc, rfl, h1, h2, h3⟩ := hd
  obtain ⟨uk, uv, uc, rfl, g1, g2, g3⟩ := hu
  have HC1 := hide (fun wx h h' => eqStringS_row ks ks (by omega) (by omega) vk uk wx h h')
  have HC2 := hide (fun wx h h' => eqStringS_row vs vs (by omega) (by omega) vv uv wx h h')
  have HC3 := hide (fun wx h h' => eqIntS_row cs cs (by omega) (by omega) vc uc wx h h')
  rw [decide_eq_true rfl] at HC1 HC2 HC3
  have HR := hide (⟨h1, h2, h3, g1, g2, g3⟩ : _ ∧ _ ∧ _ ∧ _ ∧ _ ∧ _)
  clear h1 h2 h3 g1 g2 g3 hk hv hc
  obtain ⟨w0, hw0⟩ : ∃ w0, w0 = (w.alloc (Obj.cells #[.bool lf, vk, vv, vc] 58)).alloc (Obj.cells #[.bool lf, uk, uv, uc] 58) := ⟨_, rfl⟩
  have hb0 : Below w.heap.size w w0 := by rw [hw0]; exact ((Below.refl w.heap.size w).alloc (Nat.le_refl _) _).alloc (by simp) _
  obtain ⟨q0, q1, hs0⟩ := two_allocs w (Obj.cells #[.bool lf, vk, vv, vc] 58) (Obj.cells #[.bool lf, uk, uv, uc] 58)
  rw [← hw0] at q0 q1 hs0
  have HB0 := hide hb0
  have HQ := hide (⟨q0, q1, hs0⟩ : _ ∧ _ ∧ _)
  have dl : (lf != lf) = false := by cases lf <;> rfl
  clear hb0 q0 q1 hs0
  go_enter Tryd.func33, Tryd.ntmps33
  go_wp2_with fail
  rw [← hw0]
  clear hw0
  refine (HC1.out _ (row_below HR.out.1 HB0.out) (row_below HR.out.2.2.2.1 HB0.out)).mono ?_
  rintro e w1 ⟨rfl, hb1⟩
  have HB1 : Hid (Below w.heap.size w w1) := hide (HB0.out.trans (hb1.mono HB0.out.size))
  have p1 := (hb1.block _ (by rw [HQ.out.2.2]; omega)).trans HQ.out.1
  have o1 := (hb1.block _ (by rw [HQ.out.2.2]; omega)).trans HQ.out.2.1
  have c2 : w1.cell? ⟨w.heap.size, 2, none⟩ = some vv := (cell_at p1 2).1
  have d2 : w1.cell? ⟨w.heap.size + 1, 2, none⟩ = some uv := (cell_at o1 2).1
  have HQ1 := hide (⟨p1, o1⟩ : _ ∧ _)
  clear hb1 p1 o1
  go_wp2_with fail
  refine (HC2.out _ (row_below HR.out.2.1 HB1.out) (row_below HR.out.2.2.2.2.1 HB1.out)).mono ?_
  rintro e w2 ⟨rfl, hb2⟩
  have HB2 : Hid (Below w.heap.size w w2) := hide (HB1.out.trans (hb2.mono HB1.out.size))
  have p2 := (hb2.block _ (Array.getElem?_eq_some_iff.1 HQ1.out.1).1).trans HQ1.out.1
  have o2 := (hb2.block _ (Array.getElem?_eq_some_iff.1 HQ1.out.2).1).trans HQ1.out.2
  have c3 : w2.cell? ⟨w.heap.size, 3, none⟩ = some vc := (cell_at p2 3).1
  have d3 : w2.cell? ⟨w.heap.size + 1, 3, none⟩ = some uc := (cell_at o2 3).1
  clear hb2 p2 o2 c2 d2
  go_wp2_with fail
  refine (HC3.out _ (row_below HR.out.2.2.1 HB2.out) (row_below HR.out.2.2.2.2.2 HB2.out)).mono ?_
  rintro e w3 ⟨rfl, hb3⟩
  have HB3 : Hid (Below w.heap.size w w3) := hide (HB2.out.trans (hb3.mono HB2.out.size))
  clear hb3 c3 d3
  go_wp2_with fail
  go_ret
  exact ⟨rfl, HB3.out⟩

set_option maxHeartbeats 1000000 in
set_option maxRecDepth 100000 in
theorem markNode_any (v : Value) (lf : Bool) (ks vs : List ByteArray) (cs : List Int) (B k0 : Nat) (hn : ks.length ≤ 1048576) (hm : vs.length ≤ 1048576) (hp : cs.length ≤ 1048576) (hk0 : 0 < k0) (hk1 : k0 ≤ 1000000000) (w : World) (hd : NodeOwn w B v lf ks vs cs) :
    Calls Tryd.prog 35 #[v, .int .i64 (k0 : Int)] w fun e w' => e = .returned (.int .i64 ((k0 + ks.length + vs.length + cs.length : Nat) : Int)) ∧ NodeOwn w' B v lf (marksS k0 ks.length) (marksS (k0 + ks.length) vs.length) (marksI (k0 + ks.length + vs.length) cs.length) ∧ Kept w w' (nodeBlocks v) := by
  obtain ⟨vk, vv, vc, rfl, h1, h2, h3, h4⟩ := hd
  have HC1 := hide (fun wx h => markStringS_row ks hn vk B k0 hk0 (by omega) wx h)
  have HC2 := hide (fun wx h => markStringS_row vs hm vv B (k0 + ks.length) (by omega) (by omega) wx h)
  have HC3 := hide (fun wx h => markIntS_row cs hp vc B (k0 + ks.length + vs.length) (by omega) wx h)
  have H1 := hide h1
  have H2 := hide h2
  have H3 := hide h3
  have H4 := hide h4
  obtain ⟨r, hr⟩ : ∃ r, r = k0 + ks.length := ⟨_, rfl⟩
  rw [← hr] at HC1 HC2 HC3 ⊢
  obtain ⟨z, hz⟩ : ∃ z, z = r + vs.length := ⟨_, rfl⟩
  rw [← hz] at HC2 HC3 ⊢
  obtain ⟨y, hy⟩ : ∃ y, y = z + cs.length := ⟨_, rfl⟩
  rw [← hy] at HC3 ⊢
  have hrl : r ≤ 1002000000 := by omega
  have hzl : z ≤ 1004000000 := by omega
  have hyl : y ≤ 1006000000 := by omega
  clear h1 h2 h3 h4 hr hz hy hn hm hp hk0
  obtain ⟨w0, hw0⟩ : ∃ w0, w0 = w.alloc (Obj.cells #[.bool lf, vk, vv, vc] 58) := ⟨_, rfl⟩
  have hb0 : Below w.heap.size w w0 := by rw [hw0]; exact (Below.refl w.heap.size w).alloc (Nat.le_refl _) _
  have HQ0 : Hid (w0.heap[w.heap.size]? = some (Obj.cells #[.bool lf, vk, vv, vc] 58)) := hide (by rw [hw0]; exact heap_alloc_new w _)
  have hl1 : ∀ k, vk.ownBlock = some k → k < w.heap.size := fun k h => (H1.out.lt k h).2
  have hl2 : ∀ k, vv.ownBlock = some k → k < w.heap.size := fun k h => (H2.out.lt k h).2
  have HL := hide (⟨hl1, hl2⟩ : _ ∧ _)
  have HO1 := hide (own_stays H1.out hb0)
  have HO2 := hide (own_stays H2.out hb0)
  have HO3 := hide (own_stays H3.out hb0)
  have HK0 := hide (kept_of_all hb0 (fun k => nodeBlocks (.agg #[.bool lf, vk, vv, vc]) k))
  clear hb0 hl1 hl2
  go_enter Tryd.func35, Tryd.ntmps35
  go_wp2_with fail
  rw [← hw0]
  clear hw0
  refine (HC1.out _ HO1.out).mono ?_
  rintro e w1 ⟨rfl, hown1, hk⟩
  have p1 := (hk.2.2.2.2 w.heap.size (Array.getElem?_eq_some_iff.1 HQ0.out).1 (fun e => by have := HL.out.1 _ e; omega)).trans HQ0.out
  have HQ1 := hide p1
  have c2 : w1.cell? ⟨w.heap.size, 2, none⟩ = some vv := (cell_at p1 2).1
  have HP1 := hide hown1
  have HP2 := hide (own_kept HO2.out hk (fun k h h' => H4.out k h' h))
  have HP3 := hide (own_kept HO3.out hk (fun k h => one_type HO3.out HO1.out Tryd.str_int.symm k h))
  have HK1 := hide (kept_trans HK0.out hk (fun j _ h => ⟨_, vk, vv, vc, rfl, Or.inl h⟩))
  clear hk hown1 p1
  go_wp2_with fail
  refine (HC2.out _ HP2.out).mono ?_
  rintro e w2 ⟨rfl, hown2, hk⟩
  have p2 := (hk.2.2.2.2 w.heap.size (Array.getElem?_eq_some_iff.1 HQ1.out).1 (fun e => by have := HL.out.2 _ e; omega)).trans HQ1.out
  have c3 : w2.cell? ⟨w.heap.size, 3, none⟩ = some vc := (cell_at p2 3).1
  have HS1 := hide (own_kept HP1.out hk (fun k h h' => H4.out k h h'))
  have HS2 := hide hown2
  have HS3 := hide (own_kept HP3.out hk (fun k h => one_type HP3.out HP2.out Tryd.str_int.symm k h))
  have HK2 := hide (kept_trans HK1.out hk (fun j _ h => ⟨_, vk, vv, vc, rfl, Or.inr (Or.inl h)⟩))
  clear hk hown2 p2 c2
  go_wp2_with fail
  refine (HC3.out _ HS3.out).mono ?_
  rintro e w3 ⟨rfl, hown3, hk⟩
  have HT1 := hide (own_kept HS1.out hk (fun k h => one_type HS1.out HS3.out Tryd.str_int k h))
  have HT2 := hide (own_kept HS2.out hk (fun k h => one_type HS2.out HS3.out Tryd.str_int k h))
  have HT3 := hide hown3
  have HK3 := hide (kept_trans HK2.out hk (fun j _ h => ⟨_, vk, vv, vc, rfl, Or.inr (Or.inr h)⟩))
  clear hk hown3 c3
  go_wp2_with fail
  go_ret
  refine ⟨rfl, ⟨vk, vv, vc, rfl, ?_, ?_, ?_, H4.out⟩, HK3.out⟩
  · rw [marksS_length]; exact HT1.out
  · rw [marksS_length]; exact HT2.out
  · rw [marksI_length]; exact HT3.out
end Go.Proofs.YtejfmjejdopglaaDoor
