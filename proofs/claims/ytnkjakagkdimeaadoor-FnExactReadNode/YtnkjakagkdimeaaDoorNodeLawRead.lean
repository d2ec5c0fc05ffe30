/-
  The exact law of ReadNode by contracts.
-/
import Derived.Test.YtnkjakagkdimeaaDoorImplReadNode
import Derived.Test.YtnkjakagkdimeaaDoorSpecRead
import Derived.Test.YtnkjakagkdimeaaDoorNode2
namespace Go.Proofs.YtnkjakagkdimeaaDoor
open Go.RowKit

theorem readN_len {t : ByteArray} {n : Nd} {ok : Bool} (h : ReadN t n ok) : n.ks.length ≤ 4 ∧ n.vs.length ≤ 4 ∧ n.cs.length ≤ 4 := by
  rcases h with ⟨-, h, -⟩ | ⟨-, rfl, -⟩
  · obtain ⟨h1, h2, h3, h4⟩ := cnt_yes (node_yes h.1).1
    cases hl : n.lf with
    | true => have := h3 hl; omega
    | false => have := h4 hl; omega
  · simp [Nd.none]

theorem nodeOwn_cells {w : World} {B : Nat} {v : Value} {lf : Bool} {ks vs : List ByteArray} {cs : List Int} (h : NodeOwn w B v lf ks vs cs) : ∃ a1 c1 a2 c2 a3 c3, v = .agg #[.bool lf, .slice a1 ks.length c1, .slice a2 vs.length c2, .slice a3 cs.length c3] := by
  obtain ⟨v1, v2, v3, rfl, h1, h2, h3, -⟩ := h
  obtain ⟨a1, c1, rfl⟩ := own_slice h1
  obtain ⟨a2, c2, rfl⟩ := own_slice h2
  obtain ⟨a3, c3, rfl⟩ := own_slice h3
  exact ⟨a1, c1, a2, c2, a3, c3, rfl⟩

theorem var4 {w : World} {a : Nat} {b0 v1 v2 v3 : Value} (h : w.heap[a]? = some (.cells #[b0, v1, v2, v3] 27 (0, 0))) : w.cell? ⟨a, 0, none⟩ = some b0 ∧ w.cell? ⟨a, 1, none⟩ = some v1 ∧ w.cell? ⟨a, 2, none⟩ = some v2 ∧ w.cell? ⟨a, 3, none⟩ = some v3 :=
  ⟨(cell_at h 0).1, (cell_at h 1).1, (cell_at h 2).1, (cell_at h 3).1⟩

theorem stays {w w' : World} {a : Nat} {o : Obj} (h : w.heap[a]? = some o) (hb : Below w.heap.size w w') : w'.heap[a]? = some o := (hb.block _ (Array.getElem?_eq_some_iff.1 h).1).trans h

set_option maxHeartbeats 4000000 in
set_option maxRecDepth 100000 in
theorem lawReadNode (t : ByteArray) (htm : t.size ≤ maxLen) (w : World) (hT : SumTab w) :
    Calls Tryd.prog 5 #[.string t] w fun e w' => e = .returned (.bool true) ∧ Below w.heap.size w w' := by
  unfold maxLen at htm
  by_cases htb : t.size ≤ 1048576
  · have HT := hide hT
    have HIm := hide (fun wx h => implReadNode_any t htb wx h)
    clear hT
    go_enter Tryd.func5, Tryd.ntmps5
    go_wp2_with fail
    refine (specReadNode_any t htb w).mono ?_
    rintro e w1 ⟨n, v, ok, rfl, hrd, hown, hb1⟩
    have hlen := readN_len hrd
    have HRd := hide hrd
    have dok : (ok != ok) = false := by cases ok <;> rfl
    have HO1 := hide hown
    obtain ⟨a1, c1, a2, c2, a3, c3, rfl⟩ := nodeOwn_cells hown
    have HB1 := hide hb1
    obtain ⟨wA, hwA⟩ : ∃ wA, wA = w1.alloc (Obj.cells #[.bool n.lf, .slice a1 n.ks.length c1, .slice a2 n.vs.length c2, .slice a3 n.cs.length c3] 27) := ⟨_, rfl⟩
    have hbA : Below w1.heap.size w1 wA := by rw [hwA]; exact (Below.refl _ _).alloc (Nat.le_refl _) _
    have HVA : Hid (wA.heap[w1.heap.size]? = some (.cells #[.bool n.lf, .slice a1 n.ks.length c1, .slice a2 n.vs.length c2, .slice a3 n.cs.length c3] 27 (0, 0))) := hide (by rw [hwA]; exact heap_alloc_new w1 _)
    have HSA : Hid (wA.heap.size = w1.heap.size + 1) := hide (by rw [hwA]; simp)
    have HOA := hide (nodeOwn_below HO1.out hbA)
    have HBA : Hid (Below w.heap.size w wA) := hide (HB1.out.trans (hbA.mono HB1.out.size))
    have HLv : Hid (∀ k, nodeBlocks (.agg #[.bool n.lf, .slice a1 n.ks.length c1, .slice a2 n.vs.length c2, .slice a3 n.cs.length c3]) k → k < w1.heap.size) := hide (fun k hk => (nodeOwn_lt HO1.out k hk).2)
    clear hown hb1 hbA hrd
    go_wp2_with fail
    rw [← hwA]
    clear hwA
    refine (HIm.out wA (sumTab_below HT.out HBA.out)).mono ?_
    rintro e w2 ⟨n', v', ok', rfl, hrd, hown, hb2⟩
    obtain ⟨e1, e2⟩ := readN_one hrd HRd.out
    subst e1 e2
    have HO2 := hide hown
    have HLu : Hid (∀ k, nodeBlocks v' k → wA.heap.size ≤ k ∧ k < w2.heap.size) := hide (nodeOwn_lt hown)
    obtain ⟨d1, e1, d2, e2, d3, e3, rfl⟩ := nodeOwn_cells hown
    obtain ⟨wB, hwB⟩ : ∃ wB, wB = w2.alloc (Obj.cells #[.bool n'.lf, .slice d1 n'.ks.length e1, .slice d2 n'.vs.length e2, .slice d3 n'.cs.length e3] 27) := ⟨_, rfl⟩
    have hbB : Below w2.heap.size w2 wB := by rw [hwB]; exact (Below.refl _ _).alloc (Nat.le_refl _) _
    have hVB : wB.heap[w2.heap.size]? = some (.cells #[.bool n'.lf, .slice d1 n'.ks.length e1, .slice d2 n'.vs.length e2, .slice d3 n'.cs.length e3] 27 (0, 0)) := by rw [hwB]; exact heap_alloc_new w2 _
    have hVA := stays (stays HVA.out hb2) hbB
    have HVa := hide hVA
    have HVb := hide hVB
    have HOb := hide (nodeOwn_below HO2.out hbB)
    have HOv := hide (nodeOwn_below (nodeOwn_below HOA.out hb2) hbB)
    have HBB : Hid (Below w.heap.size w wB) := hide ((HBA.out.trans (hb2.mono HBA.out.size)).trans (hbB.mono (by have := HBA.out.size; have := hb2.size; omega)))
    have HL2 : Hid (wA.heap.size ≤ w2.heap.size) := hide hb2.size
    obtain ⟨x0, x1, x2, x3⟩ := var4 hVA
    rw [hwB] at x0 x1 x2 x3
    clear hown hb2 hbB hrd hVB hVA
    go_wp2_with fail
    rw [← hwB]
    clear hwB
    refine (eqNode_same _ _ n'.lf n'.ks n'.vs n'.cs (by omega) (by omega) (by omega) wB (node_of_own HOb.out) (node_of_own HOv.out)).mono ?_
    rintro e w3 ⟨rfl, hb3⟩
    have HB3 : Hid (Below w.heap.size w w3) := hide (HBB.out.trans (hb3.mono HBB.out.size))
    have hVa := stays HVa.out hb3
    have hVb := stays HVb.out hb3
    have HVa3 := hide hVa
    have HVb3 := hide hVb
    have HOb3 := hide (nodeOwn_below HOb.out hb3)
    have HOv3 := hide (nodeOwn_below HOv.out hb3)
    obtain ⟨y0, y1, y2, y3⟩ := var4 hVb
    clear hb3 hVa hVb x0 x1 x2 x3
    obtain ⟨m, hm⟩ : ∃ m, m = 1 + n'.ks.length + n'.vs.length + n'.cs.length := ⟨_, rfl⟩
    have HM := hide (fun wx h => markNode_any (.agg #[.bool n'.lf, .slice d1 n'.ks.length e1, .slice d2 n'.vs.length e2, .slice d3 n'.cs.length e3]) n'.lf n'.ks n'.vs n'.cs wA.heap.size 1 (by omega) (by omega) (by omega) (by omega) (by omega) wx h)
    have HH := hide (fun wx h => heldNode_any (.agg #[.bool n'.lf, .slice d1 n'.ks.length e1, .slice d2 n'.vs.length e2, .slice d3 n'.cs.length e3]) n'.lf n'.ks.length n'.vs.length n'.cs.length 1 (by omega) (by omega) (by omega) (by omega) (by omega) wx h)
    rw [← hm] at HM HH
    have hml : m ≤ 13 := by omega
    have hmp : 1 ≤ m := by omega
    clear hm
    go_wp2_with fail
    refine (HM.out w3 HOb3.out).mono ?_
    rintro e w4 ⟨rfl, hown4, hk4⟩
    have hVa : w4.heap[w1.heap.size]? = _ := (hk4.2.2.2.2 _ (Array.getElem?_eq_some_iff.1 HVa3.out).1 (fun h => by have := (HLu.out _ h).1; rw [HSA.out] at this; omega)).trans HVa3.out
    have hVb : w4.heap[w2.heap.size]? = _ := (hk4.2.2.2.2 _ (Array.getElem?_eq_some_iff.1 HVb3.out).1 (fun h => by have := (HLu.out _ h).2; omega)).trans HVb3.out
    have HVa4 := hide hVa
    have HVb4 := hide hVb
    have HOv4 := hide (nodeOwn_kept HOv3.out hk4 (fun k h1 h2 => by have a := HLv.out k h1; have b := (HLu.out k h2).1; rw [HSA.out] at b; omega))
    have HO4 := hide hown4
    have HB4 : Hid (Below w.heap.size w w4) := hide (HB3.out.trans (below_of_kept hk4 HB3.out.size (fun k h => by have := (HLu.out k h).1; have := HBA.out.size; omega)))
    obtain ⟨y0, y1, y2, y3⟩ := var4 hVb
    clear hVa hVb hown4 hk4
    go_wp2_with fail
    refine (HH.out w4 (node_of_own HO4.out)).mono ?_
    rintro e w5 ⟨rfl, hb5⟩
    have HVa5 := hide (stays HVa4.out hb5)
    have HVb5 := hide (stays HVb4.out hb5)
    have HO5 := hide (nodeOwn_below HO4.out hb5)
    have HOv5 := hide (nodeOwn_below HOv4.out hb5)
    have HB5 : Hid (Below w.heap.size w w5) := hide (HB4.out.trans (hb5.mono HB4.out.size))
    clear hb5 y0 y1 y2 y3
    go_wp2_with fail
    refine (HIm.out w5 (sumTab_below HT.out HB5.out)).mono ?_
    rintro e w6 ⟨n2, v2, ok2, rfl, hrd, hown, hb6⟩
    obtain ⟨e1, e2⟩ := readN_one hrd HRd.out
    subst e1 e2
    have HO6 := hide hown
    obtain ⟨f1, g1, f2, g2, f3, g3, rfl⟩ := nodeOwn_cells hown
    obtain ⟨wC, hwC⟩ : ∃ wC, wC = w6.alloc (Obj.cells #[.bool n2.lf, .slice f1 n2.ks.length g1, .slice f2 n2.vs.length g2, .slice f3 n2.cs.length g3] 27) := ⟨_, rfl⟩
    have hbC : Below w6.heap.size w6 wC := by rw [hwC]; exact (Below.refl _ _).alloc (Nat.le_refl _) _
    have hVa := stays (stays HVa5.out hb6) hbC
    have HVb7 := hide (stays (stays HVb5.out hb6) hbC)
    have HOc := hide (nodeOwn_below HO6.out hbC)
    have HOv7 := hide (nodeOwn_below (nodeOwn_below HOv5.out hb6) hbC)
    have HO7 := hide (nodeOwn_below (nodeOwn_below HO5.out hb6) hbC)
    have HBC : Hid (Below w.heap.size w wC) := hide ((HB5.out.trans (hb6.mono HB5.out.size)).trans (hbC.mono (by have := HB5.out.size; have := hb6.size; omega)))
    obtain ⟨x0, x1, x2, x3⟩ := var4 hVa
    rw [hwC] at x0 x1 x2 x3
    clear hown hb6 hbC hrd hVa
    go_wp2_with fail
    rw [← hwC]
    clear hwC
    refine (eqNode_same _ _ n2.lf n2.ks n2.vs n2.cs (by omega) (by omega) (by omega) wC (node_of_own HOc.out) (node_of_own HOv7.out)).mono ?_
    rintro e w8 ⟨rfl, hb8⟩
    have hVb := stays HVb7.out hb8
    have HO8 := hide (nodeOwn_below HO7.out hb8)
    have HB8 : Hid (Below w.heap.size w w8) := hide (HBC.out.trans (hb8.mono HBC.out.size))
    obtain ⟨y0, y1, y2, y3⟩ := var4 hVb
    clear hb8 hVb x0 x1 x2 x3
    go_wp2_with fail
    refine (HH.out w8 (node_of_own HO8.out)).mono ?_
    rintro e w9 ⟨rfl, hb9⟩
    have HB9 : Hid (Below w.heap.size w w9) := hide (HB8.out.trans (hb9.mono HB8.out.size))
    clear hb9 y0 y1 y2 y3
    go_wp2_with fail
    go_ret
    exact ⟨rfl, HB9.out⟩
  · have d1 : decide ((1048576 : Int) < (t.size : Int)) = true := decide_eq_true (by omega)
    go_enter Tryd.func5, Tryd.ntmps5
    go_wp2_with fail
    go_ret
    exact ⟨rfl, Below.refl _ _⟩
end Go.Proofs.YtnkjakagkdimeaaDoor
