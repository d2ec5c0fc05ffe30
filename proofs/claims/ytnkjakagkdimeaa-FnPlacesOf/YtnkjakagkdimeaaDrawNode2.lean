/-
  spec.DrawNode by a contract.
-/
import Derived.Test.YtnkjakagkdimeaaDrawNode
namespace Go.Proofs.Ytnkjakagkdimeaa
open Go.RowKit

set_option maxHeartbeats 1000000 in
set_option maxRecDepth 100000 in
theorem drawNode_any (a : Option Addr) (len cap : Nat) (w : World) (hd : CodeIn w w.heap.size a len) :
    Calls Try.prog 7 #[.slice a len cap] w fun e w' => ∃ n v, e = .returned v ∧ DrawnN n ∧ NodeOwn w' w.heap.size v n.lf n.ks n.vs n.cs ∧ Below w.heap.size w w' := by
  obtain ⟨wa, hwa⟩ : ∃ wa, wa = w.alloc (Obj.cells #[.bool false, .slice none 0 0, .slice none 0 0, .slice none 0 0] 27) := ⟨_, rfl⟩
  have hba : Below w.heap.size w wa := by rw [hwa]; exact (Below.refl _ _).alloc (Nat.le_refl _) _
  have HBa := hide hba
  have HVa : Hid (wa.heap[w.heap.size]? = some (.cells #[.bool false, .slice none 0 0, .slice none 0 0, .slice none 0 0] 27 (0, 0))) := hide (by rw [hwa]; exact heap_alloc_new w _)
  have HSa : Hid (wa.heap.size = w.heap.size + 1) := hide (by rw [hwa]; simp)
  have HN := hide (l01New_any a len cap wa (code_below hd hba))
  clear hd hba
  go_enter Try.func7, Try.ntmps7
  go_wp2_with fail
  rw [← hwa]
  clear hwa
  refine HN.out.mono ?_
  rintro e w1 ⟨rfl, hc1, hd1, hb1⟩
  have HC1 := hide hc1
  have HD1 := hide hd1
  have HB1 := hide hb1
  clear hc1 hd1 hb1
  go_wp2_with fail
  refine (l05Node_any wa.heap.size wa.heap.size a len cap w1 HC1.out HD1.out (Nat.le_refl _)).mono ?_
  rintro e w2 ⟨n, v, rfl, hn, hown, hdr⟩
  have hgl := cur_lt HC1.out
  have hb2 : Below wa.heap.size w1 w2 := ⟨hdr.2.1.os, hdr.2.1.tape, hdr.2.1.output, hdr.2.1.size, fun k hk => hdr.2.1.block k (by omega) (fun e => by injection e with e; omega)⟩
  have HB2 : Hid (Below w.heap.size w w2) := hide ((HBa.out.trans (HB1.out.mono HBa.out.size)).trans (hb2.mono HBa.out.size))
  have hv : w2.heap[w.heap.size]? = _ := (hb2.block _ (by rw [HSa.out]; omega)).trans ((HB1.out.block _ (by rw [HSa.out]; omega)).trans HVa.out)
  have HNn := hide hn
  obtain ⟨v1, v2, v3, rfl, h1, h2, h3, h4⟩ := hown
  obtain ⟨a1, c1, rfl⟩ := own_slice h1
  obtain ⟨a2, c2, rfl⟩ := own_slice h2
  obtain ⟨a3, c3, rfl⟩ := own_slice h3
  have hsz := HB1.out.size
  have HRt := hide (ret_node (B := w1.heap.size) (lf := n.lf) hv ⟨_, _, _, rfl, h1, h2, h3, h4⟩ (by have := HSa.out; omega))
  have o0 : w2.cell? ⟨w.heap.size, 0, none⟩ = some (.bool false) := (cell_at hv 0).1
  have o1 : w2.cell? ⟨w.heap.size, 1, none⟩ = some (.slice none 0 0) := (cell_at hv 1).1
  have o2 : w2.cell? ⟨w.heap.size, 2, none⟩ = some (.slice none 0 0) := (cell_at hv 2).1
  have o3 : w2.cell? ⟨w.heap.size, 3, none⟩ = some (.slice none 0 0) := (cell_at hv 3).1
  have z0 := (cell_at hv 0).2
  have z1 := (cell_at hv 1).2
  have z2 := (cell_at hv 2).2
  have z3 := (cell_at hv 3).2
  have HSw : Hid (w.heap.size ≤ w1.heap.size) := hide (by have := HSa.out; omega)
  clear h1 h2 h3 h4 hv hb2 hdr hn hsz hgl
  go_wp2_with fail
  have hrt := HRt.out
  have t0 := (cell_at hrt.1 0).1
  have t1 := (cell_at hrt.1 1).1
  have t2 := (cell_at hrt.1 2).1
  have t3 := (cell_at hrt.1 3).1
  exact bodyPost_ret (v := .agg #[.bool n.lf, .slice a1 n.ks.length c1, .slice a2 n.vs.length c2, .slice a3 n.cs.length c3]) (by simp [results, Try.results7, go_sem, t0, t1, t2, t3]) rfl ⟨n, _, rfl, HNn.out, nodeOwn_down hrt.2.1 HSw.out, HB2.out.trans hrt.2.2⟩
end Go.Proofs.Ytnkjakagkdimeaa
