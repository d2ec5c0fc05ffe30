/-
  impl.ReadNode by a contract: the deferred closure, entered where the body panicked and where it returned; the whole.
-/
import Derived.Test.YtdcmpjefemcppaaGreatDoorReadAny
import Derived.Test.YtdcmpjefemcppaaGreatDoorSpecRound
import Derived.Test.YtdcmpjefemcppaaGreatDoorSeal
namespace Go.Proofs.YtdcmpjefemcppaaGreatDoor
open Go.RowKit

/-- misread, recovered -/
def misgot : List PanicEntry := [{ v := .iface 112 (.agg #[]), recovered := true }]

set_option maxHeartbeats 1000000 in
set_option maxRecDepth 100000 in
theorem catch_misread (a b : Nat) (lf ok : Bool) (v1 v2 v3 : Value) (w : World) (ha : w.heap[a]? = some (.cells #[.bool lf, v1, v2, v3] 64 (0, 0))) (hb : w.heap[b]? = some (.cells #[.bool ok] 4 (0, 0))) (hab : a ≠ b) :
    CallsD Tryz.prog 61 #[.pointer (some ⟨a, 0, none⟩), .pointer (some ⟨b, 0, none⟩)] (.panicking misread) w fun e u' w' =>
      e = .returned (.tuple #[]) ∧ u' = .panicking misgot ∧ w' = ((((w.setCell ⟨a, 0, none⟩ (.bool false)).setCell ⟨a, 1, none⟩ (.slice none 0 0)).setCell ⟨a, 2, none⟩ (.slice none 0 0)).setCell ⟨a, 3, none⟩ (.slice none 0 0)).setCell ⟨b, 0, none⟩ (.bool false) := by
  have c0 := (cell_at ha 0).1
  have c1 := (cell_at ha 1).1
  have c2 := (cell_at ha 2).1
  have c3 := (cell_at ha 3).1
  have f0 := (cell_at ha 0).2
  have f1 := (cell_at ha 1).2
  have f2 := (cell_at ha 2).2
  have f3 := (cell_at ha 3).2
  have d0 := (cell_at hb 0).1
  have e0 := (cell_at hb 0).2
  simp at c0 c1 c2 c3 d0
  unfold misread misgot
  refine callsD_of_wpS Tryz.func61 rfl fun c₀ cs hu => ?_
  apply wpS_seq
  apply wpS_region
  simp [wpOpsS, go_sem, recoverD, hu, Tryz.ntmps61, Exit.thenS]
  refine wpS_cond (t := true) (by simp [Act.eval, Array.replicate]) ?_
  simp only [if_true]
  apply wpS_region
  simp [wpOpsS, go_sem, c0, c1, c2, c3, f0, f1, f2, f3, d0, e0, bodyPostS, results, Tryz.results61]

theorem store_out {w : World} {a b B : Nat} {lf ok : Bool} {v1 v2 v3 c0 c1 c2 c3 d0 : Value} {ks vs : List ByteArray} {cs : List Int} (ha : w.heap[a]? = some (.cells #[c0, c1, c2, c3] 64 (0, 0))) (hb : w.heap[b]? = some (.cells #[d0] 4 (0, 0))) (hn : NodeOwn w B (.agg #[.bool lf, v1, v2, v3]) lf ks vs cs) (hab : a < b) (hB : b < B) :
    (((((w.setCell ⟨a, 0, none⟩ (.bool lf)).setCell ⟨a, 1, none⟩ v1).setCell ⟨a, 2, none⟩ v2).setCell ⟨a, 3, none⟩ v3).setCell ⟨b, 0, none⟩ (.bool ok)).heap[a]? = some (.cells #[.bool lf, v1, v2, v3] 64 (0, 0)) ∧
    (((((w.setCell ⟨a, 0, none⟩ (.bool lf)).setCell ⟨a, 1, none⟩ v1).setCell ⟨a, 2, none⟩ v2).setCell ⟨a, 3, none⟩ v3).setCell ⟨b, 0, none⟩ (.bool ok)).heap[b]? = some (.cells #[.bool ok] 4 (0, 0)) ∧
    NodeOwn (((((w.setCell ⟨a, 0, none⟩ (.bool lf)).setCell ⟨a, 1, none⟩ v1).setCell ⟨a, 2, none⟩ v2).setCell ⟨a, 3, none⟩ v3).setCell ⟨b, 0, none⟩ (.bool ok)) B (.agg #[.bool lf, v1, v2, v3]) lf ks vs cs ∧
    Below a w (((((w.setCell ⟨a, 0, none⟩ (.bool lf)).setCell ⟨a, 1, none⟩ v1).setCell ⟨a, 2, none⟩ v2).setCell ⟨a, 3, none⟩ v3).setCell ⟨b, 0, none⟩ (.bool ok)) := by
  obtain ⟨r1, r2, r3⟩ := ret_node ha hn (by omega)
  have hbl : b < w.heap.size := (Array.getElem?_eq_some_iff.1 hb).1
  have g1 := grown_trans (grown_trans (grown_trans (grown_setCell w a 0 (.bool lf)) (grown_setCell _ a 1 v1)) (grown_setCell _ a 2 v2)) (grown_setCell _ a 3 v3)
  have hb' := (g1.block b hbl (fun e => by injection e with e; omega)).trans hb
  have g2 := grown_setCell ((((w.setCell ⟨a, 0, none⟩ (.bool lf)).setCell ⟨a, 1, none⟩ v1).setCell ⟨a, 2, none⟩ v2).setCell ⟨a, 3, none⟩ v3) b 0 (.bool ok)
  refine ⟨(g2.block a (by have := g1.size; omega) (fun e => by injection e with e; omega)).trans r1, heap_setCell_same _ b 0 _ _ _ hb', ?_, r3.grown g2 (by have := r3.size; omega) (fun k e => by injection e with e; omega)⟩
  obtain ⟨u1, u2, u3, e, h1, h2, h3, h4⟩ := r2
  exact ⟨u1, u2, u3, e, h1.kept g2 (Or.inr (fun e => by have := (h1.lt _ e).1; omega)), h2.kept g2 (Or.inr (fun e => by have := (h2.lt _ e).1; omega)), h3.kept g2 (Or.inr (fun e => by have := (h3.lt _ e).1; omega)), h4⟩

theorem catch_idle (p q : Addr) (w : World) :
    CallsD Tryz.prog 61 #[.pointer (some p), .pointer (some q)] .returning w fun e u' w' => e = .returned (.tuple #[]) ∧ u' = .returning ∧ w' = w := by
  refine callsD_of_wpS Tryz.func61 rfl fun c₀ cs hu => ?_
  apply wpS_seq
  apply wpS_region
  simp [wpOpsS, go_sem, recoverD, hu, Tryz.ntmps61, Exit.thenS]
  refine wpS_cond (t := false) (by simp [Act.eval, Array.replicate]) ?_
  simp only [Bool.false_eq_true, if_false]
  refine wpS_of_wp (wp_skip ?_)
  cases c₀
  simp_all [bodyPostS, results, Tryz.results61]

set_option maxHeartbeats 2000000 in
set_option maxRecDepth 100000 in
theorem implReadNode_any (t : ByteArray) (ht : t.size ≤ 1048576) (w : World) (hT : SumTab w) :
    Calls Tryz.prog 43 #[.string t] w fun e w' => RsPost w t e w' := by
  have hmf : ∀ (fn : Fn) (first cap : Array Value) (w : World), (Instr.makeFunc fn first cap).run Tryz.prog w = .ok (.func fn first cap) w := fun _ _ _ _ => rfl
  obtain ⟨wa, hwa⟩ : ∃ wa, wa = (w.alloc (Obj.cells #[.bool false, .slice none 0 0, .slice none 0 0, .slice none 0 0] 64)).alloc (Obj.cells #[.bool false] 4) := ⟨_, rfl⟩
  obtain ⟨t1, t2, t3⟩ := two_allocs w (Obj.cells #[.bool false, .slice none 0 0, .slice none 0 0, .slice none 0 0] 64) (Obj.cells #[.bool false] 4)
  rw [← hwa] at t1 t2 t3
  have HBa : Hid (Below w.heap.size w wa) := hide (by rw [hwa]; exact ((Below.refl _ _).alloc (Nat.le_refl _) _).alloc (by simp) _)
  have HV := hide (⟨t1, t2, t3⟩ : _ ∧ _ ∧ _)
  have HU := hide (fun wx h => implUnsealed_any t ht wx h)
  have HT := hide (sumTab_below hT HBa.out)
  clear t1 t2 t3 hT
  cases hsl : isSealed t.data.toList with
  | false =>
    rw [unOut, if_neg (by rw [hsl]; decide)] at HU
    have HNo := hide (isNd_unsealed hsl)
    clear hsl
    go_enter_defers Tryz.func43, Tryz.ntmps43
    go_wp2_with fail
    rw [← hwa]
    clear hwa
    refine (HU.out _ HT.out).mono ?_
    rintro e w1 ⟨rfl, hb1⟩
    have HB1 := hide hb1
    clear hb1
    go_wp2_with fail
    refine (must_no _ _).mono ?_
    rintro e w2 ⟨rfl, rfl⟩
    refine leaves_cons (f := 61) (args := #[.pointer (some ⟨w.heap.size, 0, none⟩), .pointer (some ⟨w.heap.size + 1, 0, none⟩)]) (by simp) (by simp [go_sem]) ?_
    have hbb := HB1.out.alloc HB1.out.size (Obj.cells #[.string ⟨#[]⟩, .int .i64 0] 95)
    have ha := (hbb.block _ (by rw [HV.out.2.2]; omega)).trans HV.out.1
    have hb := (hbb.block _ (by rw [HV.out.2.2]; omega)).trans HV.out.2.1
    refine (catch_misread w.heap.size (w.heap.size + 1) false false _ _ _ _ ha hb (by omega)).mono ?_
    rintro e u' w'' ⟨rfl, rfl, rfl⟩
    obtain ⟨r1, r2, r3, r4⟩ := store_out (B := w.heap.size + 2) (lf := false) (ok := false) (v1 := .slice none 0 0) (v2 := .slice none 0 0) (v3 := .slice none 0 0) ha hb (own_nil _ _) (by omega) (by omega)
    have z0 := (cell_at r1 0).1
    have z1 := (cell_at r1 1).1
    have z2 := (cell_at r1 2).1
    have z3 := (cell_at r1 3).1
    have zb := (cell_at r2 0).1
    exact ⟨.tuple #[.agg #[.bool false, .slice none 0 0, .slice none 0 0, .slice none 0 0], .bool false], by simp [results, Tryz.results43, go_sem, z0, z1, z2, z3, zb], Nd.none, _, false, rfl, Or.inr ⟨rfl, rfl, HNo.out⟩, nodeOwn_down r3 (by omega), (HBa.out.trans (hbb.mono HBa.out.size)).trans (r4.mono (Nat.le_refl _))⟩
  | true =>
    obtain ⟨s, hse⟩ : ∃ s, s = t.extract 0 (t.size - 4) := ⟨_, rfl⟩
    have hss : s.size ≤ 1048576 := by rw [hse, ByteArray.size_extract]; omega
    rw [unOut, if_pos hsl, ← hse] at HU
    have HIs := hide (isNd_sealed hsl)
    rw [← hse] at HIs
    clear hsl hse
    go_enter_defers Tryz.func43, Tryz.ntmps43
    go_wp2_with fail
    rw [← hwa]
    clear hwa
    refine (HU.out _ HT.out).mono ?_
    rintro e w1 ⟨rfl, hb1⟩
    have HB1 := hide hb1
    clear hb1
    go_wp2_with fail
    refine (must_yes _ _).mono ?_
    rintro e w2 ⟨rfl, rfl⟩
    go_wp2_with fail
    obtain ⟨wb, hwb⟩ : ∃ wb, wb = w1.alloc (Obj.cells #[.string s, .int .i64 0] 95) := ⟨_, rfl⟩
    rw [← hwb]
    have hbb : Below wa.heap.size wa wb := by rw [hwb]; exact HB1.out.alloc HB1.out.size _
    have hrd : RdT wb w1.heap.size s 0 := by rw [hwb]; exact heap_alloc_new w1 _
    have HBb := hide hbb
    have HLg : Hid (wa.heap.size ≤ w1.heap.size) := hide HB1.out.size
    clear hbb hwb
    refine (rnode_any w1.heap.size s hss wb hrd).mono ?_
    rintro e w3 ⟨hg3, ⟨n, v, rfl, his, hun, hown⟩ | ⟨rfl, hno⟩⟩
    · have hb3 : Below wa.heap.size wa w3 := HBb.out.grown hg3 HBb.out.size (fun k e => by have := HLg.out; injection e with e; omega)
      have ha := (hb3.block _ (by rw [HV.out.2.2]; omega)).trans HV.out.1
      have hb := (hb3.block _ (by rw [HV.out.2.2]; omega)).trans HV.out.2.1
      obtain ⟨v1, v2, v3, rfl, h1, h2, h3, h4⟩ := hown
      obtain ⟨a1, c1, rfl⟩ := own_slice h1
      obtain ⟨a2, c2, rfl⟩ := own_slice h2
      obtain ⟨a3, c3, rfl⟩ := own_slice h3
      have HSt := hide (store_out (B := wb.heap.size) (lf := n.lf) (ok := true) ha hb ⟨_, _, _, rfl, h1, h2, h3, h4⟩ (by omega) (by have := HBb.out.size; rw [HV.out.2.2] at this; omega))
      have o0 : w3.cell? ⟨w.heap.size, 0, none⟩ = some (.bool false) := (cell_at ha 0).1
      have o1 : w3.cell? ⟨w.heap.size, 1, none⟩ = some (.slice none 0 0) := (cell_at ha 1).1
      have o2 : w3.cell? ⟨w.heap.size, 2, none⟩ = some (.slice none 0 0) := (cell_at ha 2).1
      have o3 : w3.cell? ⟨w.heap.size, 3, none⟩ = some (.slice none 0 0) := (cell_at ha 3).1
      have z0 := (cell_at ha 0).2
      have z1 := (cell_at ha 1).2
      have z2 := (cell_at ha 2).2
      have z3 := (cell_at ha 3).2
      have ob : w3.cell? ⟨w.heap.size + 1, 0, none⟩ = some (.bool false) := (cell_at hb 0).1
      have zb := (cell_at hb 0).2
      have HFin := hide (⟨his, hun, hb3⟩ : _ ∧ _ ∧ _)
      clear h1 h2 h3 h4 his hun hb3 ha hb hg3 hrd
      go_wp2_with fail
      refine leaves_cons (f := 61) (args := #[.pointer (some ⟨w.heap.size, 0, none⟩), .pointer (some ⟨w.heap.size + 1, 0, none⟩)]) (by simp) (by simp [go_sem]) ?_
      refine (catch_idle _ _ _).mono ?_
      rintro e u' w'' ⟨rfl, rfl, rfl⟩
      obtain ⟨r1, r2, r3, r4⟩ := HSt.out
      have y0 := (cell_at r1 0).1
      have y1 := (cell_at r1 1).1
      have y2 := (cell_at r1 2).1
      have y3 := (cell_at r1 3).1
      have yb := (cell_at r2 0).1
      exact ⟨.tuple #[.agg #[.bool n.lf, .slice a1 n.ks.length c1, .slice a2 n.vs.length c2, .slice a3 n.cs.length c3], .bool true], by simp [results, Tryz.results43, go_sem, y0, y1, y2, y3, yb], n, _, true, rfl, Or.inl ⟨rfl, (HIs.out n).2 HFin.out.1, fun m hm => HFin.out.2.1 m ((HIs.out m).1 hm)⟩, nodeOwn_down r3 (by have := HBb.out.size; rw [HV.out.2.2] at this; omega), (HBa.out.trans (HFin.out.2.2.mono HBa.out.size)).trans r4⟩
    · have hb3 : Below wa.heap.size wa w3 := HBb.out.grown hg3 HBb.out.size (fun k e => by have := HLg.out; injection e with e; omega)
      have ha := (hb3.block _ (by rw [HV.out.2.2]; omega)).trans HV.out.1
      have hb := (hb3.block _ (by rw [HV.out.2.2]; omega)).trans HV.out.2.1
      refine leaves_cons (f := 61) (args := #[.pointer (some ⟨w.heap.size, 0, none⟩), .pointer (some ⟨w.heap.size + 1, 0, none⟩)]) (by simp) (by simp [go_sem]) ?_
      refine (catch_misread w.heap.size (w.heap.size + 1) false false _ _ _ _ ha hb (by omega)).mono ?_
      rintro e u' w'' ⟨rfl, rfl, rfl⟩
      obtain ⟨r1, r2, r3, r4⟩ := store_out (B := w.heap.size + 2) (lf := false) (ok := false) (v1 := .slice none 0 0) (v2 := .slice none 0 0) (v3 := .slice none 0 0) ha hb (own_nil _ _) (by omega) (by omega)
      have z0 := (cell_at r1 0).1
      have z1 := (cell_at r1 1).1
      have z2 := (cell_at r1 2).1
      have z3 := (cell_at r1 3).1
      have zb := (cell_at r2 0).1
      exact ⟨.tuple #[.agg #[.bool false, .slice none 0 0, .slice none 0 0, .slice none 0 0], .bool false], by simp [results, Tryz.results43, go_sem, z0, z1, z2, z3, zb], Nd.none, _, false, rfl, Or.inr ⟨rfl, rfl, fun m hm => hno m ((HIs.out m).1 hm)⟩, nodeOwn_down r3 (by omega), (HBa.out.trans (hb3.mono HBa.out.size)).trans r4⟩
end Go.Proofs.YtdcmpjefemcppaaGreatDoor
