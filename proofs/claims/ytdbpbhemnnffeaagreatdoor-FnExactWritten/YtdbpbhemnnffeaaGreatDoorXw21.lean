/-
  Facts and contracts that the law's own text rests on, by their texts' names: ImplReadNode, DownDef.
-/
import Derived.Test.YtdbpbhemnnffeaaGreatDoorXw18
import Derived.Test.YtdbpbhemnnffeaaGreatDoorXw20
import Derived.Test.YtdbpbhemnnffeaaGreatDoorXw5
import Derived.Test.YtdbpbhemnnffeaaGreatDoorXw16
import Derived.Test.YtdbpbhemnnffeaaGreatDoorXw15
namespace Go.Proofs.YtdbpbhemnnffeaaGreatDoor
open Go.RowKit
def misgot : List PanicEntry := [{ v := .iface 193 (.agg #[]), recovered := true }]
set_option maxHeartbeats 1000000 in
set_option maxRecDepth 100000 in
theorem catch_misread (a b : Nat) (lf ok : Bool) (v1 v2 v3 : Value) (w : World) (ha : w.heap[a]? = some (.cells #[.bool lf, v1, v2, v3] 129 (0, 0))) (hb : w.heap[b]? = some (.cells #[.bool ok] 4 (0, 0))) (hab : a ≠ b) :
    CallsD Tryz.prog 98 #[.pointer (some ⟨a, 0, none⟩), .pointer (some ⟨b, 0, none⟩)] (.panicking misread) w fun e u' w' =>
      e = .returned (.tuple #[]) ∧ u' = .panicking misgot ∧ w' = ((((w.setCell ⟨a, 0, none⟩ (.bool false)).setCell ⟨a, 1, none⟩ (.slice none 0 0)).setCell ⟨a, 2, none⟩ (.slice none 0 0)).setCell ⟨a, 3, none⟩ (.slice none 0 0)).setCell ⟨b, 0, none⟩ (.bool false) := by
  have c0 := (cell_at ha 0).1
  have c1 := (cell_at ha 1).1
  have c2 := (cell_at ha 2).1
  have c3 := (cell_at ha 3).1
  have f0 := (cell_at ha 0).2
  have f1 := (cell_at ha 1).2
  have f2 := (cell_at ha 2).2
  have f3 := (cell_at ha 3).2
  have d0 := (cell_at hb 0).1
  have e0 := (cell_at hb 0).2
  simp at c0 c1 c2 c3 d0
  unfold misread misgot
  refine callsD_of_wpS Tryz.func98 rfl fun c₀ cs hu => ?_
  apply wpS_seq
  apply wpS_region
  simp [wpOpsS, go_sem, recoverD, hu, Tryz.ntmps98, Exit.thenS]
  refine wpS_cond (t := true) (by simp [Act.eval, Array.replicate]) ?_
  simp only [if_true]
  apply wpS_region
  simp [wpOpsS, go_sem, c0, c1, c2, c3, f0, f1, f2, f3, d0, e0, bodyPostS, results, Tryz.results98]
theorem store_out {w : World} {a b B : Nat} {lf ok : Bool} {v1 v2 v3 c0 c1 c2 c3 d0 : Value} {ks vs : List ByteArray} {cs : List Int} (ha : w.heap[a]? = some (.cells #[c0, c1, c2, c3] 129 (0, 0))) (hb : w.heap[b]? = some (.cells #[d0] 4 (0, 0))) (hn : NodeOwn w B (.agg #[.bool lf, v1, v2, v3]) lf ks vs cs) (hab : a < b) (hB : b < B) :
    (((((w.setCell ⟨a, 0, none⟩ (.bool lf)).setCell ⟨a, 1, none⟩ v1).setCell ⟨a, 2, none⟩ v2).setCell ⟨a, 3, none⟩ v3).setCell ⟨b, 0, none⟩ (.bool ok)).heap[a]? = some (.cells #[.bool lf, v1, v2, v3] 129 (0, 0)) ∧
    (((((w.setCell ⟨a, 0, none⟩ (.bool lf)).setCell ⟨a, 1, none⟩ v1).setCell ⟨a, 2, none⟩ v2).setCell ⟨a, 3, none⟩ v3).setCell ⟨b, 0, none⟩ (.bool ok)).heap[b]? = some (.cells #[.bool ok] 4 (0, 0)) ∧
    NodeOwn (((((w.setCell ⟨a, 0, none⟩ (.bool lf)).setCell ⟨a, 1, none⟩ v1).setCell ⟨a, 2, none⟩ v2).setCell ⟨a, 3, none⟩ v3).setCell ⟨b, 0, none⟩ (.bool ok)) B (.agg #[.bool lf, v1, v2, v3]) lf ks vs cs ∧
    Below a w (((((w.setCell ⟨a, 0, none⟩ (.bool lf)).setCell ⟨a, 1, none⟩ v1).setCell ⟨a, 2, none⟩ v2).setCell ⟨a, 3, none⟩ v3).setCell ⟨b, 0, none⟩ (.bool ok)) := by
  obtain ⟨r1, r2, r3⟩ := ret_node ha hn (by omega)
  have hbl : b < w.heap.size := (Array.getElem?_eq_some_iff.1 hb).1
  have g1 := grown_trans (grown_trans (grown_trans (grown_setCell w a 0 (.bool lf)) (grown_setCell _ a 1 v1)) (grown_setCell _ a 2 v2)) (grown_setCell _ a 3 v3)
  have hb' := (g1.block b hbl (fun e => by injection e with e; omega)).trans hb
  have g2 := grown_setCell ((((w.setCell ⟨a, 0, none⟩ (.bool lf)).setCell ⟨a, 1, none⟩ v1).setCell ⟨a, 2, none⟩ v2).setCell ⟨a, 3, none⟩ v3) b 0 (.bool ok)
  refine ⟨(g2.block a (by have := g1.size; omega) (fun e => by injection e with e; omega)).trans r1, heap_setCell_same _ b 0 _ _ _ hb', ?_, r3.grown g2 (by have := r3.size; omega) (fun k e => by injection e with e; omega)⟩
  obtain ⟨u1, u2, u3, e, h1, h2, h3, h4⟩ := r2
  exact ⟨u1, u2, u3, e, h1.kept g2 (Or.inr (fun e => by have := (h1.lt _ e).1; omega)), h2.kept g2 (Or.inr (fun e => by have := (h2.lt _ e).1; omega)), h3.kept g2 (Or.inr (fun e => by have := (h3.lt _ e).1; omega)), h4⟩
theorem catch_idle (p q : Addr) (w : World) :
    CallsD Tryz.prog 98 #[.pointer (some p), .pointer (some q)] .returning w fun e u' w' => e = .returned (.tuple #[]) ∧ u' = .returning ∧ w' = w := by
  refine callsD_of_wpS Tryz.func98 rfl fun c₀ cs hu => ?_
  apply wpS_seq
  apply wpS_region
  simp [wpOpsS, go_sem, recoverD, hu, Tryz.ntmps98, Exit.thenS]
  refine wpS_cond (t := false) (by simp [Act.eval, Array.replicate]) ?_
  simp only [Bool.false_eq_true, if_false]
  refine wpS_of_wp (wp_skip ?_)
  cases c₀
  simp_all [bodyPostS, results, Tryz.results98]
set_option maxHeartbeats 2000000 in
set_option maxRecDepth 100000 in
theorem implReadNode_any (t : ByteArray) (ht : t.size ≤ 1048576) (w : World) (hT : SumTab w) :
    Calls Tryz.prog 87 #[.string t] w fun e w' => RsPost w t e w' := by
  have hmf : ∀ (fn : Fn) (first cap : Array Value) (w : World), (Instr.makeFunc fn first cap).run Tryz.prog w = .ok (.func fn first cap) w := fun _ _ _ _ => rfl
  obtain ⟨wa, hwa⟩ : ∃ wa, wa = (w.alloc (Obj.cells #[.bool false, .slice none 0 0, .slice none 0 0, .slice none 0 0] 129)).alloc (Obj.cells #[.bool false] 4) := ⟨_, rfl⟩
  obtain ⟨t1, t2, t3⟩ := two_allocs w (Obj.cells #[.bool false, .slice none 0 0, .slice none 0 0, .slice none 0 0] 129) (Obj.cells #[.bool false] 4)
  rw [← hwa] at t1 t2 t3
  have HBa : Hid (Below w.heap.size w wa) := hide (by rw [hwa]; exact ((Below.refl _ _).alloc (Nat.le_refl _) _).alloc (by simp) _)
  have HV := hide (⟨t1, t2, t3⟩ : _ ∧ _ ∧ _)
  have HU := hide (fun wx h => implUnsealed_any t ht wx h)
  have HT := hide (sumTab_below hT HBa.out)
  clear t1 t2 t3 hT
  cases hsl : isSealed t.data.toList with
  | false =>
    rw [unOut, if_neg (by rw [hsl]; decide)] at HU
    have HNo := hide (isNd_unsealed hsl)
    clear hsl
    go_enter_defers Tryz.func87, Tryz.ntmps87
    go_wp2_with fail
    rw [← hwa]
    clear hwa
    refine (HU.out _ HT.out).mono ?_
    rintro e w1 ⟨rfl, hb1⟩
    have HB1 := hide hb1
    clear hb1
    go_wp2_with fail
    refine (must_no _ _).mono ?_
    rintro e w2 ⟨rfl, rfl⟩
    refine leaves_cons (f := 98) (args := #[.pointer (some ⟨w.heap.size, 0, none⟩), .pointer (some ⟨w.heap.size + 1, 0, none⟩)]) (by simp) (by simp [go_sem]) ?_
    have hbb := HB1.out.alloc HB1.out.size (Obj.cells #[.string ⟨#[]⟩, .int .i64 0] 180)
    have ha := (hbb.block _ (by rw [HV.out.2.2]; omega)).trans HV.out.1
    have hb := (hbb.block _ (by rw [HV.out.2.2]; omega)).trans HV.out.2.1
    refine (catch_misread w.heap.size (w.heap.size + 1) false false _ _ _ _ ha hb (by omega)).mono ?_
    rintro e u' w'' ⟨rfl, rfl, rfl⟩
    obtain ⟨r1, r2, r3, r4⟩ := store_out (B := w.heap.size + 2) (lf := false) (ok := false) (v1 := .slice none 0 0) (v2 := .slice none 0 0) (v3 := .slice none 0 0) ha hb (own_nil _ _) (by omega) (by omega)
    have z0 := (cell_at r1 0).1
    have z1 := (cell_at r1 1).1
    have z2 := (cell_at r1 2).1
    have z3 := (cell_at r1 3).1
    have zb := (cell_at r2 0).1
    exact ⟨.tuple #[.agg #[.bool false, .slice none 0 0, .slice none 0 0, .slice none 0 0], .bool false], by simp [results, Tryz.results87, go_sem, z0, z1, z2, z3, zb], Nd.none, _, false, rfl, Or.inr ⟨rfl, rfl, HNo.out⟩, nodeOwn_down r3 (by omega), (HBa.out.trans (hbb.mono HBa.out.size)).trans (r4.mono (Nat.le_refl _))⟩
  | true =>
    obtain ⟨s, hse⟩ : ∃ s, s = t.extract 0 (t.size - 4) := ⟨_, rfl⟩
    have hss : s.size ≤ 1048576 := by rw [hse, ByteArray.size_extract]; omega
    rw [unOut, if_pos hsl, ← hse] at HU
    have HIs := hide (isNd_sealed hsl)
    rw [← hse] at HIs
    clear hsl hse
    go_enter_defers Tryz.func87, Tryz.ntmps87
    go_wp2_with fail
    rw [← hwa]
    clear hwa
    refine (HU.out _ HT.out).mono ?_
    rintro e w1 ⟨rfl, hb1⟩
    have HB1 := hide hb1
    clear hb1
    go_wp2_with fail
    refine (must_yes _ _).mono ?_
    rintro e w2 ⟨rfl, rfl⟩
    go_wp2_with fail
    obtain ⟨wb, hwb⟩ : ∃ wb, wb = w1.alloc (Obj.cells #[.string s, .int .i64 0] 180) := ⟨_, rfl⟩
    rw [← hwb]
    have hbb : Below wa.heap.size wa wb := by rw [hwb]; exact HB1.out.alloc HB1.out.size _
    have hrd : RdT wb w1.heap.size s 0 := by rw [hwb]; exact heap_alloc_new w1 _
    have HBb := hide hbb
    have HLg : Hid (wa.heap.size ≤ w1.heap.size) := hide HB1.out.size
    clear hbb hwb
    refine (rnode_any w1.heap.size s hss wb hrd).mono ?_
    rintro e w3 ⟨hg3, ⟨n, v, rfl, his, hun, hown⟩ | ⟨rfl, hno⟩⟩
    · have hb3 : Below wa.heap.size wa w3 := HBb.out.grown hg3 HBb.out.size (fun k e => by have := HLg.out; injection e with e; omega)
      have ha := (hb3.block _ (by rw [HV.out.2.2]; omega)).trans HV.out.1
      have hb := (hb3.block _ (by rw [HV.out.2.2]; omega)).trans HV.out.2.1
      obtain ⟨v1, v2, v3, rfl, h1, h2, h3, h4⟩ := hown
      obtain ⟨a1, c1, rfl⟩ := own_slice h1
      obtain ⟨a2, c2, rfl⟩ := own_slice h2
      obtain ⟨a3, c3, rfl⟩ := own_slice h3
      have HSt := hide (store_out (B := wb.heap.size) (lf := n.lf) (ok := true) ha hb ⟨_, _, _, rfl, h1, h2, h3, h4⟩ (by omega) (by have := HBb.out.size; rw [HV.out.2.2] at this; omega))
      have o0 : w3.cell? ⟨w.heap.size, 0, none⟩ = some (.bool false) := (cell_at ha 0).1
      have o1 : w3.cell? ⟨w.heap.size, 1, none⟩ = some (.slice none 0 0) := (cell_at ha 1).1
      have o2 : w3.cell? ⟨w.heap.size, 2, none⟩ = some (.slice none 0 0) := (cell_at ha 2).1
      have o3 : w3.cell? ⟨w.heap.size, 3, none⟩ = some (.slice none 0 0) := (cell_at ha 3).1
      have z0 := (cell_at ha 0).2
      have z1 := (cell_at ha 1).2
      have z2 := (cell_at ha 2).2
      have z3 := (cell_at ha 3).2
      have ob : w3.cell? ⟨w.heap.size + 1, 0, none⟩ = some (.bool false) := (cell_at hb 0).1
      have zb := (cell_at hb 0).2
      have HFin := hide (⟨his, hun, hb3⟩ : _ ∧ _ ∧ _)
      clear h1 h2 h3 h4 his hun hb3 ha hb hg3 hrd
      go_wp2_with fail
      refine leaves_cons (f := 98) (args := #[.pointer (some ⟨w.heap.size, 0, none⟩), .pointer (some ⟨w.heap.size + 1, 0, none⟩)]) (by simp) (by simp [go_sem]) ?_
      refine (catch_idle _ _ _).mono ?_
      rintro e u' w'' ⟨rfl, rfl, rfl⟩
      obtain ⟨r1, r2, r3, r4⟩ := HSt.out
      have y0 := (cell_at r1 0).1
      have y1 := (cell_at r1 1).1
      have y2 := (cell_at r1 2).1
      have y3 := (cell_at r1 3).1
      have yb := (cell_at r2 0).1
      exact ⟨.tuple #[.agg #[.bool n.lf, .slice a1 n.ks.length c1, .slice a2 n.vs.length c2, .slice a3 n.cs.length c3], .bool true], by simp [results, Tryz.results87, go_sem, y0, y1, y2, y3, yb], n, _, true, rfl, Or.inl ⟨rfl, (HIs.out n).2 HFin.out.1, fun m hm => HFin.out.2.1 m ((HIs.out m).1 hm)⟩, nodeOwn_down r3 (by have := HBb.out.size; rw [HV.out.2.2] at this; omega), (HBa.out.trans (HFin.out.2.2.mono HBa.out.size)).trans r4⟩
    · have hb3 : Below wa.heap.size wa w3 := HBb.out.grown hg3 HBb.out.size (fun k e => by have := HLg.out; injection e with e; omega)
      have ha := (hb3.block _ (by rw [HV.out.2.2]; omega)).trans HV.out.1
      have hb := (hb3.block _ (by rw [HV.out.2.2]; omega)).trans HV.out.2.1
      refine leaves_cons (f := 98) (args := #[.pointer (some ⟨w.heap.size, 0, none⟩), .pointer (some ⟨w.heap.size + 1, 0, none⟩)]) (by simp) (by simp [go_sem]) ?_
      refine (catch_misread w.heap.size (w.heap.size + 1) false false _ _ _ _ ha hb (by omega)).mono ?_
      rintro e u' w'' ⟨rfl, rfl, rfl⟩
      obtain ⟨r1, r2, r3, r4⟩ := store_out (B := w.heap.size + 2) (lf := false) (ok := false) (v1 := .slice none 0 0) (v2 := .slice none 0 0) (v3 := .slice none 0 0) ha hb (own_nil _ _) (by omega) (by omega)
      have z0 := (cell_at r1 0).1
      have z1 := (cell_at r1 1).1
      have z2 := (cell_at r1 2).1
      have z3 := (cell_at r1 3).1
      have zb := (cell_at r2 0).1
      exact ⟨.tuple #[.agg #[.bool false, .slice none 0 0, .slice none 0 0, .slice none 0 0], .bool false], by simp [results, Tryz.results87, go_sem, z0, z1, z2, z3, zb], Nd.none, _, false, rfl, Or.inr ⟨rfl, rfl, fun m hm => hno m ((HIs.out m).1 hm)⟩, nodeOwn_down r3 (by omega), (HBa.out.trans (hb3.mono HBa.out.size)).trans r4⟩
open Go.RowKit
structure Ev where
  val : Value
  ok : Bool
  vis : Vis
def Ev.plain (x : Ev) : Option Vis := if x.ok = true then some x.vis else none
def encs (x : Ev) : Array Value := #[x.val, .bool x.ok]
def evs (r : List Vis × Option (List Int)) : List (Option Vis) := r.1.map some ++ (if r.2 = none then [none] else [])
structure WStep where
  k : Value
  v : Value
  c : Value
  nd : Nd
  at_ : Nat
def wcells (X : List WStep) : List Value := X.flatMap fun x => [.bool x.nd.lf, x.k, x.v, x.c, .int .i64 (x.at_ : Int)]
def Slc (x : WStep) : Prop := (∃ a n c, x.v = .slice a n c) ∧ ∃ a n c, x.c = .slice a n c
def WayAt (W : World) (B : Nat) (C : Nat → Prop) (v : Value) (way : List (Nd × Nat)) : Prop :=
  ∃ X : List WStep, X.map (fun x => (x.nd, x.at_)) = way ∧ W.ownsRow B 169 5 v way.length (wcells X) ∧ (∀ j, v.ownBlock = some j → ¬ C j) ∧
    ∀ x ∈ X, W.ownsRow B 9 1 x.k x.nd.ks.length (strs x.nd.ks) ∧ (∀ j, x.k.ownBlock = some j → ¬ C j) ∧ Slc x
def badVal : Value := .agg #[.int .i64 0, .bool false, .slice none 0 0, .slice none 0 0, .slice none 0 0, .slice none 0 0]
def Lies (B : Nat) (x : Ev) (C : Nat → Prop) (W : World) : Prop :=
  (x.ok = false → x.val = badVal) ∧ (x.ok = true → ∃ vk vv vc vw, x.val = .agg #[.int .i64 x.vis.page, .bool x.vis.nd.lf, vk, vv, vc, vw] ∧ NodeOwn W B (.agg #[.bool x.vis.nd.lf, vk, vv, vc]) x.vis.nd.lf x.vis.nd.ks x.vis.nd.vs x.vis.nd.cs ∧ (∀ k, nodeBlocks (.agg #[.bool x.vis.nd.lf, vk, vv, vc]) k → ¬ C k) ∧ WayAt W B C vw x.vis.way)
def Typ (W : World) (j T : Nat) : Prop := ∃ cur fz, W.heap[j]? = some (.cells cur T fz)
theorem own_typ {W : World} {B e sz n : Nat} {v : Value} {xs : List Value} (h : W.ownsRow B e sz v n xs) {j : Nat} (hj : v.ownBlock = some j) : Typ W j e := by
  rcases h.2 with ⟨rfl, -⟩ | ⟨g, cap, cur, rfl, -, hh, -⟩
  · cases hj
  · injection hj with hj
    subst hj
    exact ⟨cur, _, hh⟩
theorem typ_one {W : World} {j T T' : Nat} (h : Typ W j T) (h' : Typ W j T') : T = T' := by
  obtain ⟨c, f, h⟩ := h
  obtain ⟨c', f', h'⟩ := h'
  rw [h] at h'
  cases h'
  rfl
theorem Tryz.step_ne : (169 : Nat) ≠ 153 ∧ (169 : Nat) ≠ 3 ∧ (9 : Nat) ≠ 153 ∧ (9 : Nat) ≠ 3 ∧ (3 : Nat) ≠ 153 := by decide
theorem way_kept {W W' : World} {B : Nat} {C C' S : Nat → Prop} {v : Value} {way : List (Nd × Nat)} (h : WayAt W B C v way) (hk : KeptC S W W') (hS : ∀ j, S j → C j ∨ Typ W j 153 ∨ Typ W j 3 ∨ W.heap.size ≤ j) (hC : ∀ k, C' k → C k ∨ W.heap.size ≤ k) : WayAt W' B C' v way := by
  obtain ⟨X, e, h1, h2, h3⟩ := h
  refine ⟨X, e, own_kept h1 hk (fun j hj hs => ?_), fun j hj hc => ?_, fun x hx => ⟨own_kept (h3 x hx).1 hk (fun j hj hs => ?_), fun j hj hc => ?_, (h3 x hx).2.2⟩⟩
  · rcases hS j hs with h | h | h | h
    · exact h2 j hj h
    · exact Tryz.step_ne.1 (typ_one (own_typ h1 hj) h)
    · exact Tryz.step_ne.2.1 (typ_one (own_typ h1 hj) h)
    · have := (h1.lt j hj).2; omega
  · rcases hC j hc with h | h
    · exact h2 j hj h
    · have := (h1.lt j hj).2; omega
  · rcases hS j hs with h | h | h | h
    · exact (h3 x hx).2.1 j hj h
    · exact Tryz.step_ne.2.2.1 (typ_one (own_typ (h3 x hx).1 hj) h)
    · exact Tryz.step_ne.2.2.2.1 (typ_one (own_typ (h3 x hx).1 hj) h)
    · have := ((h3 x hx).1.lt j hj).2; omega
  · rcases hC j hc with h | h
    · exact (h3 x hx).2.1 j hj h
    · have := ((h3 x hx).1.lt j hj).2; omega
theorem lies_kept {B : Nat} {x : Ev} {C C' : Nat → Prop} {A D : World} (h : Lies B x C A) (hk : KeptC C A D) (hC : ∀ k, C' k → C k ∨ A.heap.size ≤ k) : Lies B x C' D := ⟨h.1, fun ok => by
  obtain ⟨vk, vv, vc, vw, e, h1, h2, h3⟩ := h.2 ok
  refine ⟨vk, vv, vc, vw, e, nodeOwn_kept h1 hk h2, fun k hb hc => ?_, way_kept h3 hk (fun j hj => Or.inl hj) hC⟩
  rcases hC k hc with h | h
  · exact h2 k hb h
  · have := (nodeOwn_lt h1 k hb).2; omega⟩
structure DSt (w W : World) (gw l : Nat) (vp vl : Value) (C : Nat → Prop) (s : List Int) (vs : Value) : Prop where
  low : Below w.heap.size w W
  wk : W.heap[gw]? = some (.cells #[vp, vl, vs, .func (.yield l) #[] #[]] 153 (0, 0))
  gc : ¬ C gw
  gn : w.heap.size ≤ gw
  row : W.ownsRow w.heap.size 3 1 vs s.length (ints s)
  rc : ∀ j, vs.ownBlock = some j → ¬ C j
theorem DSt.keep {w W W' : World} {gw l : Nat} {vp vl : Value} {C C' S : Nat → Prop} {s : List Int} {vs : Value} (h : DSt w W gw l vp vl C s vs) (hk : KeptC S W W') (hS : ∀ j, S j → C j ∨ W.heap.size ≤ j) (hn : ∀ j, S j → w.heap.size ≤ j) (hC : ∀ k, C' k → C k ∨ W.heap.size ≤ k) : DSt w W' gw l vp vl C' s vs where
  low := h.low.trans (keptC_below hk hn h.low.size)
  wk := (hk.2.2.2.2 gw (Array.getElem?_eq_some_iff.1 h.wk).1 (fun hs => by
    rcases hS gw hs with x | x
    · exact h.gc x
    · have := (Array.getElem?_eq_some_iff.1 h.wk).1; omega)).trans h.wk
  gc := fun hc => by
    rcases hC gw hc with x | x
    · exact h.gc x
    · have := (Array.getElem?_eq_some_iff.1 h.wk).1; omega
  gn := h.gn
  row := own_kept h.row hk (fun j hj hs => by
    rcases hS j hs with x | x
    · exact h.rc j hj x
    · have := (h.row.lt j hj).2; omega)
  rc := fun j hj hc => by
    rcases hC j hc with x | x
    · exact h.rc j hj x
    · have := (h.row.lt j hj).2; omega
def DBl (gw : Nat) (vs : Value) (C : Nat → Prop) (k : Nat) : Prop := C k ∨ k = gw ∨ vs.ownBlock = some k
def DPost (J Jx : List Ev → (Nat → Prop) → World → Prop) (w : World) (gw l : Nat) (vp vl : Value) (pre : List Ev) (C : Nat → Prop) (W : World) (vs : Value) (r : List Vis × Option (List Int)) (e : Ending) (W' : World) : Prop :=
  ∃ (b : Bool) (q : List Ev) (C' : Nat → Prop), e = .returned (.bool b) ∧ (∀ k, C' k → C k ∨ W.heap.size ≤ k) ∧ KeptC (DBl gw vs C) W W' ∧
    ((b = true ∧ ∃ s' vs', r.2 = some s' ∧ q.map Ev.plain = r.1.map some ∧ J (pre ++ q) C' W' ∧ DSt w W' gw l vp vl C' s' vs' ∧ (∀ j, vs'.ownBlock = some j → vs.ownBlock = some j ∨ W.heap.size ≤ j)) ∨
     (b = false ∧ r.2 = none ∧ q.map Ev.plain = r.1.map some ++ [none] ∧ J (pre ++ q) C' W') ∨
     (b = false ∧ (∃ t, q.map Ev.plain ++ t = evs r) ∧ Jx (pre ++ q) C' W'))
structure DCtx (w : World) (ps : List ByteArray) (ls : List (Int × ByteArray)) (vp vl : Value) (gw l : Nat) (J Jx : List Ev → (Nat → Prop) → World → Prop) (Sp : List Ev → Prop) : Prop where
  hp : ps.length ≤ 1048576
  hl : ls.length ≤ 1048576
  hps : ∀ s ∈ ps, s.size ≤ 1048576
  hls : ∀ p ∈ ls, p.2.size ≤ 1048576
  tab : SumTab w
  disk : DiskAt w (.agg #[vp, vl]) ps ls
  abides : ∀ pre C A B, J pre C A → KeptC (fun k => ¬ C k) A B → J pre C B
  inn : ∀ pre C A, J pre C A → ∀ k, C k → w.heap.size ≤ k ∧ k < A.heap.size
  yields : ∀ pre x C W1 m, Sp (pre ++ [x]) → J pre C W1 → Lies w.heap.size x C W1 → YieldAt Fence.wide m Tryz.prog l (encs x) W1 fun e W' => ∃ C', KeptC C W1 W' ∧ (∀ k, C' k → C k ∨ W1.heap.size ≤ k) ∧
    ((e = .returned (.bool true) ∧ J (pre ++ [x]) C' W') ∨ (e = .returned (.bool false) ∧ Jx (pre ++ [x]) C' W'))
end Go.Proofs.YtdbpbhemnnffeaaGreatDoor
