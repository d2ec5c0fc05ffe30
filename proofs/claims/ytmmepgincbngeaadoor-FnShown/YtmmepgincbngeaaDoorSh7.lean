/-
  Facts and contracts that the law's own text rests on, by their texts' names: WordMap, StepDie.
-/
import Derived.Maps.OwnSet
import Derived.StringKeys
import Derived.Test.YtmmepgincbngeaaDoorSh6
import Derived.Lib.Hide
import Derived.Test.YtmmepgincbngeaaDoorSh2
namespace Go.Proofs.YtmmepgincbngeaaDoor
open Go.RowKit
def tokW (v : Value) : Option (DataW Value × List MemPlace) := some (.held v, [])
def fstK : List (List UInt8 × Value) → List UInt8 → Option Value
  | [], _ => none
  | p :: l, x => if p.1 = x then some p.2 else fstK l x
theorem fstK_hit : ∀ (l : List (List UInt8 × Value)) (p : List UInt8 × Value) (x : List UInt8) (v : Value), fstK l x = some v → fstK (l ++ [p]) x = some v
  | [], _, _, _, h => by cases h
  | q :: l, p, x, v, h => by
    rw [List.cons_append, fstK]
    rw [fstK] at h
    split
    · next e => rw [if_pos e] at h; exact h
    · next e => rw [if_neg e] at h; exact fstK_hit l p x v h
theorem fstK_miss : ∀ (l : List (List UInt8 × Value)) (p : List UInt8 × Value) (x : List UInt8), fstK l x = none → fstK (l ++ [p]) x = if p.1 = x then some p.2 else none
  | [], _, _, _ => rfl
  | q :: l, p, x, h => by
    rw [List.cons_append, fstK]
    rw [fstK] at h
    by_cases e : q.1 = x
    · rw [if_pos e] at h; cases h
    · rw [if_neg e] at h ⊢
      exact fstK_miss l p x h
def WMap (W : World) (g : Nat) (l : List (List UInt8 × Value)) (n : Nat) : Prop := ∃ D : DataW Value, W.ownsMap Tryd.prog 9 tokW g n D ∧ ∀ x : List UInt8, Maps.has D (.string x) = (fstK l x).isSome ∧ ∀ z, D.atKey (.string x) (.held z) = .held ((fstK l x).getD z)
theorem WMap.isMap {W : World} {g n : Nat} {l : List (List UInt8 × Value)} (h : WMap W g l n) : ∃ es clock, W.heap[g]? = some (.map es clock) := by
  obtain ⟨D, ⟨es, clock, hb, -⟩, -⟩ := h
  exact ⟨es, clock, hb⟩
theorem WMap.stays {W W' : World} {g n : Nat} {l : List (List UInt8 × Value)} (h : WMap W g l n) (hb : Below W.heap.size W W') : WMap W' g l n := by
  obtain ⟨D, ⟨es, clock, hh, hr⟩, h2⟩ := h
  exact ⟨D, ⟨es, clock, (hb.block g (Array.getElem?_eq_some_iff.1 hh).1).trans hh, hr⟩, h2⟩
theorem wmap_made (w : World) : WMap (w.alloc (.map #[] 0)) w.heap.size [] 0 := ⟨_, World.ownsMap_made w Tryd.prog 9 tokW, fun _ => ⟨rfl, fun _ => rfl⟩⟩
theorem Tryd.strKey : Maps.Keyed Tryd.prog 9 := Maps.string_keyed Tryd.underlying9
theorem Tryd.zeroWord (w : World) : (zeroValue 92).run Tryd.prog w = .ok .nilFunc w := by kernel_rfl
theorem Tryd.strOf (x : List UInt8) (hx : x.length ≤ maxLen) : keyOf Tryd.prog 9 (.string (ba x)) = some (.string x) := by
  have h := WideMaps.keyOf_string_mk Tryd.underlying9 (s := ba x) (by rw [ba_size]; exact hx)
  exact h
set_option maxRecDepth 100000 in
theorem wmap_look {W : World} {g n : Nat} {l : List (List UInt8 × Value)} (h : WMap W g l n) (x : List UInt8) (hx : x.length ≤ maxLen) :
    (Instr.lookup 94 (.map (some g)) (.string (ba x)) true).run Tryd.prog W = .ok (.tuple #[(fstK l x).getD .nilFunc, .bool (fstK l x).isSome]) W := by
  obtain ⟨D, h1, h2⟩ := h
  obtain ⟨v, ps, hr, hv⟩ := h1.look_ok Tryd.strKey Tryd.underlying94 (Tryd.zeroWord W) (zd := .held .nilFunc) (zp := []) rfl (Tryd.strOf x hx)
  rw [(h2 x).1] at hr
  rw [(h2 x).2] at hv
  rw [tokW, Option.some.injEq, Prod.mk.injEq] at hv
  have hv1 := hv.1
  injection hv1 with hv1
  rw [← hv1]
  exact hr
set_option maxRecDepth 100000 in
theorem wmap_put {W : World} {g n : Nat} {l : List (List UInt8 × Value)} (h : WMap W g l n) (hn : n < maxLen) (x : List UInt8) (hx : x.length ≤ maxLen) (hno : fstK l x = none) (v : Value) :
    ∃ w', (Instr.mapUpdate 94 (.map (some g)) (.string (ba x)) v).run Tryd.prog W = .ok () w' ∧ WMap w' g (l ++ [(x, v)]) (n + 1) ∧ W.mapTurned w' g := by
  obtain ⟨D, h1, h2⟩ := h
  obtain ⟨w', hr, h3, h4⟩ := h1.store Tryd.strKey Tryd.underlying94 hn (Tryd.strOf x hx) (val := v) (d := .held v) (ps := []) rfl
  refine ⟨w', hr, ⟨_, h3, fun y => ?_⟩, h4⟩
  have hK : WideAt.IsKeyLit (.string x) := by first | trivial | simp [WideAt.IsKeyLit]
  by_cases e : x = y
  · subst e
    rw [fstK_miss l _ _ hno, if_pos rfl]
    exact ⟨Maps.has_put_same h1.isMap hK _, fun z => Maps.atKey_put_same h1.isMap hK _ _⟩
  · have hne : (Lit.string y) ≠ (Lit.string x) := fun h => e (by injection h with h; exact h.symm)
    have hf : fstK (l ++ [(x, v)]) y = fstK l y := by
      cases h5 : fstK l y with
      | some u => exact fstK_hit l _ _ _ h5
      | none => rw [fstK_miss l _ _ h5]; exact if_neg e
    rw [hf, Maps.has_put_other hne]
    refine ⟨(h2 y).1, fun z => ?_⟩
    rw [Maps.atKey_put_other hne]
    exact (h2 y).2 z
def ClAt (W : World) (v : Value) (kind : Int) (rs : List Rd) : Prop := ∃ (p q : Nat) (ar : Option Addr) (cr : Nat), v = .func (.func 83) #[] #[.pointer (some ⟨p, 0, none⟩), .pointer (some ⟨q, 0, none⟩)] ∧ p < W.heap.size ∧ q < W.heap.size ∧
  W.cell? ⟨p, 0, none⟩ = some (.slice ar rs.length cr) ∧ W.cell? ⟨q, 0, none⟩ = some (.int .i64 kind) ∧ RowAt W 1 (.slice ar rs.length cr) rs.length (rs.map rdF)
theorem ClAt.stays {W W' : World} {v : Value} {kind : Int} {rs : List Rd} (h : ClAt W v kind rs) (hb : Below W.heap.size W W') : ClAt W' v kind rs := by
  obtain ⟨p, q, ar, cr, h1, h2, h3, h4, h5, h6⟩ := h
  exact ⟨p, q, ar, cr, h1, Nat.lt_of_lt_of_le h2 hb.size, Nat.lt_of_lt_of_le h3 hb.size, (hb.cell (by exact h2)).trans h4, (hb.cell (by exact h3)).trans h5, row_below h6 hb⟩
theorem cell_turned {W W' : World} {g : Nat} (h : W.mapTurned W' g) {a : Addr} {v : Value} (hc : W.cell? a = some v) : W'.cell? a = some v := by
  have hgr := h.grown
  obtain ⟨es, clock, es', clock', hg, hw⟩ := h
  have hne : a.block ≠ g := by
    rintro rfl
    simp [World.cell?, hg] at hc
  have hlt : a.block < W.heap.size := by
    rcases Nat.lt_or_ge a.block W.heap.size with h | h
    · exact h
    · simp [World.cell?, Array.getElem?_eq_none h] at hc
  have : W'.heap[a.block]? = W.heap[a.block]? := hgr.block a.block hlt (fun e => hne (by injection e))
  rw [World.cell?, this]
  exact hc
theorem ClAt.turned {W W' : World} {g : Nat} {v : Value} {kind : Int} {rs : List Rd} (h : ClAt W v kind rs) (ht : W.mapTurned W' g) : ClAt W' v kind rs := by
  obtain ⟨p, q, ar, cr, h1, h2, h3, h4, h5, h6⟩ := h
  have hz := ht.grown.size
  refine ⟨p, q, ar, cr, h1, Nat.lt_of_lt_of_le h2 hz, Nat.lt_of_lt_of_le h3 hz, cell_turned ht h4, cell_turned ht h5, ?_⟩
  obtain ⟨hl, a', cap, ea, k2⟩ := h6
  refine ⟨hl, a', cap, ea, k2.imp id ?_⟩
  rintro ⟨b, off, e, hlt, hc⟩
  refine ⟨b, off, e, Nat.lt_of_lt_of_le hlt hz, fun j hj => ?_⟩
  have h := hc j hj
  rw [List.getElem?_eq_getElem (by rw [hl]; exact hj)] at h ⊢
  exact cell_turned ht h
set_option maxHeartbeats 1000000 in
set_option maxRecDepth 100000 in
theorem wordOf_any (kind : Int) (rs : List Rd) (ar : Option Addr) (cr : Nat) (w : World) (h : RowAt w 1 (.slice ar rs.length cr) rs.length (rs.map rdF)) :
    Calls Tryd.prog 69 #[.int .i64 kind, .slice ar rs.length cr] w fun e w' => ∃ v, e = .returned v ∧ ClAt w' v kind rs ∧ Below w.heap.size w w' := by
  obtain ⟨n, hn⟩ : ∃ n, n = rs.length := ⟨_, rfl⟩
  have HH := hide h
  have HN := hide hn
  rw [← hn]
  clear h hn
  go_enter Tryd.func69, Tryd.ntmps69
  go_wp2_with fail
  go_ret
  refine ⟨_, rfl, ⟨w.heap.size + 1, w.heap.size, ar, cr, rfl, by simp, by simp; omega, ?_, ?_, ?_⟩, ((Below.refl _ _).alloc (Nat.le_refl _) _).alloc (by simp) _⟩
  · rw [← HN.out]
    have h := heap_alloc_new (w.alloc (Obj.cells #[.int .i64 kind] 3)) (Obj.cells #[.slice ar n cr] 122)
    rw [show (w.alloc (Obj.cells #[.int .i64 kind] 3)).heap.size = w.heap.size + 1 from by simp] at h
    exact Lib.cell_of_heap h 0
  · have h := (heap_alloc_old (w.alloc (Obj.cells #[.int .i64 kind] 3)) (Obj.cells #[.slice ar n cr] 122) (by simp)).trans (heap_alloc_new w (Obj.cells #[.int .i64 kind] 3))
    exact Lib.cell_of_heap h 0
  · have h := row_below HH.out (((Below.refl w.heap.size w).alloc (Nat.le_refl _) (Obj.cells #[.int .i64 kind] 3)).alloc (by simp) (Obj.cells #[.slice ar n cr] 122))
    exact h
def tabW : List (List UInt8 × Int × List Rd) := [([98, 101, 103, 105, 110], 1, []), ([112, 117, 116], 2, [.key, .val]), ([100, 114, 111, 112], 3, [.key]), ([101, 110, 100], 4, []), ([115, 116, 111, 112], 5, []), ([114, 101, 97, 100], 6, [.id]), ([103, 101, 116], 7, [.id, .key]), ([99, 108, 111, 115, 101], 8, [.id]), ([112, 97, 99, 107], 9, []), ([102, 97, 108, 108], 10, [.stage, .left])]
def WM (W : World) (gm : Nat) (l : List (List UInt8 × Value × Int × List Rd)) : Prop := WMap W gm (l.map fun e => (e.1, e.2.1)) l.length ∧ ∀ e ∈ l, ClAt W e.2.1 e.2.2.1 e.2.2.2
theorem WM.stays {W W' : World} {gm : Nat} {l : List (List UInt8 × Value × Int × List Rd)} (h : WM W gm l) (hb : Below W.heap.size W W') : WM W' gm l := ⟨h.1.stays hb, fun e he => (h.2 e he).stays hb⟩
theorem wm_put {W : World} {gm : Nat} {l : List (List UInt8 × Value × Int × List Rd)} (h : WM W gm l) (hn : l.length ≤ 20) (x : List UInt8) (hx : x.length ≤ 600) (hno : fstK (l.map fun e => (e.1, e.2.1)) x = none) (v : Value) (kind : Int) (rs : List Rd) (hc : ClAt W v kind rs) :
    ∃ w', (Instr.mapUpdate 94 (.map (some gm)) (.string (ba x)) v).run Tryd.prog W = .ok () w' ∧ WM w' gm (l ++ [(x, v, kind, rs)]) ∧ W.grownBy w' (some gm) := by
  obtain ⟨w', hr, h1, ht⟩ := wmap_put h.1 (by unfold maxLen; omega) x (by unfold maxLen; omega) hno v
  refine ⟨w', hr, ⟨?_, fun e he => ?_⟩, ht.grown⟩
  · rw [List.map_append, List.length_append]
    exact h1
  · rcases List.mem_append.1 he with he | he
    · exact (h.2 e he).turned ht
    · rw [List.mem_singleton] at he
      subst he
      exact hc.turned ht
theorem rds_none (w : World) : RowAt w 1 (.slice none ([] : List Rd).length 0) ([] : List Rd).length (([] : List Rd).map rdF) := ⟨rfl, _, _, rfl, Or.inl rfl⟩
theorem rds_row (w : World) (rs : List Rd) (cs : Array Value) (T : TypeId) (h : cs.toList = rs.map rdF) : RowAt (w.alloc (.cells cs T)) 1 (.slice (some ⟨w.heap.size, 0, none⟩) rs.length rs.length) rs.length (rs.map rdF) := by
  refine ⟨by simp, _, _, rfl, Or.inr ⟨w.heap.size, 0, rfl, by simp, fun j hj => ?_⟩⟩
  rw [Nat.zero_add, Lib.cell_of_heap (heap_alloc_new w _) j, ← h, Array.getElem?_toList]
set_option maxHeartbeats 8000000 in
set_option maxRecDepth 100000 in
theorem eventWords_any (w : World) :
    Calls Tryd.prog 55 #[] w fun e w' => ∃ gm l, e = .returned (.map (some gm)) ∧ WM w' gm l ∧ l.map (fun e => (e.1, e.2.2)) = tabW ∧ Below w.heap.size w w' := by
  have hmm := @run_makeMap Tryd.prog
  have HM0 : Hid (WM (w.alloc (.map #[] 0)) w.heap.size []) := hide ⟨wmap_made w, fun e he => by cases he⟩
  have HB0 : Hid (Below w.heap.size w (w.alloc (.map #[] 0))) := hide ((Below.refl _ _).alloc (Nat.le_refl _) _)
  go_enter Tryd.func55, Tryd.ntmps55
  have HC0 := hide (wordOf_any 1 [] none 0 (w.alloc (.map #[] 0)) (rds_none (w.alloc (.map #[] 0))))
  go_wp2_with fail
  refine HC0.out.mono ?_
  rintro e v0 ⟨u0, rfl, hc, hb⟩
  have HM' := HM0.out.stays ((Below.refl _ _).trans (hb.mono (by simp)))
  have HB' := HB0.out.trans (((Below.refl _ _).trans (hb.mono (by simp))).mono HB0.out.size)
  obtain ⟨w1, hrun, hM, hg⟩ := wm_put HM' (by simp) [98, 101, 103, 105, 110] (by decide) rfl u0 1 [] hc
  have hrun0 : (Instr.mapUpdate 94 (.map (some w.heap.size)) (.string ⟨#[98, 101, 103, 105, 110]⟩) u0).run Tryd.prog v0 = .ok () w1 := hrun
  have HM1 := hide hM
  have HB1 := hide (HB'.grown hg HB'.size (fun k e => by injection e with e; omega))
  clear hrun hM hg hc hb HM' HB' HM0 HB0 HC0
  have HC1 := hide (wordOf_any 2 [Rd.key, Rd.val] (some ⟨w1.heap.size, 0, none⟩) 2 (w1.alloc (.cells #[.func (.func 70) #[] #[], .func (.func 71) #[] #[]] 110)) (rds_row w1 [Rd.key, Rd.val] #[.func (.func 70) #[] #[], .func (.func 71) #[] #[]] 110 rfl))
  go_wp2_with fail
  refine HC1.out.mono ?_
  rintro e v1 ⟨u1, rfl, hc, hb⟩
  have HM' := HM1.out.stays (((Below.refl _ _).alloc (Nat.le_refl _) _).trans (hb.mono (by simp)))
  have HB' := HB1.out.trans ((((Below.refl _ _).alloc (Nat.le_refl _) _).trans (hb.mono (by simp))).mono HB1.out.size)
  obtain ⟨w2, hrun, hM, hg⟩ := wm_put HM' (by simp) [112, 117, 116] (by decide) rfl u1 2 [Rd.key, Rd.val] hc
  have hrun1 : (Instr.mapUpdate 94 (.map (some w.heap.size)) (.string ⟨#[112, 117, 116]⟩) u1).run Tryd.prog v1 = .ok () w2 := hrun
  have HM2 := hide hM
  have HB2 := hide (HB'.grown hg HB'.size (fun k e => by injection e with e; omega))
  clear hrun hM hg hc hb HM' HB' HM1 HB1 HC1
  have HC2 := hide (wordOf_any 3 [Rd.key] (some ⟨w2.heap.size, 0, none⟩) 1 (w2.alloc (.cells #[.func (.func 70) #[] #[]] 110)) (rds_row w2 [Rd.key] #[.func (.func 70) #[] #[]] 110 rfl))
  go_wp2_with fail
  refine HC2.out.mono ?_
  rintro e v2 ⟨u2, rfl, hc, hb⟩
  have HM' := HM2.out.stays (((Below.refl _ _).alloc (Nat.le_refl _) _).trans (hb.mono (by simp)))
  have HB' := HB2.out.trans ((((Below.refl _ _).alloc (Nat.le_refl _) _).trans (hb.mono (by simp))).mono HB2.out.size)
  obtain ⟨w3, hrun, hM, hg⟩ := wm_put HM' (by simp) [100, 114, 111, 112] (by decide) rfl u2 3 [Rd.key] hc
  have hrun2 : (Instr.mapUpdate 94 (.map (some w.heap.size)) (.string ⟨#[100, 114, 111, 112]⟩) u2).run Tryd.prog v2 = .ok () w3 := hrun
  have HM3 := hide hM
  have HB3 := hide (HB'.grown hg HB'.size (fun k e => by injection e with e; omega))
  clear hrun hM hg hc hb HM' HB' HM2 HB2 HC2
  have HC3 := hide (wordOf_any 4 [] none 0 w3 (rds_none w3))
  go_wp2_with fail
  refine HC3.out.mono ?_
  rintro e v3 ⟨u3, rfl, hc, hb⟩
  have HM' := HM3.out.stays ((Below.refl _ _).trans (hb.mono (by simp)))
  have HB' := HB3.out.trans (((Below.refl _ _).trans (hb.mono (by simp))).mono HB3.out.size)
  obtain ⟨w4, hrun, hM, hg⟩ := wm_put HM' (by simp) [101, 110, 100] (by decide) rfl u3 4 [] hc
  have hrun3 : (Instr.mapUpdate 94 (.map (some w.heap.size)) (.string ⟨#[101, 110, 100]⟩) u3).run Tryd.prog v3 = .ok () w4 := hrun
  have HM4 := hide hM
  have HB4 := hide (HB'.grown hg HB'.size (fun k e => by injection e with e; omega))
  clear hrun hM hg hc hb HM' HB' HM3 HB3 HC3
  have HC4 := hide (wordOf_any 5 [] none 0 w4 (rds_none w4))
  go_wp2_with fail
  refine HC4.out.mono ?_
  rintro e v4 ⟨u4, rfl, hc, hb⟩
  have HM' := HM4.out.stays ((Below.refl _ _).trans (hb.mono (by simp)))
  have HB' := HB4.out.trans (((Below.refl _ _).trans (hb.mono (by simp))).mono HB4.out.size)
  obtain ⟨w5, hrun, hM, hg⟩ := wm_put HM' (by simp) [115, 116, 111, 112] (by decide) rfl u4 5 [] hc
  have hrun4 : (Instr.mapUpdate 94 (.map (some w.heap.size)) (.string ⟨#[115, 116, 111, 112]⟩) u4).run Tryd.prog v4 = .ok () w5 := hrun
  have HM5 := hide hM
  have HB5 := hide (HB'.grown hg HB'.size (fun k e => by injection e with e; omega))
  clear hrun hM hg hc hb HM' HB' HM4 HB4 HC4
  have HC5 := hide (wordOf_any 6 [Rd.id] (some ⟨w5.heap.size, 0, none⟩) 1 (w5.alloc (.cells #[.func (.func 72) #[] #[]] 110)) (rds_row w5 [Rd.id] #[.func (.func 72) #[] #[]] 110 rfl))
  go_wp2_with fail
  refine HC5.out.mono ?_
  rintro e v5 ⟨u5, rfl, hc, hb⟩
  have HM' := HM5.out.stays (((Below.refl _ _).alloc (Nat.le_refl _) _).trans (hb.mono (by simp)))
  have HB' := HB5.out.trans ((((Below.refl _ _).alloc (Nat.le_refl _) _).trans (hb.mono (by simp))).mono HB5.out.size)
  obtain ⟨w6, hrun, hM, hg⟩ := wm_put HM' (by simp) [114, 101, 97, 100] (by decide) rfl u5 6 [Rd.id] hc
  have hrun5 : (Instr.mapUpdate 94 (.map (some w.heap.size)) (.string ⟨#[114, 101, 97, 100]⟩) u5).run Tryd.prog v5 = .ok () w6 := hrun
  have HM6 := hide hM
  have HB6 := hide (HB'.grown hg HB'.size (fun k e => by injection e with e; omega))
  clear hrun hM hg hc hb HM' HB' HM5 HB5 HC5
  have HC6 := hide (wordOf_any 7 [Rd.id, Rd.key] (some ⟨w6.heap.size, 0, none⟩) 2 (w6.alloc (.cells #[.func (.func 72) #[] #[], .func (.func 70) #[] #[]] 110)) (rds_row w6 [Rd.id, Rd.key] #[.func (.func 72) #[] #[], .func (.func 70) #[] #[]] 110 rfl))
  go_wp2_with fail
  refine HC6.out.mono ?_
  rintro e v6 ⟨u6, rfl, hc, hb⟩
  have HM' := HM6.out.stays (((Below.refl _ _).alloc (Nat.le_refl _) _).trans (hb.mono (by simp)))
  have HB' := HB6.out.trans ((((Below.refl _ _).alloc (Nat.le_refl _) _).trans (hb.mono (by simp))).mono HB6.out.size)
  obtain ⟨w7, hrun, hM, hg⟩ := wm_put HM' (by simp) [103, 101, 116] (by decide) rfl u6 7 [Rd.id, Rd.key] hc
  have hrun6 : (Instr.mapUpdate 94 (.map (some w.heap.size)) (.string ⟨#[103, 101, 116]⟩) u6).run Tryd.prog v6 = .ok () w7 := hrun
  have HM7 := hide hM
  have HB7 := hide (HB'.grown hg HB'.size (fun k e => by injection e with e; omega))
  clear hrun hM hg hc hb HM' HB' HM6 HB6 HC6
  have HC7 := hide (wordOf_any 8 [Rd.id] (some ⟨w7.heap.size, 0, none⟩) 1 (w7.alloc (.cells #[.func (.func 72) #[] #[]] 110)) (rds_row w7 [Rd.id] #[.func (.func 72) #[] #[]] 110 rfl))
  go_wp2_with fail
  refine HC7.out.mono ?_
  rintro e v7 ⟨u7, rfl, hc, hb⟩
  have HM' := HM7.out.stays (((Below.refl _ _).alloc (Nat.le_refl _) _).trans (hb.mono (by simp)))
  have HB' := HB7.out.trans ((((Below.refl _ _).alloc (Nat.le_refl _) _).trans (hb.mono (by simp))).mono HB7.out.size)
  obtain ⟨w8, hrun, hM, hg⟩ := wm_put HM' (by simp) [99, 108, 111, 115, 101] (by decide) rfl u7 8 [Rd.id] hc
  have hrun7 : (Instr.mapUpdate 94 (.map (some w.heap.size)) (.string ⟨#[99, 108, 111, 115, 101]⟩) u7).run Tryd.prog v7 = .ok () w8 := hrun
  have HM8 := hide hM
  have HB8 := hide (HB'.grown hg HB'.size (fun k e => by injection e with e; omega))
  clear hrun hM hg hc hb HM' HB' HM7 HB7 HC7
  have HC8 := hide (wordOf_any 9 [] none 0 w8 (rds_none w8))
  go_wp2_with fail
  refine HC8.out.mono ?_
  rintro e v8 ⟨u8, rfl, hc, hb⟩
  have HM' := HM8.out.stays ((Below.refl _ _).trans (hb.mono (by simp)))
  have HB' := HB8.out.trans (((Below.refl _ _).trans (hb.mono (by simp))).mono HB8.out.size)
  obtain ⟨w9, hrun, hM, hg⟩ := wm_put HM' (by simp) [112, 97, 99, 107] (by decide) rfl u8 9 [] hc
  have hrun8 : (Instr.mapUpdate 94 (.map (some w.heap.size)) (.string ⟨#[112, 97, 99, 107]⟩) u8).run Tryd.prog v8 = .ok () w9 := hrun
  have HM9 := hide hM
  have HB9 := hide (HB'.grown hg HB'.size (fun k e => by injection e with e; omega))
  clear hrun hM hg hc hb HM' HB' HM8 HB8 HC8
  have HC9 := hide (wordOf_any 10 [Rd.stage, Rd.left] (some ⟨w9.heap.size, 0, none⟩) 2 (w9.alloc (.cells #[.func (.func 73) #[] #[], .func (.func 74) #[] #[]] 110)) (rds_row w9 [Rd.stage, Rd.left] #[.func (.func 73) #[] #[], .func (.func 74) #[] #[]] 110 rfl))
  go_wp2_with fail
  refine HC9.out.mono ?_
  rintro e v9 ⟨u9, rfl, hc, hb⟩
  have HM' := HM9.out.stays (((Below.refl _ _).alloc (Nat.le_refl _) _).trans (hb.mono (by simp)))
  have HB' := HB9.out.trans ((((Below.refl _ _).alloc (Nat.le_refl _) _).trans (hb.mono (by simp))).mono HB9.out.size)
  obtain ⟨w10, hrun, hM, hg⟩ := wm_put HM' (by simp) [102, 97, 108, 108] (by decide) rfl u9 10 [Rd.stage, Rd.left] hc
  have hrun9 : (Instr.mapUpdate 94 (.map (some w.heap.size)) (.string ⟨#[102, 97, 108, 108]⟩) u9).run Tryd.prog v9 = .ok () w10 := hrun
  have HM10 := hide hM
  have HB10 := hide (HB'.grown hg HB'.size (fun k e => by injection e with e; omega))
  clear hrun hM hg hc hb HM' HB' HM9 HB9 HC9
  go_wp2_with fail
  go_ret
  exact ⟨_, _, rfl, HM10.out, rfl, HB10.out⟩
open Go.RowKit
theorem step_call1w {P : Program} (w : World) {ops : Array Oper} {o : Oper} {a : Act} {K : Act → World → Prop} {Q : Exit → Act → World → Prop} {E : Prop} (hw : Region.wanted o (yielded ops a.tmps) = true) (f : FuncId) (fn : Func) (hfn : P.funcs[f]? = some fn) (hname : ¬ fn.name = "runtime.NumGoroutine") (hbody : ¬ fn.body = none) (s : Operand) (ts : Array TypeId)
    (ho : o.op = .call { callee := .value (.func f), args := #[s], argTypes := ts }) (u : Value) (hs : a.eval s = u)
    (R : Ending → World → Prop) (hc : Calls P f #[u] w R) (hR : ∀ e w', R e w' → ∃ r, e = .returned r ∧ K (a.put o.dst r) w') :
    if Region.wanted o (yielded ops a.tmps) = true then Oper.wp P o a w K Q else E := by
  rw [if_pos hw]
  unfold Oper.wp execOp
  have hf : a.eval (.func f) = .func (.func f) #[] #[] := rfl
  simp only [ho, resolve, invoke, hf, Deferred.ofValue, callFunc, Sem.run_bind, Sem.run_pure, Result.andThen_ok, List.map_toArray, List.map_cons, List.map_nil, hs]
  simp [go_sem, hfn, hname, hbody]
  refine hc.mono ?_
  intro e w' h
  obtain ⟨r, rfl, hk⟩ := hR e w' h
  exact hk
end Go.Proofs.YtmmepgincbngeaaDoor
