/-
  Facts and contracts that the law's own text rests on, by their texts' names: EventIn, ImplNewN.
-/
import Derived.Deep.Cut
import Derived.Test.YtmmepgincbngeaaDoorSh7
import Derived.Test.YtmmepgincbngeaaDoorSh2
import Derived.Test.YtmmepgincbngeaaDoorSh3
import Derived.Test.YtmmepgincbngeaaDoorSh1
namespace Go.Proofs.YtmmepgincbngeaaDoor
open Go.RowKit
theorem tab_none (x : List UInt8) (h : ∀ i, i < 10 → x ≠ kws.getD i []) : tabW.find? (fun t => decide (t.1 = x)) = none := by
  rw [List.find?_eq_none]
  intro t ht
  have hm : t.1 ∈ kws := by
    have h2 : tabW.map (·.1) = kws := rfl
    rw [← h2]
    exact List.mem_map_of_mem ht
  obtain ⟨i, hi, he⟩ := List.getElem_of_mem hm
  have := h i hi
  rw [List.getD_eq_getElem?_getD, List.getElem?_eq_getElem hi, he] at this
  simp
  exact fun e => this e.symm
theorem kw_none (x : List UInt8) (r : List (List UInt8)) (h : ∀ i, i < 10 → x ≠ kws.getD i []) : evOf (x :: r) = none := by
  refine find_none _ (fun j hj => ?_)
  have := h j hj
  rw [isKw]
  simp only [List.getD_cons_zero]
  rw [decide_eq_false this]
  rfl
set_option maxHeartbeats 4000000 in
set_option maxRecDepth 100000 in
theorem evOf_tab (x : List UInt8) (r : List (List UInt8)) : evOf (x :: r) = match tabW.find? (fun t => decide (t.1 = x)) with | none => none | some t => if r.length = t.2.2.length then rdsU t.2.2 r (evK t.2.1) else none := by
  by_cases h : ∃ i, i < 10 ∧ x = kws.getD i []
  · obtain ⟨i, hi, rfl⟩ := h
    match i, hi with
    | 0, _ =>
      rcases r with _ | ⟨a, _ | ⟨b, _ | ⟨d, r⟩⟩⟩
      all_goals rfl
    | 1, _ =>
      rcases r with _ | ⟨a, _ | ⟨b, _ | ⟨d, r⟩⟩⟩
      all_goals rfl
    | 2, _ =>
      rcases r with _ | ⟨a, _ | ⟨b, _ | ⟨d, r⟩⟩⟩
      all_goals rfl
    | 3, _ =>
      rcases r with _ | ⟨a, _ | ⟨b, _ | ⟨d, r⟩⟩⟩
      all_goals rfl
    | 4, _ =>
      rcases r with _ | ⟨a, _ | ⟨b, _ | ⟨d, r⟩⟩⟩
      all_goals rfl
    | 5, _ =>
      rcases r with _ | ⟨a, _ | ⟨b, _ | ⟨d, r⟩⟩⟩
      · rfl
      · show (decO a).map (fun n => { evt0 5 with id := n }) = ((decO a).map fun n => { evK 6 with id := n }).bind (rdsU [] [])
        cases decO a <;> rfl
      · rfl
      · rfl
    | 6, _ =>
      rcases r with _ | ⟨a, _ | ⟨b, _ | ⟨d, r⟩⟩⟩
      · rfl
      · rfl
      · show (decO a).map (fun n => { evt0 6 with id := n, key := ⟨b.toArray⟩ }) = ((decO a).map fun n => { evK 7 with id := n }).bind (rdsU [.key] [b])
        cases decO a <;> rfl
      · rfl
    | 7, _ =>
      rcases r with _ | ⟨a, _ | ⟨b, _ | ⟨d, r⟩⟩⟩
      · rfl
      · show (decO a).map (fun n => { evt0 7 with id := n }) = ((decO a).map fun n => { evK 8 with id := n }).bind (rdsU [] [])
        cases decO a <;> rfl
      · rfl
      · rfl
    | 8, _ =>
      rcases r with _ | ⟨a, _ | ⟨b, _ | ⟨d, r⟩⟩⟩
      all_goals rfl
    | 9, _ =>
      rcases r with _ | ⟨a, _ | ⟨b, _ | ⟨d, r⟩⟩⟩
      · rfl
      · rfl
      · show ((decO a).bind fun n => (bitsO b).map fun bs => { evt0 9 with stage := n, left := bs }) = ((decO a).map fun n => { evK 10 with stage := n }).bind (rdsU [.left] [b])
        cases decO a with
        | none => rfl
        | some n =>
          show ((bitsO b).map fun bs => { evt0 9 with stage := n, left := bs }) = ((bitsO b).map fun bs => { evK 10 with stage := n, left := [] ++ bs }).bind (rdsU [] [])
          cases bitsO b <;> rfl
      · rfl
  · rw [tab_none x (fun i hi e => h ⟨i, hi, e⟩), kw_none x r (fun i hi e => h ⟨i, hi, e⟩)]
theorem tab_small : ∀ t ∈ tabW, t.2.2.length ≤ 3 := by
  intro t ht
  simp only [tabW, List.mem_cons, List.mem_nil_iff, or_false] at ht
  rcases ht with rfl | rfl | rfl | rfl | rfl | rfl | rfl | rfl | rfl | rfl <;> decide
theorem fst_tab {W : World} (x : List UInt8) : ∀ (l : List (List UInt8 × Value × Int × List Rd)) (T : List (List UInt8 × Int × List Rd)), l.map (fun e => (e.1, e.2.2)) = T → (∀ e ∈ l, ClAt W e.2.1 e.2.2.1 e.2.2.2) → match T.find? (fun t => decide (t.1 = x)) with | none => fstK (l.map fun e => (e.1, e.2.1)) x = none | some t => ∃ v, fstK (l.map fun e => (e.1, e.2.1)) x = some v ∧ ClAt W v t.2.1 t.2.2
  | [], _, h, _ => by subst h; rfl
  | e :: l, _, h, hc => by
    subst h
    have ih := fst_tab x l _ rfl (fun e he => hc e (List.mem_cons_of_mem _ he))
    rw [List.map_cons, List.find?_cons, List.map_cons]
    by_cases hx : e.1 = x
    · simp only [hx, decide_true, fstK, if_true]
      exact ⟨_, rfl, hc e List.mem_cons_self⟩
    · simp only [hx, decide_false, fstK, if_false]
      exact ih
theorem wm_look {W : World} {gm : Nat} {l : List (List UInt8 × Value × Int × List Rd)} (h : WM W gm l) (ht : l.map (fun e => (e.1, e.2.2)) = tabW) (x : List UInt8) (hx : x.length ≤ maxLen) :
    ∃ (v : Value) (known : Bool), (Instr.lookup 94 (.map (some gm)) (.string (ba x)) true).run Tryd.prog W = .ok (.tuple #[v, .bool known]) W ∧ (match tabW.find? (fun t => decide (t.1 = x)) with | none => known = false | some t => known = true ∧ ClAt W v t.2.1 t.2.2) := by
  have h1 := wmap_look h.1 x hx
  have h2 := fst_tab x l tabW ht h.2
  refine ⟨_, _, h1, ?_⟩
  cases hf : tabW.find? (fun t => decide (t.1 = x)) with
  | none =>
    rw [hf] at h2
    have h2 : fstK (l.map fun e => (e.1, e.2.1)) x = none := h2
    rw [h2]
    rfl
  | some t =>
    rw [hf] at h2
    obtain ⟨v, hv, hc⟩ := h2
    rw [hv]
    exact ⟨rfl, hc⟩
noncomputable def evI (p : List (List UInt8)) : Option Evt := (evOf p).filter (·.ok)
set_option maxHeartbeats 8000000 in
set_option maxRecDepth 100000 in
theorem eventIn_any (p : List (List UInt8)) (hp0 : 0 < p.length) (hpl : p.length ≤ 10) (hps : ∀ x ∈ p, x.length ≤ 600) (a : Option Addr) (c : Nat) (hcap : p.length ≤ c) (w : World) (hr : RowAt w 1 (.slice a p.length c) p.length (strVs p)) :
    Calls Tryd.prog 39 #[.slice a p.length c] w fun e w' => EvRet w w' (evI p) e := by
  obtain ⟨b, off, rfl, hc⟩ := rowat_get hr hp0
  obtain ⟨x, r, rfl⟩ : ∃ x r, p = x :: r := by
    cases p with
    | nil => simp at hp0
    | cons x r => exact ⟨x, r, rfl⟩
  have hx : x.length ≤ 600 := hps x List.mem_cons_self
  have HC0 : Hid (∀ wx, Below w.heap.size w wx → wx.cell? ⟨b, off, none⟩ = some (.string (ba x))) := hide (fun wx hb => by have := hc wx hb 0 hp0; rw [Nat.add_zero] at this; rw [this]; rfl)
  have HR := hide hr
  have HPs := hide hps
  have HEW := hide (fun wx => eventWords_any wx)
  have HTab := hide (evOf_tab x r)
  obtain ⟨m, hm⟩ : ∃ m, m = r.length := ⟨_, rfl⟩
  have HM := hide hm
  have HRet : Hid (Below w.heap.size w (w.alloc (.cells #[.int .i64 0, .int .i64 0, .string ⟨#[]⟩, .string ⟨#[]⟩, .int .i64 0, .slice none 0 0, .int .i64 0] 35))) := hide ((Below.refl _ _).alloc (Nat.le_refl _) _)
  rw [List.length_cons, ← hm] at hpl hcap ⊢
  rw [List.length_cons, ← hm] at HR
  obtain ⟨R, hR⟩ : ∃ y, y = evI (x :: r) := ⟨_, rfl⟩
  have HRR := hide hR
  rw [← hR]
  clear hm hr hps hp0 hc hR
  have c0 := HC0.out _ HRet.out
  go_enter Tryd.func39, Tryd.ntmps39
  go_wp2_with fail
  have HXl : Hid (x.length ≤ maxLen) := hide (by unfold maxLen; omega)
  obtain ⟨to, hto⟩ : ∃ t, t = tabW.find? (fun t => decide (t.1 = x)) := ⟨_, rfl⟩
  have HTo := hide hto
  rw [← hto] at HTab
  clear hto
  go_region_with (go_at_call 55; refine (HEW.out _).mono ?_; rintro e w1 ⟨gm, l, rfl, hwm, ht, hb⟩; obtain ⟨v, kn, hlk, hcl⟩ := wm_look hwm ht x HXl.out; have HB1 : Hid (Below w.heap.size w w1) := hide (HRet.out.drew.trans (hb.mono HRet.out.drew.size)); have HZ : Hid (w1.heap[w.heap.size]? = some (.cells (ev7 (evZ, .slice none 0 0)).toArray 35 (0, 0))) := hide ((hb.block w.heap.size (by simp)).trans (heap_alloc_new w _)); have c1 := HC0.out w1 HB1.out; rw [← HTo.out] at hcl; have HCl := hide hcl; clear hwm ht hb hcl)
  all_goals
    cases to with
    | none =>
      have hk : kn = false := HCl.out
      subst hk
      have HRn : Hid (R = none) := hide (by rw [HRR.out, evI, HTab.out]; rfl)
      have hth : Hid (w1.there w.heap.size 0 (ev7 (evZ, .slice none 0 0)).toArray.size) := hide (there_of HZ.out 0 7 (show 0 + 7 ≤ 7 by decide))
      have HOne : Hid ((ev7 (evZ, .slice none 0 0)).toArray.toList.all (·.oneCell') = true) := hide rfl
      have HSt := hide (cells_setW HZ.out (ev7 (evZ, .slice none 0 0)).toArray rfl)
      have HBs := hide (below_cells (Nat.le_refl w.heap.size) (ev7 (evZ, .slice none 0 0)).toArray.toList 0 w1 HB1.out)
      obtain ⟨w2, hw2⟩ : ∃ y, y = w1.setCells w.heap.size 0 (ev7 (evZ, .slice none 0 0)).toArray.toList := ⟨_, rfl⟩
      rw [← hw2] at HSt HBs
      have HW2 := hide hw2.symm
      have HNz : Hid ((Tryd.prog.info? 35).map (·.size) = some (ev7 (evZ, .slice none 0 0)).toArray.size) := hide Tryd.sizeEvI
      clear hw2 hlk
      go_wp2_with ((with_reducible refine wpList_storeL ?_ 35 (.tmp 2) (.tmp 18) ?_ w.heap.size 0 (ev7 (evZ, .slice none 0 0)).toArray ?_ ?_ hth.out ?_ ?_ HW2.out ?_); exact rfl; exact rfl; exact rfl; exact rfl; exact HNz.out; exact HOne.out)
      refine bodyPost_ret (v := .tuple #[.agg (ev7 (evZ, .slice none 0 0)).toArray, .bool false]) (results_ct Tryd.results39 rfl rfl (run_agg (range_all HSt.out) Tryd.underlying35 rfl Tryd.sizeEvI)) rfl ?_
      rw [HRn.out]
      exact ⟨⟨_, _, rfl, rfl, rfl, rfl⟩, HBs.out⟩
    | some t =>
      obtain ⟨hk, p, q, ar, cr, rfl, hp, hq, hcp, hcq, hrr⟩ := HCl.out
      subst hk
      have HRr := hide (row_below HR.out HB1.out)
      obtain ⟨ro, hro⟩ : ∃ y, y = (if r.length = t.2.2.length then rdsU t.2.2 r (evK t.2.1) else none) := ⟨_, rfl⟩
      have HRo : Hid (evOf (x :: r) = ro) := hide (HTab.out.trans hro.symm)
      have HLn : Hid (t.2.2.length ≤ 3) := hide (tab_small t (List.mem_of_find?_eq_some HTo.out.symm))
      by_cases hcc : c = 1
      · have hm0 : m = 0 := by omega
        have HWd := hide (word_any t.2.1 t.2.2 HLn.out r (by rw [← HM.out]; omega) (fun x hx => HPs.out x (List.mem_cons_of_mem _ hx)) (some ⟨b, off, none⟩) ar 0 cr p q w1 ⟨by rw [Nat.mul_one]; simp [strVs], _, _, rfl, Or.inl (by rw [← HM.out]; exact hm0)⟩ hcq hcp hrr hp hq)
        rw [← hro, ← HM.out] at HWd
        have hc1 : (1 : Int) ≤ (c : Int) := by omega
        clear hcp hcq hrr hp hq hlk hro
        subst hcc hm0
        go_wp2_with fail
        refine HWd.out.mono ?_
        rintro e w2 ⟨⟨cs, bo, rfl, hcz, hco, hmm⟩, hb2⟩
        have HB2 : Hid (Below w.heap.size w w2) := hide (HB1.out.trans (hb2.mono HB1.out.size))
        have HZ2 : Hid (w2.heap[w.heap.size]? = some (.cells (ev7 (evZ, .slice none 0 0)).toArray 35 (0, 0))) := hide ((hb2.block w.heap.size (Array.getElem?_eq_some_iff.1 HZ.out).1).trans HZ.out)
        have HMm := hide hmm
        have HOne := hide hco
        have HSz := hide hcz
        obtain ⟨w3, hw3⟩ : ∃ y, y = (w2.alloc (Obj.cells #[.int .i64 0, .int .i64 0, .string ⟨#[]⟩, .string ⟨#[]⟩, .int .i64 0, .slice none 0 0, .int .i64 0] 35)).setCells w2.heap.size 0 cs.toList := ⟨_, rfl⟩
        have HC3 : Hid (w3.heap[w2.heap.size]? = some (.cells cs 35 (0, 0))) := hide (by rw [hw3]; exact cells_setW (heap_alloc_new w2 (Obj.cells #[.int .i64 0, .int .i64 0, .string ⟨#[]⟩, .string ⟨#[]⟩, .int .i64 0, .slice none 0 0, .int .i64 0] 35)) cs (by rw [hcz]; rfl))
        have hth : Hid ((w2.alloc (Obj.cells #[.int .i64 0, .int .i64 0, .string ⟨#[]⟩, .string ⟨#[]⟩, .int .i64 0, .slice none 0 0, .int .i64 0] 35)).there w2.heap.size 0 cs.size) := hide (by rw [hcz]; exact there_of (heap_alloc_new w2 (Obj.cells #[.int .i64 0, .int .i64 0, .string ⟨#[]⟩, .string ⟨#[]⟩, .int .i64 0, .slice none 0 0, .int .i64 0] 35)) 0 7 (show 0 + 7 ≤ 7 by decide))
        have hb3 : Below w2.heap.size w2 w3 := by rw [hw3]; exact below_cells (Nat.le_refl _) _ 0 _ ((Below.refl _ _).alloc (Nat.le_refl _) _)
        have hb13 := hb2.trans (hb3.mono hb2.size)
        have HB3 : Hid (Below w.heap.size w w3) := hide (HB2.out.trans (hb3.mono HB2.out.size))
        have hz2 := (Array.getElem?_eq_some_iff.1 HZ2.out).1
        have HZ3 : Hid (w3.heap[w.heap.size]? = some (.cells (ev7 (evZ, .slice none 0 0)).toArray 35 (0, 0))) := hide ((hb3.block w.heap.size hz2).trans HZ2.out)
        have HG6 : Hid (w2.heap.size ≠ w.heap.size) := hide (by omega)
        have HSw : Hid (w.heap.size < w1.heap.size) := hide (Array.getElem?_eq_some_iff.1 HZ.out).1
        have HOo : Hid (∀ (u : Value) (n : Nat) (bs : List Value), w2.ownsRow w1.heap.size 4 1 u n bs → w3.ownsRow w1.heap.size 4 1 u n bs) := hide (fun u n bs ho => own_stays ho hb3)
        have HW3 := hide hw3.symm
        have HNz : Hid ((Tryd.prog.info? 35).map (·.size) = some cs.size) := hide (by rw [hcz]; exact Tryd.sizeEvI)
        clear hw3 hcz hco hmm hb2 hb3 hb13 hz2 hc1
        go_upto_region 5 with ((with_reducible refine wpList_storeL ?_ 35 (.tmp 6) (.tmp 24) ?_ w2.heap.size 0 cs ?_ ?_ hth.out ?_ ?_ HW3.out ?_); exact rfl; exact rfl; exact rfl; exact rfl; exact HNz.out; exact HOne.out)
        obtain ⟨g6, hg6⟩ : ∃ g, g = w2.heap.size := ⟨_, rfl⟩
        rw [← hg6] at HC3 HG6 ⊢
        clear hg6 hth HW3
        have hS0 : (fun wx => wx.heap[g6]? = some (Obj.cells cs 35 (0, 0))) w3.drew := HC3.out
        cases ro with
        | none =>
          have hk : bo = false := HMm.out
          subst hk
          have HRn : Hid (R = none) := hide (by rw [HRR.out, evI, HRo.out]; rfl)
          refine wp_region_held_drew (S := (fun wx => wx.heap[g6]? = some (Obj.cells cs 35 (0, 0)))) (by kernel_rfl) (hS0) (fun _ => ?_)
          refine takeW 0 26 (.agg cs) rfl rfl (by kernel_rfl) (by kernel_rfl) (by kernel_rfl) (fun _ _ _ h => h) (yields_loadL (by rfl) 35 (.tmp 6) rfl g6 0 rfl cs _ (fun _ h => range_all h) Tryd.underlying35 rfl HNz.out) hS0 ?_
          (try simp only [List.setIfInBounds_toArray, List.set_cons_zero, List.set_cons_succ])
          refine takeW 1 27 ?_ rfl rfl (by kernel_rfl) (by kernel_rfl) (by kernel_rfl) (fun _ _ _ h => h) (Or.inl ⟨by rfl, ?_⟩) hS0 ?_
          rotate_left
          · (intro wx hSw; (try dsimp only at hSw); go_simp; try with_reducible rfl)
          (try simp only [List.setIfInBounds_toArray, List.set_cons_zero, List.set_cons_succ])
          refine takeW 2 28 ?_ rfl rfl (by kernel_rfl) (by kernel_rfl) (by kernel_rfl) (fun _ _ _ h => h) (Or.inl ⟨by rfl, ?_⟩) hS0 ?_
          rotate_left
          · (intro wx hSw; (try dsimp only at hSw); go_simp; try with_reducible rfl)
          (try simp only [List.setIfInBounds_toArray, List.set_cons_zero, List.set_cons_succ])
          refine takeW 3 29 undef rfl rfl (by kernel_rfl) (by kernel_rfl) (by kernel_rfl) (fun _ _ _ h => h) (Or.inr ⟨by rfl, rfl⟩) hS0 ?_
          (try simp only [List.setIfInBounds_toArray, List.set_cons_zero, List.set_cons_succ])
          refine wpAnyH_ready (rs := [4]) (by kernel_rfl) (by simp) ?_
          refine AllReadyH.cons rfl (fun K hK => ?_) AllReadyH.nil
          rw [if_neg (Bool.eq_false_iff.1 (by rfl))]
          refine hK.out _ w3.drew hS0 (fun _ => ?_)
          clear hK K
          simp only [Act.put, List.setIfInBounds_toArray]
          refine takeW 5 31 ?_ rfl rfl (by kernel_rfl) (by kernel_rfl) (by kernel_rfl) (fun _ _ _ h => h) (Or.inl ⟨by rfl, ?_⟩) hS0 ?_
          rotate_left
          · (intro wx hSw; (try dsimp only at hSw); go_simp; try with_reducible rfl)
          (try simp only [List.setIfInBounds_toArray, List.set_cons_zero, List.set_cons_succ])
          have hS4 := hS0
          have HZ4 : Hid (w3.drew.heap[w.heap.size]? = some (.cells (ev7 (evZ, .slice none 0 0)).toArray 35 (0, 0))) := hide HZ3.out
          have HB4 : Hid (Below w.heap.size w w3.drew) := hide HB3.out.drew
          have hth2 : Hid (w3.drew.there w.heap.size 0 cs.size) := hide (by rw [HSz.out]; exact there_of HZ4.out 0 7 (show 0 + 7 ≤ 7 by decide))
          have HSt := hide (cells_setW HZ4.out cs HSz.out)
          have HBs := hide (below_cells (Nat.le_refl w.heap.size) cs.toList 0 w3.drew HB4.out)
          have hS5a := World.heap_setCells_other w3.drew w.heap.size 0 cs.toList (Array.getElem?_eq_some_iff.1 hS4).1 HG6.out
          obtain ⟨w5, hw5⟩ : ∃ y, y = w3.drew.setCells w.heap.size 0 cs.toList := ⟨_, rfl⟩
          have HOf := hide (fun (u : Value) (n : Nat) (bs : List Value) (B : Nat) (ho : w3.drew.ownsRow B 4 1 u n bs) (hB : w.heap.size < B) => own_kept (w' := w5) (S := fun k => k = w.heap.size) ho (by rw [hw5]; exact ⟨World.os_setCells _ _ _ _, (below_cells (B := w.heap.size) (W0 := w3.drew) (Nat.le_refl _) cs.toList 0 w3.drew (Below.refl _ _)).tape, World.output_setCells _ _ _ _, by rw [size_cells]; exact Nat.le_refl _, fun k hk hne => World.heap_setCells_other w3.drew w.heap.size 0 _ hk hne⟩) (fun k hk e => by have := (ho.lt k hk).1; omega))
          rw [← hw5] at HSt HBs hS5a
          have hS5 : (fun wx => wx.heap[g6]? = some (Obj.cells cs 35 (0, 0))) w5 := hS5a.trans hS4
          have HW5 := hide hw5.symm
          clear hw5 hS5a
          refine wpAnyH_ready (rs := [6]) (by kernel_rfl) (by simp) ?_
          refine AllReadyH.cons rfl (fun K hK => ?_) AllReadyH.nil
          refine step_storeL ?_ 35 (.tmp 2) (.tmp 26) ?_ w.heap.size 0 cs ?_ ?_ hth2.out ?_ ?_ HW5.out ?_
          · exact rfl
          · exact rfl
          · exact rfl
          · exact rfl
          · exact HNz.out
          · exact HOne.out
          refine hK.out (Act.put _ none _) w5 hS5 (fun _ => ?_)
          clear hK K
          simp only [Act.put]
          refine takeW 7 3 ?_ rfl rfl (by kernel_rfl) (by kernel_rfl) (by kernel_rfl) (fun _ _ _ h => h) (Or.inl ⟨by rfl, ?_⟩) hS5 ?_
          rotate_left
          · (intro wx hSw; (try dsimp only at hSw); go_simp; try with_reducible rfl)
          (try dsimp only)
          refine wpAnyH_done (by kernel_rfl) ?_ _
          go_wp2_with fail
          refine bodyPost_ret (v := .tuple #[.agg cs, .bool false]) (results_ct Tryd.results39 rfl rfl (run_agg (range_all HSt.out) Tryd.underlying35 rfl HNz.out)) rfl ?_
          rw [HRn.out]
          exact ⟨⟨_, _, rfl, HSz.out, HOne.out, rfl⟩, HBs.out⟩
        | some ev =>
          obtain ⟨hk, u, hcs, hou⟩ := HMm.out
          subst hk
          obtain ⟨au, cu, rfl⟩ := own_slice hou
          have HCs := hide hcs
          have HOu := hide (HOo.out _ _ _ hou)
          obtain ⟨s1, s2, s3⟩ := evOf_small (fun x hx => HPs.out x hx) HRo.out
          have HEo := hide (implEventOk_any (.agg cs) ev (by unfold maxLen; omega) (by unfold maxLen; omega) (by unfold maxLen; omega) w3.drew (by rw [hcs]; exact ⟨au, cu, rfl, row_of_own (show w3.drew.ownsRow w1.heap.size 4 1 _ _ _ from HOu.out)⟩))
          obtain ⟨ok, hok⟩ : ∃ y, y = ev.ok := ⟨_, rfl⟩
          rw [← hok] at HEo
          have HRs2 : Hid (R = if ok = true then some ev else none) := hide (by rw [HRR.out, evI, HRo.out, hok]; simp [Option.filter])
          clear hcs hou s1 s2 s3 hok
          refine wp_region_held_drew (S := (fun wx => wx.heap[g6]? = some (Obj.cells cs 35 (0, 0)))) (by kernel_rfl) (hS0) (fun _ => ?_)
          refine takeW 0 26 (.agg cs) rfl rfl (by kernel_rfl) (by kernel_rfl) (by kernel_rfl) (fun _ _ _ h => h) (yields_loadL (by rfl) 35 (.tmp 6) rfl g6 0 rfl cs _ (fun _ h => range_all h) Tryd.underlying35 rfl HNz.out) hS0 ?_
          (try simp only [List.setIfInBounds_toArray, List.set_cons_zero, List.set_cons_succ])
          refine takeW 1 27 ?_ rfl rfl (by kernel_rfl) (by kernel_rfl) (by kernel_rfl) (fun _ _ _ h => h) (Or.inl ⟨by rfl, ?_⟩) hS0 ?_
          rotate_left
          · (intro wx hSw; (try dsimp only at hSw); go_simp; try with_reducible rfl)
          (try simp only [List.setIfInBounds_toArray, List.set_cons_zero, List.set_cons_succ])
          refine takeW 2 28 ?_ rfl rfl (by kernel_rfl) (by kernel_rfl) (by kernel_rfl) (fun _ _ _ h => h) (Or.inl ⟨by rfl, ?_⟩) hS0 ?_
          rotate_left
          · (intro wx hSw; (try dsimp only at hSw); go_simp; try with_reducible rfl)
          (try simp only [List.setIfInBounds_toArray, List.set_cons_zero, List.set_cons_succ])
          refine takeW 3 29 (.agg cs) rfl rfl (by kernel_rfl) (by kernel_rfl) (by kernel_rfl) (fun _ _ _ h => h) (yields_loadL (by rfl) 35 (.tmp 6) rfl g6 0 rfl cs _ (fun _ h => range_all h) Tryd.underlying35 rfl HNz.out) hS0 ?_
          (try simp only [List.setIfInBounds_toArray, List.set_cons_zero, List.set_cons_succ])
          refine wpAnyH_ready (rs := [4]) (by kernel_rfl) (by simp) ?_
          refine AllReadyH.cons rfl (fun K hK => ?_) AllReadyH.nil
          refine step_call1w w3.drew ?_ 56 Tryd.f56 Tryd.func56 ?_ ?_ (.tmp 29) #[35] ?_ (.agg cs) ?_ _ HEo.out ?_
          · rfl
          · decide
          · exact Option.some_ne_none _
          · exact rfl
          · exact rfl
          rintro e w4 ⟨rfl, hb4⟩
          have hS4 : (fun wx => wx.heap[g6]? = some (Obj.cells cs 35 (0, 0))) w4 := (hb4.block g6 (Array.getElem?_eq_some_iff.1 hS0).1).trans hS0
          have HZ4 : Hid (w4.heap[w.heap.size]? = some (.cells (ev7 (evZ, .slice none 0 0)).toArray 35 (0, 0))) := hide ((hb4.block w.heap.size (Array.getElem?_eq_some_iff.1 HZ3.out).1).trans HZ3.out)
          have HB4 : Hid (Below w.heap.size w w4) := hide (HB3.out.drew.trans (hb4.mono HB3.out.size))
          have HOu4 := hide (own_stays (show w3.drew.ownsRow w1.heap.size 4 1 _ _ _ from HOu.out) hb4)
          clear hb4
          refine ⟨_, rfl, ?_⟩
          refine hK.out (Act.put _ (some 30) _) w4 hS4 (fun _ => ?_)
          clear hK K
          simp only [Act.put, List.setIfInBounds_toArray, List.set_cons_zero, List.set_cons_succ]
          refine takeW 5 31 ?_ rfl rfl (by kernel_rfl) (by kernel_rfl) (by kernel_rfl) (fun _ _ _ h => h) (Or.inl ⟨by rfl, ?_⟩) hS4 ?_
          rotate_left
          · (intro wx hSw; (try dsimp only at hSw); go_simp; try with_reducible rfl)
          (try simp only [List.setIfInBounds_toArray, List.set_cons_zero, List.set_cons_succ])
          have hth2 : Hid (w4.there w.heap.size 0 cs.size) := hide (by rw [HSz.out]; exact there_of HZ4.out 0 7 (show 0 + 7 ≤ 7 by decide))
          have HSt := hide (cells_setW HZ4.out cs HSz.out)
          have HBs := hide (below_cells (Nat.le_refl w.heap.size) cs.toList 0 w4 HB4.out)
          have hS5a := World.heap_setCells_other w4 w.heap.size 0 cs.toList (Array.getElem?_eq_some_iff.1 hS4).1 HG6.out
          obtain ⟨w5, hw5⟩ : ∃ y, y = w4.setCells w.heap.size 0 cs.toList := ⟨_, rfl⟩
          have HOf := hide (fun (u : Value) (n : Nat) (bs : List Value) (B : Nat) (ho : w4.ownsRow B 4 1 u n bs) (hB : w.heap.size < B) => own_kept (w' := w5) (S := fun k => k = w.heap.size) ho (by rw [hw5]; exact ⟨World.os_setCells _ _ _ _, (below_cells (B := w.heap.size) (W0 := w4) (Nat.le_refl _) cs.toList 0 w4 (Below.refl _ _)).tape, World.output_setCells _ _ _ _, by rw [size_cells]; exact Nat.le_refl _, fun k hk hne => World.heap_setCells_other w4 w.heap.size 0 _ hk hne⟩) (fun k hk e => by have := (ho.lt k hk).1; omega))
          rw [← hw5] at HSt HBs hS5a
          have hS5 : (fun wx => wx.heap[g6]? = some (Obj.cells cs 35 (0, 0))) w5 := hS5a.trans hS4
          have HW5 := hide hw5.symm
          clear hw5 hS5a
          refine wpAnyH_ready (rs := [6]) (by kernel_rfl) (by simp) ?_
          refine AllReadyH.cons rfl (fun K hK => ?_) AllReadyH.nil
          refine step_storeL ?_ 35 (.tmp 2) (.tmp 26) ?_ w.heap.size 0 cs ?_ ?_ hth2.out ?_ ?_ HW5.out ?_
          · exact rfl
          · exact rfl
          · exact rfl
          · exact rfl
          · exact HNz.out
          · exact HOne.out
          refine hK.out (Act.put _ none _) w5 hS5 (fun _ => ?_)
          clear hK K
          simp only [Act.put]
          refine takeW 7 3 ?_ rfl rfl (by kernel_rfl) (by kernel_rfl) (by kernel_rfl) (fun _ _ _ h => h) (Or.inl ⟨by rfl, ?_⟩) hS5 ?_
          rotate_left
          · (intro wx hSw; (try dsimp only at hSw); go_simp; try with_reducible rfl)
          (try simp only [List.setIfInBounds_toArray, List.set_cons_zero, List.set_cons_succ])
          refine wpAnyH_done (by kernel_rfl) ?_ _
          go_wp2_with fail
          refine bodyPost_ret (v := .tuple #[.agg cs, .bool ok]) (results_ct Tryd.results39 rfl rfl (run_agg (range_all HSt.out) Tryd.underlying35 rfl HNz.out)) rfl ?_
          rw [HRs2.out]
          cases ok with
          | false => exact ⟨⟨_, _, rfl, HSz.out, HOne.out, rfl⟩, HBs.out⟩
          | true => exact ⟨⟨_, _, rfl, HSz.out, HOne.out, rfl, _, HCs.out, own_down (HOf.out _ _ _ _ HOu4.out HSw.out) (Nat.le_of_lt HSw.out)⟩, HBs.out⟩
      · have HRs := hide (rowat_drop (c' := c - 1) HRr.out 1 (by omega))
        have hm1 : m + 1 - 1 = m := by omega
        rw [hm1] at HRs
        have HWd := hide (word_any t.2.1 t.2.2 HLn.out r (by rw [← HM.out]; omega) (fun x hx => HPs.out x (List.mem_cons_of_mem _ hx)) (some ⟨b, off + 1, none⟩) ar (c - 1) cr p q w1 (by rw [← HM.out]; exact HRs.out) hcq hcp hrr hp hq)
        rw [← hro, ← HM.out] at HWd
        have hc1 : (1 : Int) ≤ (c : Int) := by omega
        clear hcp hcq hrr hp hq hlk hm1 hro
        go_wp2_with fail
        refine HWd.out.mono ?_
        rintro e w2 ⟨⟨cs, bo, rfl, hcz, hco, hmm⟩, hb2⟩
        have HB2 : Hid (Below w.heap.size w w2) := hide (HB1.out.trans (hb2.mono HB1.out.size))
        have HZ2 : Hid (w2.heap[w.heap.size]? = some (.cells (ev7 (evZ, .slice none 0 0)).toArray 35 (0, 0))) := hide ((hb2.block w.heap.size (Array.getElem?_eq_some_iff.1 HZ.out).1).trans HZ.out)
        have HMm := hide hmm
        have HOne := hide hco
        have HSz := hide hcz
        obtain ⟨w3, hw3⟩ : ∃ y, y = (w2.alloc (Obj.cells #[.int .i64 0, .int .i64 0, .string ⟨#[]⟩, .string ⟨#[]⟩, .int .i64 0, .slice none 0 0, .int .i64 0] 35)).setCells w2.heap.size 0 cs.toList := ⟨_, rfl⟩
        have HC3 : Hid (w3.heap[w2.heap.size]? = some (.cells cs 35 (0, 0))) := hide (by rw [hw3]; exact cells_setW (heap_alloc_new w2 (Obj.cells #[.int .i64 0, .int .i64 0, .string ⟨#[]⟩, .string ⟨#[]⟩, .int .i64 0, .slice none 0 0, .int .i64 0] 35)) cs (by rw [hcz]; rfl))
        have hth : Hid ((w2.alloc (Obj.cells #[.int .i64 0, .int .i64 0, .string ⟨#[]⟩, .string ⟨#[]⟩, .int .i64 0, .slice none 0 0, .int .i64 0] 35)).there w2.heap.size 0 cs.size) := hide (by rw [hcz]; exact there_of (heap_alloc_new w2 (Obj.cells #[.int .i64 0, .int .i64 0, .string ⟨#[]⟩, .string ⟨#[]⟩, .int .i64 0, .slice none 0 0, .int .i64 0] 35)) 0 7 (show 0 + 7 ≤ 7 by decide))
        have hb3 : Below w2.heap.size w2 w3 := by rw [hw3]; exact below_cells (Nat.le_refl _) _ 0 _ ((Below.refl _ _).alloc (Nat.le_refl _) _)
        have hb13 := hb2.trans (hb3.mono hb2.size)
        have HB3 : Hid (Below w.heap.size w w3) := hide (HB2.out.trans (hb3.mono HB2.out.size))
        have hz2 := (Array.getElem?_eq_some_iff.1 HZ2.out).1
        have HZ3 : Hid (w3.heap[w.heap.size]? = some (.cells (ev7 (evZ, .slice none 0 0)).toArray 35 (0, 0))) := hide ((hb3.block w.heap.size hz2).trans HZ2.out)
        have HG6 : Hid (w2.heap.size ≠ w.heap.size) := hide (by omega)
        have HSw : Hid (w.heap.size < w1.heap.size) := hide (Array.getElem?_eq_some_iff.1 HZ.out).1
        have HOo : Hid (∀ (u : Value) (n : Nat) (bs : List Value), w2.ownsRow w1.heap.size 4 1 u n bs → w3.ownsRow w1.heap.size 4 1 u n bs) := hide (fun u n bs ho => own_stays ho hb3)
        have HW3 := hide hw3.symm
        have HNz : Hid ((Tryd.prog.info? 35).map (·.size) = some cs.size) := hide (by rw [hcz]; exact Tryd.sizeEvI)
        clear hw3 hcz hco hmm hb2 hb3 hb13 hz2 hc1
        go_upto_region 5 with ((with_reducible refine wpList_storeL ?_ 35 (.tmp 6) (.tmp 24) ?_ w2.heap.size 0 cs ?_ ?_ hth.out ?_ ?_ HW3.out ?_); exact rfl; exact rfl; exact rfl; exact rfl; exact HNz.out; exact HOne.out)
        obtain ⟨g6, hg6⟩ : ∃ g, g = w2.heap.size := ⟨_, rfl⟩
        rw [← hg6] at HC3 HG6 ⊢
        clear hg6 hth HW3
        have hS0 : (fun wx => wx.heap[g6]? = some (Obj.cells cs 35 (0, 0))) w3.drew := HC3.out
        cases ro with
        | none =>
          have hk : bo = false := HMm.out
          subst hk
          have HRn : Hid (R = none) := hide (by rw [HRR.out, evI, HRo.out]; rfl)
          refine wp_region_held_drew (S := (fun wx => wx.heap[g6]? = some (Obj.cells cs 35 (0, 0)))) (by kernel_rfl) (hS0) (fun _ => ?_)
          refine takeW 0 26 (.agg cs) rfl rfl (by kernel_rfl) (by kernel_rfl) (by kernel_rfl) (fun _ _ _ h => h) (yields_loadL (by rfl) 35 (.tmp 6) rfl g6 0 rfl cs _ (fun _ h => range_all h) Tryd.underlying35 rfl HNz.out) hS0 ?_
          (try simp only [List.setIfInBounds_toArray, List.set_cons_zero, List.set_cons_succ])
          refine takeW 1 27 ?_ rfl rfl (by kernel_rfl) (by kernel_rfl) (by kernel_rfl) (fun _ _ _ h => h) (Or.inl ⟨by rfl, ?_⟩) hS0 ?_
          rotate_left
          · (intro wx hSw; (try dsimp only at hSw); go_simp; try with_reducible rfl)
          (try simp only [List.setIfInBounds_toArray, List.set_cons_zero, List.set_cons_succ])
          refine takeW 2 28 ?_ rfl rfl (by kernel_rfl) (by kernel_rfl) (by kernel_rfl) (fun _ _ _ h => h) (Or.inl ⟨by rfl, ?_⟩) hS0 ?_
          rotate_left
          · (intro wx hSw; (try dsimp only at hSw); go_simp; try with_reducible rfl)
          (try simp only [List.setIfInBounds_toArray, List.set_cons_zero, List.set_cons_succ])
          refine takeW 3 29 undef rfl rfl (by kernel_rfl) (by kernel_rfl) (by kernel_rfl) (fun _ _ _ h => h) (Or.inr ⟨by rfl, rfl⟩) hS0 ?_
          (try simp only [List.setIfInBounds_toArray, List.set_cons_zero, List.set_cons_succ])
          refine wpAnyH_ready (rs := [4]) (by kernel_rfl) (by simp) ?_
          refine AllReadyH.cons rfl (fun K hK => ?_) AllReadyH.nil
          rw [if_neg (Bool.eq_false_iff.1 (by rfl))]
          refine hK.out _ w3.drew hS0 (fun _ => ?_)
          clear hK K
          simp only [Act.put, List.setIfInBounds_toArray]
          refine takeW 5 31 ?_ rfl rfl (by kernel_rfl) (by kernel_rfl) (by kernel_rfl) (fun _ _ _ h => h) (Or.inl ⟨by rfl, ?_⟩) hS0 ?_
          rotate_left
          · (intro wx hSw; (try dsimp only at hSw); go_simp; try with_reducible rfl)
          (try simp only [List.setIfInBounds_toArray, List.set_cons_zero, List.set_cons_succ])
          have hS4 := hS0
          have HZ4 : Hid (w3.drew.heap[w.heap.size]? = some (.cells (ev7 (evZ, .slice none 0 0)).toArray 35 (0, 0))) := hide HZ3.out
          have HB4 : Hid (Below w.heap.size w w3.drew) := hide HB3.out.drew
          have hth2 : Hid (w3.drew.there w.heap.size 0 cs.size) := hide (by rw [HSz.out]; exact there_of HZ4.out 0 7 (show 0 + 7 ≤ 7 by decide))
          have HSt := hide (cells_setW HZ4.out cs HSz.out)
          have HBs := hide (below_cells (Nat.le_refl w.heap.size) cs.toList 0 w3.drew HB4.out)
          have hS5a := World.heap_setCells_other w3.drew w.heap.size 0 cs.toList (Array.getElem?_eq_some_iff.1 hS4).1 HG6.out
          obtain ⟨w5, hw5⟩ : ∃ y, y = w3.drew.setCells w.heap.size 0 cs.toList := ⟨_, rfl⟩
          have HOf := hide (fun (u : Value) (n : Nat) (bs : List Value) (B : Nat) (ho : w3.drew.ownsRow B 4 1 u n bs) (hB : w.heap.size < B) => own_kept (w' := w5) (S := fun k => k = w.heap.size) ho (by rw [hw5]; exact ⟨World.os_setCells _ _ _ _, (below_cells (B := w.heap.size) (W0 := w3.drew) (Nat.le_refl _) cs.toList 0 w3.drew (Below.refl _ _)).tape, World.output_setCells _ _ _ _, by rw [size_cells]; exact Nat.le_refl _, fun k hk hne => World.heap_setCells_other w3.drew w.heap.size 0 _ hk hne⟩) (fun k hk e => by have := (ho.lt k hk).1; omega))
          rw [← hw5] at HSt HBs hS5a
          have hS5 : (fun wx => wx.heap[g6]? = some (Obj.cells cs 35 (0, 0))) w5 := hS5a.trans hS4
          have HW5 := hide hw5.symm
          clear hw5 hS5a
          refine wpAnyH_ready (rs := [6]) (by kernel_rfl) (by simp) ?_
          refine AllReadyH.cons rfl (fun K hK => ?_) AllReadyH.nil
          refine step_storeL ?_ 35 (.tmp 2) (.tmp 26) ?_ w.heap.size 0 cs ?_ ?_ hth2.out ?_ ?_ HW5.out ?_
          · exact rfl
          · exact rfl
          · exact rfl
          · exact rfl
          · exact HNz.out
          · exact HOne.out
          refine hK.out (Act.put _ none _) w5 hS5 (fun _ => ?_)
          clear hK K
          simp only [Act.put]
          refine takeW 7 3 ?_ rfl rfl (by kernel_rfl) (by kernel_rfl) (by kernel_rfl) (fun _ _ _ h => h) (Or.inl ⟨by rfl, ?_⟩) hS5 ?_
          rotate_left
          · (intro wx hSw; (try dsimp only at hSw); go_simp; try with_reducible rfl)
          (try dsimp only)
          refine wpAnyH_done (by kernel_rfl) ?_ _
          go_wp2_with fail
          refine bodyPost_ret (v := .tuple #[.agg cs, .bool false]) (results_ct Tryd.results39 rfl rfl (run_agg (range_all HSt.out) Tryd.underlying35 rfl HNz.out)) rfl ?_
          rw [HRn.out]
          exact ⟨⟨_, _, rfl, HSz.out, HOne.out, rfl⟩, HBs.out⟩
        | some ev =>
          obtain ⟨hk, u, hcs, hou⟩ := HMm.out
          subst hk
          obtain ⟨au, cu, rfl⟩ := own_slice hou
          have HCs := hide hcs
          have HOu := hide (HOo.out _ _ _ hou)
          obtain ⟨s1, s2, s3⟩ := evOf_small (fun x hx => HPs.out x hx) HRo.out
          have HEo := hide (implEventOk_any (.agg cs) ev (by unfold maxLen; omega) (by unfold maxLen; omega) (by unfold maxLen; omega) w3.drew (by rw [hcs]; exact ⟨au, cu, rfl, row_of_own (show w3.drew.ownsRow w1.heap.size 4 1 _ _ _ from HOu.out)⟩))
          obtain ⟨ok, hok⟩ : ∃ y, y = ev.ok := ⟨_, rfl⟩
          rw [← hok] at HEo
          have HRs2 : Hid (R = if ok = true then some ev else none) := hide (by rw [HRR.out, evI, HRo.out, hok]; simp [Option.filter])
          clear hcs hou s1 s2 s3 hok
          refine wp_region_held_drew (S := (fun wx => wx.heap[g6]? = some (Obj.cells cs 35 (0, 0)))) (by kernel_rfl) (hS0) (fun _ => ?_)
          refine takeW 0 26 (.agg cs) rfl rfl (by kernel_rfl) (by kernel_rfl) (by kernel_rfl) (fun _ _ _ h => h) (yields_loadL (by rfl) 35 (.tmp 6) rfl g6 0 rfl cs _ (fun _ h => range_all h) Tryd.underlying35 rfl HNz.out) hS0 ?_
          (try simp only [List.setIfInBounds_toArray, List.set_cons_zero, List.set_cons_succ])
          refine takeW 1 27 ?_ rfl rfl (by kernel_rfl) (by kernel_rfl) (by kernel_rfl) (fun _ _ _ h => h) (Or.inl ⟨by rfl, ?_⟩) hS0 ?_
          rotate_left
          · (intro wx hSw; (try dsimp only at hSw); go_simp; try with_reducible rfl)
          (try simp only [List.setIfInBounds_toArray, List.set_cons_zero, List.set_cons_succ])
          refine takeW 2 28 ?_ rfl rfl (by kernel_rfl) (by kernel_rfl) (by kernel_rfl) (fun _ _ _ h => h) (Or.inl ⟨by rfl, ?_⟩) hS0 ?_
          rotate_left
          · (intro wx hSw; (try dsimp only at hSw); go_simp; try with_reducible rfl)
          (try simp only [List.setIfInBounds_toArray, List.set_cons_zero, List.set_cons_succ])
          refine takeW 3 29 (.agg cs) rfl rfl (by kernel_rfl) (by kernel_rfl) (by kernel_rfl) (fun _ _ _ h => h) (yields_loadL (by rfl) 35 (.tmp 6) rfl g6 0 rfl cs _ (fun _ h => range_all h) Tryd.underlying35 rfl HNz.out) hS0 ?_
          (try simp only [List.setIfInBounds_toArray, List.set_cons_zero, List.set_cons_succ])
          refine wpAnyH_ready (rs := [4]) (by kernel_rfl) (by simp) ?_
          refine AllReadyH.cons rfl (fun K hK => ?_) AllReadyH.nil
          refine step_call1w w3.drew ?_ 56 Tryd.f56 Tryd.func56 ?_ ?_ (.tmp 29) #[35] ?_ (.agg cs) ?_ _ HEo.out ?_
          · rfl
          · decide
          · exact Option.some_ne_none _
          · exact rfl
          · exact rfl
          rintro e w4 ⟨rfl, hb4⟩
          have hS4 : (fun wx => wx.heap[g6]? = some (Obj.cells cs 35 (0, 0))) w4 := (hb4.block g6 (Array.getElem?_eq_some_iff.1 hS0).1).trans hS0
          have HZ4 : Hid (w4.heap[w.heap.size]? = some (.cells (ev7 (evZ, .slice none 0 0)).toArray 35 (0, 0))) := hide ((hb4.block w.heap.size (Array.getElem?_eq_some_iff.1 HZ3.out).1).trans HZ3.out)
          have HB4 : Hid (Below w.heap.size w w4) := hide (HB3.out.drew.trans (hb4.mono HB3.out.size))
          have HOu4 := hide (own_stays (show w3.drew.ownsRow w1.heap.size 4 1 _ _ _ from HOu.out) hb4)
          clear hb4
          refine ⟨_, rfl, ?_⟩
          refine hK.out (Act.put _ (some 30) _) w4 hS4 (fun _ => ?_)
          clear hK K
          simp only [Act.put, List.setIfInBounds_toArray, List.set_cons_zero, List.set_cons_succ]
          refine takeW 5 31 ?_ rfl rfl (by kernel_rfl) (by kernel_rfl) (by kernel_rfl) (fun _ _ _ h => h) (Or.inl ⟨by rfl, ?_⟩) hS4 ?_
          rotate_left
          · (intro wx hSw; (try dsimp only at hSw); go_simp; try with_reducible rfl)
          (try simp only [List.setIfInBounds_toArray, List.set_cons_zero, List.set_cons_succ])
          have hth2 : Hid (w4.there w.heap.size 0 cs.size) := hide (by rw [HSz.out]; exact there_of HZ4.out 0 7 (show 0 + 7 ≤ 7 by decide))
          have HSt := hide (cells_setW HZ4.out cs HSz.out)
          have HBs := hide (below_cells (Nat.le_refl w.heap.size) cs.toList 0 w4 HB4.out)
          have hS5a := World.heap_setCells_other w4 w.heap.size 0 cs.toList (Array.getElem?_eq_some_iff.1 hS4).1 HG6.out
          obtain ⟨w5, hw5⟩ : ∃ y, y = w4.setCells w.heap.size 0 cs.toList := ⟨_, rfl⟩
          have HOf := hide (fun (u : Value) (n : Nat) (bs : List Value) (B : Nat) (ho : w4.ownsRow B 4 1 u n bs) (hB : w.heap.size < B) => own_kept (w' := w5) (S := fun k => k = w.heap.size) ho (by rw [hw5]; exact ⟨World.os_setCells _ _ _ _, (below_cells (B := w.heap.size) (W0 := w4) (Nat.le_refl _) cs.toList 0 w4 (Below.refl _ _)).tape, World.output_setCells _ _ _ _, by rw [size_cells]; exact Nat.le_refl _, fun k hk hne => World.heap_setCells_other w4 w.heap.size 0 _ hk hne⟩) (fun k hk e => by have := (ho.lt k hk).1; omega))
          rw [← hw5] at HSt HBs hS5a
          have hS5 : (fun wx => wx.heap[g6]? = some (Obj.cells cs 35 (0, 0))) w5 := hS5a.trans hS4
          have HW5 := hide hw5.symm
          clear hw5 hS5a
          refine wpAnyH_ready (rs := [6]) (by kernel_rfl) (by simp) ?_
          refine AllReadyH.cons rfl (fun K hK => ?_) AllReadyH.nil
          refine step_storeL ?_ 35 (.tmp 2) (.tmp 26) ?_ w.heap.size 0 cs ?_ ?_ hth2.out ?_ ?_ HW5.out ?_
          · exact rfl
          · exact rfl
          · exact rfl
          · exact rfl
          · exact HNz.out
          · exact HOne.out
          refine hK.out (Act.put _ none _) w5 hS5 (fun _ => ?_)
          clear hK K
          simp only [Act.put]
          refine takeW 7 3 ?_ rfl rfl (by kernel_rfl) (by kernel_rfl) (by kernel_rfl) (fun _ _ _ h => h) (Or.inl ⟨by rfl, ?_⟩) hS5 ?_
          rotate_left
          · (intro wx hSw; (try dsimp only at hSw); go_simp; try with_reducible rfl)
          (try simp only [List.setIfInBounds_toArray, List.set_cons_zero, List.set_cons_succ])
          refine wpAnyH_done (by kernel_rfl) ?_ _
          go_wp2_with fail
          refine bodyPost_ret (v := .tuple #[.agg cs, .bool ok]) (results_ct Tryd.results39 rfl rfl (run_agg (range_all HSt.out) Tryd.underlying35 rfl HNz.out)) rfl ?_
          rw [HRs2.out]
          cases ok with
          | false => exact ⟨⟨_, _, rfl, HSz.out, HOne.out, rfl⟩, HBs.out⟩
          | true => exact ⟨⟨_, _, rfl, HSz.out, HOne.out, rfl, _, HCs.out, own_down (HOf.out _ _ _ _ HOu4.out HSw.out) (Nat.le_of_lt HSw.out)⟩, HBs.out⟩
open Go.RowKit
set_option maxHeartbeats 1000000 in
theorem implDiskNew_any (n : Int) (w : World) :
    Calls Tryd.prog 66 #[.int .i64 n] w fun e w' => ∃ v', e = .returned (.tuple #[v', .bool (decide (4 ≤ n ∧ n ≤ 40))]) ∧ DiskOwn w' w.heap.size v' (newP n) [] ∧ Below w.heap.size w w' := by
  obtain ⟨i0, hi, hz0, hz1, hz2⟩ := info_parts Tryd.infoStrR
  by_cases hin : 4 ≤ n ∧ n ≤ 40
  · obtain ⟨k, rfl⟩ := Int.eq_ofNat_of_zero_le (show 0 ≤ n by omega)
    have hk : k ≤ 40 := by omega
    have HN : Hid (newP (k : Int) = List.replicate k ⟨#[]⟩) := hide (by rw [newP, if_pos hin, Int.toNat_natCast])
    rw [decide_eq_true hin]
    have d1 : decide ((k : Int) < 4) = false := by simp; omega
    have d2 : decide ((40 : Int) < (k : Int)) = false := by simp; omega
    clear hin
    go_enter Tryd.func66, Tryd.ntmps66
    go_wp2_with (at_make; refine wpList_make_full _ rfl _ _ 50 rfl (w.heap.size + 1) 9 i0 (.string ⟨#[]⟩) 1 Tryd.underlying50 hi hz0 hz1 .i64 .i64 _ _ k rfl rfl rfl rfl (by rw [hz2]; omega) (by unfold maxLen; omega) (by simp) ?_)
    intro w2 hown2' hg2
    have hown2 : w2.ownsRow (w.heap.size + 1) 9 1 (.slice (some ⟨w.heap.size + 1, 0, none⟩) k k) k (strs (List.replicate k ⟨#[]⟩)) := own_n hown2' rfl (strs_made k)
    have hblk := (hg2.block w.heap.size (by simp) (by simp)).trans (heap_alloc_new w (Obj.cells #[.slice none 0 0, .slice none 0 0] 60))
    have hlt : w.heap.size < w2.heap.size := (Array.getElem?_eq_some_iff.1 hblk).1
    obtain ⟨w3, hw3⟩ : ∃ w3, w3 = w2.alloc (Obj.cells #[] 103) := ⟨_, rfl⟩
    have hbk3 : w3.heap[w.heap.size]? = some (Obj.cells #[.slice none 0 0, .slice none 0 0] 60) := by rw [hw3]; exact (Below.heap_alloc w2 _ _ hlt).trans hblk
    have hem3 : w3.heap[w2.heap.size]? = some (Obj.cells #[] 103) := by rw [hw3]; exact heap_alloc_new w2 _
    have hb2 : Below w.heap.size w w3 := by rw [hw3]; exact (((Below.refl w.heap.size w).alloc (Nat.le_refl _) _).grown hg2 (by simp) (fun j hj => by cases hj)).alloc (by omega) _
    have hb3 : Below w2.heap.size w2 w3 := by rw [hw3]; exact (Below.refl _ _).alloc (Nat.le_refl _) _
    have c0 : w3.cell? ⟨w.heap.size, 0, none⟩ = some (.slice none 0 0) := (cell_at hbk3 0).1
    have c1 : w3.cell? ⟨w.heap.size, 1, none⟩ = some (.slice none 0 0) := (cell_at hbk3 1).1
    have f0 := (cell_at hbk3 0).2
    have f1 := (cell_at hbk3 1).2
    have HBk := hide hbk3
    have HO := hide (own_stays hown2 hb3)
    have HE := hide (own_empty (sz := 2) hem3)
    have HB := hide hb2
    have HLt := hide hlt
    clear hown2' hg2 hblk hown2 hb2 hb3 hbk3 hem3 hlt
    rw [hw3] at c0 c1 f0 f1
    go_wp2_with fail
    rw [← hw3]
    have y1 : (w3.setCell ⟨w.heap.size, 0, none⟩ (.slice (some ⟨w.heap.size + 1, 0, none⟩) k k)).heap[w.heap.size]? = some (Obj.cells #[.slice (some ⟨w.heap.size + 1, 0, none⟩) k k, .slice none 0 0] 60) := heap_setCell_same _ _ 0 _ _ _ HBk.out
    have y2 : ((w3.setCell ⟨w.heap.size, 0, none⟩ (.slice (some ⟨w.heap.size + 1, 0, none⟩) k k)).setCell ⟨w.heap.size, 1, none⟩ (.slice (some ⟨w2.heap.size, 0, none⟩) 0 0)).heap[w.heap.size]? = some (Obj.cells #[.slice (some ⟨w.heap.size + 1, 0, none⟩) k k, .slice (some ⟨w2.heap.size, 0, none⟩) 0 0] 60) := heap_setCell_same _ _ 1 _ _ _ y1
    have k2 : Kept w3 ((w3.setCell ⟨w.heap.size, 0, none⟩ (.slice (some ⟨w.heap.size + 1, 0, none⟩) k k)).setCell ⟨w.heap.size, 1, none⟩ (.slice (some ⟨w2.heap.size, 0, none⟩) 0 0)) (fun j => j = w.heap.size) := kept_trans (kept_setCell _ _ _ _) (kept_setCell _ _ _ _) (fun j _ h => h)
    have hl := HLt.out
    refine bodyPost_ret (v := .tuple #[.agg #[.slice (some ⟨w.heap.size + 1, 0, none⟩) k k, .slice (some ⟨w2.heap.size, 0, none⟩) 0 0], .bool true]) (by simp [results, Tryd.results66, go_sem, (cell_at y2 0).1, (cell_at y2 1).1]) rfl ⟨_, rfl, ?_, (HB.out.setCell (Nat.le_refl _) _).setCell (Nat.le_refl _) _⟩
    rw [HN.out]
    refine ⟨_, _, rfl, ?_, ?_⟩
    · rw [List.length_replicate]
      exact own_down (own_kept HO.out k2 (fun j hj => by have := (HO.out.lt j hj).1; omega)) (by omega)
    · exact own_down (own_kept HE.out k2 (fun j hj => by have := (HE.out.lt j hj).1; omega)) (by omega)
  · rw [decide_eq_false hin]
    have HN : Hid (newP n = []) := hide (by rw [newP, if_neg hin])
    have hblk := heap_alloc_new w (Obj.cells #[.slice none 0 0, .slice none 0 0] 60)
    have c0 := (cell_at hblk 0).1
    have c1 := (cell_at hblk 1).1
    have f0 := (cell_at hblk 0).2
    have f1 := (cell_at hblk 1).2
    have HBk := hide hblk
    clear hblk
    by_cases h4 : n < 4
    · have d1 : decide (n < 4) = true := by simp; omega
      go_enter Tryd.func66, Tryd.ntmps66
      go_wp2_with fail
      refine bodyPost_ret (v := .tuple #[.agg #[.slice none 0 0, .slice none 0 0], .bool false]) (by simp [results, Tryd.results66, go_sem, (cell_at HBk.out 0).1, (cell_at HBk.out 1).1]) rfl ⟨_, rfl, ?_, (Below.refl w.heap.size w).alloc (Nat.le_refl _) _⟩
      rw [HN.out]
      exact ⟨_, _, rfl, ⟨rfl, Or.inl ⟨rfl, rfl⟩⟩, ⟨rfl, Or.inl ⟨rfl, rfl⟩⟩⟩
    · have d1 : decide (n < 4) = false := by simp; omega
      have d2 : decide ((40 : Int) < n) = true := by simp; omega
      go_enter Tryd.func66, Tryd.ntmps66
      go_wp2_with fail
      refine bodyPost_ret (v := .tuple #[.agg #[.slice none 0 0, .slice none 0 0], .bool false]) (by simp [results, Tryd.results66, go_sem, (cell_at HBk.out 0).1, (cell_at HBk.out 1).1]) rfl ⟨_, rfl, ?_, (Below.refl w.heap.size w).alloc (Nat.le_refl _) _⟩
      rw [HN.out]
      exact ⟨_, _, rfl, ⟨rfl, Or.inl ⟨rfl, rfl⟩⟩, ⟨rfl, Or.inl ⟨rfl, rfl⟩⟩⟩
end Go.Proofs.YtmmepgincbngeaaDoor
