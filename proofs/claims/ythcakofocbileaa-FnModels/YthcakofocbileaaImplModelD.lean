/-
  The program's copyPair and ModelDrop by contracts (made by tools/implmodel.py).
-/
import Derived.Test.YthcakofocbileaaModelPl
import Derived.Test.YthcakofocbileaaSepCells
import Derived.Test.YthcakofocbileaaClone
import Derived.Test.YthcakofocbileaaStepCall
import Derived.Test.YthcakofocbileaaTwoWays
import Derived.Deep.Cut
namespace Go.Proofs.Ythcakofocbileaa
open Go.RowKit

theorem Try.sizePairM : (Try.prog.info? 30).map (·.size) = some 2 := by kernel_rfl

set_option maxHeartbeats 2000000 in
set_option maxRecDepth 100000 in
theorem implCopyPair_any (k v : ByteArray) (hk : k.size ≤ 140737488351232) (hv : v.size ≤ 140737488351232) (w : World) :
    Calls Try.prog 30 #[.agg #[.string k, .string v]] w fun e w' => e = .returned (.agg #[.string k, .string v]) ∧ Below w.heap.size w w' := by
  have HC1 := hide (fun wx => clone_any k hk wx)
  have HC2 := hide (fun wx => clone_any v hv wx)
  obtain ⟨a0, ha0⟩ : ∃ a0, a0 = w.heap.size := ⟨_, rfl⟩
  have hs0 := sep_new (sep_new (sep_nil w.heap.size w) (Obj.cells #[.string k, .string v] 30) (Nat.le_refl _)) (Obj.cells #[.string ⟨#[]⟩, .string ⟨#[]⟩] 30) (by simp)
  simp only [World.size_alloc] at hs0
  obtain ⟨w0, hw0⟩ : ∃ w0, w0 = (w.alloc (Obj.cells #[.string k, .string v] 30)).alloc (Obj.cells #[.string ⟨#[]⟩, .string ⟨#[]⟩] 30) := ⟨_, rfl⟩
  have HB0 : Hid (Below w.heap.size w w0) := hide (by rw [hw0]; exact ((Below.refl w.heap.size w).alloc (Nat.le_refl _) _).alloc (by simp) _)
  rw [← hw0, ← ha0] at hs0
  have HS0 := hide hs0
  have HE := hide (⟨hw0, ha0⟩ : _ ∧ _)
  clear hs0 hw0 ha0
  go_enter Try.func30, Try.ntmps30
  go_upto_region 1 with fail
  obtain ⟨hw0, ha0⟩ := HE.out
  rw [← hw0, ← ha0]
  have HA := hide ha0
  clear hw0 ha0 HE
  have HS1 := hide (sep_drew HS0.out)
  have hS0 : (fun wx => wx.heap[a0]? = some (Obj.cells #[.string k, .string v] 30)) w0.drew := sep_get HS1.out 1 rfl
  refine wp_region_held_drew (S := (fun wx => wx.heap[a0]? = some (Obj.cells #[.string k, .string v] 30))) (by kernel_rfl) (hS0) (fun _ => ?_)
  refine takeW 0 3 ?_ rfl rfl (by kernel_rfl) (by kernel_rfl) (by kernel_rfl) (fun _ _ _ h => h) (Or.inl ⟨by rfl, ?_⟩) hS0 ?_
  rotate_left
  · (intro wx hSw; (try dsimp only at hSw); have c0 := (cell_at hSw 0).1; have c1 := (cell_at hSw 1).1; go_simp; try with_reducible rfl)
  (try simp only [List.setIfInBounds_toArray, List.set_cons_zero, List.set_cons_succ])
  refine takeW 1 4 ?_ rfl rfl (by kernel_rfl) (by kernel_rfl) (by kernel_rfl) (fun _ _ _ h => h) (Or.inl ⟨by rfl, ?_⟩) hS0 ?_
  rotate_left
  · (intro wx hSw; (try dsimp only at hSw); have c0 := (cell_at hSw 0).1; have c1 := (cell_at hSw 1).1; go_simp; try with_reducible rfl)
  (try simp only [List.setIfInBounds_toArray, List.set_cons_zero, List.set_cons_succ])
  refine takeW 3 6 ?_ rfl rfl (by kernel_rfl) (by kernel_rfl) (by kernel_rfl) (fun _ _ _ h => h) (Or.inl ⟨by rfl, ?_⟩) hS0 ?_
  rotate_left
  · (intro wx hSw; (try dsimp only at hSw); have c0 := (cell_at hSw 0).1; have c1 := (cell_at hSw 1).1; go_simp; try with_reducible rfl)
  (try simp only [List.setIfInBounds_toArray, List.set_cons_zero, List.set_cons_succ])
  refine takeW 4 7 ?_ rfl rfl (by kernel_rfl) (by kernel_rfl) (by kernel_rfl) (fun _ _ _ h => h) (Or.inl ⟨by rfl, ?_⟩) hS0 ?_
  rotate_left
  · (intro wx hSw; (try dsimp only at hSw); have c0 := (cell_at hSw 0).1; have c1 := (cell_at hSw 1).1; go_simp; try with_reducible rfl)
  (try simp only [List.setIfInBounds_toArray, List.set_cons_zero, List.set_cons_succ])
  refine wpAnyH_ready (rs := [2]) (by kernel_rfl) (by simp) ?_
  refine AllReadyH.cons rfl (fun K hK => ?_) AllReadyH.nil
  refine step_call1 w0.drew ?_ 41 Try.f41 Try.func41 ?_ ?_ (.tmp 4) #[9] ?_ (.string k) ?_ _ (HC1.out w0.drew) ?_
  · exact rfl
  · decide
  · exact Option.some_ne_none _
  · exact rfl
  · exact rfl
  rintro e w1 ⟨rfl, hb1⟩
  have hs1 := sep_below HS1.out hb1
  have hS1 : (fun wx => wx.heap[a0]? = some (Obj.cells #[.string k, .string v] 30)) w1 := sep_get hs1 1 rfl
  refine ⟨_, rfl, ?_⟩
  refine hK.out (Act.put _ (some 5) _) w1 hS1 (fun _ => ?_)
  clear hK K
  simp only [Act.put, List.setIfInBounds_toArray, List.set_cons_zero, List.set_cons_succ]
  refine wpAnyH_ready (rs := [5]) (by kernel_rfl) (by simp) ?_
  refine AllReadyH.cons rfl (fun K hK => ?_) AllReadyH.nil
  refine step_call1 w1 ?_ 41 Try.f41 Try.func41 ?_ ?_ (.tmp 7) #[9] ?_ (.string v) ?_ _ (HC2.out w1) ?_
  · exact rfl
  · decide
  · exact Option.some_ne_none _
  · exact rfl
  · exact rfl
  rintro e w2 ⟨rfl, hb2⟩
  have hs2 := sep_below hs1 hb2
  have hS2 : (fun wx => wx.heap[a0]? = some (Obj.cells #[.string k, .string v] 30)) w2 := sep_get hs2 1 rfl
  refine ⟨_, rfl, ?_⟩
  refine hK.out (Act.put _ (some 8) _) w2 hS2 (fun _ => ?_)
  clear hK K
  simp only [Act.put, List.setIfInBounds_toArray, List.set_cons_zero, List.set_cons_succ]
  refine takeW 6 9 ?_ rfl rfl (by kernel_rfl) (by kernel_rfl) (by kernel_rfl) (fun _ _ _ h => h) (Or.inl ⟨by rfl, ?_⟩) hS2 ?_
  rotate_left
  · (intro wx hSw; (try dsimp only at hSw); go_simp; try with_reducible rfl)
  (try simp only [List.setIfInBounds_toArray, List.set_cons_zero, List.set_cons_succ])
  have hth : w2.there (a0 + 1) 0 (#[.string k, .string v] : Array Value).size := there_of (sep_get hs2 0 rfl : w2.heap[a0 + 1]? = some (Obj.cells #[.string ⟨#[]⟩, .string ⟨#[]⟩] 30)) 0 2 (show 0 + 2 ≤ 2 by decide)
  have hs3 := sep_cellsAll hs2 0 rfl #[.string k, .string v] rfl
  have hb12 := hb1.trans (hb2.mono hb1.size)
  have hB2 : Below w.heap.size w w2 := HB0.out.drew.trans (hb12.mono (show w.heap.size ≤ w0.drew.heap.size from HB0.out.drew.size))
  have hb3 := below_cells (show w.heap.size ≤ a0 + 1 by rw [HA.out]; omega) (#[.string k, .string v] : Array Value).toList 0 w2 hB2
  obtain ⟨w3, hw3⟩ : ∃ w3, w3 = w2.setCells (a0 + 1) 0 (#[.string k, .string v] : Array Value).toList := ⟨_, rfl⟩
  rw [← hw3] at hs3 hb3
  have HS3 := hide hs3
  have HB3 := hide hb3
  have HW3 := hide hw3.symm
  have hS3 : (fun wx => wx.heap[a0]? = some (Obj.cells #[.string k, .string v] 30)) w3 := sep_get HS3.out 1 rfl
  clear hw3 hs3 hb3 hB2 hb12
  refine wpAnyH_ready (rs := [7]) (by kernel_rfl) (by simp) ?_
  refine AllReadyH.cons rfl (fun K hK => ?_) AllReadyH.nil
  refine step_storeL ?_ 30 (.tmp 2) (.tmp 9) ?_ (a0 + 1) 0 #[.string k, .string v] ?_ ?_ hth ?_ ?_ HW3.out ?_
  · exact rfl
  · exact rfl
  · exact rfl
  · exact rfl
  · exact Try.sizePairM
  · exact rfl
  refine hK.out (Act.put _ none _) w3 hS3 (fun _ => ?_)
  clear hK K
  simp only [Act.put]
  refine wpAnyH_done (by kernel_rfl) ?_ _
  go_wp2_with fail
  refine bodyPost_ret (v := .agg #[.string k, .string v]) (results_c Try.results30 rfl (run_agg (range_all (sep_get HS3.out 0 rfl : w3.heap[a0 + 1]? = some (Obj.cells #[.string k, .string v] 30))) Try.underlying30 rfl Try.sizePairM)) rfl ⟨rfl, HB3.out⟩

set_option maxHeartbeats 8000000 in
set_option maxRecDepth 100000 in
theorem implModelDrop_any (l : List (ByteArray × ByteArray)) (hl : l.length ≤ 1200000) (hs : ∀ p ∈ l, p.1.size ≤ 140737488351232 ∧ p.2.size ≤ 140737488351232) (key : ByteArray) (v : Value) (w : World) (hr : RowAt w 2 v l.length (prq l)) :
    Calls Try.prog 9 #[v, .string key] w fun e w' => ∃ v', e = .returned v' ∧ w'.ownsRow w.heap.size 30 2 v' (modelD l key).length (prq (modelD l key)) ∧ Below w.heap.size w w' := by
  have HR0 := hide hr
  have HZs := hide hs
  obtain ⟨-, a, cap, rfl, -⟩ := hr
  obtain ⟨L, hL⟩ : ∃ n, n = l.length := ⟨_, rfl⟩
  have HL := hide hL
  have HR : Hid (RowAt w 2 (.slice a L cap) L (prq l)) := hide (by rw [hL]; exact HR0.out)
  rw [← hL] at hl ⊢
  clear HR0 hL hs
  obtain ⟨a0, ha0⟩ : ∃ x, x = w.heap.size := ⟨_, rfl⟩
  have HA := hide ha0
  obtain ⟨w0, hw0⟩ : ∃ wx, wx = w.alloc (Obj.cells #[] 30) := ⟨_, rfl⟩
  have HS0 : Hid (Sep a0 w0 [rowA a0 30 2 (.slice (some ⟨a0, 0, none⟩) 0 0) 0 []]) := hide (by rw [hw0, ha0]; exact sep_row2 (sep_new (sep_nil w.heap.size w) _ (Nat.le_refl _)))
  have HB0 : Hid (Below w.heap.size w w0) := hide (by rw [hw0]; exact (Below.refl w.heap.size w).alloc (Nat.le_refl _) _)
  have HZ0 : Hid (a0 ≤ w0.heap.size) := hide (by rw [hw0, ha0]; simp)
  clear ha0
  go_enter Try.func9, Try.ntmps9
  go_wp2_with fail
  rw [← hw0, ← HA.out]
  clear hw0
  go_loopg [5, 11] L (fun q lv iv wr => ∃ (k n : Nat) (x : Option Addr) (y : Nat), k ≤ L ∧ lv = .slice x n y ∧ iv = .int .i64 (k : Int) ∧ q + k = L ∧ Hid (n = ((l.take k).filter (fun p => !(p.1.toList == key.toList))).length) ∧ Hid (Sep a0 wr [rowA a0 30 2 (.slice x n y) n (prq ((l.take k).filter (fun p => !(p.1.toList == key.toList))))]) ∧ Hid (Below w.heap.size w wr) ∧ Hid (a0 ≤ wr.heap.size))
  case atStart => exact ⟨0, 0, some ⟨a0, 0, none⟩, 0, Nat.zero_le _, rfl, rfl, by omega, hide (by simp), hide (by rw [List.take_zero, List.filter_nil]; exact HS0.out), HB0, HZ0⟩
  case round =>
    obtain ⟨k, n, x, y, hk, rfl, rfl, hg, HN, HSl, HB, HZ⟩ := hrel
    have HQ := hide hg
    clear hg
    by_cases hlt : k < L
    · obtain ⟨p, hp⟩ : ∃ p, l[k]? = some p := ⟨_, List.getElem?_eq_getElem (by rw [← HL.out]; exact hlt)⟩
      obtain ⟨b, off, hab, c0, c1⟩ := prq_cells HR.out HB.out hlt hp
      subst hab
      have HPk := hide hp
      have hpz := HZs.out p (List.mem_of_getElem? hp)
      obtain ⟨pk, pv⟩ := p
      dsimp only at c0 c1 hpz
      have HCp := hide (fun wx => implCopyPair_any pk pv hpz.1 hpz.2 wx)
      have hk1 : (k : Int) < (L : Int) := by omega
      have hnl : n ≤ 3000000 := by have h1 := HN.out; have h3 := List.length_filter_le (fun p => !(p.1.toList == key.toList)) (l.take k); have h4 := List.length_take_le k l; obtain h6 := HL.out; omega
      clear hp hpz
      obtain ⟨t, ht⟩ : ∃ t, (pk.toList == key.toList) = t := ⟨_, rfl⟩
      have HT : Hid ((fun p => !(p.1.toList == key.toList)) (pk, pv) = !t) := hide (by rw [← ht])
      obtain ⟨wp, hwp⟩ : ∃ wp, wp = wr.alloc (Obj.cells #[.string pk, .string pv] 30) := ⟨_, rfl⟩
      have hbp : Below a0 wr wp := by rw [hwp]; exact (Below.refl a0 wr).alloc HZ.out _
      have hsp := sep_new HSl.out (Obj.cells #[.string pk, .string pv] 30) HZ.out
      rw [← hwp] at hsp
      have HSp := hide hsp
      have HBp := hide hbp
      have HZp : Hid (a0 ≤ wp.heap.size) := hide (Nat.le_trans HZ.out hbp.size)
      have c0' : wp.cell? ⟨wr.heap.size, 0, none⟩ = some (.string pk) := (cell_at (sep_get hsp 0 rfl : wp.heap[wr.heap.size]? = some (Obj.cells #[.string pk, .string pv] 30)) 0).1
      have c1' : wp.cell? ⟨wr.heap.size, 1, none⟩ = some (.string pv) := (cell_at (sep_get hsp 0 rfl : wp.heap[wr.heap.size]? = some (Obj.cells #[.string pk, .string pv] 30)) 1).1
      rw [hwp] at c0' c1'
      have HWp := hide hwp
      clear hsp hbp hwp
      cases t
      · have HF : Hid ((l.take (k + 1)).filter (fun p => !(p.1.toList == key.toList)) = (l.take k).filter (fun p => !(p.1.toList == key.toList)) ++ [(pk, pv)]) := hide (by rw [tf_yes HPk.out (p := (fun p => !(p.1.toList == key.toList))) HT.out])
        go_wp2_with fail
        rw [← HWp.out]
        refine (HCp.out _).mono ?_
        rintro e w5 ⟨rfl, hb5⟩
        have hs5 := sep_below HSp.out hb5
        have HS5 := hide hs5
        have HB5 : Hid (Below a0 wr w5) := hide (HBp.out.trans (hb5.mono HZp.out))
        have HZ5 : Hid (a0 ≤ w5.heap.size) := hide (Nat.le_trans HZp.out hb5.size)
        clear hs5 hb5 c0 c1 c0' c1'
        go_wp2_with (at_builtin; refine wpList_pr1 HS5.out 1 rfl (Nat.le_refl a0) HZ5.out HZ5.out rfl (.tmp 19) (.tmp 22) rfl rfl pk pv rfl rfl hnl ?_)
        intro b9 c9 W9 hs9 hb9
        have HS9 : Hid (Sep a0 W9 [rowA a0 30 2 (.slice (some ⟨b9, 0, none⟩) (n + 1) c9) (n + 1) (prq ((l.take (k + 1)).filter (fun p => !(p.1.toList == key.toList))))]) := hide (by
          rw [HF.out]
          exact sep_del hs9)
        have HB9 : Hid (Below w.heap.size w W9) := hide (HB.out.trans (by rw [← HA.out]; exact HB5.out.trans hb9))
        have HZ9 : Hid (a0 ≤ W9.heap.size) := hide (Nat.le_trans HZ5.out hb9.size)
        have HN9 : Hid (n + 1 = ((l.take (k + 1)).filter (fun p => !(p.1.toList == key.toList))).length) := hide (by rw [HF.out, List.length_append, HN.out]; rfl)
        clear hs9 hb9
        go_wp2_with fail
        go_roundg (gk - 1)
        case measure => have := HQ.out; omega
        case rel => exact ⟨k + 1, n + 1, some ⟨b9, 0, none⟩, c9, by omega, rfl, by go_num, by have := HQ.out; omega, HN9, HS9, HB9, HZ9⟩
      · have HF : Hid ((l.take (k + 1)).filter (fun p => !(p.1.toList == key.toList)) = (l.take k).filter (fun p => !(p.1.toList == key.toList))) := hide (by rw [tf_no HPk.out (p := (fun p => !(p.1.toList == key.toList))) HT.out])
        have HB9 : Hid (Below w.heap.size w wp) := hide (HB.out.trans (by rw [← HA.out]; exact HBp.out))
        go_wp2_with fail
        rw [← HWp.out]
        go_roundg (gk - 1)
        case measure => have := HQ.out; omega
        case rel => exact ⟨k + 1, n, x, y, by omega, rfl, by go_num, by have := HQ.out; omega, hide (by rw [HF.out]; exact HN.out), hide (by rw [HF.out]; exact sep_del HSp.out), HB9, HZp⟩
    · have hkL : L = k := by omega
      subst hkL
      have hfa : l.take L = l := List.take_of_length_le (by rw [← HL.out]; exact Nat.le_refl _)
      have HSl2 := HSl.out
      rw [hfa] at HSl2
      have HN2 := HN.out
      rw [hfa] at HN2
      have HSa := hide HSl2
      have HNa := hide HN2
      clear HSl HN HSl2 HN2 hfa
      go_wp2_with fail
      go_ret
      refine ⟨_, rfl, ?_, HB.out⟩
      have h := sep_get HSa.out 0 rfl
      rw [HNa.out, HA.out] at h
      rw [HNa.out]
      exact h

end Go.Proofs.Ythcakofocbileaa
