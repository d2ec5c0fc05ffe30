/-
  The program's keep by a contract.
-/
import Derived.Test.YtjjjnloimpehbaaKeep
namespace Go.Proofs.Ytjjjnloimpehbaa
open Go.RowKit Go.Conc

theorem ptrs_take (a3 n k : Nat) (h : k < n) {L : List Value} (hl : L.length = n) (ht : L.take k = (ptrs a3 n).take k) : (L.set k (.pointer (some ⟨a3 + k, 0, none⟩))).take (k + 1) = (ptrs a3 n).take (k + 1) := by
  rw [List.take_succ_eq_append_getElem (by rw [List.length_set]; omega), List.take_succ_eq_append_getElem (by rw [ptrs_length]; exact h), List.getElem_set_self, List.take_set_of_le (by omega), ht]
  congr 2
  have := ptrs_at a3 n k h
  rw [List.getElem?_eq_getElem (by rw [ptrs_length]; exact h)] at this
  exact (Option.some.inj this).symm

/-- a disk is laid into the variable of the answer, where all but one block stays -/
theorem ret_kept {w wr : World} {a1 B c : Nat} {r0 r1 u0 u1 : Value} {t : TypeId} {ps : List ByteArray} {ls : List (Int × ByteArray)} (hres : wr.heap[a1]? = some (Obj.cells #[r0, r1] t)) (hd : DiskOwn wr B (.agg #[u0, u1]) ps ls) (hB : a1 < B) (hw : w.heap.size ≤ a1) (hk : Kept w wr (fun k => k = c)) :
    ((wr.setCell ⟨a1, 0, none⟩ u0).setCell ⟨a1, 1, none⟩ u1).cell? ⟨a1, 0, none⟩ = some u0 ∧ ((wr.setCell ⟨a1, 0, none⟩ u0).setCell ⟨a1, 1, none⟩ u1).cell? ⟨a1, 1, none⟩ = some u1 ∧
    DiskOwn ((wr.setCell ⟨a1, 0, none⟩ u0).setCell ⟨a1, 1, none⟩ u1) w.heap.size (.agg #[u0, u1]) ps ls ∧ Kept w ((wr.setCell ⟨a1, 0, none⟩ u0).setCell ⟨a1, 1, none⟩ u1) (fun k => k = c) := by
  have y1 : (wr.setCell ⟨a1, 0, none⟩ u0).heap[a1]? = some (Obj.cells #[u0, r1] t) := heap_setCell_same _ a1 0 _ _ _ hres
  have y2 : ((wr.setCell ⟨a1, 0, none⟩ u0).setCell ⟨a1, 1, none⟩ u1).heap[a1]? = some (Obj.cells #[u0, u1] t) := heap_setCell_same _ a1 1 _ _ _ y1
  have k2 : Kept wr ((wr.setCell ⟨a1, 0, none⟩ u0).setCell ⟨a1, 1, none⟩ u1) (fun k => k = a1) := kept_trans (kept_setCell _ _ _ _) (kept_setCell _ _ _ _) (fun j _ h => h)
  obtain ⟨o1, o2⟩ := disk_rows hd
  refine ⟨(cell_at y2 0).1, (cell_at y2 1).1, ⟨_, _, rfl, ?_, ?_⟩, kept_trans hk k2 (fun j hj e => by omega)⟩
  · exact own_down (own_kept o1 k2 (fun k hk => by have := (o1.lt k hk).1; omega)) (by omega)
  · exact own_down (own_kept o2 k2 (fun k hk => by have := (o2.lt k hk).1; omega)) (by omega)

theorem syncD_size {N : Nat} {bs : List (Int × ByteArray)} : ∀ {ps : List ByteArray}, (∀ s ∈ ps, s.size ≤ N) → (∀ p ∈ bs, p.2.size ≤ N) → ∀ x ∈ syncD ps bs, x.size ≤ N := by
  induction bs with
  | nil => intro ps h _ x hx; exact h x hx
  | cons p bs ih =>
    intro ps h hb
    rw [syncD, List.foldl_cons]
    refine ih (fun x hx => ?_) (fun q hq => hb q (List.mem_cons_of_mem _ hq))
    unfold putD at hx
    split at hx
    · rcases List.mem_or_eq_of_mem_set hx with h1 | h1
      · exact h x h1
      · rw [h1]; exact hb p (List.mem_cons_self ..)
    · exact h x hx

set_option maxHeartbeats 4000000 in
set_option maxRecDepth 100000 in
theorem keep_any (vp vl : Value) (ps : List ByteArray) (hp : ps.length ≤ 1048576) (hps : ∀ s ∈ ps, s.size ≤ 1048576) (c cap s r : Nat) (bs : List (Int × ByteArray)) (hbs : ∀ p ∈ bs, p.2.size ≤ 1048576) (w : World) (hd : RowAt w 1 vp ps.length (strs ps)) (hch : w.heap[c]? = some (.chan cap (bs.map putV).toArray true s r false)) :
    Calls Try.prog 47 #[.agg #[vp, vl], .chan (some c)] w fun e w' => ∃ v', e = .returned v' ∧ DiskOwn w' w.heap.size v' (syncD ps bs) [] ∧ Kept w w' (fun k => k = c) := by
  obtain ⟨i0, hi, hz0, hz1, hz2⟩ := info_parts Try.infoStrR
  obtain ⟨i1, hj, hy0, hy1, hy2⟩ := info_parts Try.infoPut
  obtain ⟨i2, hq, hx0, hx1, hx2⟩ := info_parts Try.infoPtr
  obtain ⟨x1, c1, rfl⟩ : ∃ a cap, vp = .slice a ps.length cap := by obtain ⟨-, a, cap, e, -⟩ := hd; exact ⟨a, cap, e⟩
  have H1 := hide hd
  have HPs := hide hps
  have HBs := hide hbs
  have hcw : c < w.heap.size := (Array.getElem?_eq_some_iff.1 hch).1
  have HCw := hide hcw
  clear hd hps hbs hcw
  obtain ⟨w0, hw0⟩ : ∃ w0, w0 = (w.alloc (Obj.cells #[.slice x1 ps.length c1, vl] 27)).alloc (Obj.cells #[.slice none 0 0, .slice none 0 0] 27) := ⟨_, rfl⟩
  obtain ⟨q0, q1, hs0⟩ := two_allocs w (Obj.cells #[.slice x1 ps.length c1, vl] 27) (Obj.cells #[.slice none 0 0, .slice none 0 0] 27)
  rw [← hw0] at q0 q1 hs0
  have hb0 : Below w.heap.size w w0 := by rw [hw0]; exact ((Below.refl w.heap.size w).alloc (Nat.le_refl _) _).alloc (by simp) _
  go_enter Try.func47, Try.ntmps47
  go_wp2_with (at_make; rw [← hw0]; refine wpList_make_full _ rfl _ _ 84 rfl w0.heap.size 85 i2 (.pointer none) 1 Try.underlying84 hq hx0 hx1 .i64 .i64 _ _ ps.length rfl rfl rfl rfl (by rw [hx2]; omega) (by unfold maxLen; omega) (Nat.le_refl _) ?_)
  intro w1 hown1 hg1
  obtain ⟨a0, ha0⟩ : ∃ a, a = w.heap.size := ⟨_, rfl⟩
  obtain ⟨a1, ha1⟩ : ∃ a, a = a0 + 1 := ⟨_, rfl⟩
  obtain ⟨a2, ha2⟩ : ∃ a, a = a1 + 1 := ⟨_, rfl⟩
  obtain ⟨a3, ha3⟩ : ∃ a, a = w1.heap.size := ⟨_, rfl⟩
  rw [← hw0] at hg1
  rw [← ha0, ← ha1, ← ha2] at hown1 ⊢
  rw [← ha0] at q0 q1 hs0
  rw [← ha1] at q1
  have hb1 : Below w.heap.size w w1 := hb0.grown hg1 (by omega) (fun k hk => by cases hk)
  have r0 := (hg1.block a0 (by omega) (by simp)).trans q0
  have r1 := (hg1.block a1 (by omega) (by simp)).trans q1
  have hlt3 : a2 < a3 := by rw [ha3]; exact (hown1.lt a2 rfl).2
  have HA := hide (⟨ha0, ⟨by have := HCw.out; omega, ha1, by omega, hlt3⟩⟩ : a0 = w.heap.size ∧ Ord c a0 a1 a2 a3)
  have cb0 : w1.cell? ⟨a0, 0, none⟩ = some (.slice x1 ps.length c1) := (cell_at r0 0).1
  have HR := hide (⟨r0, r1, (hb1.block c HCw.out).trans hch⟩ : w1.heap[a0]? = some (Obj.cells #[.slice x1 ps.length c1, vl] 27) ∧ w1.heap[a1]? = some (Obj.cells #[.slice none 0 0, .slice none 0 0] 27) ∧ w1.heap[c]? = some (.chan cap (bs.map putV).toArray true s r false))
  have HB1 := hide hb1
  have HS3 : Hid (w1.heap.size = a3) := hide ha3.symm
  have HO1 := hide hown1
  clear hown1 hg1 ha0 ha1 ha2 ha3 hw0 hb0 q0 q1 hs0 r0 r1 hb1 hch hlt3
  go_wp2_with fail
  go_loopg [19] ps.length (fun q iv wr => ∃ (k : Nat) (L : List Value), k ≤ ps.length ∧ iv = .int .i64 (k : Int) ∧ q + k = ps.length ∧ Hid (wr.ownsRow a2 85 1 (.slice (some ⟨a2, 0, none⟩) ps.length ps.length) ps.length L ∧ L.take k = (ptrs a3 ps.length).take k) ∧ Hid (Below a2 w1 wr ∧ wr.heap.size = a3 + k ∧ ∀ j, j < k → wr.heap[a3 + j]? = some (Obj.cells #[.string (ps.getD j ⟨#[]⟩)] 87)))
  case atStart => exact ⟨0, _, Nat.zero_le _, rfl, rfl, hide ⟨HO1.out, by simp⟩, hide ⟨Below.refl _ _, HS3.out, fun j hj => by omega⟩⟩
  case round =>
    obtain ⟨k, L, hk, rfl, hg, HL, HW⟩ := hrel
    have HG := hide hg
    clear hg cb0 HO1
    by_cases hlt : k < ps.length
    · rcases H1.out.2 with ⟨a, cap', e, h0 | ⟨b, off, e2, hbl, hc⟩⟩
      · omega
      · injection e with e1 e3 e4
        subst e1 e4
        subst e2
        obtain ⟨x, hx⟩ : ∃ x, x = ps[k] := ⟨_, rfl⟩
        have hcell : wr.cell? ⟨b, off + k, none⟩ = some (.string x) := by
          rw [HW.out.1.cell (by have := HA.out; have := HA.out.2.2.2.1; have := HA.out.2.2.1; show b < a2; omega), HB1.out.cell (by exact hbl), hc k (by omega), strs_at ps k hlt, hx]
        obtain ⟨u, hu⟩ : ∃ u, L[k]? = some u := ⟨_, List.getElem?_eq_getElem (by have := HL.out.1.1; omega)⟩
        have hca : ∀ o, (wr.alloc o).cell? ⟨a2, k, none⟩ = some u := fun o => by rw [(HL.out.1.alloc o).cellAt k (by omega), hu]
        have hfz : ∀ o, (wr.alloc o).frozen? ⟨a2, k, none⟩ = false := fun o => (HL.out.1.alloc o).frozenAt k
        have hws : wr.heap.size = a3 + k := HW.out.2.1
        have hi0 : (0 : Int) ≤ (k : Int) := by omega
        have hi1 : (k : Int) < (ps.length : Int) := by omega
        have HX := hide hx
        clear hc hx hu
        have hu2 : a2 ≤ wr.heap.size := by have h4 := HA.out.2.2.2.2; omega
        have HL2 : Hid (((wr.alloc (Obj.cells #[.string x] 87)).setCell ⟨a2, k, none⟩ (.pointer (some ⟨a3 + k, 0, none⟩))).ownsRow a2 85 1 (.slice (some ⟨a2, 0, none⟩) ps.length ps.length) ps.length (L.set k (.pointer (some ⟨a3 + k, 0, none⟩))) ∧ (L.set k (.pointer (some ⟨a3 + k, 0, none⟩))).take (k + 1) = (ptrs a3 ps.length).take (k + 1)) :=
          hide ⟨((HL.out.1.alloc _).stored k _).1, ptrs_take a3 ps.length k hlt (by have := HL.out.1.1; omega) HL.out.2⟩
        have HW2 : Hid (Below a2 w1 ((wr.alloc (Obj.cells #[.string x] 87)).setCell ⟨a2, k, none⟩ (.pointer (some ⟨a3 + k, 0, none⟩))) ∧ ((wr.alloc (Obj.cells #[.string x] 87)).setCell ⟨a2, k, none⟩ (.pointer (some ⟨a3 + k, 0, none⟩))).heap.size = a3 + (k + 1) ∧ ∀ j, j < k + 1 → ((wr.alloc (Obj.cells #[.string x] 87)).setCell ⟨a2, k, none⟩ (.pointer (some ⟨a3 + k, 0, none⟩))).heap[a3 + j]? = some (Obj.cells #[.string (ps.getD j ⟨#[]⟩)] 87)) := hide (by
          refine ⟨(HW.out.1.alloc hu2 _).setCell (Nat.le_refl _) _, by simp; omega, fun j hj => ?_⟩
          rw [heap_setCell_other _ ⟨a2, k, none⟩ (a3 + j) _ (by show a3 + j ≠ a2; have h4 := HA.out.2.2.2.2; omega)]
          by_cases e : j = k
          · subst e
            rw [← hws, heap_alloc_new, HX.out]
            simp [List.getD, hlt]
          · rw [Below.heap_alloc wr _ (a3 + j) (by omega)]
            exact HW.out.2.2 j (by omega))
        go_wp2_with fail
        go_roundg (gk - 1)
        case measure => have := HG.out; omega
        case rel => exact ⟨k + 1, _, by omega, by go_num, by have := HG.out; omega, HL2, HW2⟩
    · obtain rfl : k = ps.length := by omega
      have HK : Hid (KeepIn wr c a0 a1 a2 a3 ps.length (.slice x1 ps.length c1) vl ps (.chan cap (bs.map putV).toArray true s r false) w) := hide (by
        have hA := HA.out
        obtain ⟨o1, o2, o3, o4⟩ := hA.2
        have hb := HW.out.1
        have e : L = ptrs a3 ps.length := by
          have h1 := HL.out.2
          rw [List.take_of_length_le (by have := HL.out.1.1; omega), List.take_of_length_le (by rw [ptrs_length]; exact Nat.le_refl _)] at h1
          exact h1
        refine ⟨(hb.block a0 (by omega)).trans HR.out.1, (hb.block a1 (by omega)).trans HR.out.2.1, by rw [← e]; exact HL.out.1, HW.out.2.2, rfl, (hb.block c (by omega)).trans HR.out.2.2, ?_⟩
        exact kept_of_all (HB1.out.trans (hb.mono (by omega))) _)
      clear HL HW HR HB1 HS3
      go_wp2_with fail
      go_loopg [8] bs.length (fun q cv wr => ∃ (k r' : Nat) (_ : cv = cv), k ≤ bs.length ∧ q + k = bs.length ∧ Hid (KeepIn wr c a0 a1 a2 a3 ps.length (.slice x1 ps.length c1) vl (syncD ps (bs.take k)) (.chan cap ((bs.drop k).map putV).toArray true s r' false) w))
      case atStart => exact ⟨0, r, rfl, Nat.zero_le _, rfl, HK⟩
      case round =>
        obtain ⟨k, r', -, hk, hg, HI⟩ := hrel
        have HG2 := hide hg
        clear hg HK
        by_cases hlt2 : k < bs.length
        · obtain ⟨q, t, hqt⟩ : ∃ q t, (q, t) = bs[k] := ⟨_, _, rfl⟩
          have hb0 : ((bs.drop k).map putV).toArray.getD 0 undef = .agg #[.int .i64 q, .string t] := by
            rw [List.drop_eq_getElem_cons hlt2, ← hqt]; rfl
          have hb1 : ((bs.drop k).map putV).toArray.extract 1 ((bs.drop k).map putV).toArray.size = ((bs.drop (k + 1)).map putV).toArray := by
            rw [List.drop_eq_getElem_cons hlt2]; simp
            exact List.take_of_length_le (by simp; omega)
          obtain ⟨w2, hw2⟩ : ∃ w2, w2 = wr.setChan c cap ((bs.drop (k + 1)).map putV).toArray true s (r' + 1) false := ⟨_, rfl⟩
          have HI2 : Hid (KeepIn w2 c a0 a1 a2 a3 ps.length (.slice x1 ps.length c1) vl (syncD ps (bs.take k)) (.chan cap ((bs.drop (k + 1)).map putV).toArray true s (r' + 1) false) w) := hide (by rw [hw2]; exact keepIn_chan HI.out HA.out.2 _ _ _ _ _ _)
          have HQT := hide hqt
          clear hqt
          go_step
          refine inOps_region ?_
          refine inOps_recv (c := c) (cap := cap) (s := s) (r := r') (tm := false) (closed := true) (ok := true) (z := putV (0, ⟨#[]⟩)) (buf := ((bs.drop k).map putV).toArray) rfl rfl ?_ HI.out.chan (by simp; omega) ?_
          · simp [go_sem, zeroValue, typeInfo, hj, hy0, rcase, putV]
          · refine inOps_list ?_
            simp only [List.drop_succ_cons, List.drop_zero, Nat.zero_add, got, if_true, List.getElem_toArray, List.getElem_cons_zero, hb0, hb1]
            rw [← hw2]
            have ca0 : ∀ o, (w2.alloc o).cell? ⟨a0, 0, none⟩ = some (.slice x1 ps.length c1) := fun o => (cell_at ((Below.heap_alloc w2 o _ (Array.getElem?_eq_some_iff.1 HI2.out.box).1).trans HI2.out.box) 0).1
            have ca1 : ∀ o, (w2.alloc o).cell? ⟨a0, 1, none⟩ = some vl := fun o => (cell_at ((Below.heap_alloc w2 o _ (Array.getElem?_eq_some_iff.1 HI2.out.box).1).trans HI2.out.box) 1).1
            obtain ⟨w3, hw3⟩ : ∃ w3, w3 = w2.alloc (Obj.cells #[.int .i64 q, .string t] 40) := ⟨_, rfl⟩
            have hb3 : Below w2.heap.size w2 w3 := by rw [hw3]; exact (Below.refl _ _).alloc (Nat.le_refl _) _
            have HI3 := hide (keepIn_below HI2.out hb3)
            have HV3 : Hid (w3.heap[w2.heap.size]? = some (Obj.cells #[.int .i64 q, .string t] 40)) := hide (by rw [hw3]; exact heap_alloc_new w2 _)
            have HC := hide (hasPage_any x1 ps.length c1 vl q)
            clear hb0 hb1 hw2 hb3 HI HI2
            go_wp2_with fail
            rw [← hw3]
            obtain ⟨ap, hap⟩ : ∃ ap, ap = w2.heap.size := ⟨_, rfl⟩
            rw [← hap] at HV3 ⊢
            refine (HC.out _).mono ?_
            rintro e w4 ⟨rfl, hb4⟩
            have HI4 := hide (keepIn_below HI3.out hb4)
            have hv4 := (hb4.block _ (Array.getElem?_eq_some_iff.1 HV3.out).1).trans HV3.out
            have cp0 : w4.cell? ⟨ap, 0, none⟩ = some (.int .i64 q) := (cell_at hv4 0).1
            have cp1 : w4.cell? ⟨ap, 1, none⟩ = some (.string t) := (cell_at hv4 1).1
            clear hb4 hw3 HI3 HV3 hap ca0 ca1 HC
            by_cases hin : 0 ≤ q ∧ q < (ps.length : Int)
            · rw [decide_eq_true hin]
              obtain ⟨j, hj2⟩ := Int.eq_ofNat_of_zero_le hin.1
              subst hj2
              have hjl : j < ps.length := by omega
              have cq : w4.cell? ⟨a2, j, none⟩ = some (.pointer (some ⟨a3 + j, 0, none⟩)) := by rw [HI4.out.row.cellAt j (by omega), ptrs_at _ _ _ hjl]
              have hj0 : (0 : Int) ≤ (j : Int) := by omega
              have hj1 : (j : Int) < (ps.length : Int) := by omega
              have HT : Hid (w4.heap[a3 + j]? = some (Obj.cells #[.string ((syncD ps (bs.take k)).getD j ⟨#[]⟩)] 87)) := hide (HI4.out.sheet j hjl)
              have HP : Hid (syncD ps (bs.take (k + 1)) = (syncD ps (bs.take k)).set j t) := hide (by rw [syncD_succ ps bs k hlt2, ← HQT.out, putD, syncD_length, if_pos hin]; simp)
              go_wp2_with fail
              go_region_law (refine step_call2 _ ?_ 66 Try.f66 Try.func66 ?_ ?_ (.tmp 43) (.tmp 45) #[85, 9] ?_ (.pointer (some ⟨a3 + j, 0, none⟩)) (.string t) ?_ ?_ _ (take_any (a3 + j) ((syncD ps (bs.take k)).getD j ⟨#[]⟩) t _ HT.out) ?_; exact rfl; decide; exact Option.some_ne_none _; exact rfl; exact rfl; exact rfl; rintro e w5 ⟨rfl, hw5⟩; refine ⟨_, rfl, ?_⟩)
              all_goals
                have HI5 : Hid (KeepIn (w4.setCell ⟨a3 + j, 0, none⟩ (.string t)).drew c a0 a1 a2 a3 ps.length (.slice x1 ps.length c1) vl (syncD ps (bs.take (k + 1))) (.chan cap ((bs.drop (k + 1)).map putV).toArray true s (r' + 1) false) w) := hide (by rw [HP.out]; exact keepIn_below (keepIn_put HI4.out HA.out.2 HA.out.1 j hjl t) ((Below.refl _ _).drew))
                clear hw5 cp0 cp1 cq
                go_wp2_with fail
                go_roundg (gk - 1)
                case measure => have := HG2.out; omega
                case rel => exact ⟨k + 1, r' + 1, trivial, by omega, by have := HG2.out; omega, HI5⟩
            · rw [decide_eq_false hin]
              have HI5 : Hid (KeepIn w4 c a0 a1 a2 a3 ps.length (.slice x1 ps.length c1) vl (syncD ps (bs.take (k + 1))) (.chan cap ((bs.drop (k + 1)).map putV).toArray true s (r' + 1) false) w) := hide (by rw [syncD_succ ps bs k hlt2, ← HQT.out, putD, syncD_length, if_neg hin]; exact HI4.out)
              clear cp0 cp1
              go_wp2_with fail
              go_roundg (gk - 1)
              case measure => have := HG2.out; omega
              case rel => exact ⟨k + 1, r' + 1, trivial, by omega, by have := HG2.out; omega, HI5⟩
        · obtain rfl : k = bs.length := by omega
          have hch2 : wr.heap[c]? = some (.chan cap #[] true s r' false) := by have := HI.out.chan; rw [List.drop_length] at this; exact this
          have HS : Hid (∃ ch, KeepIn wr c a0 a1 a2 a3 ps.length (.slice x1 ps.length c1) vl (syncD ps bs) ch w) := hide ⟨_, by have := HI.out; rw [List.take_length] at this; exact this⟩
          clear HI
          go_step
          refine inOps_region ?_
          refine inOps_shut (c := c) (cap := cap) (s := s) (r := r') (tm := false) (ok := true) (z := putV (0, ⟨#[]⟩)) rfl rfl ?_ hch2 ?_
          · simp [go_sem, zeroValue, typeInfo, hj, hy0, rcase, putV]
          · refine inOps_list ?_
            simp only [List.drop_succ_cons, List.drop_zero, Nat.zero_add, got, if_true, List.getElem_toArray, List.getElem_cons_zero]
            clear hch2
            go_wp2_with (at_make; refine wpList_make_full _ rfl _ _ 24 rfl wr.heap.size 9 i0 (.string ⟨#[]⟩) 1 Try.underlying24 hi hz0 hz1 .i64 .i64 _ _ ps.length rfl rfl rfl rfl (by rw [hz2]; omega) (by unfold maxLen; omega) (Nat.le_refl _) ?_)
            intro w5 hown5 hg5
            obtain ⟨wk, hwk⟩ : ∃ wk, wk = wr := ⟨_, rfl⟩
            obtain ⟨a4, ha4⟩ : ∃ a, a = wk.heap.size := ⟨_, rfl⟩
            rw [← hwk] at hown5 hg5 HS
            have hb5 : Below a4 wk w5 := by rw [ha4]; exact (Below.refl _ _).grown hg5 (Nat.le_refl _) (fun k hk => by cases hk)
            rw [← ha4] at hown5
            rw [← hwk, ← ha4]
            obtain ⟨M, hM⟩ : ∃ M, M = syncD ps bs := ⟨_, rfl⟩
            have HMl : Hid (M.length = ps.length ∧ ∀ x ∈ M, x.size ≤ 1048576) := hide (by rw [hM]; exact ⟨syncD_length _ _, syncD_size HPs.out HBs.out⟩)
            rw [← hM] at HS
            have HKk : Hid (∀ wx, Below a4 wk wx → ∃ ch, KeepIn wx c a0 a1 a2 a3 ps.length (.slice x1 ps.length c1) vl M ch w) := hide (fun wx hb => by obtain ⟨ch, h⟩ := HS.out; exact ⟨ch, keepIn_below h (by rw [← ha4]; exact hb)⟩)
            have HO5 : Hid (w5.ownsRow a4 9 1 (.slice (some ⟨a4, 0, none⟩) ps.length ps.length) ps.length (strs (List.replicate ps.length ⟨#[]⟩))) := hide (own_n hown5 rfl (strs_made _))
            have HB5 := hide hb5
            have HA4 : Hid (a2 < a4 ∧ w.heap.size ≤ a4) := hide (by obtain ⟨ch, h⟩ := HS.out; rw [ha4]; exact ⟨(h.row.lt a2 rfl).2, h.low.2.2.2.1⟩)
            have HMe := hide hM
            clear hown5 hg5 hwk ha4 hM hb5 HS
            go_wp2_with fail
            go_loopg [52] ps.length (fun q iv wr => ∃ (k : Nat) (m : List ByteArray), k ≤ ps.length ∧ iv = .int .i64 (k : Int) ∧ q + k = ps.length ∧ wr.ownsRow a4 9 1 (.slice (some ⟨a4, 0, none⟩) ps.length ps.length) ps.length (strs m) ∧ Hid (m.length = ps.length ∧ m.take k = M.take k) ∧ Hid (Below a4 wk wr))
            case atStart => exact ⟨0, _, Nat.zero_le _, rfl, rfl, HO5.out, hide ⟨by simp, by simp⟩, HB5⟩
            case round =>
              obtain ⟨k, m, hk3, rfl, hg, hown, HM, HB⟩ := hrel
              have HG3 := hide hg
              clear hg HO5 HB5
              by_cases hlt3 : k < ps.length
              · have hkM : k < M.length := by rw [HMl.out.1]; exact hlt3
                obtain ⟨x, hx⟩ : ∃ x, x = M[k] := ⟨_, rfl⟩
                have hxs : x.size ≤ 1048576 := by rw [hx]; exact HMl.out.2 _ (List.getElem_mem hkM)
                have HCl := hide (clone_any x (by omega))
                have hsh : wr.heap[a3 + k]? = some (Obj.cells #[.string x] 87) := by
                  obtain ⟨ch, h⟩ := HKk.out wr HB.out
                  rw [h.sheet k hlt3, hx]; simp [List.getD, hkM]
                have cs0 : wr.cell? ⟨a3 + k, 0, none⟩ = some (.string x) := (cell_at hsh 0).1
                have cq : wr.cell? ⟨a2, k, none⟩ = some (.pointer (some ⟨a3 + k, 0, none⟩)) := by
                  obtain ⟨ch, h⟩ := HKk.out wr HB.out
                  rw [h.row.cellAt k (by omega), ptrs_at _ _ _ hlt3]
                have hi0 : (0 : Int) ≤ (k : Int) := by omega
                have hi1 : (k : Int) < (ps.length : Int) := by omega
                have HX := hide hx
                have HOw := hide hown
                clear hx hsh hown
                go_wp2_with fail
                refine (HCl.out _).mono ?_
                rintro e w6 ⟨rfl, hb6⟩
                have hown6 := own_stays HOw.out hb6
                obtain ⟨u, hu⟩ : ∃ u, (strs m)[k]? = some u := ⟨_, List.getElem?_eq_getElem (by rw [strs_length, HM.out.1]; exact hlt3)⟩
                have hcell : w6.cell? ⟨a4, k, none⟩ = some u := by rw [hown6.cellAt k (by omega), hu]
                have hfz : w6.frozen? ⟨a4, k, none⟩ = false := hown6.frozenAt k
                have HO := hide ((hown6.stored k (.string x)).1)
                rw [strs_set m k x] at HO
                have HM2 : Hid ((m.set k x).length = ps.length ∧ (m.set k x).take (k + 1) = M.take (k + 1)) := hide (by
                  refine ⟨by rw [List.length_set]; exact HM.out.1, ?_⟩
                  have hkm : k < m.length := by rw [HM.out.1]; exact hlt3
                  rw [List.take_succ_eq_append_getElem (by rw [List.length_set]; exact hkm), List.take_succ_eq_append_getElem hkM, List.getElem_set_self, List.take_set_of_le (by omega), HM.out.2, HX.out])
                have HB6 : Hid (Below a4 wk (w6.setCell ⟨a4, k, none⟩ (.string x))) := hide ((HB.out.trans (hb6.mono (by have := (HOw.out.lt a4 rfl).2; omega))).setCell (Nat.le_refl _) _)
                clear hu hown6 hb6 cs0 cq
                go_wp2_with fail
                go_roundg (gk - 1)
                case measure => have := HG3.out; omega
                case rel => exact ⟨k + 1, m.set k x, by omega, by go_num, by have := HG3.out; omega, HO.out, HM2, HB6⟩
              · have hml : m = M := by
                  have h1 := HM.out.2
                  rw [List.take_of_length_le (by rw [HM.out.1]; omega), List.take_of_length_le (by rw [HMl.out.1]; omega)] at h1
                  exact h1
                subst hml
                obtain ⟨ch, hK⟩ := HKk.out wr HB.out
                obtain ⟨w7, hw7⟩ : ∃ w7, w7 = wr.alloc (Obj.cells #[] 40) := ⟨_, rfl⟩
                have hb7 : Below wr.heap.size wr w7 := by rw [hw7]; exact (Below.refl _ _).alloc (Nat.le_refl _) _
                have hem : w7.heap[wr.heap.size]? = some (Obj.cells #[] 40) := by rw [hw7]; exact heap_alloc_new wr _
                have HK7 := hide (keepIn_below hK hb7)
                have HE7 := hide (own_empty (sz := 2) hem)
                have HO7 := hide (own_stays hown hb7)
                have HZ : Hid (a4 ≤ wr.heap.size) := hide (Nat.le_of_lt (hown.lt a4 rfl).2)
                have cr0 : w7.cell? ⟨a1, 0, none⟩ = some (.slice none 0 0) := (cell_at HK7.out.res 0).1
                have cr1 : w7.cell? ⟨a1, 1, none⟩ = some (.slice none 0 0) := (cell_at HK7.out.res 1).1
                have fr0 := (cell_at HK7.out.res 0).2
                have fr1 := (cell_at HK7.out.res 1).2
                rw [hw7] at cr0 cr1 fr0 fr1
                clear hK hb7 hem hown
                go_wp2_with fail
                rw [← hw7]
                have hA := HA.out.1
                have hO := HA.out.2.2
                have h4 := HA4.out
                have hz := HZ.out
                have hret := ret_kept (w := w) (c := c) (B := a4) (u0 := .slice (some ⟨a4, 0, none⟩) ps.length ps.length) (u1 := .slice (some ⟨wr.heap.size, 0, none⟩) 0 0) (ps := m) (ls := []) HK7.out.res ⟨_, _, rfl, by rw [HM.out.1]; exact HO7.out, own_down HE7.out hz⟩ (by omega) (by omega) HK7.out.low
                rw [HMe.out] at hret
                exact bodyPost_ret (v := .agg #[.slice (some ⟨a4, 0, none⟩) ps.length ps.length, .slice (some ⟨wr.heap.size, 0, none⟩) 0 0]) (by simp [results, Try.results47, go_sem, hret.1, hret.2.1]) rfl ⟨_, rfl, hret.2.2.1, hret.2.2.2⟩
end Go.Proofs.Ytjjjnloimpehbaa
