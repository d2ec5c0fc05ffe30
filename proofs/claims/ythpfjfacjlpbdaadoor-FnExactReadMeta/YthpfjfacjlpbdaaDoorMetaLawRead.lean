/-
  FnExactReadMeta by contracts.
-/
import Derived.Test.YthpfjfacjlpbdaaDoorImplReadMeta
import Derived.Test.YthpfjfacjlpbdaaDoorFreeRow3
namespace Go.Proofs.YthpfjfacjlpbdaaDoor
open Go.RowKit

theorem staysM {w w' : World} {g : Nat} {o : Obj} (h : w.heap[g]? = some o) (hb : Below w.heap.size w w') : w'.heap[g]? = some o := (hb.block g (Array.getElem?_eq_some_iff.1 h).1).trans h

theorem readM_small {t : ByteArray} {m : Mt} {ok : Bool} (h : ReadM t m ok) : m.fs.length ≤ 20 ∧ (∀ f ∈ m.fs, f.2.length ≤ 40) ∧ bulkF m.fs ≤ 1000000 := by
  rcases h with ⟨-, h, -⟩ | ⟨-, rfl, -⟩
  · obtain ⟨h1, h2⟩ := ok_parts (good_ok h.1)
    have h3 : ∀ f ∈ m.fs, f.2.length ≤ 40 := fun f hf => (h2 f hf).2.2.2.1
    have h4 := freeNums_len m.fs h3
    refine ⟨h1.2.2.2.2.2, h3, ?_⟩
    have h5 : ∀ fs : List (Int × List Int), bulkF fs ≤ (freeNums fs).length := fun fs => by
      have h6 : ∀ fs : List (Int × List Int), fs.length + (fs.map fun p => p.2.length).sum ≤ (freeNums fs).length := fun fs => by
        induction fs with
        | nil => simp [freeNums]
        | cons f fs ih => rw [freeNums_cons]; simp; omega
      unfold bulkF sumF
      rw [List.take_length]
      exact h6 fs
    have := h5 m.fs
    omega
  · exact ⟨by simp [Mt.none], (fun f hf => by cases hf), by simp [Mt.none, bulkF, sumF]⟩

set_option maxHeartbeats 8000000 in
set_option maxRecDepth 100000 in
theorem lawReadMeta (t : ByteArray) (htm : t.size ≤ maxLen) (w : World) (hT : SumTab w) (hE : ErrTab w) :
    Calls Tryd.prog 6 #[.string t] w fun e w' => e = .returned (.bool true) ∧ Below w.heap.size w w' := by
  unfold maxLen at htm
  by_cases htb : t.size ≤ 1048576
  · have HT := hide (⟨hT, hE⟩ : _ ∧ _)
    have HIm := hide (fun wx h h' => implReadMeta_any t htb wx h h')
    clear hT hE
    go_enter Tryd.func6, Tryd.ntmps6
    go_wp2_with fail
    refine (specReadMeta_any t htb w).mono ?_
    rintro e w1 ⟨m, v, ok, rfl, hrd, hown, hb1⟩
    obtain ⟨hl1, hl2, hl3⟩ := readM_small hrd
    have HRd := hide hrd
    have dok : (ok != ok) = false := by cases ok <;> rfl
    obtain ⟨vf, l1, rfl, ho1⟩ := hown
    obtain ⟨tx, htx⟩ : ∃ tx, tx = m.tx := ⟨_, rfl⟩
    obtain ⟨root, hro⟩ : ∃ tx, tx = m.root := ⟨_, rfl⟩
    obtain ⟨next, hne⟩ : ∃ tx, tx = m.next := ⟨_, rfl⟩
    have HNm := hide (⟨htx, hro, hne⟩ : tx = m.tx ∧ root = m.root ∧ next = m.next)
    obtain ⟨a1, c1, rfl⟩ := own_slice ho1.1
    obtain ⟨FL, hFL⟩ : ∃ FL, FL = m.fs.length := ⟨_, rfl⟩
    have HFL := hide hFL
    rw [← htx, ← hro, ← hne, ← hFL]
    have HO1 : Hid (OwnF w1 w.heap.size (.slice a1 FL c1) l1 m.fs) := hide (by rw [hFL]; exact ho1)
    have HB1 := hide hb1
    obtain ⟨wA, hwA⟩ : ∃ wA, wA = w1.alloc (.cells #[.int .i64 tx, .int .i64 root, .int .i64 next, .slice a1 FL c1] 26 (0, 0)) := ⟨_, rfl⟩
    have hbA : Below w1.heap.size w1 wA := by rw [hwA]; exact (Below.refl _ _).alloc (Nat.le_refl _) _
    have HVA : Hid (wA.heap[w1.heap.size]? = some (.cells #[.int .i64 tx, .int .i64 root, .int .i64 next, .slice a1 FL c1] 26 (0, 0))) := hide (by rw [hwA]; exact heap_alloc_new w1 _)
    have HSA : Hid (wA.heap.size = w1.heap.size + 1) := hide (by rw [hwA]; simp)
    have HOA := hide (ownF_stays HO1.out hbA)
    have HBA : Hid (Below w.heap.size w wA) := hide (HB1.out.trans (hbA.mono HB1.out.size))
    have HAt : Hid (∀ wx a n c l B, OwnF wx B (.slice a n c) l m.fs → MetaAt wx (.agg #[.int .i64 tx, .int .i64 root, .int .i64 next, .slice a n c]) m) := hide (fun wx a n c l B h => ⟨_, by rw [htx, hro, hne], frees_of_own h⟩)
    have HEq := hide (fun u u' wx h h' => eqMeta_same u u' m (by omega) (fun f hf => by have := hl2 f hf; omega) wx h h')
    have HMk := hide (fun vf l B wx h => markMeta_any tx root next vf l m.fs (by omega) (fun f hf => by have := hl2 f hf; omega) hl3 B wx h)
    have HHd := hide (fun vf wx h => heldMeta_any tx root next vf m.fs (by omega) (fun f hf => by have := hl2 f hf; omega) hl3 wx h)
    obtain ⟨K, hK⟩ : ∃ K, K = kAt 1 m.fs m.fs.length := ⟨_, rfl⟩
    rw [← hK] at HMk HHd
    have dK : decide ((K : Int) < 0) = false := decide_eq_false (by omega)
    have nK : ((K : Int) != (K : Int)) = false := by simp
    clear ho1 hb1 hbA hrd hl1 hl2 hl3 htx hro hne hFL hK
    go_wp2_with fail
    rw [← hwA]
    clear hwA
    refine (HIm.out wA (sumTab_below HT.out.1 HBA.out) (errTab_below HT.out.2 HBA.out)).mono ?_
    rintro e w2 ⟨m2, v2, ok2, rfl, hrd2, hown2, hb2⟩
    obtain ⟨e1, e2⟩ := readM_one hrd2 HRd.out
    subst e1 e2
    obtain ⟨vf2, l2, rfl, ho2⟩ := hown2
    obtain ⟨a2, c2, rfl⟩ := own_slice ho2.1
    rw [← HNm.out.1, ← HNm.out.2.1, ← HNm.out.2.2, ← HFL.out]
    have HO2 : Hid (OwnF w2 wA.heap.size (.slice a2 FL c2) l2 m2.fs) := hide (by rw [HFL.out]; exact ho2)
    obtain ⟨wB, hwB⟩ : ∃ wB, wB = w2.alloc (.cells #[.int .i64 tx, .int .i64 root, .int .i64 next, .slice a2 FL c2] 26 (0, 0)) := ⟨_, rfl⟩
    have hbB : Below w2.heap.size w2 wB := by rw [hwB]; exact (Below.refl _ _).alloc (Nat.le_refl _) _
    have HVb : Hid (wB.heap[w2.heap.size]? = some (.cells #[.int .i64 tx, .int .i64 root, .int .i64 next, .slice a2 FL c2] 26 (0, 0))) := hide (by rw [hwB]; exact heap_alloc_new w2 _)
    have HVa := hide (staysM (staysM HVA.out hb2) hbB)
    have HOb := hide (ownF_stays HO2.out hbB)
    have HOv := hide (ownF_stays (ownF_stays HOA.out hb2) hbB)
    have HLu : Hid (∀ b, freeBlocks (.slice a2 FL c2) l2 b → wA.heap.size ≤ b ∧ b < w2.heap.size) := hide (ownF_lt HO2.out)
    have HLv : Hid (∀ b, freeBlocks (.slice a1 FL c1) l1 b → b < w1.heap.size) := hide (fun b hb => (ownF_lt HO1.out b hb).2)
    have HBB : Hid (Below w.heap.size w wB) := hide ((HBA.out.trans (hb2.mono HBA.out.size)).trans (hbB.mono (by have := HBA.out.size; have := hb2.size; omega)))
    have x0 := (cell_at HVa.out 0).1
    have x1 := (cell_at HVa.out 1).1
    have x2 := (cell_at HVa.out 2).1
    have x3 := (cell_at HVa.out 3).1
    rw [hwB] at x0 x1 x2 x3
    clear hb2 hbB hrd2 ho2
    go_wp2_with fail
    rw [← hwB]
    clear hwB
    refine (HEq.out _ _ _ (HAt.out _ _ _ _ _ _ HOb.out) (HAt.out _ _ _ _ _ _ HOv.out)).mono ?_
    rintro e w3 ⟨rfl, hb3⟩
    have HB3 : Hid (Below w.heap.size w w3) := hide (HBB.out.trans (hb3.mono HBB.out.size))
    have HVa3 := hide (staysM HVa.out hb3)
    have HVb3 := hide (staysM HVb.out hb3)
    have HOb3 := hide (ownF_stays HOb.out hb3)
    have HOv3 := hide (ownF_stays HOv.out hb3)
    have y0 := (cell_at HVb3.out 0).1
    have y1 := (cell_at HVb3.out 1).1
    have y2 := (cell_at HVb3.out 2).1
    have y3 := (cell_at HVb3.out 3).1
    clear hb3 x0 x1 x2 x3
    go_wp2_with fail
    refine (HMk.out _ _ _ _ HOb3.out).mono ?_
    rintro e w4 ⟨rfl, l4, hl4, ho4, hk4⟩
    have HVa4 : Hid (w4.heap[w1.heap.size]? = some (.cells #[.int .i64 tx, .int .i64 root, .int .i64 next, .slice a1 FL c1] 26 (0, 0))) := hide ((hk4.2.2.2.2 _ (Array.getElem?_eq_some_iff.1 HVa3.out).1 (fun h => by have := (HLu.out _ h).1; rw [HSA.out] at this; omega)).trans HVa3.out)
    have HVb4 : Hid (w4.heap[w2.heap.size]? = some (.cells #[.int .i64 tx, .int .i64 root, .int .i64 next, .slice a2 FL c2] 26 (0, 0))) := hide ((hk4.2.2.2.2 _ (Array.getElem?_eq_some_iff.1 HVb3.out).1 (fun h => by have := (HLu.out _ h).2; omega)).trans HVb3.out)
    have HOv4 := hide (ownF_kept HOv3.out hk4 (fun b h1 h2 => by have a := HLv.out b h1; have b := (HLu.out b h2).1; rw [HSA.out] at b; omega))
    have HO4 := hide ho4
    have HB4 : Hid (Below w.heap.size w w4) := hide (HB3.out.trans (below_of_kept hk4 HB3.out.size (fun b h => by have := (HLu.out b h).1; have := HBA.out.size; omega)))
    have y0 := (cell_at HVb4.out 0).1
    have y1 := (cell_at HVb4.out 1).1
    have y2 := (cell_at HVb4.out 2).1
    have y3 := (cell_at HVb4.out 3).1
    clear hl4 ho4 hk4
    go_wp2_with fail
    refine (HHd.out _ _ (frees_of_own HO4.out)).mono ?_
    rintro e w5 ⟨rfl, hb5⟩
    have HVa5 := hide (staysM HVa4.out hb5)
    have HVb5 := hide (staysM HVb4.out hb5)
    have HO5 := hide (ownF_stays HO4.out hb5)
    have HOv5 := hide (ownF_stays HOv4.out hb5)
    have HB5 : Hid (Below w.heap.size w w5) := hide (HB4.out.trans (hb5.mono HB4.out.size))
    clear hb5 y0 y1 y2 y3
    go_wp2_with fail
    refine (HIm.out w5 (sumTab_below HT.out.1 HB5.out) (errTab_below HT.out.2 HB5.out)).mono ?_
    rintro e w6 ⟨m6, v6, ok6, rfl, hrd6, hown6, hb6⟩
    obtain ⟨e1, e2⟩ := readM_one hrd6 HRd.out
    subst e1 e2
    obtain ⟨vf6, l6, rfl, ho6⟩ := hown6
    obtain ⟨a6, c6, rfl⟩ := own_slice ho6.1
    rw [← HNm.out.1, ← HNm.out.2.1, ← HNm.out.2.2, ← HFL.out]
    have HO6 : Hid (OwnF w6 w5.heap.size (.slice a6 FL c6) l6 m6.fs) := hide (by rw [HFL.out]; exact ho6)
    obtain ⟨wC, hwC⟩ : ∃ wC, wC = w6.alloc (.cells #[.int .i64 tx, .int .i64 root, .int .i64 next, .slice a6 FL c6] 26 (0, 0)) := ⟨_, rfl⟩
    have hbC : Below w6.heap.size w6 wC := by rw [hwC]; exact (Below.refl _ _).alloc (Nat.le_refl _) _
    have HVa7 := hide (staysM (staysM HVa5.out hb6) hbC)
    have HVb7 := hide (staysM (staysM HVb5.out hb6) hbC)
    have HOc := hide (ownF_stays HO6.out hbC)
    have HOv7 := hide (ownF_stays (ownF_stays HOv5.out hb6) hbC)
    have HO7 := hide (ownF_stays (ownF_stays HO5.out hb6) hbC)
    have HBC : Hid (Below w.heap.size w wC) := hide ((HB5.out.trans (hb6.mono HB5.out.size)).trans (hbC.mono (by have := HB5.out.size; have := hb6.size; omega)))
    have x0 := (cell_at HVa7.out 0).1
    have x1 := (cell_at HVa7.out 1).1
    have x2 := (cell_at HVa7.out 2).1
    have x3 := (cell_at HVa7.out 3).1
    rw [hwC] at x0 x1 x2 x3
    clear hb6 hbC hrd6 ho6
    go_wp2_with fail
    rw [← hwC]
    clear hwC
    refine (HEq.out _ _ _ (HAt.out _ _ _ _ _ _ HOc.out) (HAt.out _ _ _ _ _ _ HOv7.out)).mono ?_
    rintro e w8 ⟨rfl, hb8⟩
    have HVb8 := hide (staysM HVb7.out hb8)
    have HO8 := hide (ownF_stays HO7.out hb8)
    have HB8 : Hid (Below w.heap.size w w8) := hide (HBC.out.trans (hb8.mono HBC.out.size))
    have y0 := (cell_at HVb8.out 0).1
    have y1 := (cell_at HVb8.out 1).1
    have y2 := (cell_at HVb8.out 2).1
    have y3 := (cell_at HVb8.out 3).1
    clear hb8 x0 x1 x2 x3
    go_wp2_with fail
    refine (HHd.out _ _ (frees_of_own HO8.out)).mono ?_
    rintro e w9 ⟨rfl, hb9⟩
    have HB9 : Hid (Below w.heap.size w w9) := hide (HB8.out.trans (hb9.mono HB8.out.size))
    clear hb9 y0 y1 y2 y3
    go_wp2_with fail
    go_ret
    exact ⟨rfl, HB9.out⟩
  · have d0 : decide ((1048576 : Int) < (t.size : Int)) = true := decide_eq_true (by omega)
    clear hT hE
    go_enter Tryd.func6, Tryd.ntmps6
    go_wp2_with fail
    go_ret
    exact ⟨rfl, Below.refl _ _⟩
end Go.Proofs.YthpfjfacjlpbdaaDoor
