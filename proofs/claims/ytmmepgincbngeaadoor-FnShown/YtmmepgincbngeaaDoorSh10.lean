/-
  Facts and contracts that the law's own text rests on, by their texts' names: ImplFormat, PagesI, ShelfFields, PartsImpl, ShelfPre.
-/
import Derived.Deep.Cut
import Derived.Test.YtmmepgincbngeaaDoorSh9
import Derived.Test.YtmmepgincbngeaaDoorSh8
import Derived.Test.YtmmepgincbngeaaDoorSh3
import Derived.Test.YtmmepgincbngeaaDoorSh2
import Derived.Shelf.LaysM
import Derived.Shelf.Strings.SplitShaped
import Derived.Test.YtmmepgincbngeaaDoorProg
import Derived.Lib.AppendIntMem
import Derived.Test.YtmmepgincbngeaaDoorSh1
import Derived.Shelf.Lays
import Derived.Shelf.Strings.Prefix
namespace Go.Proofs.YtmmepgincbngeaaDoor
open Go.RowKit
theorem meta0_good : meta0.good = true := by kernel_rfl
theorem format_is (n : Int) (h : 4 ≤ n ∧ n ≤ 40) : formatP n = (newP n).set 0 meta0.textO := by
  have hl : (newP n).length = n.toNat := by rw [newP, if_pos h, List.length_replicate]
  have hw : writeOk (newP n) [] 0 meta0.textO = true := by
    have h2 := meta0_good
    rw [Mt.good, Bool.and_eq_true, decide_eq_true_eq, ← text_size] at h2
    have h3 : meta0.textO = meta0.text := by rw [Mt.textO, if_pos meta0_good]
    have hok : diskOkB (newP n) [] = true := by
      simp only [diskOkB, hl, Bool.and_eq_true, decide_eq_true_eq, List.all_nil, List.length_nil, List.all_eq_true]
      refine ⟨⟨fun s hs => ?_, trivial⟩, by omega, by omega, by omega⟩
      rw [newP, if_pos h, List.mem_replicate] at hs
      rw [hs.2]
      exact Nat.zero_le _
    rw [writeOk, hok, h3]
    simp only [hl, Bool.and_eq_true, decide_eq_true_eq, true_and, List.length_nil]
    refine ⟨⟨⟨by omega, by omega⟩, by omega⟩, by omega⟩
  rw [formatP, if_pos h, writeL, if_pos hw]
  simp only [List.nil_append, syncD, List.foldl_cons, List.foldl_nil, putD]
  rw [if_pos (by rw [hl]; omega)]
  rfl
theorem disk_rowsF {B B' : Nat} {W : World} {vp vl : Value} {ps : List ByteArray} {ls : List (Int × ByteArray)} {rest : List Ast} (h : Sep B W (diskA B' (.agg #[vp, vl]) ps ls :: rest)) : Sep B W (rowA B' 9 1 vp ps.length (strs ps) :: rowA B' 103 2 vl ls.length (puts ls) :: rest) := by
  obtain ⟨⟨hP, hF⟩, hA, hr⟩ := sep_cons.1 h
  obtain ⟨vp', vl', e, h1, h2⟩ := hP
  simp only [Value.agg.injEq, Array.mk.injEq, List.cons.injEq, and_true] at e
  obtain ⟨rfl, rfl⟩ := e
  refine sep_cons.2 ⟨⟨h1, fun k hk => hF k ⟨_, _, rfl, Or.inl hk⟩⟩, fun A hA' k hk => ?_, sep_cons.2 ⟨⟨h2, fun k hk => hF k ⟨_, _, rfl, Or.inr hk⟩⟩, fun A' hA' k hk => hA A' hA' k ⟨_, _, rfl, Or.inr hk⟩, hr⟩⟩
  rcases List.mem_cons.1 hA' with rfl | hm
  · exact fun hk' => one_type h1 h2 Tryd.types_part k hk hk'
  · exact hA A hm k ⟨_, _, rfl, Or.inl hk⟩
theorem own_at {w : World} {B e sz n : Nat} {v : Value} {xs : List Value} (h : w.ownsRow B e sz v n xs) (hn : 0 < n) : ∃ g c, v = .slice (some ⟨g, 0, none⟩) n c := by
  rcases h.2 with ⟨_, h0⟩ | ⟨g, c, _, e, _⟩
  · omega
  · exact ⟨g, c, e⟩
theorem sep_rowset {B : Nat} {W : World} {l : List Ast} (h : Sep B W l) (i : Nat) {B' e sz n c g : Nat} {xs : List Value} (hi : l[i]? = some (rowA B' e sz (.slice (some ⟨g, 0, none⟩) n c) n xs)) (j : Nat) (u : Value) (hB : B ≤ W.heap.size) : Sep B (W.setCell ⟨g, j, none⟩ u) (l.set i (rowA B' e sz (.slice (some ⟨g, 0, none⟩) n c) n (xs.set j u))) :=
  sep_set (W' := W.setCell ⟨g, j, none⟩ u) h i hi ⟨rfl, rfl, rfl, by simp, fun k _ hn => heap_setCell_other W ⟨g, j, none⟩ k u (fun e => hn (by rw [e]; rfl))⟩ _ ((sep_get h i hi).stored j u).1 (fun k hk => ⟨Or.inl hk, by have := (sep_lt h i hi k hk).2; simpa using this⟩) hB
set_option maxHeartbeats 4000000 in
set_option maxRecDepth 100000 in
theorem implFormat_any (n : Int) (w : World) (hT : SumTab w) :
    Calls Tryd.prog 54 #[.int .i64 n] w fun e w' => ∃ v', e = .returned (.tuple #[v', .bool (decide (4 ≤ n ∧ n ≤ 40))]) ∧ DiskOwn w' w.heap.size v' (formatP n) [] ∧ Below w.heap.size w w' := by
  have HTb : Hid (∀ wy, Below w.heap.size w wy → SumTab wy) := hide (fun wy h => sumTab_below hT h)
  have HC1 := hide (fun wx => implDiskNew_any n wx)
  have HC2 := hide (fun wx h => implMetaText_any (.agg #[.int .i64 0, .int .i64 0, .int .i64 2, .slice none 0 0]) meta0 (Nat.zero_le _) (fun f hf => (by cases hf)) wx h ⟨_, rfl, frees_none wx⟩)
  have HC3 := hide (fun wx => implMetaPage_any 0 wx)
  rw [show pgOf 0 = 0 from rfl] at HC3
  rw [meta0_good] at HC2
  have HF : Hid ((decide (4 ≤ n ∧ n ≤ 40) = true → formatP n = (newP n).set 0 meta0.textO ∧ 4 ≤ (newP n).length) ∧ (decide (4 ≤ n ∧ n ≤ 40) = false → formatP n = [])) := hide ⟨fun h => ⟨format_is n (of_decide_eq_true h), by have h' := of_decide_eq_true h; rw [newP, if_pos h', List.length_replicate]; omega⟩, fun h => if_neg (of_decide_eq_false h)⟩
  obtain ⟨ok, hok⟩ : ∃ b, b = decide (4 ≤ n ∧ n ≤ 40) := ⟨_, rfl⟩
  obtain ⟨ps, hps⟩ : ∃ l, l = newP n := ⟨_, rfl⟩
  obtain ⟨tx, htx⟩ : ∃ t, t = meta0.textO := ⟨_, rfl⟩
  rw [← htx] at HF HC2
  rw [← hps] at HC1 HF
  rw [← hok] at HC1 HF ⊢
  obtain ⟨fs, hfs⟩ : ∃ l, l = formatP n := ⟨_, rfl⟩
  rw [← hfs] at HF ⊢
  obtain ⟨pL, hpL⟩ : ∃ l, l = ps.length := ⟨_, rfl⟩
  rw [← hpL] at HF
  have HL := hide hpL
  have hS0 := sep_new (sep_nil w.heap.size w) (Obj.cells #[.slice none 0 0, .slice none 0 0] 60) (Nat.le_refl _)
  obtain ⟨w0, hw0⟩ : ∃ w0, w0 = w.alloc (Obj.cells #[.slice none 0 0, .slice none 0 0] 60) := ⟨_, rfl⟩
  obtain ⟨a0, ha0⟩ : ∃ a, a = w.heap.size := ⟨_, rfl⟩
  rw [← hw0, ← ha0] at hS0
  have HS0 := hide hS0
  have HB0 : Hid (Below w.heap.size w w0) := hide (by rw [hw0]; exact (Below.refl w.heap.size w).alloc (Nat.le_refl _) _)
  have HZ0 : Hid (a0 ≤ w0.heap.size) := hide (by rw [hw0, ha0]; simp)
  have HA := hide ha0
  clear hok hps htx hfs hpL hS0 ha0 hT
  go_enter Tryd.func54, Tryd.ntmps54
  go_wp2_with fail
  rw [← hw0, ← HA.out]
  clear hw0
  refine (HC1.out w0).mono ?_
  rintro e w1 ⟨v1, rfl, ho, hb⟩
  obtain ⟨x1, c1, y1, d1, rfl⟩ := disk_form ho
  have hs1 := sep_add HS0.out hb (diskA a0 _ ps []) (disk_down0 ho HZ0.out) (fun j hj => diskOwn_lt ho j hj) HZ0.out
  rw [← HL.out] at hs1 ⊢
  have HS1 := hide (disk_rowsF hs1)
  rw [← HL.out] at HS1
  have HB1 : Hid (Below w.heap.size w w1) := hide (HB0.out.trans (hb.mono HB0.out.size))
  have HZ1 : Hid (a0 ≤ w1.heap.size) := hide (Nat.le_trans HZ0.out hb.size)
  obtain ⟨g2, hg2⟩ : ∃ g, g = w1.heap.size := ⟨_, rfl⟩
  have hgt : w.heap.size ≤ g2 := by rw [hg2]; exact HB1.out.size
  have haw : w.heap.size ≤ a0 := by rw [HA.out]; exact Nat.le_refl _
  have hne : a0 ≠ g2 := by have h := (sep_lt hs1 1 rfl a0 rfl).2; omega
  clear ho hb hs1
  cases ok with
  | false =>
    obtain ⟨w2, hw2⟩ : ∃ wx, wx = w1.alloc (Obj.cells #[.slice x1 pL c1, .slice y1 0 d1] 60) := ⟨_, rfl⟩
    have hs2 := sep_new HS1.out (Obj.cells #[.slice x1 pL c1, .slice y1 0 d1] 60) HZ1.out
    rw [← hw2, ← hg2] at hs2
    have HS2 := hide hs2
    have HB2 : Hid (Below w.heap.size w w2) := hide (by rw [hw2]; exact HB1.out.alloc HB1.out.size _)
    have r0 : w2.cell? ⟨a0, 0, none⟩ = some (.slice none 0 0) := (cell_at (sep_get HS2.out 3 rfl : w2.heap[a0]? = some (Obj.cells #[.slice none 0 0, .slice none 0 0] 60)) 0).1
    have r1 : w2.cell? ⟨a0, 1, none⟩ = some (.slice none 0 0) := (cell_at (sep_get HS2.out 3 rfl : w2.heap[a0]? = some (Obj.cells #[.slice none 0 0, .slice none 0 0] 60)) 1).1
    have z0 : w2.frozen? ⟨a0, 0, none⟩ = false := (cell_at (sep_get HS2.out 3 rfl : w2.heap[a0]? = some (Obj.cells #[.slice none 0 0, .slice none 0 0] 60)) 0).2
    have z1 : w2.frozen? ⟨a0, 1, none⟩ = false := (cell_at (sep_get HS2.out 3 rfl : w2.heap[a0]? = some (Obj.cells #[.slice none 0 0, .slice none 0 0] 60)) 1).2
    rw [hw2] at r0 r1 z0 z1
    have hfe : fs = [] := HF.out.2 rfl
    subst hfe
    clear hs2
    go_wp2_with fail
    rw [← hw2]
    rw [← hw2] at r0 r1 z0 z1
    have HSf := hide (sep_store (sep_store HS2.out 3 rfl 0 (.slice none 0 0)) 3 rfl 1 (.slice none 0 0))
    have HBf := (HB2.out.setCell (p := ⟨a0, 0, none⟩) haw (.slice none 0 0)).setCell (p := ⟨a0, 1, none⟩) haw (.slice none 0 0)
    obtain ⟨wf, hwf⟩ : ∃ wf, wf = (w2.setCell ⟨a0, 0, none⟩ (.slice none 0 0)).setCell ⟨a0, 1, none⟩ (.slice none 0 0) := ⟨_, rfl⟩
    rw [← hwf] at HSf HBf ⊢
    have HRf : Hid (wf.rangeAt a0 0 (#[.slice none 0 0, .slice none 0 0] : Array Value).toList) := hide (range_all (sep_get HSf.out 3 rfl))
    refine bodyPost_ret (v := .tuple #[.agg #[.slice none 0 0, .slice none 0 0], .bool false]) (results_ct Tryd.results54 rfl rfl (run_agg HRf.out Tryd.underlying60 rfl Tryd.sizeDisk)) rfl ⟨_, rfl, ?_, HBf⟩
    exact ⟨_, _, rfl, ⟨rfl, Or.inl ⟨rfl, rfl⟩⟩, ⟨rfl, Or.inl ⟨rfl, rfl⟩⟩⟩
  | true =>
    have hfe : fs = ps.set 0 tx := (HF.out.1 rfl).1
    have hp4 : 4 ≤ pL := (HF.out.1 rfl).2
    obtain ⟨b1, c1', ex⟩ := own_at (sep_get HS1.out 0 rfl) (by omega)
    simp only [Value.slice.injEq, true_and] at ex
    obtain ⟨rfl, -⟩ := ex
    obtain ⟨w2, hw2⟩ : ∃ wx, wx = w1.alloc (Obj.cells #[.slice (some ⟨b1, 0, none⟩) pL c1, .slice y1 0 d1] 60) := ⟨_, rfl⟩
    have hs2 := sep_new HS1.out (Obj.cells #[.slice (some ⟨b1, 0, none⟩) pL c1, .slice y1 0 d1] 60) HZ1.out
    rw [← hw2, ← hg2] at hs2
    have HS2 := hide hs2
    have HB2 : Hid (Below w.heap.size w w2) := hide (by rw [hw2]; exact HB1.out.alloc HB1.out.size _)
    have HZ2 : Hid (a0 ≤ w2.heap.size) := hide (by rw [hw2]; have := HZ1.out; simp; omega)
    obtain ⟨g3, hg3⟩ : ∃ g, g = w2.heap.size := ⟨_, rfl⟩
    obtain ⟨w3, hw3⟩ : ∃ wx, wx = w2.alloc (Obj.cells #[.int .i64 0, .int .i64 0, .int .i64 2, .slice none 0 0] 82) := ⟨_, rfl⟩
    have hs3 := sep_new HS2.out (Obj.cells #[.int .i64 0, .int .i64 0, .int .i64 2, .slice none 0 0] 82) HZ2.out
    rw [← hw3, ← hg3] at hs3
    have HS3 := hide hs3
    have HB3 : Hid (Below w.heap.size w w3) := hide (by rw [hw3]; exact HB2.out.alloc HB2.out.size _)
    have HZ3 : Hid (a0 ≤ w3.heap.size) := hide (by rw [hw3]; have := HZ2.out; simp; omega)
    have HFe := hide hfe
    have hg3' : g3 = g2 + 1 := by rw [hg3, hw2, hg2]; simp
    clear hfe hs2 hs3
    go_upto_region 5 with fail
    rw [← hg2, ← hg3', ← hw2, ← hw3]
    clear hw2 hw3 hg2 hg3 hg3'
    obtain ⟨wd, hwd⟩ : ∃ wd, wd = w3.drew := ⟨_, rfl⟩
    have HSd := hide (sep_drew HS3.out)
    have HBd := hide (HB3.out.drew)
    have HZd : Hid (a0 ≤ w3.drew.heap.size) := HZ3
    rw [← hwd] at HSd HBd HZd
    have HSw : Hid (∀ wx : World, wx.heap[g3]? = some (Obj.cells #[.int .i64 0, .int .i64 0, .int .i64 2, .slice none 0 0] 82) → wx.heap[g2]? = some (Obj.cells #[.slice (some ⟨b1, 0, none⟩) pL c1, .slice y1 0 d1] 60) → (fun wx => wx.cell? ⟨g2, 0, none⟩ = some (.slice (some ⟨b1, 0, none⟩) pL c1) ∧ wx.cell? ⟨g3, 0, none⟩ = some (.int .i64 0) ∧ wx.cell? ⟨g3, 1, none⟩ = some (.int .i64 0) ∧ wx.cell? ⟨g3, 2, none⟩ = some (.int .i64 2) ∧ wx.cell? ⟨g3, 3, none⟩ = some (.slice none 0 0)) wx) := hide (fun wx h h' => ⟨(cell_at h' 0).1, (cell_at h 0).1, (cell_at h 1).1, (cell_at h 2).1, (cell_at h 3).1⟩)
    have hHeld := HSw.out wd (sep_get HSd.out 0 rfl) (sep_get HSd.out 1 rfl)
    refine wp_region_held_drew (S := fun wx => wx.cell? ⟨g2, 0, none⟩ = some (.slice (some ⟨b1, 0, none⟩) pL c1) ∧ wx.cell? ⟨g3, 0, none⟩ = some (.int .i64 0) ∧ wx.cell? ⟨g3, 1, none⟩ = some (.int .i64 0) ∧ wx.cell? ⟨g3, 2, none⟩ = some (.int .i64 2) ∧ wx.cell? ⟨g3, 3, none⟩ = some (.slice none 0 0)) (by kernel_rfl) (by rw [← hwd]; exact hHeld) (fun _ => ?_)
    rw [← hwd]
    clear hwd
    refine takeW 0 17 ?_ rfl rfl (by kernel_rfl) (by kernel_rfl) (by kernel_rfl) (fun _ _ _ h => h) (Or.inl ⟨by rfl, ?_⟩) hHeld ?_
    rotate_left
    · (intro wx hSw; (try dsimp only at hSw); go_simp; try with_reducible rfl)
    simp only [List.setIfInBounds_toArray, List.set_cons_zero, List.set_cons_succ]
    refine takeW 1 18 ?_ rfl rfl (by kernel_rfl) (by kernel_rfl) (by kernel_rfl) (fun _ _ _ h => h) (Or.inl ⟨by rfl, ?_⟩) hHeld ?_
    rotate_left
    · (intro wx hSw; (try dsimp only at hSw); go_simp; try with_reducible rfl)
    simp only [List.setIfInBounds_toArray, List.set_cons_zero, List.set_cons_succ]
    refine takeW 2 19 ?_ rfl rfl (by kernel_rfl) (by kernel_rfl) (by kernel_rfl) (fun _ _ _ h => h) (Or.inl ⟨by rfl, ?_⟩) hHeld ?_
    rotate_left
    · (intro wx hSw; (try dsimp only at hSw); go_simp; try with_reducible rfl)
    simp only [List.setIfInBounds_toArray, List.set_cons_zero, List.set_cons_succ]
    refine takeW 3 20 ?_ rfl rfl (by kernel_rfl) (by kernel_rfl) (by kernel_rfl) (fun _ _ _ h => h) (Or.inl ⟨by rfl, ?_⟩) hHeld ?_
    rotate_left
    · (intro wx hSw; (try dsimp only at hSw); go_simp; try with_reducible rfl)
    simp only [List.setIfInBounds_toArray, List.set_cons_zero, List.set_cons_succ]
    refine takeW 5 22 ?_ rfl rfl (by kernel_rfl) (by kernel_rfl) (by kernel_rfl) (fun _ _ _ h => h) (Or.inl ⟨by rfl, ?_⟩) hHeld ?_
    rotate_left
    · (intro wx hSw; (try dsimp only at hSw); go_simp; try with_reducible rfl)
    simp only [List.setIfInBounds_toArray, List.set_cons_zero, List.set_cons_succ]
    refine wpAnyH_ready (rs := [4]) (by kernel_rfl) (by simp) ?_
    refine AllReadyH.cons rfl (fun K hK => ?_) AllReadyH.nil
    refine step_call1 wd ?_ 68 Tryd.f68 Tryd.func68 ?_ ?_ (.tmp 20) #[3] ?_ (.int .i64 0) ?_ _ (HC3.out wd) ?_
    · exact rfl
    · decide
    · exact Option.some_ne_none _
    · exact rfl
    · exact rfl
    rintro e wq ⟨rfl, rfl⟩
    refine ⟨_, rfl, ?_⟩
    refine hK.out (Act.put _ (some 21) _) _ hHeld (fun _ => ?_)
    clear hK K
    simp only [Act.put, List.setIfInBounds_toArray, List.set_cons_zero, List.set_cons_succ]
    refine wpAnyH_ready (rs := [6]) (by kernel_rfl) (by simp) ?_
    refine AllReadyH.cons rfl (fun K hK => ?_) AllReadyH.nil
    refine step_call1 wd ?_ 67 Tryd.f67 Tryd.func67 ?_ ?_ (.tmp 22) #[82] ?_ (.agg #[.int .i64 0, .int .i64 0, .int .i64 2, .slice none 0 0]) ?_ _ (HC2.out wd (HTb.out _ HBd.out)) ?_
    · exact rfl
    · decide
    · exact Option.some_ne_none _
    · exact rfl
    · exact rfl
    rintro e W ⟨rfl, hb⟩
    refine ⟨_, rfl, ?_⟩
    have hs4 := sep_below HSd.out hb
    have hb4 : Below w.heap.size w W := HBd.out.trans (hb.mono HBd.out.size)
    have hz4 : a0 ≤ W.heap.size := Nat.le_trans HZd.out hb.size
    have hS4 := HSw.out W (sep_get hs4 0 rfl) (sep_get hs4 1 rfl)
    refine hK.out (Act.put _ (some 23) _) _ hS4 (fun _ => ?_)
    clear hK K hb
    simp only [Act.put, List.setIfInBounds_toArray, List.set_cons_zero, List.set_cons_succ]
    refine takeW 7 16 ?_ rfl rfl (by kernel_rfl) (by kernel_rfl) (by kernel_rfl) (fun _ _ _ h => h) (Or.inl ⟨by rfl, ?_⟩) hS4 ?_
    rotate_left
    · (intro wx hSw; (try dsimp only at hSw); go_simp; try with_reducible rfl)
    simp only [List.setIfInBounds_toArray, List.set_cons_zero, List.set_cons_succ]
    refine takeW 8 24 ?_ rfl rfl (by kernel_rfl) (by kernel_rfl) (by kernel_rfl) (fun _ _ _ h => h) (Or.inl ⟨by rfl, ?_⟩) hS4 ?_
    rotate_left
    · (intro wx hSw; (try dsimp only at hSw); go_simp; try with_reducible rfl)
    simp only [List.setIfInBounds_toArray, List.set_cons_zero, List.set_cons_succ]
    refine takeW 9 25 ?_ rfl rfl (by kernel_rfl) (by kernel_rfl) (by kernel_rfl) (fun _ _ _ h => h) (Or.inl ⟨by rfl, ?_⟩) hS4 ?_
    rotate_left
    · (intro wx hSw; (try dsimp only at hSw); go_simp; try with_reducible rfl)
    simp only [List.setIfInBounds_toArray, List.set_cons_zero, List.set_cons_succ]
    have HS4 := hide hs4
    have HB4 := hide hb4
    have HZ4 := hide hz4
    clear hs4 hb4 hz4
    have hi0 : 0 < pL := by omega
    refine takeW 10 26 ?_ rfl rfl (by kernel_rfl) (by kernel_rfl) (by kernel_rfl) (fun _ _ _ h => h) (Or.inl ⟨by rfl, ?_⟩) hS4 ?_
    rotate_left
    · (intro wx hSw; (try dsimp only at hSw); go_simp; try with_reducible rfl)
    simp only [List.setIfInBounds_toArray, List.set_cons_zero, List.set_cons_succ]
    refine wpAnyH_ready (rs := [11]) (by kernel_rfl) (by simp) ?_
    refine AllReadyH.cons rfl (fun K hK => ?_) AllReadyH.nil
    have hsF := sep_rowset HS4.out 2 rfl 0 (.string tx) HZ4.out
    have hgw : w.heap.size ≤ b1 := by rw [← HA.out]; exact (sep_lt HS4.out 2 rfl b1 rfl).1
    have hbF := HB4.out.setCell (p := ⟨b1, 0, none⟩) hgw (.string tx)
    have hSF := HSw.out _ (sep_get hsF 0 rfl) (sep_get hsF 1 rfl)
    have hrow := sep_get HS4.out 2 rfl
    have hst : ∃ x, W.cell? ⟨b1, 0, none⟩ = some x ∧ W.frozen? ⟨b1, 0, none⟩ = false := ⟨_, (hrow.cellAt 0 (by omega)).trans (List.getElem?_eq_getElem (by rw [hrow.1]; omega)), hrow.frozenAt 0⟩
    obtain ⟨x0, hx0, hz0⟩ := hst
    have HSF := hide hsF
    have HBF := hide hbF
    clear hsF hbF hrow
    go_simp
    refine hK.out _ _ hSF (fun _ => ?_)
    clear hK K hx0 hz0 hS4 hHeld
    refine takeW 12 5 ?_ rfl rfl (by kernel_rfl) (by kernel_rfl) (by kernel_rfl) (fun _ _ _ h => h) (Or.inl ⟨by rfl, ?_⟩) hSF ?_
    rotate_left
    · (intro wx hSw; (try dsimp only at hSw); go_simp; try with_reducible rfl)
    simp only [List.setIfInBounds_toArray, List.set_cons_zero, List.set_cons_succ]
    refine wpAnyH_done (by kernel_rfl) ?_ _
    obtain ⟨wF, hwF⟩ : ∃ wx, wx = W.setCell ⟨b1, 0, none⟩ (.string tx) := ⟨_, rfl⟩
    rw [← hwF] at HSF HBF hSF ⊢
    clear hwF
    have u0 : wF.cell? ⟨g2, 0, none⟩ = some (.slice (some ⟨b1, 0, none⟩) pL c1) := (cell_at (sep_get HSF.out 1 rfl : wF.heap[g2]? = some (Obj.cells #[.slice (some ⟨b1, 0, none⟩) pL c1, .slice y1 0 d1] 60)) 0).1
    have u1 : wF.cell? ⟨g2, 1, none⟩ = some (.slice y1 0 d1) := (cell_at (sep_get HSF.out 1 rfl : wF.heap[g2]? = some (Obj.cells #[.slice (some ⟨b1, 0, none⟩) pL c1, .slice y1 0 d1] 60)) 1).1
    have r0 : wF.cell? ⟨a0, 0, none⟩ = some (.slice none 0 0) := (cell_at (sep_get HSF.out 4 rfl : wF.heap[a0]? = some (Obj.cells #[.slice none 0 0, .slice none 0 0] 60)) 0).1
    have r1 : wF.cell? ⟨a0, 1, none⟩ = some (.slice none 0 0) := (cell_at (sep_get HSF.out 4 rfl : wF.heap[a0]? = some (Obj.cells #[.slice none 0 0, .slice none 0 0] 60)) 1).1
    have z0 : wF.frozen? ⟨a0, 0, none⟩ = false := (cell_at (sep_get HSF.out 4 rfl : wF.heap[a0]? = some (Obj.cells #[.slice none 0 0, .slice none 0 0] 60)) 0).2
    have z1 : wF.frozen? ⟨a0, 1, none⟩ = false := (cell_at (sep_get HSF.out 4 rfl : wF.heap[a0]? = some (Obj.cells #[.slice none 0 0, .slice none 0 0] 60)) 1).2
    clear hSF
    go_wp2_with fail
    have HSf := hide (sep_store (sep_store HSF.out 4 rfl 0 (.slice (some ⟨b1, 0, none⟩) pL c1)) 4 rfl 1 (.slice y1 0 d1))
    have HBf := (HBF.out.setCell (p := ⟨a0, 0, none⟩) haw (.slice (some ⟨b1, 0, none⟩) pL c1)).setCell (p := ⟨a0, 1, none⟩) haw (.slice y1 0 d1)
    obtain ⟨wf, hwf⟩ : ∃ wf, wf = (wF.setCell ⟨a0, 0, none⟩ (.slice (some ⟨b1, 0, none⟩) pL c1)).setCell ⟨a0, 1, none⟩ (.slice y1 0 d1) := ⟨_, rfl⟩
    rw [← hwf] at HSf HBf ⊢
    have HRf : Hid (wf.rangeAt a0 0 (#[.slice (some ⟨b1, 0, none⟩) pL c1, .slice y1 0 d1] : Array Value).toList) := hide (range_all (sep_get HSf.out 4 rfl))
    refine bodyPost_ret (v := .tuple #[.agg #[.slice (some ⟨b1, 0, none⟩) pL c1, .slice y1 0 d1], .bool true]) (results_ct Tryd.results54 rfl rfl (run_agg HRf.out Tryd.underlying60 rfl Tryd.sizeDisk)) rfl ⟨_, rfl, ?_, HBf⟩
    rw [HFe.out]
    have h2 := sep_get HSf.out 2 rfl
    have h3 := sep_get HSf.out 3 rfl
    rw [HA.out] at h2 h3
    refine ⟨_, _, rfl, ?_, h3⟩
    rw [List.length_set, ← HL.out, ← strs_set]
    exact h2
open Go.RowKit
def pgRet : Option Int → Value
  | some n => .tuple #[.int .i64 n, .bool true]
  | none => .tuple #[.int .i64 0, .bool false]
set_option maxHeartbeats 8000000 in
set_option maxRecDepth 100000 in
theorem pagesIn_any (p : List (List UInt8)) (hp0 : 0 < p.length) (hpl : p.length ≤ 10) (hps : ∀ x ∈ p, x.length ≤ 600) (a : Option Addr) (c : Nat) (w : World) (hr : RowAt w 1 (.slice a p.length c) p.length (strVs p)) (hT : SumTab w) :
    Calls Tryd.prog 38 #[.slice a p.length c] w fun e w' => e = .returned (pgRet (pagesO p)) ∧ Below w.heap.size w w' := by
  obtain ⟨b, off, rfl, hc⟩ := rowat_get hr hp0
  have HC : Hid (∀ wx, Below w.heap.size w wx → ∀ j, j < p.length → wx.cell? ⟨b, off + j, none⟩ = some (.string (ba (p.getD j [])))) := hide (fun wx hb j hj => by
    rw [hc wx hb j hj, strVs, List.getElem?_map, List.getElem?_eq_getElem hj, List.getD_eq_getElem?_getD, List.getElem?_eq_getElem hj]
    rfl)
  have HTb : Hid (∀ wx, Below w.heap.size w wx → SumTab wx) := hide (fun wx h => sumTab_below hT h)
  have HPs := hide hps
  obtain ⟨m, hm⟩ : ∃ m, m = p.length := ⟨_, rfl⟩
  have HM := hide hm
  rw [← hm] at hpl hp0 HC ⊢
  obtain ⟨R, hR⟩ : ∃ y, y = pagesO p := ⟨_, rfl⟩
  have HRR := hide hR
  rw [← hR]
  clear hm hr hps hc hR hT
  have c0 : w.cell? ⟨b, off, none⟩ = some (.string (ba (p.getD 0 []))) := by have := HC.out w (Below.refl _ _) 0 hp0; rwa [Nat.add_zero] at this
  have hm0 : (0 : Int) < (m : Int) := by omega
  obtain ⟨X0, hX0⟩ : ∃ x, x = ba (p.getD 0 []) := ⟨_, rfl⟩
  rw [← hX0] at c0
  have hlit : (X0.toList == pgw) = decide (p.getD 0 [] = pgw) := by rw [hX0]; exact bl_lit _ _
  unfold pgw at hlit
  clear hX0
  go_enter Tryd.func38, Tryd.ntmps38
  by_cases hm2 : m = 2
  rotate_left
  · have hne : ((m : Int) != 2) = true := by simp; omega
    have HRe : Hid (R = none) := hide (by rw [HRR.out, pagesO, if_neg (fun h => hm2 (by rw [HM.out]; exact h.1))])
    clear hm2
    go_wp2_with fail
    go_ret2
    rw [HRe.out]
    exact ⟨rfl, Below.refl _ _⟩
  have hne : ((m : Int) != 2) = false := by simp; omega
  by_cases hw : p.getD 0 [] = [112, 97, 103, 101, 115]
  rotate_left
  · rw [decide_eq_false hw] at hlit
    have HRe : Hid (R = none) := hide (by rw [HRR.out, pagesO, if_neg (fun h => hw h.2)])
    clear hw
    go_wp2_with fail
    go_ret2
    rw [HRe.out]
    exact ⟨rfl, Below.refl _ _⟩
  rw [decide_eq_true hw] at hlit
  have HRu : Hid (R = (decO (p.getD 1 [])).bind fun n => if 4 ≤ n ∧ n ≤ 40 then some n else none) := hide (by rw [HRR.out, pagesO, if_pos ⟨by rw [← HM.out]; exact hm2, hw⟩])
  have hm1 : (1 : Int) < (m : Int) := by omega
  have c1 := HC.out w (Below.refl _ _) 1 (by omega)
  have hq1 : (p.getD 1 []).length ≤ 600 := by
    rw [List.getD_eq_getElem?_getD, List.getElem?_eq_getElem (show 1 < p.length by rw [← HM.out]; omega)]
    exact HPs.out _ (List.getElem_mem _)
  have HRd := hide (implReadDecimal_any (ba (p.getD 1 [])) (by rw [ba_size]; omega) w)
  obtain ⟨X1, hX1⟩ : ∃ x, x = ba (p.getD 1 []) := ⟨_, rfl⟩
  rw [← hX1] at c1 HRd
  have HX1 := hide hX1
  clear hw hm2 hX1 hq1
  go_wp2_with fail
  refine HRd.out.mono ?_
  rintro e w5 ⟨hy1, hno, hb⟩
  have HB5 := hide hb
  have HTb5 := hide (HTb.out w5 hb)
  clear hb
  by_cases hok : okD X1
  · obtain rfl := hy1 hok
    obtain ⟨V, hV⟩ : ∃ x : Int, x = ((valD X1 X1.size : Nat) : Int) := ⟨_, rfl⟩
    rw [← hV]
    have HD : Hid (decO (p.getD 1 []) = some V) := hide (by rw [hV, HX1.out]; exact dec_yes (by rw [← HX1.out]; exact hok))
    rw [HD.out] at HRu
    have HFm := hide (implFormat_any V w5 HTb5.out)
    obtain ⟨bb, hbb⟩ : ∃ y, y = decide (4 ≤ V ∧ V ≤ 40) := ⟨_, rfl⟩
    rw [← hbb] at HFm
    have HRv : Hid (R = if bb = true then some V else none) := hide (by rw [HRu.out, Option.bind_some, hbb]; simp)
    clear hy1 hno hok hV hbb
    go_wp2_with fail
    refine HFm.out.mono ?_
    rintro e w6 ⟨v6, rfl, ho, hb⟩
    obtain ⟨vp, vl, rfl, ho1, ho2⟩ := ho
    obtain ⟨ap, cp, rfl⟩ := own_slice ho1
    obtain ⟨al, cl, rfl⟩ := own_slice ho2
    have HB6 : Hid (∀ o, Below w.heap.size w (w6.alloc o)) := hide (fun o => by
      have h1 := HB5.out.trans (hb.mono HB5.out.size)
      exact h1.alloc h1.size o)
    clear ho1 ho2 hb
    cases bb with
    | false =>
      go_wp2_with fail
      go_ret2
      rw [HRv.out]
      exact ⟨rfl, HB6.out _⟩
    | true =>
      go_wp2_with fail
      go_ret2
      rw [HRv.out]
      exact ⟨rfl, HB6.out _⟩
  · obtain rfl := hno hok
    have HRe : Hid (R = none) := hide (by rw [HRu.out, dec_no (by rw [← HX1.out]; exact hok)]; rfl)
    have HFm := hide (implFormat_any 0 w5 HTb5.out)
    clear hy1 hno hok
    go_wp2_with fail
    refine HFm.out.mono ?_
    rintro e w6 ⟨v6, rfl, ho, hb⟩
    obtain ⟨vp, vl, rfl, ho1, ho2⟩ := ho
    obtain ⟨ap, cp, rfl⟩ := own_slice ho1
    obtain ⟨al, cl, rfl⟩ := own_slice ho2
    have HB6 : Hid (∀ o, Below w.heap.size w (w6.alloc o)) := hide (fun o => by
      have h1 := HB5.out.trans (hb.mono HB5.out.size)
      exact h1.alloc h1.size o)
    clear ho1 ho2 hb
    go_wp2_with fail
    go_ret2
    rw [HRe.out]
    exact ⟨rfl, HB6.out _⟩
end Go.Proofs.YtmmepgincbngeaaDoor
namespace Go.Proofs
open Go.Shelf
def Tryd.laysM157_ren : Go.Shelf.Ren := ⟨fun | 157 => 50 | 229 => 63 | 199 => 64 | 261 => 78 | 311 => 85 | 312 => 86 | n => n, fun | 9 => 9 | 31 => 50 | 3 => 3 | 5 => 5 | 4 => 4 | 119 => 105 | 0 => 0 | 40 => 107 | 152 => 115 | 21 => 21 | 154 => 117 | 51 => 113 | 141 => 119 | 196 => 128 | 193 => 125 | 198 => 131 | 49 => 129 | 194 => 126 | 201 => 134 | 226 => 137 | 46 => 104 | 227 => 138 | n => n, fun | 0 => 0 | 6 => 1 | n => n⟩
theorem Tryd.laysM157 : Go.Proofs.LaysM.n157 Tryd.prog Tryd.laysM157_ren := {
  mixed := by kernel_rfl
  f157 := Tryd.func50.trans (congrArg some (by kernel_rfl))
  f199 := Tryd.func64.trans (congrArg some (by kernel_rfl))
  f229 := Tryd.func63.trans (congrArg some (by kernel_rfl))
  f261 := Tryd.func78.trans (congrArg some (by kernel_rfl))
  f311 := Tryd.func85.trans (congrArg some (by kernel_rfl))
  f312 := Tryd.func86.trans (congrArg some (by kernel_rfl))
  t0 := Tryd.underlying0
  a0 := Tryd.isAgg0
  z0 := Tryd.sizeOf0
  v0 := Tryd.zeroValue0
  t3 := Tryd.underlying3
  a3 := Tryd.isAgg3
  z3 := Tryd.sizeOf3
  v3 := Tryd.zeroValue3
  t4 := Tryd.underlying4
  a4 := Tryd.isAgg4
  z4 := Tryd.sizeOf4
  v4 := Tryd.zeroValue4
  t5 := Tryd.underlying5
  a5 := Tryd.isAgg5
  z5 := Tryd.sizeOf5
  v5 := Tryd.zeroValue5
  t9 := Tryd.underlying9
  a9 := Tryd.isAgg9
  z9 := Tryd.sizeOf9
  v9 := Tryd.zeroValue9
  t21 := Tryd.underlying21
  a21 := Tryd.isAgg21
  z21 := Tryd.sizeOf21
  v21 := Tryd.zeroValue21
  t31 := Tryd.underlying50
  a31 := Tryd.isAgg50
  z31 := Tryd.sizeOf50
  v31 := Tryd.zeroValue50
  t40 := Tryd.underlying107
  a40 := Tryd.isAgg107
  z40 := Tryd.sizeOf107
  v40 := Tryd.zeroValue107
  t46 := Tryd.underlying104
  a46 := Tryd.isAgg104
  z46 := Tryd.sizeOf104
  v46 := Tryd.zeroValue104
  t49 := Tryd.underlying129
  a49 := Tryd.isAgg129
  z49 := Tryd.sizeOf129
  v49 := Tryd.zeroValue129
  t51 := Tryd.underlying113
  a51 := Tryd.isAgg113
  z51 := Tryd.sizeOf113
  v51 := Tryd.zeroValue113
  t119 := Tryd.underlying105
  a119 := Tryd.isAgg105
  z119 := Tryd.sizeOf105
  t141 := Tryd.underlying119
  a141 := Tryd.isAgg119
  z141 := Tryd.sizeOf119
  v141 := Tryd.zeroValue119
  t152 := Tryd.underlying115
  a152 := Tryd.isAgg115
  z152 := Tryd.sizeOf115
  v152 := Tryd.zeroValue115
  t154 := Tryd.underlying117
  a154 := Tryd.isAgg117
  z154 := Tryd.sizeOf117
  v154 := Tryd.zeroValue117
  t193 := Tryd.underlying125
  a193 := Tryd.isAgg125
  z193 := Tryd.sizeOf125
  v193 := Tryd.zeroValue125
  t194 := Tryd.underlying126
  a194 := Tryd.isAgg126
  z194 := Tryd.sizeOf126
  v194 := Tryd.zeroValue126
  t196 := Tryd.underlying128
  a196 := Tryd.isAgg128
  z196 := Tryd.sizeOf128
  v196 := Tryd.zeroValue128
  t198 := Tryd.underlying131
  a198 := Tryd.isAgg131
  z198 := Tryd.sizeOf131
  v198 := Tryd.zeroValue131
  t201 := Tryd.underlying134
  a201 := Tryd.isAgg134
  z201 := Tryd.sizeOf134
  v201 := Tryd.zeroValue134
  t226 := Tryd.underlying137
  a226 := Tryd.isAgg137
  z226 := Tryd.sizeOf137
  v226 := Tryd.zeroValue137
  t227 := Tryd.underlying138
  a227 := Tryd.isAgg138
  z227 := Tryd.sizeOf138
  v227 := Tryd.zeroValue138
  g0 := by kernel_rfl
  g6 := by kernel_rfl
  i0 := by kernel_rfl
  i3 := by kernel_rfl
  i4 := by kernel_rfl
  i5 := by kernel_rfl
  i9 := by kernel_rfl
  i21 := by kernel_rfl
  i31 := by kernel_rfl
  i40 := by kernel_rfl
  i46 := by kernel_rfl
  i49 := by kernel_rfl
  i51 := by kernel_rfl
  i141 := by kernel_rfl
  i152 := by kernel_rfl
  i154 := by kernel_rfl
  i193 := by kernel_rfl
  i194 := by kernel_rfl
  i196 := by kernel_rfl
  i198 := by kernel_rfl
  i201 := by kernel_rfl
  i226 := by kernel_rfl
  i227 := by kernel_rfl
  m0 := by kernel_rfl
  m6 := by kernel_rfl }
open Go.RowKit Go.Lib in
theorem Tryd.strings_Fields_laid (s : ByteArray) (w : World) (hs : s.size < 4294967281) (hascii : ∀ (j : Nat) b, s.data.toList[j]? = some b → b.toNat < 128) (htab : Lib.TabIs Tryd.prog w "strings.asciiSpace" .u8 Lib.asciiSpaceTab) :
    Calls Tryd.prog 50 #[.string s] w fun e w' =>
      e = .returned (.slice (some ⟨w.heap.size, 0, none⟩) (Lib.fields s.data.toList).length (Lib.fields s.data.toList).length) ∧ w' = w.alloc (.cells ((Lib.fields s.data.toList).map fun l => Value.string ⟨l.toArray⟩).toArray 9) := Any.strings_Fields_laid Tryd.laysM157 s w hs hascii htab
end Go.Proofs
namespace Go.Proofs.YtmmepgincbngeaaDoor
open Go.RowKit
set_option maxHeartbeats 1000000 in
set_option maxRecDepth 100000 in
theorem plainLine_any (s : ByteArray) (hs : s.size ≤ 1048576) (w : World) :
    Calls Tryd.prog 49 #[.string s] w fun e w' => e = .returned (.bool (plainB s)) ∧ w = w' := by
  go_enter Tryd.func49, Tryd.ntmps49
  go_wp2
  go_loopg [3] s.size (fun g iv wr => ∃ k : Nat, k ≤ s.size ∧ iv = .int .i64 (k : Int) ∧ g + k = s.size ∧ Hid (∀ i, i < k → 32 ≤ byt s i ∧ byt s i ≤ 126) ∧ w = wr)
  case atStart => exact ⟨0, Nat.zero_le _, rfl, rfl, hide (fun i h => by omega), rfl⟩
  case round =>
    obtain ⟨k, hk, rfl, hg, HA, rfl⟩ := hrel
    have HG := hide hg
    clear hg
    by_cases hlt : k < s.size
    · obtain ⟨y, hy⟩ : ∃ y, y = byt s k := ⟨_, rfl⟩
      have hyb : y < 256 := by rw [hy]; exact byt_lt s _
      have hs1 : s[k].toNat = y := by rw [hy]; exact byt_eq s _ hlt
      have HY := hide hy
      clear hy
      by_cases hpl : 32 ≤ y ∧ y ≤ 126
      · obtain ⟨hp1, hp2⟩ := hpl
        go_wp2
        go_roundg (gk - 1)
        case measure => have := HG.out; omega
        case rel => exact ⟨k + 1, by omega, by go_num, by have := HG.out; omega, hide (fun i h1 => by by_cases e : i = k; (rw [e, ← HY.out]; exact ⟨hp1, hp2⟩); exact HA.out i (by omega)), rfl⟩
      · have HP := hide (plainB_no s k hlt (by rw [← HY.out]; exact hpl))
        by_cases h1 : y < 32
        · clear hpl
          go_wp2
          go_ret
          rw [HP.out]
          exact ⟨rfl, rfl⟩
        · have h2 : 126 < y := by omega
          clear hpl
          go_wp2
          go_ret
          rw [HP.out]
          exact ⟨rfl, rfl⟩
    · have HP := hide (plainB_yes s (fun i hi => HA.out i (by omega)))
      go_wp2
      go_ret
      rw [HP.out]
      exact ⟨rfl, rfl⟩
theorem field_le : ∀ (l cur : List UInt8), ∀ x ∈ Lib.fieldsGo cur l, x.length ≤ cur.length + l.length
  | [], cur, x, h => by
    rw [Lib.fieldsGo] at h
    split at h
    · cases h
    · simp at h; subst h; simp
  | b :: l, cur, x, h => by
    rw [Lib.fieldsGo] at h
    split at h
    · split at h
      · have := field_le l [] x h; simp at this ⊢; omega
      · rcases List.mem_cons.1 h with rfl | h
        · simp
        · have := field_le l [] x h; simp at this ⊢; omega
    · have := field_le l (cur ++ [b]) x h; simp at this ⊢; omega
theorem field_count : ∀ (l cur : List UInt8), (Lib.fieldsGo cur l).length ≤ 1 + l.length
  | [], cur => by rw [Lib.fieldsGo]; split <;> simp
  | b :: l, cur => by
    rw [Lib.fieldsGo]
    split
    · split
      · have := field_count l []; simp; omega
      · have := field_count l []; simp; omega
    · have := field_count l (cur ++ [b]); simp; omega
theorem own_below {w w' : World} {B e sz n : Nat} {v : Value} {xs : List Value} (h : w.ownsRow B e sz v n xs) (hb : Below w.heap.size w w') : w'.ownsRow B e sz v n xs := by
  refine ⟨h.1, ?_⟩
  rcases h.2 with ⟨rfl, hn⟩ | ⟨g, cap, cur, rfl, hg, hh, rest⟩
  · exact Or.inl ⟨rfl, hn⟩
  · have hlt : g < w.heap.size := (h.lt g rfl).2
    exact Or.inr ⟨g, cap, cur, rfl, hg, (hb.block g hlt).trans hh, rest⟩
theorem set_sameP {α : Type} (l : List α) (k : Nat) (x : α) (h : l[k]? = some x) : l.set k x = l := by
  obtain ⟨hk, rfl⟩ := List.getElem?_eq_some_iff.1 h
  exact List.set_getElem_self hk
set_option maxHeartbeats 4000000 in
set_option maxRecDepth 100000 in
theorem implPartsOf_any (s : ByteArray) (hs : s.size ≤ 1048576) (w : World) (htab : Lib.TabIs Tryd.prog w "strings.asciiSpace" .u8 Lib.asciiSpaceTab) :
    Calls Tryd.prog 36 #[.string s] w fun e w' => ∃ v, e = .returned (.tuple #[v, .bool (partsOut s).2]) ∧ w'.ownsRow w.heap.size 9 1 v (partsOut s).1.length (strVs (partsOut s).1) ∧ Below w.heap.size w w' := by
  have HT := hide htab
  clear htab
  by_cases hbig : 600 < s.size
  · have HP : Hid (partsOut s = ([], false)) := hide (by rw [partsOut, if_neg (by omega)])
    have hq : decide ((600 : Int) < (s.size : Int)) = true := by simp; omega
    go_enter Tryd.func36, Tryd.ntmps36
    go_wp2
    go_ret2
    rw [HP.out]
    exact ⟨_, rfl, own_none w w.heap.size (Nat.le_refl _), (Below.refl _ _).alloc (Nat.le_refl _) _⟩
  · have hq : decide ((600 : Int) < (s.size : Int)) = false := by simp; omega
    by_cases hpl : plainB s = true
    · obtain ⟨L, hL⟩ : ∃ L, L = Lib.fields s.data.toList := ⟨_, rfl⟩
      have HC := hide (fun w htab => Tryd.strings_Fields_laid s w (by omega) (fun j b hj => by
        have hm := List.mem_of_getElem? hj
        rw [plainB, List.all_eq_true] at hpl
        have := of_decide_eq_true (hpl b hm)
        omega) htab)
      have HL : Hid (∀ x ∈ L, x.length ≤ 600) := hide (fun x hx => by
        rw [hL] at hx
        have := field_le s.data.toList [] x hx
        have e : s.data.toList.length = s.size := by rw [Array.length_toList]; rfl
        simp at this; omega)
      have hLn : L.length ≤ 601 := by
        rw [hL]
        have := field_count s.data.toList []
        have e : s.data.toList.length = s.size := by rw [Array.length_toList]; rfl
        unfold Lib.fields; omega
      rw [← hL] at HC
      have HLe := hide hL
      have HPl := hide hpl
      clear hL hpl
      go_enter Tryd.func36, Tryd.ntmps36
      go_wp2_with fail
      refine (plainLine_any s hs _).mono ?_
      rintro e w1 ⟨rfl, rfl⟩
      rw [HPl.out]
      go_wp2_with fail
      refine (HC.out _ HT.out).mono ?_
      rintro e w1 ⟨rfl, hw1⟩
      have hown1 : w1.ownsRow w.heap.size 9 1 (.slice (some ⟨w.heap.size, 0, none⟩) L.length L.length) L.length (strVs L) := by
        rw [hw1]
        have h := World.ownsRow_lit (base := w.heap.size) (e := 9) (size := 1) w (L.map fun l => Value.string ⟨l.toArray⟩).toArray L.length (Nat.le_refl _) (by unfold maxLen; omega) (by simp)
        rw [List.toList_toArray] at h
        exact h
      have hb1 : Below w.heap.size w w1 := by rw [hw1]; exact (Below.refl _ _).alloc (Nat.le_refl _) _
      clear hw1
      by_cases h10 : 10 < L.length
      · have HP : Hid (partsOut s = ([], false)) := hide (by rw [partsOut, if_neg (fun h => by have := h.2.2; rw [← HLe.out] at this; omega)])
        have hB := hb1.size
        go_wp2_with fail
        go_ret2
        rw [HP.out]
        exact ⟨_, rfl, own_none w1 w.heap.size hB, hb1.alloc hB _⟩
      · have HP : Hid (partsOut s = (L, true)) := hide (by rw [partsOut, if_pos ⟨by omega, HPl.out, by rw [← HLe.out]; omega⟩, ← HLe.out])
        go_wp2_with fail
        go_loopg [24] L.length (fun g iv wr => ∃ k : Nat, k ≤ L.length ∧ iv = .int .i64 (k : Int) ∧ g + k = L.length ∧ wr.ownsRow w.heap.size 9 1 (.slice (some ⟨w.heap.size, 0, none⟩) L.length L.length) L.length (strVs L) ∧ Below w.heap.size w wr)
        case atStart => exact ⟨0, Nat.zero_le _, rfl, rfl, hown1, hb1⟩
        case round =>
          obtain ⟨k, hk, rfl, hg, hown, hb⟩ := hrel
          have HG := hide hg
          clear hg hown1 hb1
          by_cases hlt : k < L.length
          · obtain ⟨x, hx⟩ : ∃ x : ByteArray, x = ⟨(L[k]).toArray⟩ := ⟨_, rfl⟩
            have hget : (strVs L)[k]? = some (.string x) := by rw [hx]; simp [strVs, strV, hlt]
            have hxs : x.size ≤ 600 := by
              have := HL.out L[k] (List.getElem_mem hlt)
              rw [hx]; simpa [ByteArray.size] using this
            have hcell : wr.cell? ⟨w.heap.size, k, none⟩ = some (.string x) := by rw [hown.cellAt k (by omega), hget]
            have HGet := hide hget
            have hk0 : (0 : Int) ≤ (k : Int) := by omega
            have hk1 : (k : Int) < (L.length : Int) := by omega
            clear hx hget
            go_wp2_with fail
            refine (clone_any x (by omega) _).mono ?_
            rintro e w2 ⟨rfl, hb2⟩
            have hown2 := own_below hown hb2
            have hfz : w2.frozen? ⟨w.heap.size, k, none⟩ = false := hown2.frozenAt k
            have hcell2 : w2.cell? ⟨w.heap.size, k, none⟩ = some (.string x) := by rw [hown2.cellAt k (by omega), HGet.out]
            have hb3 : Below w.heap.size w w2 := hb.trans (hb2.mono hb.size)
            clear hb2 hcell
            go_wp2_with fail
            go_roundg (gk - 1)
            case measure => have := HG.out; omega
            case rel => exact ⟨k + 1, by omega, by go_num, by have := HG.out; omega, by have h := (hown2.stored k (.string x)).1; rw [set_sameP _ _ _ HGet.out] at h; exact h, hb3.setCell (Nat.le_refl _) _⟩
          · go_wp2_with fail
            go_ret2
            rw [HP.out]
            exact ⟨_, rfl, hown, hb⟩
    · have HP : Hid (partsOut s = ([], false)) := hide (by rw [partsOut, if_neg (fun h => hpl h.2.1)])
      have HPl : Hid (plainB s = false) := hide (by rw [← Bool.not_eq_true]; exact hpl)
      clear hpl
      go_enter Tryd.func36, Tryd.ntmps36
      go_wp2_with fail
      refine (plainLine_any s hs _).mono ?_
      rintro e w1 ⟨rfl, rfl⟩
      rw [HPl.out]
      go_wp2_with fail
      go_ret2
      rw [HP.out]
      exact ⟨_, rfl, own_none w w.heap.size (Nat.le_refl _), (Below.refl _ _).alloc (Nat.le_refl _) _⟩
end Go.Proofs.YtmmepgincbngeaaDoor
namespace Go.Proofs
open Go.Shelf
def Tryd.lays99_ren : Go.Shelf.Ren := ⟨fun | 99 => 37 | 206 => 52 | n => n, fun | 9 => 9 | 4 => 4 | 3 => 3 | n => n, fun | n => n⟩
theorem Tryd.lays99 : Go.Proofs.Lays.n99 Tryd.prog Tryd.lays99_ren := {
  mixed := by kernel_rfl
  f99 := Tryd.func37.trans (congrArg some (by kernel_rfl))
  f206 := Tryd.func52.trans (congrArg some (by kernel_rfl))
  t3 := Tryd.underlying3
  a3 := Tryd.isAgg3
  z3 := Tryd.sizeOf3
  v3 := Tryd.zeroValue3
  t4 := Tryd.underlying4
  a4 := Tryd.isAgg4
  z4 := Tryd.sizeOf4
  v4 := Tryd.zeroValue4
  t9 := Tryd.underlying9
  a9 := Tryd.isAgg9
  z9 := Tryd.sizeOf9
  v9 := Tryd.zeroValue9 }
open Go.RowKit Go.Lib in
theorem Tryd.strings_HasPrefix (s p : ByteArray) (w : World) :
    Calls Tryd.prog 37 #[.string s, .string p] w fun e w' => e = .returned (.bool (Lib.hasPrefix s.data.toList p.data.toList)) ∧ w' = w := Any.strings_HasPrefix Tryd.lays99 s p w
end Go.Proofs
