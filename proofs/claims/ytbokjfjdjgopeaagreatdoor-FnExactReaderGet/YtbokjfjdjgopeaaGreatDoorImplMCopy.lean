/-
  impl.copyMeta by a contract: a meta's copy, in memory of its own (made by tools/implmcopy.py).
-/
import Derived.Test.YtbokjfjdjgopeaaGreatDoorRgF
import Derived.Test.YtbokjfjdjgopeaaGreatDoorRgG
import Derived.Test.YtbokjfjdjgopeaaGreatDoorRgD
import Derived.Deep.Cut
namespace Go.Proofs.YtbokjfjdjgopeaaGreatDoor
open Go.RowKit

theorem Tryz.freeInfoI : (Tryz.prog.info? 128).map (fun i => (i.zero, i.size, i.bytes)) = some (some (.agg #[.int .i64 0, .slice none 0 0]), 2, 32) := by kernel_rfl

theorem take_nextI {α : Type} (l : List α) (k : Nat) (x : α) (h : l[k]? = some x) : l.take (k + 1) = l.take k ++ [x] := by rw [List.take_add_one, h]; rfl

/-- a row of ints behind a row of our own, in a region that draws its order -/
theorem step_intRI {ops : Array Oper} {o : Oper} {a : Act} {K : Act → World → Prop} {Q : Exit → Act → World → Prop} {E : Prop} {B : Nat} {W : World} {l : List Ast} (h : Sep B W l) (i : Nat) {B' n : Nat} {v : Value} {xs : List Int} (hi : l[i]? = some (rowA B' 3 1 v n (ints xs))) (hBB : B ≤ B') (hBW : B ≤ W.heap.size) (hBW' : B' ≤ W.heap.size)
    (hgd : o.guard = none) (s x : Operand) (ho : o.op = .call { callee := .builtin .append, args := #[s, x], argTypes := #[30, 30] }) (hs : a.eval s = v) (u : Value) (m : Nat) (ys : List Int) (hx : a.eval x = u) (hrow : RowAt W 1 u m (ints ys)) (hn : n + m ≤ 3000000)
    (hK : ∀ y c w', Sep B w' (l.set i (rowA B' 3 1 (.slice y (n + m) c) (n + m) (ints (xs ++ ys)))) → Below B W w' → K (a.put o.dst (.slice y (n + m) c)) w') :
    if Region.wanted o (yielded ops a.tmps) = true then Oper.wp Tryz.prog o a W K Q else E := by
  have hw : Region.wanted o (yielded ops a.tmps) = true := by simp [Region.wanted, hgd]
  rw [if_pos hw]
  obtain ⟨i0, hinf, hz0, hz1, hz2⟩ := info_parts Tryz.infoIntC
  obtain ⟨y, c, w', hr, h2, h3, h4⟩ := run_append_sep (P := Tryz.prog) W 30 o.type B' 3 i0 (.int .i64 0) 1 8 Tryz.underlying30 hinf hz0 hz1 hz2 rfl (by decide) v n (ints xs) (sep_get h i hi) u m (ints ys) hrow (ints_one ys) (by unfold maxLen; omega) (by omega) hBW'
  obtain ⟨k1, k2⟩ := row_sep h i hi hBB hBW h3 h2 h4
  unfold Oper.wp execOp
  simp only [ho, resolve, invoke, builtin, Sem.run_bind, Sem.run_pure, Result.andThen_ok, List.map_toArray, List.map_cons, List.map_nil, hs, hx, hr]
  refine hK y c w' ?_ k2
  rw [show ints (xs ++ ys) = ints xs ++ ints ys from by simp [ints]]
  exact k1

/-- a free more, in a region that draws its order -/
theorem step_free1 {ops : Array Oper} {o : Oper} {a : Act} {K : Act → World → Prop} {Q : Exit → Act → World → Prop} {E : Prop} {B : Nat} {W : World} {l : List Ast} (h : Sep B W l) (i : Nat) {B' n : Nat} {v : Value} {xs : List (Int × Value)} (hi : l[i]? = some (rowA B' 128 2 v n (frs xs))) (hBB : B ≤ B') (hBW : B ≤ W.heap.size) (hBW' : B' ≤ W.heap.size)
    (hgd : o.guard = none) (s x : Operand) (ho : o.op = .call { callee := .builtin .append, args := #[s, x], argTypes := #[43, 43] }) (hs : a.eval s = v) (tx : Int) (u : Value) (hu : u.oneCell' = true) {H : Nat} (hH : H = W.heap.size) (hx : a.eval x = .slice (some ⟨H, 0, none⟩) 1 1) (hn : n ≤ 3000000)
    (hK : ∀ b c w', Sep B w' (l.set i (rowA B' 128 2 (.slice (some ⟨b, 0, none⟩) (n + 1) c) (n + 1) (frs (xs ++ [(tx, u)])))) → Below B W w' → K (a.put o.dst (.slice (some ⟨b, 0, none⟩) (n + 1) c)) w') :
    if Region.wanted o (yielded ops a.tmps) = true then Oper.wp Tryz.prog o a (W.alloc (Obj.cells #[.int .i64 tx, u] 128)) K Q else E := by
  obtain ⟨i0, hinf, hz0, hz1, hz2⟩ := info_parts Tryz.freeInfoI
  refine step_sep1 h i hi hBB hBW hBW' hgd s x 43 ho i0 (.agg #[.int .i64 0, .slice none 0 0]) 32 Tryz.underlying43 hinf hz0 hz1 hz2 rfl (by decide) hs #[.int .i64 tx, u] hH hx rfl (fun y hy => by simp at hy; rcases hy with rfl | rfl; rfl; exact hu) (by unfold maxLen; omega) (by omega) (fun b c w' k1 k2 => hK b c w' ?_ k2)
  rw [← frs_snocF]
  exact k1

set_option maxHeartbeats 16000000 in
set_option maxRecDepth 100000 in
theorem implMCopy_any (v : Value) (m : Mt) (hl : m.fs.length ≤ 1048576) (hs : ∀ f ∈ m.fs, f.2.length ≤ 1048576) (w : World) (hd : MetaAt w v m) :
    Calls Tryz.prog 62 #[v] w fun e w' => ∃ v', e = .returned v' ∧ MetaOwn w' w.heap.size v' m ∧ Below w.heap.size w w' := by
  obtain ⟨i1, hi1, hy0, hy1, hy2⟩ := info_parts Tryz.freeInfoI
  obtain ⟨vf, rfl, hfr⟩ := hd
  obtain ⟨aF, cF, hvf⟩ := frees_slice hfr
  subst hvf
  obtain ⟨L, hL⟩ : ∃ L, L = m.fs.length := ⟨_, rfl⟩
  rw [← hL] at hfr hl ⊢
  have HL := hide hL
  have HFr := hide hfr
  have HSs := hide hs
  obtain ⟨tx, htx⟩ : ∃ x, x = m.tx := ⟨_, rfl⟩
  obtain ⟨root, hro⟩ : ∃ x, x = m.root := ⟨_, rfl⟩
  obtain ⟨next, hne⟩ : ∃ x, x = m.next := ⟨_, rfl⟩
  rw [← htx, ← hro, ← hne]
  have HE := hide (⟨htx, hro, hne⟩ : _ ∧ _ ∧ _)
  clear hL hfr hs htx hro hne
  obtain ⟨a0, ha0⟩ : ∃ a, a = w.heap.size := ⟨_, rfl⟩
  have hS0 := sep_new (sep_new (sep_nil w.heap.size w) (Obj.cells #[.int .i64 tx, .int .i64 root, .int .i64 next, .slice aF L cF] 45) (Nat.le_refl _)) (Obj.cells #[.int .i64 0, .int .i64 0, .int .i64 0, .slice none 0 0] 45) (by simp)
  obtain ⟨w0, hw0⟩ : ∃ w0, w0 = (w.alloc (Obj.cells #[.int .i64 tx, .int .i64 root, .int .i64 next, .slice aF L cF] 45)).alloc (Obj.cells #[.int .i64 0, .int .i64 0, .int .i64 0, .slice none 0 0] 45) := ⟨_, rfl⟩
  rw [World.size_alloc, ← hw0, ← ha0] at hS0
  have HS0 := hide hS0
  have HB0 : Hid (Below w.heap.size w w0) := hide (by rw [hw0]; exact ((Below.refl w.heap.size w).alloc (Nat.le_refl _) _).alloc (by simp) _)
  have HZ0 : Hid (a0 ≤ w0.heap.size) := hide (by rw [hw0, ha0]; simp; omega)
  have HA := hide ha0
  have cb3 : w0.cell? ⟨a0, 3, none⟩ = some (.slice aF L cF) := (cell_at (sep_get HS0.out 1 rfl : w0.heap[a0]? = some (Obj.cells #[.int .i64 tx, .int .i64 root, .int .i64 next, .slice aF L cF] 45)) 3).1
  clear hS0 ha0
  go_enter Tryz.func62, Tryz.ntmps62
  go_upto_region 1 with fail
  rw [← hw0, ← HA.out]
  clear hw0
  go_wp2_with (at_make; refine wpList_make_own _ rfl _ _ 43 rfl a0 128 i1 (.agg #[.int .i64 0, .slice none 0 0]) 2 Tryz.underlying43 hi1 hy0 hy1 .i64 .i64 _ L rfl rfl rfl (by rw [hy2]; omega) (by unfold maxLen; omega) HZ0.out ?_)
  intro w1 hown1 hg1
  have hb1 : Below w0.heap.size w0 w1 := (Below.refl _ _).grown hg1 (Nat.le_refl _) (fun k hk => by cases hk)
  have hs1 : Sep a0 w1 [rowA a0 128 2 (.slice (some ⟨w0.heap.size, 0, none⟩) 0 L) 0 (frs []), innA a0 [] (m.fs.take 0), cellA (a0 + 1) (Obj.cells #[.int .i64 0, .int .i64 0, .int .i64 0, .slice none 0 0] 45), cellA a0 (Obj.cells #[.int .i64 tx, .int .i64 root, .int .i64 next, .slice aF L cF] 45)] :=
    sep_add (inn_nil a0 HS0.out) hb1 (rowA a0 128 2 (.slice (some ⟨w0.heap.size, 0, none⟩) 0 L) 0 (frs [])) hown1 (fun k hk => ⟨Nat.le_of_eq (by injection hk), (hown1.lt k hk).2⟩) HZ0.out
  obtain ⟨x0, hx0⟩ : ∃ x, x = some (⟨w0.heap.size, 0, none⟩ : Addr) := ⟨_, rfl⟩
  rw [← hx0] at hs1 ⊢
  have HS1 := hide hs1
  have HB1 : Hid (Below w.heap.size w w1) := hide (HB0.out.trans (hb1.mono HB0.out.size))
  have HZ1 : Hid (a0 ≤ w1.heap.size) := hide (Nat.le_trans HZ0.out hb1.size)
  have cb3 : w1.cell? ⟨a0, 3, none⟩ = some (.slice aF L cF) := (cell_at (sep_get HS1.out 3 rfl : w1.heap[a0]? = some (Obj.cells #[.int .i64 tx, .int .i64 root, .int .i64 next, .slice aF L cF] 45)) 3).1
  clear hown1 hg1 hb1 hs1 hx0
  go_wp2_with fail
  go_loopg [3, 13] L (fun q pv iv wr => ∃ (k : Nat) (xO : Option Addr) (cO : Nat) (l : List (Int × Value)), k ≤ L ∧ iv = .int .i64 (k : Int) ∧ q + k = L ∧ pv = .slice xO k cO ∧ Hid (Sep a0 wr [rowA a0 128 2 (.slice xO k cO) k (frs l), innA a0 l (m.fs.take k), cellA (a0 + 1) (Obj.cells #[.int .i64 0, .int .i64 0, .int .i64 0, .slice none 0 0] 45), cellA a0 (Obj.cells #[.int .i64 tx, .int .i64 root, .int .i64 next, .slice aF L cF] 45)]) ∧ Hid (Below w.heap.size w wr) ∧ Hid (a0 ≤ wr.heap.size))
  case atStart => exact ⟨0, x0, L, [], Nat.zero_le _, rfl, rfl, rfl, HS1, HB1, HZ1⟩
  case round =>
    obtain ⟨k, xO, cO, l, hk, rfl, hg, rfl, HS, HB, HZ⟩ := hrel
    have HG := hide hg
    clear hg cb3 HS1 HB1 HZ1
    by_cases hlt : k < L
    · obtain ⟨ftx, ps, hf⟩ : ∃ tx ps, m.fs[k]? = some (tx, ps) := ⟨_, _, List.getElem?_eq_getElem (by have := HL.out; omega)⟩
      obtain ⟨b, off, x, c, hae, hbl, hc0, hc1, hrow⟩ := frees_at HFr.out hf
      subst hae
      have hps : ps.length ≤ 1048576 := HSs.out _ (List.mem_of_getElem? hf)
      have HRow := hide hrow
      have HF := hide hf
      obtain ⟨pl, hpl⟩ : ∃ pl, pl = ps.length := ⟨_, rfl⟩
      have HPl := hide hpl
      rw [← hpl] at hc1 hps
      have e0 : wr.cell? ⟨b, off + k * 2, none⟩ = some (.int .i64 ftx) := by rw [HB.out.cell (by exact hbl)]; exact hc0
      have e1 : wr.cell? ⟨b, off + k * 2 + 1, none⟩ = some (.slice x pl c) := by rw [HB.out.cell (by exact hbl)]; exact hc1
      have hi0 : (0 : Int) ≤ (k : Int) := by omega
      have hi1' : (k : Int) < (L : Int) := by omega
      obtain ⟨gf, hgf⟩ : ∃ g, g = wr.heap.size := ⟨_, rfl⟩
      obtain ⟨w2, hw2⟩ : ∃ wx, wx = wr.alloc (Obj.cells #[.int .i64 ftx, .slice x pl c] 128) := ⟨_, rfl⟩
      have hs2 := sep_new HS.out (Obj.cells #[.int .i64 ftx, .slice x pl c] 128) HZ.out
      rw [← hw2, ← hgf] at hs2
      have hb2 : Below w.heap.size w w2 := by rw [hw2]; exact HB.out.alloc HB.out.size _
      have hz2 : a0 ≤ w2.heap.size := by rw [hw2]; have := HZ.out; simp; omega
      clear hf hrow hc0 hc1 hpl
      go_upto_region 5 with fail
      rw [← hgf, ← hw2]
      clear hgf hw2 e0 e1
      obtain ⟨wd, hwd⟩ : ∃ wd, wd = w2.drew := ⟨_, rfl⟩
      have HSd := hide (sep_drew hs2)
      have HBd := hide hb2.drew
      have HZd : Hid (a0 ≤ w2.drew.heap.size) := hide hz2
      rw [← hwd] at HSd HBd HZd
      clear hs2 hb2 hz2
      have HSw : Hid (∀ wx : World, wx.heap[gf]? = some (Obj.cells #[.int .i64 ftx, .slice x pl c] 128) → (fun wx => wx.cell? ⟨gf, 0, none⟩ = some (.int .i64 ftx) ∧ wx.cell? ⟨gf, 1, none⟩ = some (.slice x pl c)) wx) := hide (fun wx h => ⟨(cell_at h 0).1, (cell_at h 1).1⟩)
      have hHeld := HSw.out wd (sep_get HSd.out 0 rfl)
      refine wp_region_held_drew (S := fun wx => wx.cell? ⟨gf, 0, none⟩ = some (.int .i64 ftx) ∧ wx.cell? ⟨gf, 1, none⟩ = some (.slice x pl c)) (by kernel_rfl) (by rw [← hwd]; exact hHeld) (fun _ => ?_)
      rw [← hwd]
      clear hwd
      refine takeW 0 17 ?_ rfl rfl (by kernel_rfl) (by kernel_rfl) (by kernel_rfl) (fun _ _ _ h => h) (Or.inl ⟨by rfl, ?_⟩) hHeld ?_
      rotate_left
      · (intro wx hSw; (try dsimp only at hSw); go_simp; try with_reducible rfl)
      simp only [List.setIfInBounds_toArray, List.set_cons_zero, List.set_cons_succ]
      refine takeW 1 18 ?_ rfl rfl (by kernel_rfl) (by kernel_rfl) (by kernel_rfl) (fun _ _ _ h => h) (Or.inl ⟨by rfl, ?_⟩) hHeld ?_
      rotate_left
      · (intro wx hSw; (try dsimp only at hSw); go_simp; try with_reducible rfl)
      simp only [List.setIfInBounds_toArray, List.set_cons_zero, List.set_cons_succ]
      refine takeW 2 19 ?_ rfl rfl (by kernel_rfl) (by kernel_rfl) (by kernel_rfl) (fun _ _ _ h => h) (Or.inl ⟨by rfl, ?_⟩) hHeld ?_
      rotate_left
      · (intro wx hSw; (try dsimp only at hSw); go_simp; try with_reducible rfl)
      simp only [List.setIfInBounds_toArray, List.set_cons_zero, List.set_cons_succ]
      refine takeW 4 21 ?_ rfl rfl (by kernel_rfl) (by kernel_rfl) (by kernel_rfl) (fun _ _ _ h => h) (Or.inl ⟨by rfl, ?_⟩) hHeld ?_
      rotate_left
      · (intro wx hSw; (try dsimp only at hSw); go_simp; try with_reducible rfl)
      simp only [List.setIfInBounds_toArray, List.set_cons_zero, List.set_cons_succ]
      refine takeW 5 22 ?_ rfl rfl (by kernel_rfl) (by kernel_rfl) (by kernel_rfl) (fun _ _ _ h => h) (Or.inl ⟨by rfl, ?_⟩) hHeld ?_
      rotate_left
      · (intro wx hSw; (try dsimp only at hSw); go_simp; try with_reducible rfl)
      simp only [List.setIfInBounds_toArray, List.set_cons_zero, List.set_cons_succ]
      refine wpAnyH_ready (rs := [3]) (by kernel_rfl) (by simp) ?_
      refine AllReadyH.cons rfl (fun K hK => ?_) AllReadyH.nil
      have hs3 := sep_row0 (sep_new HSd.out (Obj.cells #[] 3) HZd.out)
      have hb3 := HBd.out.alloc HBd.out.size (Obj.cells #[] 3)
      have hz3 : a0 ≤ (wd.alloc (Obj.cells #[] 3)).heap.size := by have := HZd.out; simp; omega
      have hS3 := HSw.out (wd.alloc (Obj.cells #[] 3)) (sep_get hs3 1 rfl)
      go_simp
      refine hK.out _ _ hS3 (fun _ => ?_)
      clear hK K
      obtain ⟨w3, hw3⟩ : ∃ wx, wx = wd.alloc (Obj.cells #[] 3) := ⟨_, rfl⟩
      obtain ⟨g3, hg3⟩ : ∃ g, g = wd.heap.size := ⟨_, rfl⟩
      rw [← hw3] at hs3 hb3 hz3 hS3 ⊢
      rw [← hg3] at hs3 ⊢
      have HS3 := hide hs3
      have HB3 := hide hb3
      have HZ3 := hide hz3
      clear hs3 hb3 hz3 hw3 hg3
      refine wpAnyH_ready (rs := [6]) (by kernel_rfl) (by simp) ?_
      refine AllReadyH.cons rfl (fun K hK => ?_) AllReadyH.nil
      refine step_intRI (n := 0) (xs := []) HS3.out 0 rfl (Nat.le_refl a0) HZ3.out HZ3.out rfl (.tmp 20) (.tmp 22) rfl rfl (.slice x pl c) pl ps rfl (by rw [HPl.out]; exact row_below HRow.out HB3.out) (by omega) ?_
      intro y c4 w4 hs4 hb4
      rw [Nat.zero_add] at hs4 ⊢
      rw [List.nil_append] at hs4
      have HS4 := hide hs4
      have HB4 : Hid (Below w.heap.size w w4) := hide (HB3.out.trans (by rw [← HA.out]; exact hb4))
      have HZ4 : Hid (a0 ≤ w4.heap.size) := hide (Nat.le_trans HZ3.out hb4.size)
      have hS4 := HSw.out w4 (sep_get hs4 1 rfl)
      clear hs4 hb4
      refine hK.out (Act.put _ (some 23) _) _ hS4 (fun _ => ?_)
      clear hK K
      simp only [Act.put, List.setIfInBounds_toArray, List.set_cons_zero, List.set_cons_succ]
      refine takeW 7 24 ?_ rfl rfl (by kernel_rfl) (by kernel_rfl) (by kernel_rfl) (fun _ _ _ h => h) (Or.inl ⟨by rfl, ?_⟩) hS4 ?_
      rotate_left
      · (intro wx hSw; (try dsimp only at hSw); go_simp; try with_reducible rfl)
      simp only [List.setIfInBounds_toArray, List.set_cons_zero, List.set_cons_succ]
      refine wpAnyH_ready (rs := [8]) (by kernel_rfl) (by simp) ?_
      refine AllReadyH.cons rfl (fun K hK => ?_) AllReadyH.nil
      have hS5 := HSw.out (w4.alloc (Obj.cells #[.int .i64 ftx, .slice y pl c4] 128)) (sep_get (sep_alloc HS4.out _) 1 rfl)
      go_simp
      refine hK.out _ _ hS5 (fun _ => ?_)
      clear hK K
      refine wpAnyH_ready (rs := [9]) (by kernel_rfl) (by simp) ?_
      refine AllReadyH.cons rfl (fun K hK => ?_) AllReadyH.nil
      refine step_free1 HS4.out 2 rfl (Nat.le_refl a0) HZ4.out HZ4.out rfl (.tmp 17) (.tmp 25) rfl rfl ftx (.slice y pl c4) rfl rfl rfl (by omega) ?_
      intro b9 c9 W9 hs9 hb9
      have HS9 : Hid (Sep a0 W9 [rowA a0 128 2 (.slice (some ⟨b9, 0, none⟩) (k + 1) c9) (k + 1) (frs (l ++ [(ftx, Value.slice y pl c4)])), innA a0 (l ++ [(ftx, Value.slice y pl c4)]) (m.fs.take (k + 1)), cellA (a0 + 1) (Obj.cells #[.int .i64 0, .int .i64 0, .int .i64 0, .slice none 0 0] 45), cellA a0 (Obj.cells #[.int .i64 tx, .int .i64 root, .int .i64 next, .slice (some ⟨b, off, none⟩) L cF] 45)]) := hide (by
        rw [take_nextI m.fs k _ HF.out]
        have h := sep_pick (pre := [_, _, _, _, _, _]) (rest := []) hs9 [3, 0, 2, 4, 5] (by decide) [_, _, _, _, _] rfl
        exact sep_pick (pre := [_, _, _, _]) (rest := []) (inn_snoc ftx h) [1, 0, 2, 3] (by decide) [_, _, _, _] rfl)
      have HB9 : Hid (Below w.heap.size w W9) := hide (HB4.out.trans (by rw [← HA.out]; exact hb9))
      have HZ9 : Hid (a0 ≤ W9.heap.size) := hide (Nat.le_trans HZ4.out hb9.size)
      have hS9 := HSw.out W9 (sep_get hs9 1 rfl)
      clear hs9 hb9
      refine hK.out (Act.put _ (some 26) _) _ hS9 (fun _ => ?_)
      clear hK K
      simp only [Act.put, List.setIfInBounds_toArray, List.set_cons_zero, List.set_cons_succ]
      refine takeW 10 3 ?_ rfl rfl (by kernel_rfl) (by kernel_rfl) (by kernel_rfl) (fun _ _ _ h => h) (Or.inl ⟨by rfl, ?_⟩) hS9 ?_
      rotate_left
      · (intro wx hSw; (try dsimp only at hSw); go_simp; try with_reducible rfl)
      simp only [List.setIfInBounds_toArray, List.set_cons_zero, List.set_cons_succ]
      refine wpAnyH_done (by kernel_rfl) ?_ _
      clear hS9 hHeld hS3 hS4 hS5
      go_wp2_with fail
      go_roundg (gk - 1)
      case measure => have := HG.out; omega
      case rel => exact ⟨k + 1, some ⟨b9, 0, none⟩, c9, l ++ [(ftx, Value.slice y pl c4)], by omega, by go_num, by have := HG.out; omega, rfl, HS9, HB9, HZ9⟩
    · obtain rfl : k = L := by omega
      have HSL : Hid (Sep a0 wr [freesA a0 (.slice xO k cO) l m.fs, cellA (a0 + 1) (Obj.cells #[.int .i64 0, .int .i64 0, .int .i64 0, .slice none 0 0] 45), cellA a0 (Obj.cells #[.int .i64 tx, .int .i64 root, .int .i64 next, .slice aF k cF] 45)]) := hide (by
        have h := inn_frees HS.out
        rw [List.take_of_length_le (by rw [← HL.out]; exact Nat.le_refl _)] at h
        exact h)
      have x0 : wr.cell? ⟨a0, 0, none⟩ = some (.int .i64 tx) := (cell_at (sep_get HSL.out 2 rfl : wr.heap[a0]? = some (Obj.cells #[.int .i64 tx, .int .i64 root, .int .i64 next, .slice aF k cF] 45)) 0).1
      have x1 : wr.cell? ⟨a0, 1, none⟩ = some (.int .i64 root) := (cell_at (sep_get HSL.out 2 rfl : wr.heap[a0]? = some (Obj.cells #[.int .i64 tx, .int .i64 root, .int .i64 next, .slice aF k cF] 45)) 1).1
      have x2 : wr.cell? ⟨a0, 2, none⟩ = some (.int .i64 next) := (cell_at (sep_get HSL.out 2 rfl : wr.heap[a0]? = some (Obj.cells #[.int .i64 tx, .int .i64 root, .int .i64 next, .slice aF k cF] 45)) 2).1
      obtain ⟨y0, y1, y2, y3⟩ := blk4c (sep_get HSL.out 1 rfl : wr.heap[a0 + 1]? = some (Obj.cells #[.int .i64 0, .int .i64 0, .int .i64 0, .slice none 0 0] 45))
      obtain ⟨z0, z1, z2, z3⟩ := blk4z (sep_get HSL.out 1 rfl : wr.heap[a0 + 1]? = some (Obj.cells #[.int .i64 0, .int .i64 0, .int .i64 0, .slice none 0 0] 45))
      clear HS
      go_wp2_with fail
      have HS3 := hide (sep_store4 HSL.out 1 rfl (.int .i64 tx) (.int .i64 root) (.int .i64 next) (.slice xO k cO))
      have HB3 := hide (below_set4 (g := a0 + 1) HB.out (by have := HA.out; omega) (.int .i64 tx) (.int .i64 root) (.int .i64 next) (.slice xO k cO))
      clear y0 y1 y2 y3 z0 z1 z2 z3 x0 x1 x2
      obtain ⟨wf, hwf⟩ : ∃ wf, wf = set4 wr (a0 + 1) (.int .i64 tx) (.int .i64 root) (.int .i64 next) (.slice xO k cO) := ⟨_, rfl⟩
      rw [← hwf] at HS3 HB3
      rw [show (((wr.setCell ⟨a0 + 1, 0, none⟩ (.int .i64 tx)).setCell ⟨a0 + 1, 1, none⟩ (.int .i64 root)).setCell ⟨a0 + 1, 2, none⟩ (.int .i64 next)).setCell ⟨a0 + 1, 3, none⟩ (.slice xO k cO) = wf from hwf.symm]
      obtain ⟨y0, y1, y2, y3⟩ := blk4c (sep_get HS3.out 1 rfl : wf.heap[a0 + 1]? = some (Obj.cells #[.int .i64 tx, .int .i64 root, .int .i64 next, .slice xO k cO] 45))
      refine bodyPost_ret (v := .agg #[.int .i64 tx, .int .i64 root, .int .i64 next, .slice xO k cO]) (by simp [results, Tryz.results62, go_sem, y0, y1, y2, y3]) rfl ⟨_, rfl, ?_, HB3.out⟩
      refine ⟨.slice xO k cO, l, by rw [HE.out.1, HE.out.2.1, HE.out.2.2], ?_⟩
      have h := sep_get HS3.out 0 rfl
      rw [HA.out] at h
      exact h
end Go.Proofs.YtbokjfjdjgopeaaGreatDoor
