/-
  Draws of chapter 4 by contracts: l04AnySchema.
-/
import Derived.Test.YtjldcbnoomcloaaDrawThing2
namespace Go.Proofs.Ytjldcbnoomcloaa
open Go.RowKit

/-- few fields of short names -/
def SmallF (fs : List (ByteArray × Int)) : Prop := fs.length ≤ 6 ∧ ∀ f ∈ fs, f.1.size ≤ 5

theorem sch3_small (n : Nat) : (sch3.take n).length ≤ 3 ∧ ∀ f ∈ sch3.take n, f.1.size ≤ 4 := by
  refine ⟨by rw [List.length_take]; simp [sch3]; omega, fun f hf => ?_⟩
  have := List.mem_of_mem_take hf
  simp only [sch3, List.mem_cons, List.not_mem_nil, or_false] at this
  rcases this with rfl | rfl | rfl <;> decide

/-- an append to a row of our own that was laid behind w turns nothing that w had -/
theorem grown_own {w wr w1 : World} {g : Nat} {row : Option Nat} (h : w.grownBy wr (some g)) (ha : wr.grownBy w1 row) (hr : ∀ k, row = some k → w.heap.size ≤ k) : w.grownBy w1 (some g) :=
  ⟨ha.os.trans h.os, ha.tape.trans h.tape, ha.output.trans h.output, Nat.le_trans h.size ha.size, fun k hk hne =>
    (ha.block k (Nat.lt_of_lt_of_le hk h.size) (fun e => by have := hr k e.symm; omega)).trans (h.block k hk hne)⟩

def names4 : List ByteArray := [⟨#[]⟩, ⟨#[65]⟩, ⟨#[97, 98, 99, 100, 101]⟩, ⟨#[110, 97, 109, 101]⟩]

theorem names4_in {z : ByteArray} (h : z ∈ names4) : z.size ≤ 5 := by
  simp only [names4, List.mem_cons, List.not_mem_nil, or_false] at h
  rcases h with rfl | rfl | rfl | rfl <;> decide

set_option maxHeartbeats 2000000 in
set_option maxRecDepth 100000 in
theorem l04AnySchema_any (g B : Nat) (a : Option Addr) (len cap : Nat) (w : World) (hc : CurAt w g a len cap) (hd : CodeIn w B a len) (hB : B ≤ g) :
    Calls Try.prog 67 #[.pointer (some ⟨g, 0, none⟩)] w fun e w' => ∃ (v : Value) (fs : List (ByteArray × Int)), SmallF fs ∧ e = .returned v ∧ w'.ownsRow w.heap.size 48 2 v fs.length (flds fs) ∧ Drawn w w' g B a len cap := by
  obtain ⟨i0, hi, hz0, hz1, hz2⟩ := info_parts Try.infoFld
  have hgl := cur_lt hc
  obtain ⟨w0, hw0⟩ : ∃ w0, w0 = w.alloc (Obj.cells #[] 48) := ⟨_, rfl⟩
  have HG0 : Hid (w.grownBy w0 (some g)) := hide (by rw [hw0]; exact World.grownBy_alloc w _ _)
  have HC := hide (cur_grown hc (by rw [hw0]; exact World.grownBy_alloc w _ none : w.grownBy w0 none) (by simp))
  have HD := hide (code_grown hd HG0.out hB hgl)
  have HDw := hide hd
  have HOw : Hid (w0.ownsRow w.heap.size 48 2 (.slice (some ⟨w.heap.size, 0, none⟩) 0 0) ([] : List (ByteArray × Int)).length (flds [])) := hide (by rw [hw0]; exact own_flds0 w w.heap.size (Nat.le_refl _))
  clear hc hd
  go_enter Try.func67, Try.ntmps67
  go_wp2_with fail
  rw [← hw0]
  clear hw0
  refine (l04Schema_any g B a len cap _ HC.out HD.out hB).mono ?_
  rintro e w2 ⟨v, n, hn1, hn3, rfl, hown, h2⟩
  have HSm := hide (sch3_small n)
  have HLn : Hid ((sch3.take n).length = n) := hide (by rw [List.length_take]; simp [sch3]; omega)
  obtain ⟨fs, hfs⟩ : ∃ fs, fs = sch3.take n := ⟨_, rfl⟩
  rw [← hfs] at hown HSm HLn
  have hf3 := HSm.out.1
  have hf1 : 1 ≤ fs.length := by rw [HLn.out]; exact hn1
  have HRs := hide (row_of_own hown)
  have HO2 := hide (HOw.out.kept h2.2.1 (Or.inr (fun e => by have := (HOw.out.lt _ e).1; omega)))
  have HG2 : Hid (w.grownBy w2 (some g)) := hide (grown_trans HG0.out h2.2.1)
  have HCu2 := hide h2.1
  have hs2 := HG2.out.size
  clear hown h2 hfs HLn hn1 hn3
  go_wp2_with (at_builtin; (refine wpList_append_row _ rfl _ _ 24 rfl w.heap.size 48 i0 (.agg #[.string ⟨#[]⟩, .int .i64 0]) 2 24 Try.underlying24 hi hz0 hz1 hz2 rfl (by decide) _ _ _ rfl HO2.out _ fs.length (flds fs) rfl HRs.out (flds_one _) ?_ ?_ ?_ ?_))
  · unfold maxLen; simp; omega
  · simp; omega
  · omega
  intro y3 d3 w3 hown3 hg3
  have hown4 : w3.ownsRow w.heap.size 48 2 (.slice y3 fs.length d3) fs.length (flds fs) := by simpa [flds] using hown3
  have HG3 : Hid (w.grownBy w3 (some g)) := hide (grown_own HG2.out hg3 (fun k hk => (HO2.out.lt k hk).1))
  have HCu3 : Hid (CurAt w3 g a len cap) := hide (cur_grown HCu2.out hg3 (fun e => by have := (HO2.out.lt g e.symm).1; omega))
  have HD3 : Hid (CodeIn w3 B a len) := hide (code_grown HDw.out HG3.out hB hgl)
  have HO4 := hide hown4
  clear hown3 hg3 hown4
  go_wp2_with fail
  refine (l01Below_any g B a len cap 8 (by omega) (by omega) _ HCu3.out HD3.out hB).mono ?_
  rintro e w4 ⟨x, hx, rfl, h4⟩
  have hown4 := HO4.out.kept h4.2.1 (Or.inr (fun e => by have := (HO4.out.lt _ e).1; omega))
  have HO5 := hide hown4
  have HG4 : Hid (w.grownBy w4 (some g)) := hide (grown_trans HG3.out h4.2.1)
  have HCu4 := hide h4.1
  have HD4 := hide h4.2.2
  have hs4 := HG4.out.size
  have HSm2 : Hid (SmallF fs) := hide ⟨by omega, fun f hf => Nat.le_succ_of_le (HSm.out.2 f hf)⟩
  obtain ⟨f, l, hfl⟩ : ∃ f l, fs = f :: l := by
    cases fs with
    | nil => simp at hf1
    | cons f l => exact ⟨f, l, rfl⟩
  obtain ⟨b3, hy3⟩ : ∃ b3, y3 = some ⟨b3, 0, none⟩ := by
    rcases hown4.2 with ⟨e1, e2⟩ | ⟨b3, cc, cur, e, -⟩
    · omega
    · injection e with e1 e2 e3; exact ⟨b3, e1⟩
  have HFl := hide hfl
  clear h4 hown4 hfl
  subst hy3
  by_cases h0 : x = 0
  · subst h0
    go_wp2_with fail
    refine (pick_strs g B a len cap names4 4 rfl (by omega) (by omega) w4 w4.heap.size rfl HCu4.out HD4.out hB _ rfl).mono ?_
    rintro e w5 ⟨z, hz, rfl, h5⟩
    have HZ := hide (names4_in hz)
    clear hz
    have hown5 := HO5.out.kept h5.2.1 (Or.inr (fun e => by have := (HO5.out.lt _ e).1; omega))
    have hst := hown5.stored 0 (.string z)
    have hown6 : (w5.setCell ⟨b3, 0, none⟩ (.string z)).ownsRow w.heap.size 48 2 (.slice (some ⟨b3, 0, none⟩) fs.length d3) ((z, f.2) :: l).length (flds ((z, f.2) :: l)) := own_n hst.1 (by rw [HFl.out]; rfl) (by rw [HFl.out]; rfl)
    have HO6 := hide hown6
    have HG5 : Hid (w.grownBy w5 (some g)) := hide (grown_trans HG4.out h5.2.1)
    have HG6 : Hid (w.grownBy (w5.setCell ⟨b3, 0, none⟩ (.string z)) (some g)) := hide (grown_own HG5.out hst.2 (fun k hk => (HO5.out.lt k hk).1))
    have HCu6 : Hid (CurAt (w5.setCell ⟨b3, 0, none⟩ (.string z)) g a len cap) := hide (cur_grown h5.1 hst.2 (fun e => by have := (HO5.out.lt g e.symm).1; omega))
    have c0 : w5.cell? ⟨b3, 0, none⟩ = some (.string f.1) := by rw [hown5.cellAt 0 (by omega), HFl.out]; rfl
    have c1 : w5.cell? ⟨b3, 1, none⟩ = some (.int .i64 f.2) := by rw [hown5.cellAt 1 (by omega), HFl.out]; rfl
    have k0 := hown5.frozenAt 0
    have hl1 : (0 : Int) < (fs.length : Int) := by omega
    have HSm3 : Hid (SmallF ((z, f.2) :: l)) := hide ⟨by have h := HSm2.out.1; rw [HFl.out] at h; exact h, fun q hq => by
      rcases List.mem_cons.1 hq with rfl | hq
      · exact HZ.out
      · exact HSm2.out.2 q (by rw [HFl.out]; exact List.mem_cons_of_mem _ hq)⟩
    clear h5 hown5 hst hown6
    go_wp2_with fail
    go_ret
    exact ⟨_, (z, f.2) :: l, HSm3.out, rfl, HO6.out, HCu6.out, HG6.out, code_grown HDw.out HG6.out hB hgl⟩
  · have n0 : ((0 : Int) == (x : Int)) = false := by rw [beq_eq_false_iff_ne]; omega
    by_cases h1 : x = 1
    · subst h1
      go_wp2_with fail
      refine (l01Below_any g B a len cap 4 (by omega) (by omega) _ HCu4.out HD4.out hB).mono ?_
      rintro e w5 ⟨z, hz, rfl, h5⟩
      have hown5 := HO5.out.kept h5.2.1 (Or.inr (fun e => by have := (HO5.out.lt _ e).1; omega))
      have hst := hown5.stored 1 (.int .i64 (z : Int))
      have hown6 : (w5.setCell ⟨b3, 1, none⟩ (.int .i64 (z : Int))).ownsRow w.heap.size 48 2 (.slice (some ⟨b3, 0, none⟩) fs.length d3) ((f.1, (z : Int)) :: l).length (flds ((f.1, (z : Int)) :: l)) := own_n hst.1 (by rw [HFl.out]; rfl) (by rw [HFl.out]; rfl)
      have HO6 := hide hown6
      have HG5 : Hid (w.grownBy w5 (some g)) := hide (grown_trans HG4.out h5.2.1)
      have HG6 : Hid (w.grownBy (w5.setCell ⟨b3, 1, none⟩ (.int .i64 (z : Int))) (some g)) := hide (grown_own HG5.out hst.2 (fun k hk => (HO5.out.lt k hk).1))
      have HCu6 : Hid (CurAt (w5.setCell ⟨b3, 1, none⟩ (.int .i64 (z : Int))) g a len cap) := hide (cur_grown h5.1 hst.2 (fun e => by have := (HO5.out.lt g e.symm).1; omega))
      have c0 : w5.cell? ⟨b3, 0, none⟩ = some (.string f.1) := by rw [hown5.cellAt 0 (by omega), HFl.out]; rfl
      have c1 : w5.cell? ⟨b3, 1, none⟩ = some (.int .i64 f.2) := by rw [hown5.cellAt 1 (by omega), HFl.out]; rfl
      have k0 := hown5.frozenAt 1
      have hl1 : (0 : Int) < (fs.length : Int) := by omega
      have HSm3 : Hid (SmallF ((f.1, (z : Int)) :: l)) := hide ⟨by have h := HSm2.out.1; rw [HFl.out] at h; exact h, fun q hq => by
        rcases List.mem_cons.1 hq with rfl | hq
        · exact HSm2.out.2 f (by rw [HFl.out]; exact List.mem_cons_self ..)
        · exact HSm2.out.2 q (by rw [HFl.out]; exact List.mem_cons_of_mem _ hq)⟩
      clear h5 hown5 hst hown6
      go_wp2_with fail
      go_ret
      exact ⟨_, (f.1, (z : Int)) :: l, HSm3.out, rfl, HO6.out, HCu6.out, HG6.out, code_grown HDw.out HG6.out hB hgl⟩
    · have n1 : ((1 : Int) == (x : Int)) = false := by rw [beq_eq_false_iff_ne]; omega
      by_cases h2 : x = 2
      · subst h2
        go_wp2_with (at_builtin; (refine wpList_append_row _ rfl _ _ 24 rfl w.heap.size 48 i0 (.agg #[.string ⟨#[]⟩, .int .i64 0]) 2 24 Try.underlying24 hi hz0 hz1 hz2 rfl (by decide) _ _ _ rfl HO5.out _ fs.length (flds fs) rfl (row_of_own HO5.out) (flds_one _) ?_ ?_ ?_ ?_))
        · unfold maxLen; omega
        · omega
        · omega
        intro y6 d6 w6 hown6 hg6
        have HG6 : Hid (w.grownBy w6 (some g)) := hide (grown_own HG4.out hg6 (fun k hk => (HO5.out.lt k hk).1))
        have HCu6 : Hid (CurAt w6 g a len cap) := hide (cur_grown HCu4.out hg6 (fun e => by have := (HO5.out.lt g e.symm).1; omega))
        have hown7 : w6.ownsRow w.heap.size 48 2 (.slice y6 (fs.length + fs.length) d6) (fs ++ fs).length (flds (fs ++ fs)) := by
          have e : flds (fs ++ fs) = flds fs ++ flds fs := by simp [flds]
          rw [e, List.length_append]
          exact hown6
        have HO7 := hide hown7
        clear hown6 hg6 hown7
        go_wp2_with fail
        go_ret
        exact ⟨_, fs ++ fs, ⟨by rw [List.length_append]; omega, fun f hf => by rcases List.mem_append.1 hf with h | h <;> exact HSm2.out.2 f h⟩, rfl, HO7.out, HCu6.out, HG6.out, code_grown HDw.out HG6.out hB hgl⟩
      · have n2 : ((2 : Int) == (x : Int)) = false := by rw [beq_eq_false_iff_ne]; omega
        by_cases h3 : x = 3
        · subst h3
          go_wp2_with fail
          go_ret
          exact ⟨_, [], ⟨by simp, fun f hf => by simp at hf⟩, rfl, own_flds0 w4 w.heap.size hs4, cur_grown HCu4.out (World.grownBy_alloc w4 _ none) (by simp), grown_alloc HG4.out _, code_grown HDw.out (grown_alloc HG4.out _) hB hgl⟩
        · have n3 : ((3 : Int) == (x : Int)) = false := by rw [beq_eq_false_iff_ne]; omega
          go_wp2_with fail
          go_ret
          exact ⟨_, fs, HSm2.out, rfl, HO5.out, HCu4.out, HG4.out, HD4.out⟩
end Go.Proofs.Ytjldcbnoomcloaa
