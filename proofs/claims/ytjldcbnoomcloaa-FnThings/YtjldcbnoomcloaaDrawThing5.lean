/-
  Draws of chapter 4 by contracts: l04AnyThing.
-/
import Derived.Test.YtjldcbnoomcloaaDrawThing3
import Derived.Test.YtjldcbnoomcloaaDrawThing4
namespace Go.Proofs.Ytjldcbnoomcloaa
open Go.RowKit

/-- few values of short texts -/
def SmallV (vs : List (Int × ByteArray)) : Prop := vs.length ≤ 6 ∧ ∀ f ∈ vs, f.2.size ≤ 7

theorem drawnVs_small {fs : List (ByteArray × Int)} {vs : List (Int × ByteArray)} (h : DrawnVs fs vs) (hl : vs.length = fs.length) (hf : fs.length ≤ 6) : SmallV vs := ⟨by omega, fun f hf' => by
  obtain ⟨i, hi, rfl⟩ := List.getElem_of_mem hf'
  exact Nat.le_succ_of_le (h i hi (by omega)).1⟩

def texts3 : List ByteArray := [⟨#[120]⟩, ⟨#[97, 98, 99, 100, 101, 102, 103]⟩, ⟨#[0]⟩]

theorem texts3_in {z : ByteArray} (h : z ∈ texts3) : z.size ≤ 7 := by
  simp only [texts3, List.mem_cons, List.not_mem_nil, or_false] at h
  rcases h with rfl | rfl | rfl <;> decide

theorem row_tail {w : World} {b n cap : Nat} {f : Int × ByteArray} {l : List (Int × ByteArray)} {B : Nat} (h : w.ownsRow B 50 2 (.slice (some ⟨b, 0, none⟩) n cap) n (puts (f :: l))) (hn : n = l.length + 1) (x : Option Addr) (c : Nat) (hx : l.length = 0 ∨ x = some ⟨b, 2, none⟩) : RowAt w 2 (.slice x l.length c) l.length (puts l) := by
  refine ⟨puts_length l, _, _, rfl, ?_⟩
  rcases hx with h0 | rfl
  · exact Or.inl h0
  · by_cases h0 : l.length = 0
    · exact Or.inl h0
    · refine Or.inr ⟨b, 2, rfl, (h.lt b rfl).2, fun j hj => ?_⟩
      rw [h.cellAt (2 + j) (by omega), puts_cons]
      rw [show 2 + j = j + 1 + 1 from by omega, List.getElem?_cons_succ, List.getElem?_cons_succ]

set_option maxHeartbeats 2000000 in
set_option maxRecDepth 100000 in
theorem l04AnyThing_any (g B : Nat) (a : Option Addr) (len cap : Nat) (fs : List (ByteArray × Int)) (hfl : fs.length ≤ 6) (v : Value) (w : World) (hc : CurAt w g a len cap) (hd : CodeIn w B a len) (hB : B ≤ g) (hr : RowAt w 2 v fs.length (flds fs)) (hne : fs.length = 0 ∨ v.ownBlock ≠ some g) :
    Calls Try.prog 105 #[.pointer (some ⟨g, 0, none⟩), v] w fun e w' => ∃ (u : Value) (vs : List (Int × ByteArray)), SmallV vs ∧ e = .returned u ∧ RowAt w' 2 u vs.length (puts vs) ∧ Drawn w w' g B a len cap := by
  have hgl := cur_lt hc
  have HDw := hide hd
  have HT := hide (l04Thing_any g B a len cap fs hfl v w hc hd hB hr hne)
  obtain ⟨fa, fcap, rfl⟩ : ∃ fa fcap, v = .slice fa fs.length fcap := by obtain ⟨-, fa, fcap, e, -⟩ := hr; exact ⟨fa, fcap, e⟩
  clear hc hd hr hne
  go_enter Try.func105, Try.ntmps105
  go_wp2_with fail
  refine HT.out.mono ?_
  rintro e w1 ⟨u, vs, hvl, hdv, rfl, hown, h1⟩
  have HSm := hide (drawnVs_small hdv hvl hfl)
  have HO1 := hide hown
  have HG1 := hide h1.2.1
  have HCu1 := hide h1.1
  have HD1 := hide h1.2.2
  have hs1 := h1.2.1.size
  have hv6 := HSm.out.1
  obtain ⟨oa, ocap, hov⟩ : ∃ a cap, u = .slice a vs.length cap := by obtain ⟨-, a, cap, e, -⟩ := row_of_own hown; exact ⟨a, cap, e⟩
  subst hov
  clear h1 hown hdv hvl
  by_cases hl1 : vs.length = 0
  · have dz : ((vs.length : Int) == 0) = true := by rw [hl1]; rfl
    have HL := hide hl1
    clear hl1
    go_wp2_with fail
    go_ret
    exact ⟨_, vs, HSm.out, rfl, row_of_own HO1.out, HCu1.out, HG1.out, HD1.out⟩
  · obtain ⟨f, l, hvs⟩ : ∃ f l, vs = f :: l := by
      cases vs with
      | nil => simp at hl1
      | cons f l => exact ⟨f, l, rfl⟩
    have HFl := hide hvs
    have hoc : vs.length ≤ ocap := by
      rcases HO1.out.2 with ⟨e1, e2⟩ | ⟨b3, cc, cur, e, -, -, h3, -⟩
      · omega
      · injection e with e1 e2 e3; omega
    have hl1 : 1 ≤ vs.length := by omega
    have dz : ((vs.length : Int) == 0) = false := by rw [beq_eq_false_iff_ne]; omega
    obtain ⟨b3, hy3⟩ : ∃ b3, oa = some ⟨b3, 0, none⟩ := by
      rcases HO1.out.2 with ⟨e1, e2⟩ | ⟨b3, cc, cur, e, -⟩
      · omega
      · injection e with e1 e2 e3; exact ⟨b3, e1⟩
    subst hy3
    clear hvs
    go_wp2_with fail
    refine (l01Below_any g B a len cap 8 (by omega) (by omega) _ HCu1.out HD1.out hB).mono ?_
    rintro e w4 ⟨x, hx, rfl, h4⟩
    have hown4 := HO1.out.kept h4.2.1 (Or.inr (fun e => by have := (HO1.out.lt _ e).1; omega))
    have HO5 := hide hown4
    have HG4 : Hid (w.grownBy w4 (some g)) := hide (grown_trans HG1.out h4.2.1)
    have HCu4 := hide h4.1
    have HD4 := hide h4.2.2
    have hs4 := HG4.out.size
    clear h4 hown4 dz
    by_cases h0 : x = 0
    · subst h0
      go_wp2_with fail
      refine (pick_ints g B a len cap [-1, 1000000, 5] 3 rfl (by omega) (by omega) w4 w4.heap.size rfl HCu4.out HD4.out hB _ rfl).mono ?_
      rintro e w5 ⟨z, hz, rfl, h5⟩
      clear hz
      have hown5 := HO5.out.kept h5.2.1 (Or.inr (fun e => by have := (HO5.out.lt _ e).1; omega))
      have hst := hown5.stored 0 (.int .i64 z)
      have hown6 : (w5.setCell ⟨b3, 0, none⟩ (.int .i64 z)).ownsRow w.heap.size 50 2 (.slice (some ⟨b3, 0, none⟩) vs.length ocap) ((z, f.2) :: l).length (puts ((z, f.2) :: l)) := own_n hst.1 (by rw [HFl.out]; rfl) (by rw [HFl.out]; rfl)
      have HO6 := hide hown6
      have HG5 : Hid (w.grownBy w5 (some g)) := hide (grown_trans HG4.out h5.2.1)
      have HG6 : Hid (w.grownBy (w5.setCell ⟨b3, 0, none⟩ (.int .i64 z)) (some g)) := hide (grown_own HG5.out hst.2 (fun k hk => (HO5.out.lt k hk).1))
      have HCu6 : Hid (CurAt (w5.setCell ⟨b3, 0, none⟩ (.int .i64 z)) g a len cap) := hide (cur_grown h5.1 hst.2 (fun e => by have := (HO5.out.lt g e.symm).1; omega))
      have c0 : w5.cell? ⟨b3, 0, none⟩ = some (.int .i64 f.1) := by rw [hown5.cellAt 0 (by omega), HFl.out]; rfl
      have c1 : w5.cell? ⟨b3, 1, none⟩ = some (.string f.2) := by rw [hown5.cellAt 1 (by omega), HFl.out]; rfl
      have k0 := hown5.frozenAt 0
      have hl2 : (0 : Int) < (vs.length : Int) := by omega
      have HSm3 : Hid (SmallV ((z, f.2) :: l)) := hide ⟨by have h := HSm.out.1; rw [HFl.out] at h; exact h, fun q hq => by
        rcases List.mem_cons.1 hq with rfl | hq
        · exact HSm.out.2 f (by rw [HFl.out]; exact List.mem_cons_self ..)
        · exact HSm.out.2 q (by rw [HFl.out]; exact List.mem_cons_of_mem _ hq)⟩
      clear h5 hown5 hst hown6
      go_wp2_with fail
      go_ret
      exact ⟨_, (z, f.2) :: l, HSm3.out, rfl, row_of_own HO6.out, HCu6.out, HG6.out, code_grown HDw.out HG6.out hB hgl⟩
    · have n0 : ((0 : Int) == (x : Int)) = false := by rw [beq_eq_false_iff_ne]; omega
      by_cases h1 : x = 1
      · subst h1
        go_wp2_with fail
        refine (pick_strs g B a len cap texts3 3 rfl (by omega) (by omega) w4 w4.heap.size rfl HCu4.out HD4.out hB _ rfl).mono ?_
        rintro e w5 ⟨z, hz, rfl, h5⟩
        have HZ := hide (texts3_in hz)
        clear hz
        have hown5 := HO5.out.kept h5.2.1 (Or.inr (fun e => by have := (HO5.out.lt _ e).1; omega))
        have hst := hown5.stored 1 (.string z)
        have hown6 : (w5.setCell ⟨b3, 1, none⟩ (.string z)).ownsRow w.heap.size 50 2 (.slice (some ⟨b3, 0, none⟩) vs.length ocap) ((f.1, z) :: l).length (puts ((f.1, z) :: l)) := own_n hst.1 (by rw [HFl.out]; rfl) (by rw [HFl.out]; rfl)
        have HO6 := hide hown6
        have HG5 : Hid (w.grownBy w5 (some g)) := hide (grown_trans HG4.out h5.2.1)
        have HG6 : Hid (w.grownBy (w5.setCell ⟨b3, 1, none⟩ (.string z)) (some g)) := hide (grown_own HG5.out hst.2 (fun k hk => (HO5.out.lt k hk).1))
        have HCu6 : Hid (CurAt (w5.setCell ⟨b3, 1, none⟩ (.string z)) g a len cap) := hide (cur_grown h5.1 hst.2 (fun e => by have := (HO5.out.lt g e.symm).1; omega))
        have c0 : w5.cell? ⟨b3, 0, none⟩ = some (.int .i64 f.1) := by rw [hown5.cellAt 0 (by omega), HFl.out]; rfl
        have c1 : w5.cell? ⟨b3, 1, none⟩ = some (.string f.2) := by rw [hown5.cellAt 1 (by omega), HFl.out]; rfl
        have k0 := hown5.frozenAt 1
        have hl2 : (0 : Int) < (vs.length : Int) := by omega
        have HSm3 : Hid (SmallV ((f.1, z) :: l)) := hide ⟨by have h := HSm.out.1; rw [HFl.out] at h; exact h, fun q hq => by
          rcases List.mem_cons.1 hq with rfl | hq
          · exact HZ.out
          · exact HSm.out.2 q (by rw [HFl.out]; exact List.mem_cons_of_mem _ hq)⟩
        clear h5 hown5 hst hown6
        go_wp2_with fail
        go_ret
        exact ⟨_, (f.1, z) :: l, HSm3.out, rfl, row_of_own HO6.out, HCu6.out, HG6.out, code_grown HDw.out HG6.out hB hgl⟩
      · have n1 : ((1 : Int) == (x : Int)) = false := by rw [beq_eq_false_iff_ne]; omega
        by_cases h2 : x = 2
        · subst h2
          have hi1 : (1 : Int) ≤ (vs.length : Int) := by omega
          obtain ⟨m, hm⟩ : ∃ m, m = vs.length - 1 := ⟨_, rfl⟩
          have hml : m = l.length := by rw [hm, HFl.out]; rfl
          have HSm3 : Hid (SmallV l) := hide ⟨by have h := HSm.out.1; rw [HFl.out] at h; simp at h; omega, fun q hq => HSm.out.2 q (by rw [HFl.out]; exact List.mem_cons_of_mem _ hq)⟩
          have HTl : Hid (∀ x c, (l.length = 0 ∨ x = some ⟨b3, 2, none⟩) → RowAt w4 2 (.slice x l.length c) l.length (puts l)) := hide (fun x c hx => row_tail (f := f) (own_n HO5.out rfl (by rw [HFl.out])) (by omega) x c hx)
          have HM := hide hml
          rw [hm] at HM
          clear hm hml
          go_wp2_with fail
          · have hm1 := HM.out
            have hR := HTl.out (some ⟨b3, 0, none⟩) 0 (Or.inl (by omega))
            rw [← hm1] at hR
            go_ret
            refine ⟨_, l, HSm3.out, rfl, ?_, HCu4.out, HG4.out, HD4.out⟩
            rw [← hm1]
            exact hR
          · have hm1 := HM.out
            have hR := HTl.out (some ⟨b3, 2, none⟩) (ocap - 1) (Or.inr rfl)
            rw [← hm1] at hR
            go_ret
            refine ⟨_, l, HSm3.out, rfl, ?_, HCu4.out, HG4.out, HD4.out⟩
            rw [← hm1]
            exact hR
        · have n2 : ((2 : Int) == (x : Int)) = false := by rw [beq_eq_false_iff_ne]; omega
          go_wp2_with fail
          go_ret
          exact ⟨_, vs, HSm.out, rfl, row_of_own HO5.out, HCu4.out, HG4.out, HD4.out⟩
end Go.Proofs.Ytjldcbnoomcloaa
