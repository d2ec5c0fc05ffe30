/-
  Draws by contracts: a pick out of a literal list (l01Pick, l01PickInt), l02Spoilt. Which one is drawn is not said, but that it is one of the list.
-/
import Derived.Test.YtjldcbnoomcloaaDraw3
import Derived.Test.YtjldcbnoomcloaaDraw4
import Derived.Test.YtjldcbnoomcloaaFrame
namespace Go.Proofs.Ytjldcbnoomcloaa
open Go.RowKit

set_option maxHeartbeats 1000000 in
theorem l01Pick_any (g B : Nat) (a : Option Addr) (len cap : Nat) (zs : List ByteArray) (n : Nat) (hzn : zs.length = n) (hz : 0 < n) (hz1 : n ≤ 1000) (r c : Nat) (w : World) (hc : CurAt w g a len cap) (hd : CodeIn w B a len) (hB : B ≤ g) (hr : r ≠ g) (hrl : r < w.heap.size)
    (hrow : ∀ j, j < n → w.cell? ⟨r, j, none⟩ = some (.string (zs.getD j ⟨#[]⟩))) :
    Calls Try.prog 74 #[.pointer (some ⟨g, 0, none⟩), .slice (some ⟨r, 0, none⟩) n c] w fun e w' => ∃ z : ByteArray, z ∈ zs ∧ e = .returned (.string z) ∧ Drawn w w' g B a len cap := by
  have HD := hide hd
  have HC := hide hc
  have HR := hide hrow
  have HZn := hide hzn
  clear hd hc hrow hzn
  go_enter Try.func74, Try.ntmps74
  go_wp2_with fail
  refine (l01Below_any g B a len cap n hz (by omega) _ HC.out HD.out hB).mono ?_
  rintro e w1 ⟨x, hx, rfl, h1⟩
  have hcell : w1.cell? ⟨r, x, none⟩ = some (.string (zs.getD x ⟨#[]⟩)) := by
    rw [World.cell?_of_block (h1.2.1.block r hrl (by simpa using hr))]; exact HR.out x hx
  have hm : zs.getD x ⟨#[]⟩ ∈ zs := by
    have hx' : x < zs.length := by rw [HZn.out]; exact hx
    rw [List.getD, List.getElem?_eq_getElem hx']; exact List.getElem_mem hx'
  obtain ⟨y, hy⟩ : ∃ y, y = zs.getD x ⟨#[]⟩ := ⟨_, rfl⟩
  rw [← hy] at hcell hm
  have HM := hide hm
  have H1 := hide h1
  have hi0 : (0 : Int) ≤ (x : Int) := by omega
  have hi1 : (x : Int) < (n : Int) := by omega
  clear h1 hm hy hr
  go_wp2_with fail
  go_ret
  exact ⟨y, HM.out, rfl, H1.out⟩

theorem drawn_drew {w w' : World} {g B : Nat} {a : Option Addr} {len cap : Nat} (h : Drawn w.drew w' g B a len cap) : Drawn w w' g B a len cap := ⟨h.1, ⟨h.2.1.os, h.2.1.tape, h.2.1.output, h.2.1.size, h.2.1.block⟩, h.2.2⟩

set_option maxHeartbeats 2000000 in
set_option maxRecDepth 100000 in
theorem l02Spoilt_any (g B : Nat) (a : Option Addr) (len cap : Nat) (s : ByteArray) (hs : s.size ≤ 100000) (w : World) (hc : CurAt w g a len cap) (hd : CodeIn w B a len) (hB : B ≤ g) :
    Calls Try.prog 72 #[.pointer (some ⟨g, 0, none⟩), .string s] w fun e w' => ∃ t : ByteArray, t.size ≤ s.size + 1 ∧ e = .returned (.string t) ∧ Drawn w w' g B a len cap := by
  have HD := hide hd
  have HC := hide hc
  clear hd hc
  go_enter Try.func72, Try.ntmps72
  go_wp2_with fail
  refine (l01Below_any g B a len cap 12 (by omega) (by omega) _ HC.out HD.out hB).mono ?_
  rintro e w1 ⟨x, hx, rfl, h1⟩
  have H1 := hide h1
  clear h1
  by_cases hx0 : x = 0
  · subst hx0
    go_wp2_with fail
    refine (l01Text_any g B a len cap 1 (by omega) _ H1.out.1 H1.out.2.2 hB).mono ?_
    rintro e w2 ⟨t, ht, rfl, h2⟩
    have H2 := hide (drawn_trans H1.out h2)
    have HT := hide ht
    have hts : t.size ≤ 1 := by omega
    clear h2 ht
    go_wp2_with fail
    go_ret
    exact ⟨_, by rw [ByteArray.size_append]; omega, rfl, H2.out⟩
  · have hb0 : ((0 : Int) == (x : Int)) = false := by rw [beq_eq_false_iff_ne]; omega
    by_cases hx1 : x = 1
    · subst hx1
      have HBl := hide (fun wx h h' => l01Below_any g B a len cap (s.size + 1) (by omega) (by omega) wx h h' hB)
      rw [show ((s.size + 1 : Nat) : Int) = (s.size : Int) + 1 from by omega] at HBl
      go_wp2_with fail
      refine (HBl.out _ H1.out.1 H1.out.2.2).mono ?_
      rintro e w2 ⟨y, hy, rfl, h2⟩
      have H2 := hide (drawn_trans H1.out h2)
      have hy0 : (0 : Int) ≤ (y : Int) := by omega
      have hy1 : (y : Int) ≤ (s.size : Int) := by omega
      clear h2
      go_wp2_with fail
      go_ret
      exact ⟨_, by rw [ByteArray.size_extract]; omega, rfl, H2.out⟩
    · have hb1 : ((1 : Int) == (x : Int)) = false := by rw [beq_eq_false_iff_ne]; omega
      by_cases hx2 : x = 2 ∨ x = 3
      · by_cases hs0 : 0 < s.size
        · have HBl := hide (fun wx h h' => l01Below_any g B a len cap s.size hs0 (by omega) wx h h' hB)
          have ds : decide ((0 : Int) < (s.size : Int)) = true := by simp; omega
          rcases hx2 with rfl | rfl
          all_goals (
            go_wp2_with fail
            refine (HBl.out _ H1.out.1 H1.out.2.2).mono ?_
            rintro e w2 ⟨y, hy, rfl, h2⟩
            have H2 := hide (drawn_trans H1.out h2)
            have hy0 : (0 : Int) ≤ (y : Int) := by omega
            have hy1 : (y : Int) ≤ (s.size : Int) := by omega
            have hy2 : (y : Int) + 1 ≤ (s.size : Int) := by omega
            have hwr : IntKind.i64.wrap ((y : Int) + 1) = (y : Int) + 1 := IntWalk.i64_in _ ⟨by omega, by omega⟩
            have hl1 : ∀ wx : World, (Instr.slice 9 (.string s) none (some (.int .i64 (y : Int))) none).run Try.prog wx = .ok (.string (s.extract 0 y)) wx := fun wx => by
              have := run_slice_string_h (P := Try.prog) (w := wx) (t := 9) (s := s) Try.underlying9 .i64 (y : Int) hy0 hy1
              rw [this, Int.toNat_natCast]
            have hl2 : ∀ wx : World, (Instr.slice 9 (.string s) (some (.int .i64 ((y : Int) + 1))) none none).run Try.prog wx = .ok (.string (s.extract (y + 1) s.size)) wx := fun wx => by
              have := run_slice_string_l (P := Try.prog) (w := wx) (t := 9) (s := s) Try.underlying9 .i64 ((y : Int) + 1) (by omega) hy2
              rw [this, show ((y : Int) + 1).toNat = y + 1 from by omega]
            obtain ⟨s1, hs1⟩ : ∃ s1, s1 = s.extract 0 y := ⟨_, rfl⟩
            obtain ⟨s2, hs2⟩ : ∃ s2, s2 = s.extract (y + 1) s.size := ⟨_, rfl⟩
            have hz1 : s1.size ≤ y := by rw [hs1, ByteArray.size_extract]; omega
            have hz2 : s2.size + (y + 1) ≤ s.size := by rw [hs2, ByteArray.size_extract]; omega
            rw [← hs1] at hl1
            rw [← hs2] at hl2
            clear hs1 hs2
            have HTx := hide (fun wx h h' => l01Text_any g B a len cap 1 (by omega) wx h h' hB)
            clear h2
            go_wp2_with fail
            go_region_held3 (fun _ => True) (trivial) ((go_at_call 103; refine (HTx.out _ ?_ ?_).mono ?_; exact H2.out.1; exact H2.out.2.2; rintro e w3 ⟨t, ht, rfl, h3⟩; have hts : t.size ≤ 1 := Nat.le_of_eq ht; clear ht; have ha1 : ∀ wx : World, (Op.stringOp .add s1 t).run Try.prog wx = .ok (.string (s1 ++ t)) wx := fun wx => run_string_add_sum wx _ _ (by omega); have ha2 : ∀ wx : World, (Op.stringOp .add (s1 ++ t) s2).run Try.prog wx = .ok (.string (s1 ++ t ++ s2)) wx := fun wx => run_string_add_sum wx _ _ (by rw [ByteArray.size_append]; omega)))
            have H3 := hide (drawn_trans H2.out (drawn_drew h3))
            clear h3 hl1 hl2 hwr ha1 ha2
            go_wp2_with fail
            go_ret
            exact ⟨_, by rw [ByteArray.size_append, ByteArray.size_append]; omega, rfl, H3.out⟩)
        · have ds : decide ((0 : Int) < (s.size : Int)) = false := decide_eq_false (by omega)
          rcases hx2 with rfl | rfl
          all_goals (
            go_wp2_with fail
            go_ret
            exact ⟨_, by omega, rfl, H1.out⟩)
      · have hb2 : ((2 : Int) == (x : Int)) = false := by rw [beq_eq_false_iff_ne]; omega
        have hb3 : ((3 : Int) == (x : Int)) = false := by rw [beq_eq_false_iff_ne]; omega
        go_wp2_with fail
        go_ret
        exact ⟨_, by omega, rfl, H1.out⟩

theorem pick_ints (g B : Nat) (a : Option Addr) (len cap : Nat) (zs : List Int) (n : Nat) (hn : zs.length = n) (h0 : 0 < n) (h1 : n ≤ 1000) (w : World) (r : Nat) (hr : r = w.heap.size) (hc : CurAt w g a len cap) (hd : CodeIn w B a len) (hB : B ≤ g) (cs : Array Value) (he : cs = (zs.map (Value.int .i64)).toArray) :
    Calls Try.prog 88 #[.pointer (some ⟨g, 0, none⟩), .slice (some ⟨r, 0, none⟩) n n] (w.alloc (Obj.cells cs 3)) fun e w' => ∃ z : Int, z ∈ zs ∧ e = .returned (.int .i64 z) ∧ Drawn w w' g B a len cap := by
  have hgl := cur_lt hc
  have hg := World.grownBy_alloc w (Obj.cells cs 3) (some g)
  subst he hn hr
  refine (l01PickInt_any g B a len cap zs h0 h1 w.heap.size zs.length _ (cur_grown hc (World.grownBy_alloc w _ none) (by simp)) (code_grown hd hg hB hgl) hB (by omega) (by simp) (fun j hj => ?_)).mono ?_
  · rw [(cell_at (heap_alloc_new w _) j).1]
    simp [List.getD, hj]
  · rintro e w2 ⟨z, hz, rfl, h2⟩
    exact ⟨z, hz, rfl, h2.1, grown_trans hg h2.2.1, h2.2.2⟩

theorem pick_strs (g B : Nat) (a : Option Addr) (len cap : Nat) (zs : List ByteArray) (n : Nat) (hn : zs.length = n) (h0 : 0 < n) (h1 : n ≤ 1000) (w : World) (r : Nat) (hr : r = w.heap.size) (hc : CurAt w g a len cap) (hd : CodeIn w B a len) (hB : B ≤ g) (cs : Array Value) (he : cs = (zs.map Value.string).toArray) :
    Calls Try.prog 74 #[.pointer (some ⟨g, 0, none⟩), .slice (some ⟨r, 0, none⟩) n n] (w.alloc (Obj.cells cs 9)) fun e w' => ∃ z : ByteArray, z ∈ zs ∧ e = .returned (.string z) ∧ Drawn w w' g B a len cap := by
  have hgl := cur_lt hc
  have hg := World.grownBy_alloc w (Obj.cells cs 9) (some g)
  subst he hn hr
  refine (l01Pick_any g B a len cap zs zs.length rfl h0 h1 w.heap.size zs.length _ (cur_grown hc (World.grownBy_alloc w _ none) (by simp)) (code_grown hd hg hB hgl) hB (by omega) (by simp) (fun j hj => ?_)).mono ?_
  · rw [(cell_at (heap_alloc_new w _) j).1]
    simp [List.getD, hj]
  · rintro e w2 ⟨z, hz, rfl, h2⟩
    exact ⟨z, hz, rfl, h2.1, grown_trans hg h2.2.1, h2.2.2⟩
end Go.Proofs.Ytjldcbnoomcloaa
