/-
  What drawn laws share: 'big', the code behind calls that turn nothing of it, and DrawPlaces: a row of twelve numbers below 10000 in new memory. Which numbers are drawn is not said.
-/
import Derived.Test.YtglcfaibgjiigaaDoorDraw2
namespace Go.Proofs.YtglcfaibgjiigaaDoor
open Go.RowKit

theorem big_no (a : Option Addr) (len cap : Nat) (h : len ≤ 1048576) (w : World) : Calls Tryd.prog 11 #[.slice a len cap] w fun e w' => e = .returned (.bool false) ∧ w = w' := by
  have hq : decide ((1048576 : Int) < (len : Int)) = false := by simp; omega
  go_enter Tryd.func11, Tryd.ntmps11
  go_wp2
  go_ret
  exact ⟨rfl, rfl⟩

theorem big_yes (a : Option Addr) (len cap : Nat) (h : 1048576 < len) (w : World) : Calls Tryd.prog 11 #[.slice a len cap] w fun e w' => e = .returned (.bool true) ∧ w = w' := by
  have hq : decide ((1048576 : Int) < (len : Int)) = true := by simp; omega
  go_enter Tryd.func11, Tryd.ntmps11
  go_wp2
  go_ret
  exact ⟨rfl, rfl⟩

theorem code_below {w w' : World} {a : Option Addr} {len : Nat} (h : CodeIn w w.heap.size a len) (hb : Below w.heap.size w w') : CodeIn w' w'.heap.size a len := by
  refine ⟨h.1, ?_⟩
  rcases h.2 with h0 | ⟨b, off, e, hlt, hz⟩
  · exact Or.inl h0
  · refine Or.inr ⟨b, off, e, Nat.lt_of_lt_of_le hlt hb.size, fun j hj => ?_⟩
    obtain ⟨z, h1, h2⟩ := hz j hj
    exact ⟨z, h1, by rw [hb.cell (by exact hlt)]; exact h2⟩

theorem Tryd.infoInt : (Tryd.prog.info? 3).map (fun i => (i.zero, i.size, i.bytes)) = some (some (.int .i64 0), 1, 8) := by kernel_rfl

/-- the cells of a row of numbers -/
def intVs (zs : List Nat) : List Value := zs.map fun (z : Nat) => Value.int .i64 (z : Int)

theorem own_base {w : World} {B B' e sz n : Nat} {v : Value} {xs : List Value} (h : w.ownsRow B e sz v n xs) (hb : B' ≤ B) : w.ownsRow B' e sz v n xs := by
  refine ⟨h.1, ?_⟩
  rcases h.2 with h0 | ⟨g, cap, cur, e1, hg, rest⟩
  · exact Or.inl h0
  · exact Or.inr ⟨g, cap, cur, e1, Nat.le_trans hb hg, rest⟩

set_option maxHeartbeats 2000000 in
set_option maxRecDepth 100000 in
theorem drawPlaces_any (a : Option Addr) (len cap : Nat) (w : World) (hd : CodeIn w w.heap.size a len) :
    Calls Tryd.prog 21 #[.slice a len cap] w fun e w' => ∃ (v : Value) (zs : List Nat), zs.length = 12 ∧ (∀ z ∈ zs, z < 10000) ∧ e = .returned v ∧ w'.ownsRow w.heap.size 3 1 v 12 (intVs zs) ∧ Below w.heap.size w w' := by
  obtain ⟨i0, hi, hz0, hz1, hz2⟩ := info_parts Tryd.infoInt
  have HD := hide hd
  clear hd
  go_enter Tryd.func21, Tryd.ntmps21
  go_wp2_with fail
  refine (l01New_any a len cap _ HD.out).mono ?_
  rintro e w1 ⟨rfl, hc, hd1, hb⟩
  have HC := hide hc
  have HD1 := hide hd1
  have HB := hide hb
  clear hc hd1 hb
  go_wp2_with fail
  refine (byte_drawn w.heap.size w.heap.size a len cap _ HC.out HD1.out (Nat.le_refl _)).mono ?_
  rintro e w2 ⟨x, hx, rfl, h2⟩
  have HB2 : Hid (Below w.heap.size w w2) := hide (HB.out.grown h2.2.1 HB.out.size (fun k hk => by cases hk; exact Nat.le_refl _))
  have hgl : w.heap.size < w2.heap.size := cur_lt h2.1
  have H2 := hide h2
  clear h2
  go_wp2_with fail
  go_loopg [4, 5] 12 (fun q v iv wr => ∃ zs : List Nat, zs.length ≤ 12 ∧ iv = .int .i64 (zs.length : Int) ∧ q + zs.length = 12 ∧ wr.ownsRow w2.heap.size 3 1 v zs.length (intVs zs) ∧ Hid (∀ z ∈ zs, z < 10000) ∧ Hid (CurAt wr w.heap.size a len cap) ∧ Hid (w2.grownBy wr (some w.heap.size)))
  case atStart => exact ⟨[], by simp, rfl, rfl, by simpa [intVs] using World.ownsRow_lit (base := w2.heap.size) (e := 3) (size := 1) w2 #[] 0 (Nat.le_refl _) (by unfold maxLen; omega) (by simp), hide (fun z h => by cases h), hide (cur_grown H2.out.1 (World.grownBy_alloc w2 _ none) (by simp)), hide (World.grownBy_alloc w2 _ _)⟩
  case round =>
    obtain ⟨zs, hl, rfl, hg, hown, HZ, HCu, HGr⟩ := hrel
    have HG := hide hg
    clear hg
    have hws := HGr.out.size
    by_cases hlt : zs.length < 12
    · go_wp2_with fail
      refine (l01Below_any w.heap.size w.heap.size a len cap 10000 (by omega) (by omega) _ HCu.out (code_grown H2.out.2.2 HGr.out (Nat.le_refl _) hgl) (Nat.le_refl _)).mono ?_
      rintro e w3 ⟨x, hx, rfl, h1⟩
      have hown2 := hown.kept h1.2.1 (Or.inr (fun e => by have := (hown.lt w.heap.size e).1; omega))
      have H1 := hide h1
      have hws2 := h1.2.1.size
      clear h1 hown
      go_wp2_with (at_builtin; refine wpList_append_own _ rfl _ _ 25 rfl w2.heap.size 3 i0 (.int .i64 0) 1 8 Tryd.underlying25 hi hz0 hz1 hz2 rfl (by decide) _ _ _ rfl (hown2.alloc _) ⟨w3.heap.size, 0, none⟩ 1 1 [.int .i64 (x : Int)] rfl rfl ?c1 ?c2 ?c3 ?c4 ?c5 ?_)
      case c1 =>
        intro j u hj
        match j, hj with
        | 0, hj => simp at hj; subst hj; simp [Addr.add]
      case c2 => intro u hu; simp at hu; subst hu; rfl
      case c3 => unfold maxLen; omega
      case c4 => omega
      case c5 => simp; omega
      intro v' w4 hown3 hgrow _
      have hown4 : w4.ownsRow w2.heap.size 3 1 v' (zs ++ [x]).length (intVs (zs ++ [x])) := by
        rw [List.length_append, intVs, List.map_append]
        exact hown3
      have HGr3 : Hid (w2.grownBy w4 (some w.heap.size)) := hide (grown_app (grown_trans HGr.out H1.out.2.1) hgrow (fun k hk => (hown2.lt k hk).1))
      have HCu3 : Hid (CurAt w4 w.heap.size a len cap) := hide (cur_grown (cur_grown H1.out.1 (World.grownBy_alloc w3 _ none) (by simp)) hgrow (fun e => by have := (hown2.lt w.heap.size e.symm).1; omega))
      have HZ3 : Hid (∀ z ∈ zs ++ [x], z < 10000) := hide (fun z hz => by rcases List.mem_append.1 hz with h | h; exact HZ.out z h; (simp at h; omega))
      clear hown3 hgrow hown2
      go_wp2_with fail
      go_roundg (gk - 1)
      case measure => have := HG.out; omega
      case rel => exact ⟨zs ++ [x], by simp; omega, by rw [List.length_append]; go_num, by have := HG.out; simp; omega, hown4, HZ3, HCu3, HGr3⟩
    · have hl12 : zs.length = 12 := by omega
      rw [hl12] at hown
      go_wp2_with fail
      go_ret
      exact ⟨_, zs, hl12, HZ.out, rfl, own_base hown (by omega), HB2.out.grown HGr.out HB2.out.size (fun k hk => by cases hk; exact Nat.le_refl _)⟩
end Go.Proofs.YtglcfaibgjiigaaDoor
