/-
  Draws of chapter 4 by contracts: l04Thing.
-/
import Derived.Test.YtjldcbnoomcloaaDrawThing2
import Derived.Test.YtjldcbnoomcloaaStepCall
import Derived.Deep.RegionLaw
namespace Go.Proofs.Ytjldcbnoomcloaa
open Go.RowKit

theorem row_drawn {w w' : World} {sz n g : Nat} {v : Value} {xs : List Value} (h : RowAt w sz v n xs) (hg : w.grownBy w' (some g)) (hne : n = 0 ∨ v.ownBlock ≠ some g) : RowAt w' sz v n xs :=
  row_kept (S := fun k => k = g) h ⟨hg.os, hg.tape, hg.output, hg.size, fun k hk hn => hg.block k hk (by simpa using hn)⟩ (hne.imp id (fun h k _ e1 e2 => h (by rw [e1, e2])))

/-- values that were drawn for fields -/
def DrawnVs (fs : List (ByteArray × Int)) (vs : List (Int × ByteArray)) : Prop := ∀ i (hi : i < vs.length) (hf : i < fs.length), drawnV fs[i].2 vs[i].1 vs[i].2

set_option maxHeartbeats 2000000 in
set_option maxRecDepth 100000 in
theorem l04Thing_any (g B : Nat) (a : Option Addr) (len cap : Nat) (fs : List (ByteArray × Int)) (hfl : fs.length ≤ 6) (v : Value) (w : World) (hc : CurAt w g a len cap) (hd : CodeIn w B a len) (hB : B ≤ g) (hr : RowAt w 2 v fs.length (flds fs)) (hne : fs.length = 0 ∨ v.ownBlock ≠ some g) :
    Calls Try.prog 82 #[.pointer (some ⟨g, 0, none⟩), v] w fun e w' => ∃ (u : Value) (vs : List (Int × ByteArray)), vs.length = fs.length ∧ DrawnVs fs vs ∧ e = .returned u ∧ w'.ownsRow w.heap.size 50 2 u vs.length (puts vs) ∧ Drawn w w' g B a len cap := by
  obtain ⟨i0, hi, hz0, hz1, hz2⟩ := info_parts Try.infoVal
  have hgl := cur_lt hc
  have HC := hide hc
  have HD := hide hd
  have HRv := hide hr
  have HNe := hide hne
  obtain ⟨-, fa, fcap, rfl, h2⟩ := hr
  have HR := hide h2
  have HOw := hide (own_vals0 w w.heap.size (Nat.le_refl _))
  have HG0 : Hid (∀ o, w.grownBy (w.alloc o) (some g)) := hide (fun o => World.grownBy_alloc w o _)
  have HC0 : Hid (∀ o, CurAt (w.alloc o) g a len cap) := hide (fun o => cur_grown hc (World.grownBy_alloc w o none) (by simp))
  clear hc hd h2 hne
  go_enter Try.func82, Try.ntmps82
  go_wp2_with fail
  go_loopg [5, 6] fs.length (fun q ov iv wr => ∃ (vs : List (Int × ByteArray)), vs.length ≤ fs.length ∧ iv = .int .i64 (vs.length : Int) ∧ q + vs.length = fs.length ∧ wr.ownsRow w.heap.size 50 2 ov vs.length (puts vs) ∧ Hid (CurAt wr g a len cap) ∧ Hid (w.grownBy wr (some g)) ∧ Hid (DrawnVs fs vs))
  case atStart => exact ⟨[], by simp, rfl, rfl, HOw.out, hide (HC0.out _), hide (HG0.out _), hide (fun i hi => by simp at hi)⟩
  case round =>
    obtain ⟨vs, hvl, rfl, hgk, hown, HCu, HGr, HDv⟩ := hrel
    have HG := hide hgk
    have HOn := hide hown
    have hws := HGr.out.size
    obtain ⟨oa, ocap, hov⟩ : ∃ a cap, u5 = .slice a vs.length cap := by obtain ⟨-, a, cap, e, -⟩ := row_of_own hown; exact ⟨a, cap, e⟩
    subst hov
    clear hgk hown
    by_cases hlf : vs.length < fs.length
    · have hrow := row_drawn HRv.out HGr.out HNe.out
      obtain ⟨-, fa2, fcap2, e2, h0 | ⟨b, off, e3, hbl, hc⟩⟩ := hrow
      · omega
      · injection e2 with e21 e22 e23
        subst e21 e23
        subst e3
        obtain ⟨k, hkk⟩ : ∃ k, k = fs[vs.length].2 := ⟨_, rfl⟩
        have hf1 : wr.cell? ⟨b, off + vs.length * 2 + 1, none⟩ = some (.int .i64 k) := by rw [Nat.add_assoc, hc (vs.length * 2 + 1) (by omega), (flds_at fs vs.length hlf).2, hkk]
        have hi0 : (0 : Int) ≤ (vs.length : Int) := by omega
        have hi1 : (vs.length : Int) < (fs.length : Int) := by omega
        have HV := hide (fun wx h h' => l04ValueOf_any g B a len cap k wx h h' hB)
        have HCd : Hid (CodeIn wr B a len) := hide (code_grown HD.out HGr.out hB hgl)
        have HK := hide hkk
        clear hc hkk
        go_wp2_with fail
        refine (HV.out _ HCu.out HCd.out).mono ?_
        rintro e w2 ⟨un, ux, hdv, rfl, h2⟩
        have hown2 := HOn.out.kept h2.2.1 (Or.inr (fun e => by have := (HOn.out.lt _ e).1; omega))
        have HO2 := hide hown2
        have HDv2 : Hid (DrawnVs fs (vs ++ [(un, ux)])) := hide (fun i hi hf => by
          by_cases e : i < vs.length
          · rw [List.getElem_append_left e]
            exact HDv.out i e hf
          · have e' : i = vs.length := by simp at hi; omega
            subst e'
            simp only [List.getElem_append_right (Nat.le_refl _), Nat.sub_self, List.getElem_cons_zero]
            rw [← HK.out]
            exact hdv)
        have HG2 : Hid (w.grownBy w2 (some g)) := hide (grown_trans HGr.out h2.2.1)
        have HCu2 := hide h2.1
        have hs2 := HG2.out.size
        clear hown2 h2 hdv hf1
        go_wp2_with (at_builtin; (refine wpList_append_row _ rfl _ _ 36 rfl w.heap.size 50 i0 (.agg #[.int .i64 0, .string ⟨#[]⟩]) 2 24 Try.underlying36 hi hz0 hz1 hz2 rfl (by decide) _ _ _ rfl (HO2.out.alloc _) _ 1 (puts [(un, ux)]) rfl (val_at w2 w2.heap.size rfl un ux) (vals_one _) ?_ ?_ ?_ ?_))
        · unfold maxLen; omega
        · omega
        · simp; omega
        intro y6 d6 w6 hown6 hg6
        have hown7 : w6.ownsRow w.heap.size 50 2 (.slice y6 (vs.length + 1) d6) (vs ++ [(un, ux)]).length (puts (vs ++ [(un, ux)])) := by
          rw [← vals_snoc, List.length_append]
          exact hown6
        have HG6 : Hid (w.grownBy w6 (some g)) := hide (grown_app HG2.out hg6 (fun k hk => (HO2.out.lt k hk).1))
        have HCu6 : Hid (CurAt w6 g a len cap) := hide (cur_grown (cur_grown HCu2.out (World.grownBy_alloc w2 _ none) (by simp)) hg6 (fun e => by have := (HO2.out.lt g e.symm).1; omega))
        clear hown6 hg6
        go_wp2_with fail
        go_roundg (gk - 1)
        case measure => have := HG.out; omega
        case rel => exact ⟨vs ++ [(un, ux)], by simp; omega, by rw [List.length_append]; go_num, by have := HG.out; simp; omega, hown7, HCu6, HG6, HDv2⟩
    · go_wp2_with fail
      go_ret
      exact ⟨_, vs, by omega, HDv.out, rfl, HOn.out, HCu.out, HGr.out, code_grown HD.out HGr.out hB hgl⟩
end Go.Proofs.Ytjldcbnoomcloaa
