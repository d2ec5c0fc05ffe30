/-
  spec.l15Pairs by a contract: pairs that ascend, at most twenty, with short texts.
-/
import Derived.Test.YthcakofocbileaaModelPl
import Derived.Test.YthcakofocbileaaDrawNode
import Derived.Test.YthcakofocbileaaDrawPick
namespace Go.Proofs.Ythcakofocbileaa
open Go.RowKit

/-- pairs that are drawn -/
def DrwP (L : List (ByteArray × ByteArray)) : Prop := AscM L ∧ L.length ≤ 20 ∧ ∀ p ∈ L, p.1.size ≤ 8 ∧ p.2.size ≤ 8

theorem own_drawn {w w' : World} {B e sz n g : Nat} {v : Value} {xs : List Value} (h : w.ownsRow B e sz v n xs) (hg : w.grownBy w' (some g)) (hB : g < B) : w'.ownsRow B e sz v n xs := by
  refine ⟨h.1, ?_⟩
  rcases h.2 with ⟨rfl, hn⟩ | ⟨b, cap, cur, rfl, hb, hh, rest⟩
  · exact Or.inl ⟨rfl, hn⟩
  · refine Or.inr ⟨b, cap, cur, rfl, hb, ?_, rest⟩
    rw [hg.block b (Array.getElem?_eq_some_iff.1 hh).1 (fun e => by injection e with e; omega)]
    exact hh

theorem draw_below {w w1 w2 : World} {g B : Nat} {a : Option Addr} {len cap : Nat} (h : Drawn w w1 g B a len cap) (hb : Below w1.heap.size w1 w2) (hB : B ≤ g) : Drawn w w2 g B a len cap := by
  have hg : w1.grownBy w2 none := ⟨hb.os, hb.tape, hb.output, hb.size, fun k hk _ => hb.block k hk⟩
  have hg' : w1.grownBy w2 (some g) := ⟨hb.os, hb.tape, hb.output, hb.size, fun k hk _ => hb.block k hk⟩
  exact ⟨cur_grown h.1 hg (by simp), grown_trans h.2.1 hg', code_grown h.2.2 hg' hB (cur_lt h.1)⟩

set_option maxHeartbeats 4000000 in
set_option maxRecDepth 100000 in
theorem l15Pairs_any (g B : Nat) (a : Option Addr) (len cap : Nat) (w : World) (hc : CurAt w g a len cap) (hd : CodeIn w B a len) (hB : B ≤ g) :
    Calls Try.prog 26 #[.pointer (some ⟨g, 0, none⟩)] w fun e w' => ∃ (L : List (ByteArray × ByteArray)) (v' : Value), e = .returned v' ∧ DrwP L ∧ w'.ownsRow w.heap.size 30 2 v' L.length (prq L) ∧ Drawn w w' g B a len cap := by
  have hgl := cur_lt hc
  have hD0 : Drawn w w g B a len cap := ⟨hc, ⟨rfl, rfl, rfl, Nat.le_refl _, fun _ _ _ => rfl⟩, hd⟩
  have hS0 := sep_row2 (sep_new (sep_nil w.heap.size w) (Obj.cells #[] 30) (Nat.le_refl _))
  have HO0 := hide (sep_get hS0 0 rfl : (w.alloc (Obj.cells #[] 30)).ownsRow w.heap.size 30 2 (.slice (some ⟨w.heap.size, 0, none⟩) 0 0) 0 [])
  have HD0 := hide (draw_below hD0 ((Below.refl w.heap.size w).alloc (Nat.le_refl _) (Obj.cells #[] 30)) hB)
  clear hS0 hD0 hc hd
  go_enter Try.func26, Try.ntmps26
  go_wp2_with fail
  go_loopg [3, 4] 20 (fun q lv iv wr => ∃ (i : Nat) (L : List (ByteArray × ByteArray)) (v : Value), i ≤ 20 ∧ q + i = 20 ∧ iv = .int .i64 (i : Int) ∧ v = lv ∧ Hid (DrwP L ∧ L.length ≤ i) ∧ Hid (wr.ownsRow w.heap.size 30 2 v L.length (prq L)) ∧ Hid (Drawn w wr g B a len cap))
  case atStart => exact ⟨0, [], _, Nat.zero_le _, rfl, rfl, rfl, hide ⟨⟨List.Pairwise.nil, Nat.zero_le _, fun p hp => by cases hp⟩, Nat.le_refl _⟩, HO0, HD0⟩
  case round =>
    clear HO0 HD0
    obtain ⟨i, L, v, hi20, hq, rfl, rfl, HL, HO, HD⟩ := hrel
    have HQ := hide hq
    clear hq
    go_wp2_with fail
    refine (l01Below_any g B a len cap 20 (by omega) (by omega) wr HD.out.1 HD.out.2.2 hB).mono ?_
    rintro e w2 ⟨x, hx, rfl, hd2⟩
    have HO2 := hide (own_drawn HO.out hd2.2.1 hgl)
    have HD2 := hide (drawn_trans HD.out hd2)
    clear HO HD hd2
    by_cases hlt : i < x
    · have hlt' : (i : Int) < (x : Int) := by omega
      go_wp2_with fail
      refine (l05Key_any g B a len cap w2 HD2.out.1 HD2.out.2.2 hB).mono ?_
      rintro e w3 ⟨z, hz, rfl, hd3⟩
      have hzs := bases_size hz
      have HO3 := hide (own_drawn HO2.out hd3.2.1 hgl)
      have HD3 := hide (drawn_trans HD2.out hd3)
      have HPk := hide (pick_strs g B a len cap [⟨#[]⟩, ⟨#[49]⟩] 2 rfl (by omega) (by omega) w3 w3.heap.size rfl HD3.out.1 HD3.out.2.2 hB #[.string ⟨#[]⟩, .string ⟨#[49]⟩] rfl)
      clear HO2 HD2 hd3 hz
      go_wp2_with fail
      refine HPk.out.mono ?_
      rintro e w4 ⟨y, hy, rfl, hd4⟩
      have hys : y.size ≤ 1 := by simp at hy; rcases hy with rfl | rfl <;> decide
      have HO4 := hide (own_drawn HO3.out hd4.2.1 hgl)
      have HD4 := hide (drawn_trans HD3.out hd4)
      have HPk2 := hide (pick_strs g B a len cap [⟨#[]⟩, ⟨#[118]⟩] 2 rfl (by omega) (by omega) w4 w4.heap.size rfl HD4.out.1 HD4.out.2.2 hB #[.string ⟨#[]⟩, .string ⟨#[118]⟩] rfl)
      clear HO3 HD3 hd4 hy HPk
      go_wp2_with fail
      refine HPk2.out.mono ?_
      rintro e w5 ⟨u, hu, rfl, hd5⟩
      have hus : u.size ≤ 1 := by simp at hu; rcases hu with rfl | rfl <;> decide
      have HO5 := hide (own_drawn HO4.out hd5.2.1 hgl)
      have HD5 := hide (drawn_trans HD4.out hd5)
      clear HO4 HD4 hd5 hu HPk2
      have HMp := hide (specModelPut_any L (by have := HL.out.2; omega) (z ++ y) u v w5 (row_of_own HO5.out))
      have HL6 : Hid (DrwP (modelP L (z ++ y) u) ∧ (modelP L (z ++ y) u).length ≤ i + 1) := hide (by
        obtain ⟨⟨q1, q2, q3⟩, q4⟩ := HL.out
        have hm := modelP_len L (z ++ y) u
        refine ⟨⟨modelP_asc q1 _ _, by omega, fun p hp => ?_⟩, by omega⟩
        rcases modelP_mem hp with hp | rfl
        · exact q3 p hp
        · refine ⟨?_, ?_⟩
          · show (z ++ y).size ≤ 8
            rw [ByteArray.size_append]
            omega
          · show u.size ≤ 8
            omega)
      go_wp2_with fail
      refine HMp.out.mono ?_
      rintro e w6 ⟨v6, rfl, ho6, hb6⟩
      have HO6 := hide (own_down ho6 (by have := HD5.out.2.1.size; exact this))
      have HD6 := hide (draw_below HD5.out hb6 hB)
      clear ho6 hb6 HO5 HD5 HMp
      go_wp2_with fail
      go_roundg (gk - 1)
      case measure => have := HQ.out; omega
      case rel => exact ⟨i + 1, _, _, by omega, by have := HQ.out; omega, by go_num, rfl, HL6, HO6, HD6⟩
    · have hlt' : ¬ (i : Int) < (x : Int) := by omega
      go_wp2_with fail
      go_ret
      exact ⟨L, v, rfl, HL.out.1, HO2.out, HD2.out⟩

end Go.Proofs.Ythcakofocbileaa
