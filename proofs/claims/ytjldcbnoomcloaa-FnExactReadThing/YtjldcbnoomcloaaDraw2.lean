/-
  More draws by contracts: l01Once, l01New, l01Text, l01Long. Which text is drawn is not said but its length's bound.
-/
import Derived.Test.YtjldcbnoomcloaaDraw
import Derived.Test.YtjldcbnoomcloaaOwn
import Derived.Deep.LoopGhost
namespace Go.Proofs.Ytjldcbnoomcloaa
open Go.RowKit

set_option maxHeartbeats 400000 in
theorem l01Once_any (g B : Nat) (a : Option Addr) (len cap n : Nat) (hn : 0 < n) (hn1 : n ≤ 4294967296) (w : World) (hc : CurAt w g a len cap) (hd : CodeIn w B a len) (hB : B ≤ g) :
    Calls Try.prog 71 #[.pointer (some ⟨g, 0, none⟩), .int .i64 (n : Int)] w fun e w' => ∃ b : Bool, e = .returned (.bool b) ∧ Drawn w w' g B a len cap := by
  have HD := hide hd
  have HC := hide hc
  clear hd hc
  go_enter Try.func71, Try.ntmps71
  go_wp2_with fail
  refine (l01Below_any g B a len cap n hn hn1 _ HC.out HD.out hB).mono ?_
  rintro e w1 ⟨x, hx, rfl, h1⟩
  have H1 := hide h1
  clear h1
  go_wp2_with fail
  go_ret
  exact ⟨_, rfl, H1.out⟩

set_option maxHeartbeats 1000000 in
set_option maxRecDepth 100000 in
theorem l01New_any (a : Option Addr) (len cap : Nat) (w : World) (hd : CodeIn w w.heap.size a len) :
    Calls Try.prog 68 #[.slice a len cap] w fun e w' => e = .returned (.pointer (some ⟨w.heap.size, 0, none⟩)) ∧ CurAt w' w.heap.size a len cap ∧ CodeIn w' w.heap.size a len ∧ Below w.heap.size w w' := by
  have hlen := hd.1
  have HD := hide hd
  clear hd
  go_enter Try.func68, Try.ntmps68
  go_wp2
  go_loopg [3, 4] len (fun q hv iv wr => ∃ (k : Nat) (h : Int), k ≤ len ∧ hv = .int .i64 h ∧ iv = .int .i64 (k : Int) ∧ q + k = len ∧ w = wr)
  case atStart => exact ⟨0, _, Nat.zero_le _, rfl, rfl, rfl, rfl⟩
  case round =>
    obtain ⟨k, h, hk, rfl, rfl, hg, rfl⟩ := hrel
    have HG := hide hg
    clear hg
    by_cases hlt : k < len
    · by_cases h4 : k < 4000
      · rcases HD.out.2 with h0 | ⟨b, off, rfl, hb, hz⟩
        · omega
        · obtain ⟨z, hz256, hzc⟩ := hz k hlt
          clear hz
          have hi0 : (0 : Int) ≤ (k : Int) := by omega
          have hi1 : (k : Int) < (len : Int) := by omega
          go_wp2
          go_roundg (gk - 1)
          case measure => have := HG.out; omega
          case rel => exact ⟨k + 1, _, by omega, rfl, by go_num, by have := HG.out; omega, rfl⟩
      · have hn4 : decide ((k : Int) < 4000) = false := by simp; omega
        go_wp2
        go_ret
        exact ⟨rfl, ⟨0, h, Nat.zero_le _, heap_alloc_new w _⟩, ⟨HD.out.1, HD.out.2.imp id (fun ⟨b, off, e, hb, hz⟩ => ⟨b, off, e, hb, fun j hj => by obtain ⟨z, h1, h2⟩ := hz j hj; exact ⟨z, h1, by rw [World.cell?_of_block (Below.heap_alloc w _ b hb)]; exact h2⟩⟩)⟩, (Below.refl _ _).alloc (Nat.le_refl _) _⟩
    · have hnl : decide ((k : Int) < (len : Int)) = false := by simp; omega
      go_wp2
      go_ret
      exact ⟨rfl, ⟨0, h, Nat.zero_le _, heap_alloc_new w _⟩, ⟨HD.out.1, HD.out.2.imp id (fun ⟨b, off, e, hb, hz⟩ => ⟨b, off, e, hb, fun j hj => by obtain ⟨z, h1, h2⟩ := hz j hj; exact ⟨z, h1, by rw [World.cell?_of_block (Below.heap_alloc w _ b hb)]; exact h2⟩⟩)⟩, (Below.refl _ _).alloc (Nat.le_refl _) _⟩

theorem grown_alloc {a b : World} {r : Option Nat} (h : a.grownBy b r) (o : Obj) : a.grownBy (b.alloc o) r := grown_trans h (World.grownBy_alloc b o r)

/-- an append to a row of our own that was laid behind w turns nothing that w had -/
theorem grown_app {w wr w1 : World} {g : Nat} {row : Option Nat} {o : Obj} (h : w.grownBy wr (some g)) (ha : (wr.alloc o).grownBy w1 row) (hr : ∀ k, row = some k → w.heap.size ≤ k) : w.grownBy w1 (some g) := by
  have h2 := grown_alloc h o
  exact ⟨ha.os.trans h2.os, ha.tape.trans h2.tape, ha.output.trans h2.output, Nat.le_trans h2.size ha.size, fun k hk hne =>
    (ha.block k (Nat.lt_of_lt_of_le hk h2.size) (fun e => by have := hr k e.symm; omega)).trans (h2.block k hk hne)⟩

theorem cur_grown {w w' : World} {g : Nat} {row : Option Nat} {a : Option Addr} {len cap : Nat} (h : CurAt w g a len cap) (hg : w.grownBy w' row) (hne : some g ≠ row) : CurAt w' g a len cap := by
  have hlt := cur_lt h
  obtain ⟨i, x, hi, hb⟩ := h
  exact ⟨i, x, hi, (hg.block g hlt hne).trans hb⟩

set_option maxHeartbeats 2000000 in
set_option maxRecDepth 100000 in
theorem l01Text_any (g B : Nat) (a : Option Addr) (len cap n : Nat) (hn1 : n ≤ 5000) (w : World) (hc : CurAt w g a len cap) (hd : CodeIn w B a len) (hB : B ≤ g) :
    Calls Try.prog 103 #[.pointer (some ⟨g, 0, none⟩), .int .i64 (n : Int)] w fun e w' => ∃ t : ByteArray, t.size = n ∧ e = .returned (.string t) ∧ Drawn w w' g B a len cap := by
  obtain ⟨i0, hi, hz0, hz1, hz2⟩ := info_parts Try.infoByte
  have hgl := cur_lt hc
  have HD := hide hd
  have HC := hide hc
  clear hd hc
  have hq : decide ((5000 : Int) < (n : Int)) = false := by simp; omega
  go_enter Try.func103, Try.ntmps103
  go_wp2
  go_loopg [5, 6] n (fun q v iv wr => ∃ l : List UInt8, l.length ≤ n ∧ iv = .int .i64 (l.length : Int) ∧ q + l.length = n ∧ wr.ownsRow w.heap.size 5 1 v l.length (Lib.byteCells l) ∧ Hid (CurAt wr g a len cap) ∧ Hid (w.grownBy wr (some g)))
  case atStart => exact ⟨[], by simp, rfl, by simp, by simpa [Lib.byteCells] using World.ownsRow_lit (base := w.heap.size) (e := 5) (size := 1) w #[] 0 (Nat.le_refl _) (by unfold maxLen; omega) (by simp), hide (cur_grown HC.out (World.grownBy_alloc w _ none) (by simp)), hide (World.grownBy_alloc w _ _)⟩
  case round =>
    obtain ⟨l, hl, rfl, hg, hown, HCu, HGr⟩ := hrel
    have HG := hide hg
    clear hg
    have hws := HGr.out.size
    by_cases hlt : l.length < n
    · go_wp2_with fail
      refine (byte_drawn g B a len cap _ HCu.out (code_grown HD.out HGr.out hB hgl) hB).mono ?_
      rintro e w2 ⟨x, hx, rfl, h1⟩
      have hown2 := hown.kept h1.2.1 (Or.inr (fun e => by have := (hown.lt g e).1; omega))
      have H1 := hide h1
      have hws2 := h1.2.1.size
      clear h1 hown
      go_wp2_with (at_builtin; refine wpList_append_own _ rfl _ _ 22 rfl w.heap.size 5 i0 (.int .u8 0) 1 1 Try.underlying22 hi hz0 hz1 hz2 rfl (by decide) _ _ _ rfl (hown2.alloc _) ⟨w2.heap.size, 0, none⟩ 1 1 [.int .u8 (x : Int)] rfl rfl ?c1 ?c2 ?c3 ?c4 ?c5 ?_)
      case c1 =>
        intro j u hj
        match j, hj with
        | 0, hj => simp at hj; subst hj; simp [Addr.add]
      case c2 => intro u hu; simp at hu; subst hu; rfl
      case c3 => unfold maxLen; omega
      case c4 => omega
      case c5 => simp; omega
      intro v' w3 hown3 hgrow _
      have hown4 : w3.ownsRow w.heap.size 5 1 v' (l ++ [UInt8.ofNat x]).length (Lib.byteCells (l ++ [UInt8.ofNat x])) := by
        rw [cells_snoc l x hx] at hown3
        rw [List.length_append]
        exact hown3
      have HGr3 : Hid (w.grownBy w3 (some g)) := hide (grown_app (grown_trans HGr.out H1.out.2.1) hgrow (fun k hk => (hown2.lt k hk).1))
      have HCu3 : Hid (CurAt w3 g a len cap) := hide (cur_grown (cur_grown H1.out.1 (World.grownBy_alloc w2 _ none) (by simp)) hgrow (fun e => by have := (hown2.lt g e.symm).1; omega))
      clear hown3 hgrow hown2
      go_wp2_with fail
      go_roundg (gk - 1)
      case measure => have := HG.out; omega
      case rel => exact ⟨l ++ [UInt8.ofNat x], by simp; omega, by rw [List.length_append]; go_num, by have := HG.out; simp; omega, hown4, HCu3, HGr3⟩
    · have hcv := string_own (dst := 9) (src := 22) Try.underlying22 Try.underlying5 Try.underlying9 hown
      clear hown
      go_wp2_with fail
      go_ret
      exact ⟨⟨l.toArray⟩, by simp [ByteArray.size]; omega, rfl, HCu.out, HGr.out, code_grown HD.out HGr.out hB hgl⟩
end Go.Proofs.Ytjldcbnoomcloaa
