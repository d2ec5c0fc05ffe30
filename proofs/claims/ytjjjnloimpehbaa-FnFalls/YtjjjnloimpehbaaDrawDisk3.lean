/-
  DrawDisk, l03Left, DrawLeft by contracts.
-/
import Derived.Test.YtjjjnloimpehbaaDrawDisk2
import Derived.Test.YtjjjnloimpehbaaBoolRow
namespace Go.Proofs.Ytjjjnloimpehbaa
open Go.RowKit

theorem below_drawn {w wr wr' : World} {n g B : Nat} {a : Option Addr} {len cap : Nat} (h : Below n w wr) (hd : Drawn wr wr' g B a len cap) (hn : n ≤ g) (hs : n ≤ wr.heap.size) : Below n w wr' :=
  h.grown hd.2.1 hs (fun k hk => by cases hk; exact hn)

theorem code_low {w w' : World} {a : Option Addr} {len : Nat} (h : CodeIn w w.heap.size a len) (hb : Below w.heap.size w w') : CodeIn w' w.heap.size a len := by
  refine ⟨h.1, h.2.imp id (fun ⟨b, off, e, hlt, hz⟩ => ⟨b, off, e, hlt, fun j hj => ?_⟩)⟩
  obtain ⟨z, h1, h2⟩ := hz j hj
  exact ⟨z, h1, by rw [hb.cell (by exact hlt)]; exact h2⟩

set_option maxHeartbeats 2000000 in
set_option maxRecDepth 100000 in
theorem drawDisk_any (a : Option Addr) (len cap : Nat) (w : World) (hd : CodeIn w w.heap.size a len) :
    Calls Try.prog 13 #[.slice a len cap] w fun e w' => ∃ (v : Value) (ps : List ByteArray) (ls : List (Int × ByteArray)), e = .returned v ∧ diskOkB ps ls = true ∧ ps.length ≤ 7 ∧ ls.length ≤ 8 ∧ DiskOwn w' w.heap.size v ps ls ∧ Below w.heap.size w w' := by
  obtain ⟨w0, hw0⟩ : ∃ w0, w0 = w.alloc (Obj.cells #[.slice none 0 0, .slice none 0 0] 27) := ⟨_, rfl⟩
  have hb0 : Below w.heap.size w w0 := by rw [hw0]; exact (Below.refl w.heap.size w).alloc (Nat.le_refl _) _
  have q0 : w0.heap[w.heap.size]? = some (Obj.cells #[.slice none 0 0, .slice none 0 0] 27) := by rw [hw0]; exact heap_alloc_new w _
  have hs0 : w0.heap.size = w.heap.size + 1 := by rw [hw0]; simp
  have hcode : CodeIn w0 w0.heap.size a len := code_below hd hb0
  have HD := hide hcode
  have HB := hide hb0
  have HQ := hide q0
  have HS := hide hs0
  clear hd hb0 q0 hs0 hcode
  go_enter Try.func13, Try.ntmps13
  go_wp2_with fail
  rw [← hw0]
  clear hw0
  refine (l01New_any a len cap _ HD.out).mono ?_
  rintro e w1 ⟨rfl, hc1, hd1, hb1⟩
  have HC1 := hide hc1
  have HD1 := hide hd1
  have HB1 := hide hb1
  clear hc1 hd1 hb1
  go_wp2_with fail
  refine (l03Disk_any w0.heap.size w0.heap.size a len cap _ HC1.out HD1.out (Nat.le_refl _)).mono ?_
  rintro e w2 ⟨v, ps, ls, rfl, hok, hp, hl, hown, hdr⟩
  obtain ⟨x3, c3, y3, d3, rfl⟩ := disk_form hown
  have hlt0 : w.heap.size < w0.heap.size := by have := HS.out; omega
  have hq2 : w2.heap[w.heap.size]? = some (Obj.cells #[.slice none 0 0, .slice none 0 0] 27) := (hdr.2.1.block _ (Nat.lt_of_lt_of_le hlt0 HB1.out.size) (fun e => by injection e with e; omega)).trans ((HB1.out.block _ hlt0).trans HQ.out)
  have hbw : Below w.heap.size w w2 := below_drawn (HB.out.trans (HB1.out.mono HB.out.size)) hdr (by omega) (by have := HB1.out.size; omega)
  have hfin := ret_disk hq2 hown (by have := HB1.out.size; omega) (Nat.le_refl _) hbw
  have p0 : w2.cell? ⟨w.heap.size, 0, none⟩ = some (.slice none 0 0) := (cell_at hq2 0).1
  have p1 : w2.cell? ⟨w.heap.size, 1, none⟩ = some (.slice none 0 0) := (cell_at hq2 1).1
  have f0 := (cell_at hq2 0).2
  have f1 := (cell_at hq2 1).2
  have HF := hide hfin
  have HOk := hide (⟨hok, hp, hl⟩ : diskOkB ps ls = true ∧ ps.length ≤ 7 ∧ ls.length ≤ 8)
  clear hfin hq2 hbw hown hdr hok hp hl hlt0
  go_wp2_with fail
  refine bodyPost_ret (v := .agg #[.slice x3 ps.length c3, .slice y3 ls.length d3]) (by simp [results, Try.results13, go_sem, HF.out.1, HF.out.2.1]) rfl ⟨_, ps, ls, rfl, HOk.out.1, HOk.out.2.1, HOk.out.2.2, HF.out.2.2.1, HF.out.2.2.2⟩

set_option maxHeartbeats 2000000 in
set_option maxRecDepth 100000 in
theorem l03Left_any (g B : Nat) (a : Option Addr) (len cap : Nat) (w : World) (hc : CurAt w g a len cap) (hd : CodeIn w B a len) (hB : B ≤ g) :
    Calls Try.prog 49 #[.pointer (some ⟨g, 0, none⟩)] w fun e w' => ∃ (v : Value) (l : List Bool), l.length ≤ 11 ∧ e = .returned v ∧ w'.ownsRow w.heap.size 4 1 v l.length (bools l) ∧ Drawn w w' g B a len cap := by
  obtain ⟨i0, hi, hz0, hz1, hz2⟩ := info_parts Try.infoBool
  have hgl := cur_lt hc
  have HD := hide hd
  have HC := hide hc
  clear hd hc
  go_enter Try.func49, Try.ntmps49
  go_wp2
  go_loopg [3, 4] 11 (fun q v iv wr => ∃ l : List Bool, l.length ≤ 11 ∧ iv = .int .i64 (l.length : Int) ∧ q + l.length = 11 ∧ wr.ownsRow w.heap.size 4 1 v l.length (bools l) ∧ Hid (Drawn w wr g B a len cap))
  case atStart => exact ⟨[], by simp, rfl, by simp, by simpa [bools] using World.ownsRow_lit (base := w.heap.size) (e := 4) (size := 1) w #[] 0 (Nat.le_refl _) (by unfold maxLen; omega) (by simp), hide (drawn_below HC.out HD.out hB ((Below.refl w.heap.size w).alloc (Nat.le_refl _) _))⟩
  case round =>
    obtain ⟨l, hl, rfl, hg, hown, HDr⟩ := hrel
    have HG := hide hg
    clear hg
    go_wp2_with fail
    refine (l01Below_any g B a len cap 12 (by omega) (by omega) _ HDr.out.1 HDr.out.2.2 hB).mono ?_
    rintro e w2 ⟨z, hz, rfl, h2⟩
    have hown2 := hown.kept h2.2.1 (Or.inr (fun e => by have := (hown.lt g e).1; omega))
    have HDr2 := hide (drawn_trans HDr.out h2)
    clear h2 hown HDr
    by_cases hlt : l.length < z
    · go_wp2_with fail
      refine (l01Once_any g B a len cap 2 (by omega) (by omega) _ HDr2.out.1 HDr2.out.2.2 hB).mono ?_
      rintro e w3 ⟨b, rfl, h3⟩
      have hown3 := hown2.kept h3.2.1 (Or.inr (fun e => by have := (hown2.lt g e).1; omega))
      have HDr3 := hide (drawn_trans HDr2.out h3)
      have hws3 := HDr3.out.2.1.size
      clear h3 hown2 HDr2
      go_wp2_with (at_builtin; refine wpList_append_own _ rfl _ _ 36 rfl w.heap.size 4 i0 (.bool false) 1 1 Try.underlying36 hi hz0 hz1 hz2 rfl (by decide) _ _ _ rfl (hown3.alloc _) ⟨w3.heap.size, 0, none⟩ 1 1 [.bool b] rfl rfl ?c1 ?c2 ?c3 ?c4 ?c5 ?_)
      case c1 =>
        intro j u hj
        match j, hj with
        | 0, hj => simp at hj; subst hj; simp [Addr.add]
      case c2 => intro u hu; simp at hu; subst hu; rfl
      case c3 => unfold maxLen; omega
      case c4 => omega
      case c5 => simp; omega
      intro v' w4 hown4' hgrow _
      have hown4 : w4.ownsRow w.heap.size 4 1 v' (l ++ [b]).length (bools (l ++ [b])) := by
        rw [List.length_append, bools, List.map_append]
        exact hown4'
      have hgr : w.grownBy w4 (some g) := grown_app HDr3.out.2.1 hgrow (fun k hk => (hown3.lt k hk).1)
      have HDr4 : Hid (Drawn w w4 g B a len cap) := hide ⟨cur_grown (cur_grown HDr3.out.1 (World.grownBy_alloc w3 _ none) (by simp)) hgrow (fun e => by have := (hown3.lt g e.symm).1; omega), hgr, code_grown HD.out hgr hB hgl⟩
      clear hown4' hgrow hown3 hgr HDr3
      go_wp2_with fail
      go_roundg (gk - 1)
      case measure => have := HG.out; omega
      case rel => exact ⟨l ++ [b], by simp; omega, by rw [List.length_append]; go_num, by have := HG.out; simp; omega, hown4, HDr4⟩
    · have hnl : decide ((l.length : Int) < (z : Int)) = false := by simp; omega
      go_wp2_with fail
      go_ret
      exact ⟨_, l, hl, rfl, hown2, HDr2.out⟩

set_option maxHeartbeats 1000000 in
theorem drawLeft_any (a : Option Addr) (len cap : Nat) (w : World) (hd : CodeIn w w.heap.size a len) :
    Calls Try.prog 20 #[.slice a len cap] w fun e w' => ∃ (v : Value) (l : List Bool), l.length ≤ 11 ∧ e = .returned v ∧ w'.ownsRow w.heap.size 4 1 v l.length (bools l) ∧ Below w.heap.size w w' := by
  have HD := hide hd
  clear hd
  go_enter Try.func20, Try.ntmps20
  go_wp2_with fail
  refine (l01New_any a len cap _ HD.out).mono ?_
  rintro e w1 ⟨rfl, hc1, hd1, hb1⟩
  have HC1 := hide hc1
  have HD1 := hide hd1
  have HB1 := hide hb1
  clear hc1 hd1 hb1
  go_wp2_with fail
  refine (l03Left_any w.heap.size w.heap.size a len cap _ HC1.out HD1.out (Nat.le_refl _)).mono ?_
  rintro e w2 ⟨v, l, hl, rfl, hown, hdr⟩
  have HF := hide (⟨hl, own_down hown HB1.out.size, below_drawn HB1.out hdr (Nat.le_refl _) HB1.out.size⟩ : l.length ≤ 11 ∧ w2.ownsRow w.heap.size 4 1 v l.length (bools l) ∧ Below w.heap.size w w2)
  clear hl hown hdr
  go_wp2_with fail
  go_ret
  exact ⟨_, l, HF.out.1, rfl, HF.out.2.1, HF.out.2.2⟩

end Go.Proofs.Ytjjjnloimpehbaa
