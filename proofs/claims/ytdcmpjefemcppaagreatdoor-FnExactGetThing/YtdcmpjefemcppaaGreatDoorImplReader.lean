/-
  The program's nodeReader by contracts: must, mark, number, short: each answers and moves on, or leaves by the panic of misread.
-/
import Derived.Test.YtdcmpjefemcppaaGreatDoorCur
import Derived.RegionDies
import Derived.Defers
import Derived.Recover
import Derived.WalkLawsBesides
namespace Go.Proofs.YtdcmpjefemcppaaGreatDoor
open Go.RowKit

/-- the reader at block g -/
def RdT (w : World) (g : Nat) (t : ByteArray) (p : Nat) : Prop := w.heap[g]? = some (.cells #[.string t, .int .i64 (p : Int)] 95 (0, 0))

theorem rdT_lt {w : World} {g p : Nat} {t : ByteArray} (h : RdT w g t p) : g < w.heap.size := (Array.getElem?_eq_some_iff.1 h).1

/-- what misread is thrown as -/
def misread : List PanicEntry := [{ v := .iface 112 (.agg #[]), recovered := false }]

theorem must_yes (g : Nat) (w : World) : Calls Tryz.prog 63 #[.pointer (some ⟨g, 0, none⟩), .bool true] w fun e w' => e = .returned (.tuple #[]) ∧ w = w' := by
  go_enter Tryz.func63, Tryz.ntmps63
  go_wp2_with fail
  go_end0
  exact ⟨rfl, rfl⟩

theorem must_no (g : Nat) (w : World) : Calls Tryz.prog 63 #[.pointer (some ⟨g, 0, none⟩), .bool false] w fun e w' => e = .panicked misread ∧ w = w' := by
  go_enter Tryz.func63, Tryz.ntmps63
  go_wp2_with fail
  exact ⟨rfl, rfl, rfl⟩

set_option maxHeartbeats 1000000 in
set_option maxRecDepth 100000 in
theorem number_good (g : Nat) (t : ByteArray) (ht : t.size ≤ 1048576) (p : Nat) (x : Nat) (q : Nat) (ho : rdV t p = some (x, q)) (w : World) (hc : RdT w g t p) :
    Calls Tryz.prog 82 #[.pointer (some ⟨g, 0, none⟩)] w fun e w' => e = .returned (.int .i64 (x : Int)) ∧ RdT w' g t q ∧ w.grownBy w' (some g) := by
  have HC := hide (implReadVar_rd t ht p)
  rw [ho, tupV] at HC
  have hgl := rdT_lt hc
  have HCu := hide hc
  have c0 : w.cell? ⟨g, 0, none⟩ = some (.string t) := (cell_at hc 0).1
  have c1 : w.cell? ⟨g, 1, none⟩ = some (.int .i64 (p : Int)) := (cell_at hc 1).1
  clear hc ho
  go_enter Tryz.func82, Tryz.ntmps82
  go_wp2_with fail
  go_region_held3 (fun wx => wx.cell? ⟨g, 0, none⟩ = some (.string t) ∧ wx.cell? ⟨g, 1, none⟩ = some (.int .i64 (p : Int))) (first | exact ⟨c0, c1⟩ | exact hS2) ((go_at_call 70; refine (HC.out _).mono ?_; rintro e w2 ⟨rfl, hb2⟩; have hS2 : w2.cell? ⟨g, 0, none⟩ = some (.string t) ∧ w2.cell? ⟨g, 1, none⟩ = some (.int .i64 (p : Int)) := ⟨(hb2.cell (by exact hgl)).trans c0, (hb2.cell (by exact hgl)).trans c1⟩))
  have hbw : Below w.heap.size w w2 := (Below.refl _ _).drew.trans hb2
  have hcur : RdT w2 g t p := (hbw.block _ hgl).trans HCu.out
  have HGr : Hid (w.grownBy w2 (some g)) := hide (grown_of_below hbw _)
  have HC2 := hide hcur
  have f1 := (cell_at hcur 1).2
  have e1 : w2.cell? ⟨g, 1, none⟩ = some (.int .i64 (p : Int)) := (cell_at hcur 1).1
  clear hb2 hS2 c0 c1 hbw hcur
  go_wp2_with fail
  refine (must_yes g _).mono ?_
  rintro e w3 ⟨rfl, rfl⟩
  go_wp2_with fail
  go_ret
  exact ⟨rfl, heap_setCell_same w2 g 1 _ _ _ HC2.out, grown_trans HGr.out (grown_setCell _ g 1 _)⟩

set_option maxHeartbeats 1000000 in
set_option maxRecDepth 100000 in
theorem number_bad (g : Nat) (t : ByteArray) (ht : t.size ≤ 1048576) (p : Nat) (ho : rdV t p = none) (w : World) (hc : RdT w g t p) :
    Calls Tryz.prog 82 #[.pointer (some ⟨g, 0, none⟩)] w fun e w' => e = .panicked misread ∧ w.grownBy w' (some g) := by
  have HC := hide (implReadVar_rd t ht p)
  rw [ho, tupV] at HC
  have hgl := rdT_lt hc
  have c0 : w.cell? ⟨g, 0, none⟩ = some (.string t) := (cell_at hc 0).1
  have c1 : w.cell? ⟨g, 1, none⟩ = some (.int .i64 (p : Int)) := (cell_at hc 1).1
  clear hc ho
  go_enter Tryz.func82, Tryz.ntmps82
  go_wp2_with fail
  go_region_held3 (fun wx => wx.cell? ⟨g, 0, none⟩ = some (.string t) ∧ wx.cell? ⟨g, 1, none⟩ = some (.int .i64 (p : Int))) (first | exact ⟨c0, c1⟩ | exact hS2) ((go_at_call 70; refine (HC.out _).mono ?_; rintro e w2 ⟨rfl, hb2⟩; have hS2 : w2.cell? ⟨g, 0, none⟩ = some (.string t) ∧ w2.cell? ⟨g, 1, none⟩ = some (.int .i64 (p : Int)) := ⟨(hb2.cell (by exact hgl)).trans c0, (hb2.cell (by exact hgl)).trans c1⟩))
  have hbw : Below w.heap.size w w2 := (Below.refl _ _).drew.trans hb2
  have HGr : Hid (w.grownBy w2 (some g)) := hide (grown_of_below hbw _)
  clear hb2 hS2 c0 c1 hbw
  go_wp2_with fail
  refine (must_no g _).mono ?_
  rintro e w3 ⟨rfl, rfl⟩
  exact ⟨rfl, rfl, HGr.out⟩

set_option maxHeartbeats 1000000 in
set_option maxRecDepth 100000 in
theorem short_good (g : Nat) (t : ByteArray) (ht : t.size ≤ 1048576) (p : Nat) (x : ByteArray) (q : Nat) (ho : rdS t p = some (x, q)) (w : World) (hc : RdT w g t p) :
    Calls Tryz.prog 83 #[.pointer (some ⟨g, 0, none⟩)] w fun e w' => e = .returned (.string x) ∧ RdT w' g t q ∧ w.grownBy w' (some g) := by
  have HC := hide (implReadShort_rd t ht p)
  rw [ho, tupS] at HC
  have hgl := rdT_lt hc
  have HCu := hide hc
  have c0 : w.cell? ⟨g, 0, none⟩ = some (.string t) := (cell_at hc 0).1
  have c1 : w.cell? ⟨g, 1, none⟩ = some (.int .i64 (p : Int)) := (cell_at hc 1).1
  clear hc ho
  go_enter Tryz.func83, Tryz.ntmps83
  go_wp2_with fail
  go_region_held3 (fun wx => wx.cell? ⟨g, 0, none⟩ = some (.string t) ∧ wx.cell? ⟨g, 1, none⟩ = some (.int .i64 (p : Int))) (first | exact ⟨c0, c1⟩ | exact hS2) ((go_at_call 60; refine (HC.out _).mono ?_; rintro e w2 ⟨rfl, hb2⟩; have hS2 : w2.cell? ⟨g, 0, none⟩ = some (.string t) ∧ w2.cell? ⟨g, 1, none⟩ = some (.int .i64 (p : Int)) := ⟨(hb2.cell (by exact hgl)).trans c0, (hb2.cell (by exact hgl)).trans c1⟩))
  have hbw : Below w.heap.size w w2 := (Below.refl _ _).drew.trans hb2
  have hcur : RdT w2 g t p := (hbw.block _ hgl).trans HCu.out
  have HGr : Hid (w.grownBy w2 (some g)) := hide (grown_of_below hbw _)
  have HC2 := hide hcur
  have f1 := (cell_at hcur 1).2
  have e1 : w2.cell? ⟨g, 1, none⟩ = some (.int .i64 (p : Int)) := (cell_at hcur 1).1
  clear hb2 hS2 c0 c1 hbw hcur
  go_wp2_with fail
  refine (must_yes g _).mono ?_
  rintro e w3 ⟨rfl, rfl⟩
  go_wp2_with fail
  go_ret
  exact ⟨rfl, heap_setCell_same w2 g 1 _ _ _ HC2.out, grown_trans HGr.out (grown_setCell _ g 1 _)⟩

set_option maxHeartbeats 1000000 in
set_option maxRecDepth 100000 in
theorem short_bad (g : Nat) (t : ByteArray) (ht : t.size ≤ 1048576) (p : Nat) (ho : rdS t p = none) (w : World) (hc : RdT w g t p) :
    Calls Tryz.prog 83 #[.pointer (some ⟨g, 0, none⟩)] w fun e w' => e = .panicked misread ∧ w.grownBy w' (some g) := by
  have HC := hide (implReadShort_rd t ht p)
  rw [ho, tupS] at HC
  have hgl := rdT_lt hc
  have c0 : w.cell? ⟨g, 0, none⟩ = some (.string t) := (cell_at hc 0).1
  have c1 : w.cell? ⟨g, 1, none⟩ = some (.int .i64 (p : Int)) := (cell_at hc 1).1
  clear hc ho
  go_enter Tryz.func83, Tryz.ntmps83
  go_wp2_with fail
  go_region_held3 (fun wx => wx.cell? ⟨g, 0, none⟩ = some (.string t) ∧ wx.cell? ⟨g, 1, none⟩ = some (.int .i64 (p : Int))) (first | exact ⟨c0, c1⟩ | exact hS2) ((go_at_call 60; refine (HC.out _).mono ?_; rintro e w2 ⟨rfl, hb2⟩; have hS2 : w2.cell? ⟨g, 0, none⟩ = some (.string t) ∧ w2.cell? ⟨g, 1, none⟩ = some (.int .i64 (p : Int)) := ⟨(hb2.cell (by exact hgl)).trans c0, (hb2.cell (by exact hgl)).trans c1⟩))
  have hbw : Below w.heap.size w w2 := (Below.refl _ _).drew.trans hb2
  have HGr : Hid (w.grownBy w2 (some g)) := hide (grown_of_below hbw _)
  clear hb2 hS2 c0 c1 hbw
  go_wp2_with fail
  refine (must_no g _).mono ?_
  rintro e w3 ⟨rfl, rfl⟩
  exact ⟨rfl, rfl, HGr.out⟩

set_option maxHeartbeats 1000000 in
set_option maxRecDepth 100000 in
theorem mark_good (g : Nat) (t : ByteArray) (ht : t.size ≤ 1048576) (h0 : 0 < t.size) (w : World) (hc : RdT w g t 0) :
    Calls Tryz.prog 81 #[.pointer (some ⟨g, 0, none⟩)] w fun e w' => e = .returned (.int .u8 (byt t 0 : Int)) ∧ RdT w' g t 1 ∧ w.grownBy w' (some g) := by
  have hgl := rdT_lt hc
  have HCu := hide hc
  have c0 : w.cell? ⟨g, 0, none⟩ = some (.string t) := (cell_at hc 0).1
  have c1 : w.cell? ⟨g, 1, none⟩ = some (.int .i64 0) := (cell_at hc 1).1
  have f1 := (cell_at hc 1).2
  have d1 : decide ((0 : Int) < (t.size : Int)) = true := decide_eq_true (by omega)
  obtain ⟨y, hy⟩ : ∃ y, y = byt t 0 := ⟨_, rfl⟩
  have hyb : y < 256 := by rw [hy]; exact byt_lt t _
  have hs1 : t[0].toNat = y := by rw [hy]; exact byt_eq t _ h0
  rw [← hy]
  clear hc hy
  go_enter Tryz.func81, Tryz.ntmps81
  go_wp2_with fail
  go_region_held3 (fun wx => wx.cell? ⟨g, 0, none⟩ = some (.string t) ∧ wx.cell? ⟨g, 1, none⟩ = some (.int .i64 0)) (first | exact ⟨c0, c1⟩ | exact hS2) ((go_at_call 63; refine (must_yes g _).mono ?_; rintro e w2 ⟨rfl, hb2⟩; have hS2 : w2.cell? ⟨g, 0, none⟩ = some (.string t) ∧ w2.cell? ⟨g, 1, none⟩ = some (.int .i64 0) := by rw [← hb2]; exact ⟨c0, c1⟩))
  have hcur : RdT w2 g t 0 := by rw [← hb2]; exact HCu.out
  have HGr : Hid (w.grownBy w2 (some g)) := hide (by rw [← hb2]; exact grown_of_below (Below.refl _ _).drew _)
  have HC2 := hide hcur
  have f1' := (cell_at hcur 1).2
  have e1 : w2.cell? ⟨g, 1, none⟩ = some (.int .i64 0) := (cell_at hcur 1).1
  have e0 : w2.cell? ⟨g, 0, none⟩ = some (.string t) := (cell_at hcur 0).1
  clear hb2 hS2 c0 c1 hcur f1
  have hp1 : (0 : Int) < (t.size : Int) := by omega
  go_wp2_with fail
  go_quiet (fail)
  go_wp2_with fail
  go_ret
  exact ⟨rfl, heap_setCell_same w2 g 1 _ _ _ HC2.out, grown_trans HGr.out (grown_trans (grown_setCell _ g 1 _) (grown_of_below (below_drewN (Below.refl _ _) _) _))⟩

set_option maxHeartbeats 1000000 in
set_option maxRecDepth 100000 in
theorem mark_bad (g : Nat) (t : ByteArray) (h0 : t.size = 0) (w : World) (hc : RdT w g t 0) :
    Calls Tryz.prog 81 #[.pointer (some ⟨g, 0, none⟩)] w fun e w' => e = .panicked misread ∧ w.grownBy w' (some g) := by
  have c0 : w.cell? ⟨g, 0, none⟩ = some (.string t) := (cell_at hc 0).1
  have c1 : w.cell? ⟨g, 1, none⟩ = some (.int .i64 0) := (cell_at hc 1).1
  have d1 : decide ((0 : Int) < (t.size : Int)) = false := decide_eq_false (by omega)
  clear hc
  go_enter Tryz.func81, Tryz.ntmps81
  go_wp2_with fail
  go_region_dies
  all_goals
    refine (must_no g _).mono ?_
    rintro e w3 ⟨rfl, rfl⟩
    exact ⟨rfl, rfl, grown_of_below (Below.refl _ _).drew _⟩
end Go.Proofs.YtdcmpjefemcppaaGreatDoor
