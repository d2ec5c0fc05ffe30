/-
  spec's reading by contracts: ReadVar and ReadShort at any place, the cursor l04Cur (l04Var, l04ReadShort).
-/
import Derived.Test.YtdcmpjefemcppaaDoorPlain13
import Derived.Test.YtdcmpjefemcppaaDoorReadSh
import Derived.Test.YtdcmpjefemcppaaDoorDraw2
import Derived.Test.YtdcmpjefemcppaaDoorFrame
namespace Go.Proofs.YtdcmpjefemcppaaDoor
open Go.RowKit

def tupS : Option (ByteArray × Nat) → Value
  | some (x, q) => .tuple #[.string x, .int .i64 (q : Int), .bool true]
  | none => .tuple #[.string ⟨#[]⟩, .int .i64 0, .bool false]

def tupV : Option (Nat × Nat) → Value
  | some (n, q) => .tuple #[.int .i64 (n : Int), .int .i64 (q : Int), .bool true]
  | none => .tuple #[.int .i64 0, .int .i64 0, .bool false]

theorem rvOut_rd (t : ByteArray) (p : Nat) : rvOut p (rvGo (fun i => byt t (p + i)) (t.size - p) 5 0) = tupV (rdV t p) := by
  rw [rdV]
  cases rvGo (fun i => byt t (p + i)) (t.size - p) 5 0 with
  | none => rfl
  | some x => obtain ⟨n, c⟩ := x; simp [rvOut, tupV]

theorem shOut_rd (t : ByteArray) (p : Nat) : shOut t p (rvGo (fun i => byt t (p + i)) (t.size - p) 5 0) = tupS (rdS t p) := by
  rw [rdS, rdV]
  cases rvGo (fun i => byt t (p + i)) (t.size - p) 5 0 with
  | none => rfl
  | some x =>
    obtain ⟨n, c⟩ := x
    simp only [shOut, Option.map_some, Option.bind_some]
    split
    · simp [tupS]
    · rfl

theorem specReadVar_rd (t : ByteArray) (ht : t.size ≤ 1048576) (p : Nat) (w : World) :
    Calls Tryd.prog 62 #[.string t, .int .i64 (p : Int)] w fun e w' => e = .returned (tupV (rdV t p)) ∧ Below w.heap.size w w' := by
  by_cases h : p ≤ t.size
  · have := specReadVar_in t p ht h w
    rw [rvOut_rd] at this
    exact this
  · rw [rdV_past (by omega)]
    exact (specReadVar_out t p ht (by omega) w).mono (fun e w' ⟨h1, h2⟩ => ⟨h1, by rw [← h2]; exact Below.refl _ _⟩)

theorem implReadVar_rd (t : ByteArray) (ht : t.size ≤ 1048576) (p : Nat) (w : World) :
    Calls Tryd.prog 57 #[.string t, .int .i64 (p : Int)] w fun e w' => e = .returned (tupV (rdV t p)) ∧ Below w.heap.size w w' := by
  by_cases h : p ≤ t.size
  · have := implReadVar_in t p ht h w
    rw [rvOut_rd] at this
    exact this.mono (fun e w' ⟨h1, h2⟩ => ⟨h1, by rw [← h2]; exact Below.refl _ _⟩)
  · rw [rdV_past (by omega)]
    exact (implReadVar_out t p ht (by omega) w).mono (fun e w' ⟨h1, h2⟩ => ⟨h1, by rw [← h2]; exact Below.refl _ _⟩)

theorem specReadShort_rd (t : ByteArray) (ht : t.size ≤ 1048576) (p : Nat) (w : World) :
    Calls Tryd.prog 47 #[.string t, .int .i64 (p : Int)] w fun e w' => e = .returned (tupS (rdS t p)) ∧ Below w.heap.size w w' := by
  by_cases h : p ≤ t.size
  · have := specReadShort_in t p ht h w
    rw [shOut_rd] at this
    exact this
  · rw [rdS_past (by omega)]
    exact (specReadShort_out t p ht (by omega) w).mono (fun e w' ⟨h1, h2⟩ => ⟨h1, by rw [← h2]; exact Below.refl _ _⟩)

theorem implReadShort_rd (t : ByteArray) (ht : t.size ≤ 1048576) (p : Nat) (w : World) :
    Calls Tryd.prog 40 #[.string t, .int .i64 (p : Int)] w fun e w' => e = .returned (tupS (rdS t p)) ∧ Below w.heap.size w w' := by
  by_cases h : p ≤ t.size
  · have := implReadShort_in t p ht h w
    rw [shOut_rd] at this
    exact this
  · rw [rdS_past (by omega)]
    exact (implReadShort_out t p ht (by omega) w).mono (fun e w' ⟨h1, h2⟩ => ⟨h1, by rw [← h2]; exact Below.refl _ _⟩)

/-- the cursor at block g -/
def CurT (w : World) (g : Nat) (t : ByteArray) (p : Nat) (bad : Bool) : Prop := w.heap[g]? = some (.cells #[.string t, .int .i64 (p : Int), .bool bad] 66 (0, 0))

theorem curT_lt {w : World} {g p : Nat} {t : ByteArray} {bad : Bool} (h : CurT w g t p bad) : g < w.heap.size := (Array.getElem?_eq_some_iff.1 h).1

theorem grown_of_below {w w' : World} (h : Below w.heap.size w w') (r : Option Nat) : w.grownBy w' r := ⟨h.os, h.tape, h.output, h.size, fun k hk _ => h.block k hk⟩

set_option maxHeartbeats 1000000 in
set_option maxRecDepth 100000 in
theorem l04ReadShort_good (g : Nat) (t : ByteArray) (ht : t.size ≤ 1048576) (p : Nat) (x : ByteArray) (q : Nat) (ho : rdS t p = some (x, q)) (w : World) (hc : CurT w g t p false) :
    Calls Tryd.prog 33 #[.pointer (some ⟨g, 0, none⟩)] w fun e w' => e = .returned (.string x) ∧ CurT w' g t q false ∧ w.grownBy w' (some g) := by
  have HC := hide (specReadShort_rd t ht p)
  rw [ho, tupS] at HC
  have hgl := curT_lt hc
  have HCu := hide hc
  have c0 : w.cell? ⟨g, 0, none⟩ = some (.string t) := (cell_at hc 0).1
  have c1 : w.cell? ⟨g, 1, none⟩ = some (.int .i64 (p : Int)) := (cell_at hc 1).1
  clear hc ho
  go_enter Tryd.func33, Tryd.ntmps33
  go_wp2_with fail
  go_region_held3 (fun wx => wx.cell? ⟨g, 0, none⟩ = some (.string t) ∧ wx.cell? ⟨g, 1, none⟩ = some (.int .i64 (p : Int))) (first | exact ⟨c0, c1⟩ | exact hS2) ((go_at_call 47; refine (HC.out _).mono ?_; rintro e w2 ⟨rfl, hb2⟩; have hS2 : w2.cell? ⟨g, 0, none⟩ = some (.string t) ∧ w2.cell? ⟨g, 1, none⟩ = some (.int .i64 (p : Int)) := ⟨(hb2.cell (by exact hgl)).trans c0, (hb2.cell (by exact hgl)).trans c1⟩))
  have hbw : Below w.heap.size w w2 := (Below.refl _ _).drew.trans hb2
  have hcur : CurT w2 g t p false := (hbw.block _ hgl).trans HCu.out
  have HGr : Hid (w.grownBy w2 (some g)) := hide (grown_of_below hbw _)
  have HC2 := hide hcur
  have e2 : w2.cell? ⟨g, 2, none⟩ = some (.bool false) := (cell_at hcur 2).1
  have f1 := (cell_at hcur 1).2
  clear hb2 hS2 c0 c1 hbw hcur
  go_wp2_with fail
  go_ret
  exact ⟨rfl, heap_setCell_same w2 g 1 _ _ _ HC2.out, grown_trans HGr.out (grown_setCell _ g 1 _)⟩

set_option maxHeartbeats 1000000 in
set_option maxRecDepth 100000 in
theorem l04ReadShort_bad (g : Nat) (t : ByteArray) (ht : t.size ≤ 1048576) (p : Nat) (bad : Bool) (ho : bad = true ∨ rdS t p = none) (w : World) (hc : CurT w g t p bad) :
    Calls Tryd.prog 33 #[.pointer (some ⟨g, 0, none⟩)] w fun e w' => e = .returned (.string ⟨#[]⟩) ∧ CurT w' g t p true ∧ w.grownBy w' (some g) := by
  have HC := hide (specReadShort_rd t ht p)
  have hgl := curT_lt hc
  have HCu := hide hc
  have c0 : w.cell? ⟨g, 0, none⟩ = some (.string t) := (cell_at hc 0).1
  have c1 : w.cell? ⟨g, 1, none⟩ = some (.int .i64 (p : Int)) := (cell_at hc 1).1
  obtain ⟨r1, r2, r3, hr⟩ : ∃ r1 r2 r3, tupS (rdS t p) = .tuple #[r1, r2, .bool r3] ∧ (bad = true ∨ r3 = false) := by
    rcases ho with h | h
    · cases rdS t p with
      | none => exact ⟨_, _, _, rfl, Or.inl h⟩
      | some x => exact ⟨_, _, _, rfl, Or.inl h⟩
    · rw [h]; exact ⟨_, _, _, rfl, Or.inr rfl⟩
  rw [hr.1] at HC
  obtain ⟨-, hr⟩ := hr
  clear hc ho
  go_enter Tryd.func33, Tryd.ntmps33
  go_wp2_with fail
  go_region_held3 (fun wx => wx.cell? ⟨g, 0, none⟩ = some (.string t) ∧ wx.cell? ⟨g, 1, none⟩ = some (.int .i64 (p : Int))) (first | exact ⟨c0, c1⟩ | exact hS2) ((go_at_call 47; refine (HC.out _).mono ?_; rintro e w2 ⟨rfl, hb2⟩; have hS2 : w2.cell? ⟨g, 0, none⟩ = some (.string t) ∧ w2.cell? ⟨g, 1, none⟩ = some (.int .i64 (p : Int)) := ⟨(hb2.cell (by exact hgl)).trans c0, (hb2.cell (by exact hgl)).trans c1⟩))
  have hbw : Below w.heap.size w w2 := (Below.refl _ _).drew.trans hb2
  have hcur : CurT w2 g t p bad := (hbw.block _ hgl).trans HCu.out
  have HGr : Hid (w.grownBy w2 (some g)) := hide (grown_of_below hbw _)
  have HC2 := hide hcur
  have e2 : w2.cell? ⟨g, 2, none⟩ = some (.bool bad) := (cell_at hcur 2).1
  have f2 := (cell_at hcur 2).2
  clear hb2 hS2 c0 c1 hbw hcur
  cases bad with
  | true =>
    go_wp2_with fail
    go_ret
    exact ⟨rfl, heap_setCell_same w2 g 2 _ _ _ HC2.out, grown_trans HGr.out (grown_setCell _ g 2 _)⟩
  | false =>
    obtain rfl : r3 = false := by rcases hr with h | h; cases h; exact h
    go_wp2_with fail
    go_ret
    exact ⟨rfl, heap_setCell_same w2 g 2 _ _ _ HC2.out, grown_trans HGr.out (grown_setCell _ g 2 _)⟩

set_option maxHeartbeats 1000000 in
set_option maxRecDepth 100000 in
theorem l04Var_good (g : Nat) (t : ByteArray) (ht : t.size ≤ 1048576) (p : Nat) (x : Nat) (q : Nat) (ho : rdV t p = some (x, q)) (w : World) (hc : CurT w g t p false) :
    Calls Tryd.prog 44 #[.pointer (some ⟨g, 0, none⟩)] w fun e w' => e = .returned (.int .i64 (x : Int)) ∧ CurT w' g t q false ∧ w.grownBy w' (some g) := by
  have HC := hide (specReadVar_rd t ht p)
  rw [ho, tupV] at HC
  have hgl := curT_lt hc
  have HCu := hide hc
  have c0 : w.cell? ⟨g, 0, none⟩ = some (.string t) := (cell_at hc 0).1
  have c1 : w.cell? ⟨g, 1, none⟩ = some (.int .i64 (p : Int)) := (cell_at hc 1).1
  clear hc ho
  go_enter Tryd.func44, Tryd.ntmps44
  go_wp2_with fail
  go_region_held3 (fun wx => wx.cell? ⟨g, 0, none⟩ = some (.string t) ∧ wx.cell? ⟨g, 1, none⟩ = some (.int .i64 (p : Int))) (first | exact ⟨c0, c1⟩ | exact hS2) ((go_at_call 62; refine (HC.out _).mono ?_; rintro e w2 ⟨rfl, hb2⟩; have hS2 : w2.cell? ⟨g, 0, none⟩ = some (.string t) ∧ w2.cell? ⟨g, 1, none⟩ = some (.int .i64 (p : Int)) := ⟨(hb2.cell (by exact hgl)).trans c0, (hb2.cell (by exact hgl)).trans c1⟩))
  have hbw : Below w.heap.size w w2 := (Below.refl _ _).drew.trans hb2
  have hcur : CurT w2 g t p false := (hbw.block _ hgl).trans HCu.out
  have HGr : Hid (w.grownBy w2 (some g)) := hide (grown_of_below hbw _)
  have HC2 := hide hcur
  have e2 : w2.cell? ⟨g, 2, none⟩ = some (.bool false) := (cell_at hcur 2).1
  have f1 := (cell_at hcur 1).2
  clear hb2 hS2 c0 c1 hbw hcur
  go_wp2_with fail
  go_ret
  exact ⟨rfl, heap_setCell_same w2 g 1 _ _ _ HC2.out, grown_trans HGr.out (grown_setCell _ g 1 _)⟩

set_option maxHeartbeats 1000000 in
set_option maxRecDepth 100000 in
theorem l04Var_bad (g : Nat) (t : ByteArray) (ht : t.size ≤ 1048576) (p : Nat) (bad : Bool) (ho : bad = true ∨ rdV t p = none) (w : World) (hc : CurT w g t p bad) :
    Calls Tryd.prog 44 #[.pointer (some ⟨g, 0, none⟩)] w fun e w' => e = .returned (.int .i64 0) ∧ CurT w' g t p true ∧ w.grownBy w' (some g) := by
  have HC := hide (specReadVar_rd t ht p)
  have hgl := curT_lt hc
  have HCu := hide hc
  have c0 : w.cell? ⟨g, 0, none⟩ = some (.string t) := (cell_at hc 0).1
  have c1 : w.cell? ⟨g, 1, none⟩ = some (.int .i64 (p : Int)) := (cell_at hc 1).1
  obtain ⟨r1, r2, r3, hr⟩ : ∃ r1 r2 r3, tupV (rdV t p) = .tuple #[r1, r2, .bool r3] ∧ (bad = true ∨ r3 = false) := by
    rcases ho with h | h
    · cases rdV t p with
      | none => exact ⟨_, _, _, rfl, Or.inl h⟩
      | some x => exact ⟨_, _, _, rfl, Or.inl h⟩
    · rw [h]; exact ⟨_, _, _, rfl, Or.inr rfl⟩
  rw [hr.1] at HC
  obtain ⟨-, hr⟩ := hr
  clear hc ho
  go_enter Tryd.func44, Tryd.ntmps44
  go_wp2_with fail
  go_region_held3 (fun wx => wx.cell? ⟨g, 0, none⟩ = some (.string t) ∧ wx.cell? ⟨g, 1, none⟩ = some (.int .i64 (p : Int))) (first | exact ⟨c0, c1⟩ | exact hS2) ((go_at_call 62; refine (HC.out _).mono ?_; rintro e w2 ⟨rfl, hb2⟩; have hS2 : w2.cell? ⟨g, 0, none⟩ = some (.string t) ∧ w2.cell? ⟨g, 1, none⟩ = some (.int .i64 (p : Int)) := ⟨(hb2.cell (by exact hgl)).trans c0, (hb2.cell (by exact hgl)).trans c1⟩))
  have hbw : Below w.heap.size w w2 := (Below.refl _ _).drew.trans hb2
  have hcur : CurT w2 g t p bad := (hbw.block _ hgl).trans HCu.out
  have HGr : Hid (w.grownBy w2 (some g)) := hide (grown_of_below hbw _)
  have HC2 := hide hcur
  have e2 : w2.cell? ⟨g, 2, none⟩ = some (.bool bad) := (cell_at hcur 2).1
  have f2 := (cell_at hcur 2).2
  clear hb2 hS2 c0 c1 hbw hcur
  cases bad with
  | true =>
    go_wp2_with fail
    go_ret
    exact ⟨rfl, heap_setCell_same w2 g 2 _ _ _ HC2.out, grown_trans HGr.out (grown_setCell _ g 2 _)⟩
  | false =>
    obtain rfl : r3 = false := by rcases hr with h | h; cases h; exact h
    go_wp2_with fail
    go_ret
    exact ⟨rfl, heap_setCell_same w2 g 2 _ _ _ HC2.out, grown_trans HGr.out (grown_setCell _ g 2 _)⟩

end Go.Proofs.YtdcmpjefemcppaaDoor
