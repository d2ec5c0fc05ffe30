/-
  The program's reader of a meta by contracts: fail, number, count.
-/
import Derived.Test.YtplkioelbdemjaaGreatDoorSpecReadMeta
namespace Go.Proofs.YtplkioelbdemjaaGreatDoor
open Go.RowKit

/-- the reader at block g -/
def RdT (w : World) (g : Nat) (s : ByteArray) (p : Nat) (e : Value) : Prop := w.heap[g]? = some (.cells #[.string s, .int .i64 (p : Int), e] 112 (0, 0))

/-- an error that is none, or one with a code -/
def BadV (e : Value) (bad : Bool) : Prop := (bad = false ∧ e = .nilIface) ∨ (bad = true ∧ ∃ c : Int, c ≠ 0 ∧ e = .iface 110 (.agg #[.int .i64 c]))

def RdI (w : World) (g : Nat) (s : ByteArray) (p : Nat) (bad : Bool) : Prop := ∃ e, RdT w g s p e ∧ BadV e bad

theorem rdI_lt {w : World} {g p : Nat} {s : ByteArray} {bad : Bool} (h : RdI w g s p bad) : g < w.heap.size := by
  obtain ⟨e, h, -⟩ := h
  exact (Array.getElem?_eq_some_iff.1 h).1

theorem rdI_block {w w' : World} {g p : Nat} {s : ByteArray} {bad : Bool} (h : RdI w g s p bad) (hb : w'.heap[g]? = w.heap[g]?) : RdI w' g s p bad := by
  obtain ⟨e, h, k⟩ := h
  exact ⟨e, hb.trans h, k⟩

set_option maxHeartbeats 1000000 in
theorem fail_any (g : Nat) (s : ByteArray) (p : Nat) (bad : Bool) (c : Int) (hc0 : c ≠ 0) (w : World) (hr : RdI w g s p bad) :
    Calls Tryz.prog 75 #[.pointer (some ⟨g, 0, none⟩), .int .i64 c] w fun e w' => e = .returned (.tuple #[]) ∧ RdI w' g s p true ∧ w.grownBy w' (some g) := by
  obtain ⟨e, hr, hb⟩ := hr
  have c2 : w.cell? ⟨g, 2, none⟩ = some e := (cell_at hr 2).1
  have f2 : w.frozen? ⟨g, 2, none⟩ = false := (cell_at hr 2).2
  have HR := hide hr
  clear hr
  rcases hb with ⟨rfl, rfl⟩ | ⟨rfl, c', hc', rfl⟩
  · have HN : Hid (RdI (w.setCell ⟨g, 2, none⟩ (.iface 110 (.agg #[.int .i64 c]))) g s p true) := hide ⟨_, heap_setCell_same w g 2 _ _ _ HR.out, Or.inr ⟨rfl, c, hc0, rfl⟩⟩
    clear hc0
    go_enter Tryz.func75, Tryz.ntmps75
    go_wp2
    go_end0
    exact ⟨rfl, HN.out, grown_setM w g 2 _⟩
  · have HN : Hid (RdI w g s p true) := hide ⟨_, HR.out, Or.inr ⟨rfl, c', hc', rfl⟩⟩
    clear hc0 hc'
    go_enter Tryz.func75, Tryz.ntmps75
    go_wp2
    go_end0
    exact ⟨rfl, HN.out, grM_refl w g⟩
set_option maxHeartbeats 2000000 in
theorem number_any (g : Nat) (s : ByteArray) (hs : s.size ≤ 1048576) (p : Nat) (bad : Bool) (w : World) (hr : RdI w g s p bad) :
    Calls Tryz.prog 82 #[.pointer (some ⟨g, 0, none⟩)] w fun e w' => ∃ (x q : Nat) (bad' : Bool), e = .returned (.int .i64 (x : Int)) ∧ RdI w' g s q bad' ∧ w.grownBy w' (some g) ∧ NumOut s bad p x q bad' := by
  have hgl := rdI_lt hr
  obtain ⟨ev, hr, hb⟩ := hr
  have c0 : w.cell? ⟨g, 0, none⟩ = some (.string s) := (cell_at hr 0).1
  have c1 : w.cell? ⟨g, 1, none⟩ = some (.int .i64 (p : Int)) := (cell_at hr 1).1
  have HCu := hide hr
  have HC := hide (implReadVar_rd s hs p)
  clear hr
  cases ho : rdV s p with
  | none =>
    rw [ho, tupV] at HC
    rcases hb with ⟨rfl, rfl⟩ | ⟨rfl, cb, hcb, rfl⟩
    · have HNo : Hid (NumOut s false p 0 p true) := hide (Or.inr ⟨rfl, rfl, rfl, Or.inr ho⟩)
      clear ho
      go_enter Tryz.func82, Tryz.ntmps82
      go_wp2_with fail
      go_region_held3 (fun wx => wx.cell? ⟨g, 0, none⟩ = some (.string s) ∧ wx.cell? ⟨g, 1, none⟩ = some (.int .i64 (p : Int))) (first | exact ⟨c0, c1⟩ | exact hS2) ((go_at_call 90; refine (HC.out _).mono ?_; rintro e w2 ⟨rfl, hb2⟩; have hS2 : w2.cell? ⟨g, 0, none⟩ = some (.string s) ∧ w2.cell? ⟨g, 1, none⟩ = some (.int .i64 (p : Int)) := ⟨(hb2.cell (by exact hgl)).trans c0, (hb2.cell (by exact hgl)).trans c1⟩))
      have hbw : Below w.heap.size w w2 := (Below.refl _ _).drew.trans hb2
      have HR2 : Hid (RdT w2 g s p .nilIface) := hide ((hbw.block _ hgl).trans HCu.out)
      have HGr : Hid (w.grownBy w2 (some g)) := hide (grown_of_below hbw _)
      have e2 : w2.cell? ⟨g, 2, none⟩ = some .nilIface := (cell_at HR2.out 2).1
      have e1 : w2.cell? ⟨g, 1, none⟩ = some (.int .i64 (p : Int)) := (cell_at HR2.out 1).1
      have f1 := (cell_at HR2.out 1).2
      clear hb2 hS2 c0 c1 hbw
      have HFa := hide (fail_any g s p false 2 (by decide) w2 ⟨_, HR2.out, Or.inl ⟨rfl, rfl⟩⟩)
      go_wp2_with fail
      refine HFa.out.mono ?_
      rintro e w3 ⟨rfl, ⟨ev, hr3, hb3⟩, hg3⟩
      rcases hb3 with ⟨h, -⟩ | ⟨-, c3, hc3, rfl⟩
      · cases h
      have d2 : w3.cell? ⟨g, 2, none⟩ = some (.iface 110 (.agg #[.int .i64 c3])) := (cell_at hr3 2).1
      have HEnd : Hid (RdI w3 g s p true ∧ w.grownBy w3 (some g)) := hide ⟨⟨_, hr3, Or.inr ⟨rfl, c3, hc3, rfl⟩⟩, grM_trans HGr.out hg3⟩
      clear hr3 hc3 hg3 e2 e1 f1
      go_wp2_with fail
      go_ret
      exact ⟨0, p, true, rfl, HEnd.out.1, HEnd.out.2, HNo.out⟩
    · have HNo : Hid (NumOut s true p 0 p true) := hide (Or.inr ⟨rfl, rfl, rfl, Or.inl rfl⟩)
      have HCb := hide hcb
      clear ho hcb
      go_enter Tryz.func82, Tryz.ntmps82
      go_wp2_with fail
      go_region_held3 (fun wx => wx.cell? ⟨g, 0, none⟩ = some (.string s) ∧ wx.cell? ⟨g, 1, none⟩ = some (.int .i64 (p : Int))) (first | exact ⟨c0, c1⟩ | exact hS2) ((go_at_call 90; refine (HC.out _).mono ?_; rintro e w2 ⟨rfl, hb2⟩; have hS2 : w2.cell? ⟨g, 0, none⟩ = some (.string s) ∧ w2.cell? ⟨g, 1, none⟩ = some (.int .i64 (p : Int)) := ⟨(hb2.cell (by exact hgl)).trans c0, (hb2.cell (by exact hgl)).trans c1⟩))
      have hbw : Below w.heap.size w w2 := (Below.refl _ _).drew.trans hb2
      have HR2 : Hid (RdT w2 g s p (.iface 110 (.agg #[.int .i64 cb]))) := hide ((hbw.block _ hgl).trans HCu.out)
      have HGr : Hid (w.grownBy w2 (some g)) := hide (grown_of_below hbw _)
      have e2 : w2.cell? ⟨g, 2, none⟩ = some (.iface 110 (.agg #[.int .i64 cb])) := (cell_at HR2.out 2).1
      have e1 : w2.cell? ⟨g, 1, none⟩ = some (.int .i64 (p : Int)) := (cell_at HR2.out 1).1
      have f1 := (cell_at HR2.out 1).2
      clear hb2 hS2 c0 c1 hbw
      have HFa := hide (fail_any g s p true 2 (by decide) w2 ⟨_, HR2.out, Or.inr ⟨rfl, cb, HCb.out, rfl⟩⟩)
      go_wp2_with fail
      refine HFa.out.mono ?_
      rintro e w3 ⟨rfl, ⟨ev, hr3, hb3⟩, hg3⟩
      rcases hb3 with ⟨h, -⟩ | ⟨-, c3, hc3, rfl⟩
      · cases h
      have d2 : w3.cell? ⟨g, 2, none⟩ = some (.iface 110 (.agg #[.int .i64 c3])) := (cell_at hr3 2).1
      have HEnd : Hid (RdI w3 g s p true ∧ w.grownBy w3 (some g)) := hide ⟨⟨_, hr3, Or.inr ⟨rfl, c3, hc3, rfl⟩⟩, grM_trans HGr.out hg3⟩
      clear hr3 hc3 hg3 e2 e1 f1
      go_wp2_with fail
      go_ret
      exact ⟨0, p, true, rfl, HEnd.out.1, HEnd.out.2, HNo.out⟩
  | some o =>
    obtain ⟨x, q⟩ := o
    rw [ho, tupV] at HC
    rcases hb with ⟨rfl, rfl⟩ | ⟨rfl, cb, hcb, rfl⟩
    · have HNo : Hid (NumOut s false p x q false) := hide (Or.inl ⟨rfl, rfl, ho⟩)
      clear ho
      go_enter Tryz.func82, Tryz.ntmps82
      go_wp2_with fail
      go_region_held3 (fun wx => wx.cell? ⟨g, 0, none⟩ = some (.string s) ∧ wx.cell? ⟨g, 1, none⟩ = some (.int .i64 (p : Int))) (first | exact ⟨c0, c1⟩ | exact hS2) ((go_at_call 90; refine (HC.out _).mono ?_; rintro e w2 ⟨rfl, hb2⟩; have hS2 : w2.cell? ⟨g, 0, none⟩ = some (.string s) ∧ w2.cell? ⟨g, 1, none⟩ = some (.int .i64 (p : Int)) := ⟨(hb2.cell (by exact hgl)).trans c0, (hb2.cell (by exact hgl)).trans c1⟩))
      have hbw : Below w.heap.size w w2 := (Below.refl _ _).drew.trans hb2
      have HR2 : Hid (RdT w2 g s p .nilIface) := hide ((hbw.block _ hgl).trans HCu.out)
      have HGr : Hid (w.grownBy w2 (some g)) := hide (grown_of_below hbw _)
      have e2 : w2.cell? ⟨g, 2, none⟩ = some .nilIface := (cell_at HR2.out 2).1
      have e1 : w2.cell? ⟨g, 1, none⟩ = some (.int .i64 (p : Int)) := (cell_at HR2.out 1).1
      have f1 := (cell_at HR2.out 1).2
      clear hb2 hS2 c0 c1 hbw
      have HN : Hid (RdI (w2.setCell ⟨g, 1, none⟩ (.int .i64 (q : Int))) g s q false) := hide ⟨_, heap_setCell_same w2 g 1 _ _ _ HR2.out, Or.inl ⟨rfl, rfl⟩⟩
      go_wp2_with fail
      go_ret
      exact ⟨x, q, false, rfl, HN.out, grM_trans HGr.out (grown_setM w2 g 1 _), HNo.out⟩
    · have HNo : Hid (NumOut s true p 0 p true) := hide (Or.inr ⟨rfl, rfl, rfl, Or.inl rfl⟩)
      have HCb := hide hcb
      clear ho hcb
      go_enter Tryz.func82, Tryz.ntmps82
      go_wp2_with fail
      go_region_held3 (fun wx => wx.cell? ⟨g, 0, none⟩ = some (.string s) ∧ wx.cell? ⟨g, 1, none⟩ = some (.int .i64 (p : Int))) (first | exact ⟨c0, c1⟩ | exact hS2) ((go_at_call 90; refine (HC.out _).mono ?_; rintro e w2 ⟨rfl, hb2⟩; have hS2 : w2.cell? ⟨g, 0, none⟩ = some (.string s) ∧ w2.cell? ⟨g, 1, none⟩ = some (.int .i64 (p : Int)) := ⟨(hb2.cell (by exact hgl)).trans c0, (hb2.cell (by exact hgl)).trans c1⟩))
      have hbw : Below w.heap.size w w2 := (Below.refl _ _).drew.trans hb2
      have HR2 : Hid (RdT w2 g s p (.iface 110 (.agg #[.int .i64 cb]))) := hide ((hbw.block _ hgl).trans HCu.out)
      have HGr : Hid (w.grownBy w2 (some g)) := hide (grown_of_below hbw _)
      have e2 : w2.cell? ⟨g, 2, none⟩ = some (.iface 110 (.agg #[.int .i64 cb])) := (cell_at HR2.out 2).1
      have e1 : w2.cell? ⟨g, 1, none⟩ = some (.int .i64 (p : Int)) := (cell_at HR2.out 1).1
      have f1 := (cell_at HR2.out 1).2
      clear hb2 hS2 c0 c1 hbw
      go_wp2_with fail
      go_ret
      exact ⟨0, p, true, rfl, ⟨_, HR2.out, Or.inr ⟨rfl, cb, HCb.out, rfl⟩⟩, HGr.out, HNo.out⟩

/-- what count tells -/
def CntOut (s : ByteArray) (bad : Bool) (p : Nat) (lim : Nat) (x q : Nat) (bad' : Bool) : Prop := ∃ (y : Nat) (b : Bool), NumOut s bad p y q b ∧ ((y ≤ lim ∧ x = y ∧ bad' = b) ∨ (lim < y ∧ x = 0 ∧ bad' = true))

set_option maxHeartbeats 1000000 in
theorem count_any (g : Nat) (s : ByteArray) (hs : s.size ≤ 1048576) (lim : Nat) (p : Nat) (bad : Bool) (w : World) (hr : RdI w g s p bad) :
    Calls Tryz.prog 83 #[.pointer (some ⟨g, 0, none⟩), .int .i64 (lim : Int)] w fun e w' => ∃ (x q : Nat) (bad' : Bool), e = .returned (.int .i64 (x : Int)) ∧ RdI w' g s q bad' ∧ w.grownBy w' (some g) ∧ CntOut s bad p lim x q bad' := by
  have HN := hide (number_any g s hs p bad w hr)
  clear hr
  go_enter Tryz.func83, Tryz.ntmps83
  go_wp2_with fail
  refine HN.out.mono ?_
  rintro e w1 ⟨y, q, b, rfl, hr1, hg1, ho1⟩
  have HR1 := hide hr1
  have HG1 := hide hg1
  have HO1 := hide ho1
  have hy := num_small ho1
  clear hr1 hg1 ho1
  by_cases hb : lim < y
  · have HF := hide (fail_any g s q b 3 (by decide) w1 HR1.out)
    have d1 : decide ((lim : Int) < (y : Int)) = true := decide_eq_true (by omega)
    go_wp2_with fail
    refine HF.out.mono ?_
    rintro e w2 ⟨rfl, hr2, hg2⟩
    have HE : Hid (RdI w2 g s q true ∧ w.grownBy w2 (some g)) := hide ⟨hr2, grM_trans HG1.out hg2⟩
    clear hr2 hg2
    go_wp2_with fail
    go_ret
    exact ⟨0, q, true, rfl, HE.out.1, HE.out.2, y, b, HO1.out, Or.inr ⟨hb, rfl, rfl⟩⟩
  · have d1 : decide ((lim : Int) < (y : Int)) = false := decide_eq_false (by omega)
    go_wp2_with fail
    go_ret
    exact ⟨y, q, b, rfl, HR1.out, HG1.out, y, b, HO1.out, Or.inl ⟨by omega, rfl, rfl⟩⟩
end Go.Proofs.YtplkioelbdemjaaGreatDoor
