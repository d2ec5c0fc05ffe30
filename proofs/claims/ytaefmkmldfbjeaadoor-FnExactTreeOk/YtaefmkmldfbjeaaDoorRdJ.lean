/-
  Several texts in one. The draws' cursor by contracts: l01Byte, l01Below, l01Once give some number within their bounds and turn nothing but the cursor's own block. Which number is drawn is not said. · More draws by contracts: l01Once, l01New, l01Text, l01Long. Which text is drawn is not said but its length's bound. · spec's reading by contracts: ReadVar and ReadShort at any place, the cursor l04Cur (l04Var, l04ReadShort). · The program's nodeReader by contracts: must, mark, number, short: each answers and moves on, or leaves by the panic of misread. · 'append(own, row...)': a row of our own, and behind it the elements of a row that is only read (nil, empty or not): laws at the operation, in a plain region and in one that draws its order. No program. · A call of a function of the program as one step of a region that draws its order. No function of the program. · A node that grows in a variable of its own, row by row: what stays and what is new behind an append and a store. No function of the program. · Steps of a region that draws its order: a call under a guard that is met; a call that leaves by a panic. No function of the program. · (*impl.nodeReader).node by contracts: it answers the right node whose bytes these are, or leaves by a panic where there is none. (Written by tools/rnode.py.)
-/
import Derived.Test.YtaefmkmldfbjeaaDoorProg
import Derived.Test.YtaefmkmldfbjeaaDoorPlJ
import Derived.Laws.OwnMore
import Derived.Laws.Pointers
import Derived.Laws.BitsAllLaws
import Derived.Laws.Shifts
import Derived.OwnWalk
import Derived.WalkKit
import Derived.WalkSpells
import Derived.WalkSmall
import Derived.BigQuiet
import Derived.Deep.QuietTactic
import Derived.Outline
import Derived.Test.YtaefmkmldfbjeaaDoorOwn
import Derived.Deep.LoopGhost
import Derived.Test.YtaefmkmldfbjeaaDoorReadSh
import Derived.Test.YtaefmkmldfbjeaaDoorFrame
import Derived.RegionDies
import Derived.Defers
import Derived.Recover
import Derived.WalkLawsBesides
import Derived.Test.YtaefmkmldfbjeaaDoorRow
import Derived.Deep.AppendLies
import Derived.Test.YtaefmkmldfbjeaaDoorNode
import Derived.Lib.Hide
import Derived.Test.YtaefmkmldfbjeaaDoorImplNode
import Derived.Deep.RegionLaw
namespace Go.Proofs.YtaefmkmldfbjeaaDoor
open Go.RowKit

/-- the code that came in: no byte, or bytes that lie below block B -/
def CodeIn (w : World) (B : Nat) (a : Option Addr) (len : Nat) : Prop :=
  len ≤ 1048576 ∧ (len = 0 ∨ ∃ b off, a = some ⟨b, off, none⟩ ∧ b < B ∧ ∀ j, j < len → ∃ z : Nat, z < 256 ∧ w.cell? ⟨b, off + j, none⟩ = some (.int .u8 (z : Int)))

/-- a slice of bytes that came in and was read, as the draws take it -/
theorem codeIn_of {W : World} {x : Addr} {len cap : Nat} {zs : List Int} (hl : len ≤ cap) (hz : zs.length = cap) (hcell : ∀ i, i < zs.length → W.cell? (x.add i) = some (.int .u8 (zs.getD i 0))) (hwz : ∀ n ∈ zs, (Lit.int .u8 n).wf = true) :
    1048576 < len ∨ CodeIn W W.heap.size (some x) len := by
  by_cases hbig : 1048576 < len
  · exact Or.inl hbig
  · refine Or.inr ⟨by omega, ?_⟩
    by_cases h0 : len = 0
    · exact Or.inl h0
    · obtain ⟨b, off, spot⟩ := x
      have hc := hcell 0 (by omega)
      obtain rfl : spot = none := by simpa [Addr.add] using World.cell?_spot hc
      have hb : b < W.heap.size := World.block_lt_of_cell? W _ (by simpa [Addr.add] using hc : W.cell? ⟨b, off, none⟩ = _)
      refine Or.inr ⟨b, off, rfl, hb, fun j hj => ?_⟩
      have hj' : j < zs.length := by omega
      have hm : zs.getD j 0 ∈ zs := by rw [List.getD, List.getElem?_eq_getElem hj']; exact List.getElem_mem hj'
      have hw := hwz _ hm
      have hbd : 0 ≤ zs.getD j 0 ∧ zs.getD j 0 ≤ 255 := by simpa [Lit.wf, IntKind.min, IntKind.max, IntKind.signed, IntKind.bits] using hw
      refine ⟨(zs.getD j 0).toNat, by omega, ?_⟩
      have hcj := hcell j hj'
      rw [Addr.add_lit] at hcj
      rw [Int.toNat_of_nonneg hbd.1]
      exact hcj

theorem and255 (z : Int) : 0 ≤ bits BinOp.and IntKind.i64 z 255 ∧ bits BinOp.and IntKind.i64 z 255 ≤ 255 := by
  have e : bits BinOp.and IntKind.i64 z 255 = IntKind.i64.wrap ((BitVec.ofInt 64 z &&& BitVec.ofInt 64 255).toNat : Int) := rfl
  have h : (BitVec.ofInt 64 z &&& BitVec.ofInt 64 255).toNat ≤ 255 := by
    rw [BitVec.toNat_and]
    exact Nat.le_trans Nat.and_le_right (by decide)
  rw [e, IntWalk.i64_in _ ⟨by omega, by omega⟩]
  omega

theorem and255_nat (z : Int) : ∃ x : Nat, x < 256 ∧ bits BinOp.and IntKind.i64 z 255 = (x : Int) := by
  have := and255 z
  exact ⟨(bits BinOp.and IntKind.i64 z 255).toNat, by omega, by omega⟩

theorem grown_setCell (w : World) (g j : Nat) (u : Value) : w.grownBy (w.setCell ⟨g, j, none⟩ u) (some g) :=
  ⟨rfl, rfl, rfl, by simp, fun k _ hk => heap_setCell_other w ⟨g, j, none⟩ k u (fun e => hk (by simp [e]))⟩

theorem grown_trans {a b c : World} {r : Option Nat} (h : a.grownBy b r) (k : b.grownBy c r) : a.grownBy c r :=
  ⟨k.os.trans h.os, k.tape.trans h.tape, k.output.trans h.output, Nat.le_trans h.size k.size, fun j hj hne => (k.block j (Nat.lt_of_lt_of_le hj h.size) hne).trans (h.block j hj hne)⟩

theorem grown_drewN {a b : World} {r : Option Nat} (h : a.grownBy b r) (n : Nat) : a.grownBy (b.drewN n) r := grown_trans h ⟨rfl, rfl, rfl, Nat.le_refl _, fun _ _ _ => rfl⟩

theorem code_grown {w w' : World} {g B : Nat} {a : Option Addr} {len : Nat} (h : CodeIn w B a len) (hg : w.grownBy w' (some g)) (hB : B ≤ g) (hs : g < w.heap.size) : CodeIn w' B a len := by
  refine ⟨h.1, ?_⟩
  rcases h.2 with h0 | ⟨b, off, e, hb, hz⟩
  · exact Or.inl h0
  · refine Or.inr ⟨b, off, e, hb, fun j hj => ?_⟩
    obtain ⟨z, h1, h2⟩ := hz j hj
    exact ⟨z, h1, by rw [World.cell?_of_block (hg.block b (by omega) (by simp; omega))]; exact h2⟩

end Go.Proofs.YtaefmkmldfbjeaaDoor

namespace Go.Proofs.YtaefmkmldfbjeaaDoor
open Go.RowKit

theorem grown_alloc {a b : World} {r : Option Nat} (h : a.grownBy b r) (o : Obj) : a.grownBy (b.alloc o) r := grown_trans h (World.grownBy_alloc b o r)

/-- an append to a row of our own that was laid behind w turns nothing that w had -/
theorem grown_app {w wr w1 : World} {g : Nat} {row : Option Nat} {o : Obj} (h : w.grownBy wr (some g)) (ha : (wr.alloc o).grownBy w1 row) (hr : ∀ k, row = some k → w.heap.size ≤ k) : w.grownBy w1 (some g) := by
  have h2 := grown_alloc h o
  exact ⟨ha.os.trans h2.os, ha.tape.trans h2.tape, ha.output.trans h2.output, Nat.le_trans h2.size ha.size, fun k hk hne =>
    (ha.block k (Nat.lt_of_lt_of_le hk h2.size) (fun e => by have := hr k e.symm; omega)).trans (h2.block k hk hne)⟩

end Go.Proofs.YtaefmkmldfbjeaaDoor

namespace Go.Proofs.YtaefmkmldfbjeaaDoor
open Go.RowKit

def tupS : Option (ByteArray × Nat) → Value
  | some (x, q) => .tuple #[.string x, .int .i64 (q : Int), .bool true]
  | none => .tuple #[.string ⟨#[]⟩, .int .i64 0, .bool false]

def tupV : Option (Nat × Nat) → Value
  | some (n, q) => .tuple #[.int .i64 (n : Int), .int .i64 (q : Int), .bool true]
  | none => .tuple #[.int .i64 0, .int .i64 0, .bool false]

theorem rvOut_rd (t : ByteArray) (p : Nat) : rvOut p (rvGo (fun i => byt t (p + i)) (t.size - p) 5 0) = tupV (rdV t p) := by
  rw [rdV]
  cases rvGo (fun i => byt t (p + i)) (t.size - p) 5 0 with
  | none => rfl
  | some x => obtain ⟨n, c⟩ := x; simp [rvOut, tupV]

theorem shOut_rd (t : ByteArray) (p : Nat) : shOut t p (rvGo (fun i => byt t (p + i)) (t.size - p) 5 0) = tupS (rdS t p) := by
  rw [rdS, rdV]
  cases rvGo (fun i => byt t (p + i)) (t.size - p) 5 0 with
  | none => rfl
  | some x =>
    obtain ⟨n, c⟩ := x
    simp only [shOut, Option.map_some, Option.bind_some]
    split
    · simp [tupS]
    · rfl

theorem specReadVar_rd (t : ByteArray) (ht : t.size ≤ 1048576) (p : Nat) (w : World) :
    Calls Tryd.prog 45 #[.string t, .int .i64 (p : Int)] w fun e w' => e = .returned (tupV (rdV t p)) ∧ Below w.heap.size w w' := by
  by_cases h : p ≤ t.size
  · have := specReadVar_in t p ht h w
    rw [rvOut_rd] at this
    exact this
  · rw [rdV_past (by omega)]
    exact (specReadVar_out t p ht (by omega) w).mono (fun e w' ⟨h1, h2⟩ => ⟨h1, by rw [← h2]; exact Below.refl _ _⟩)

theorem implReadVar_rd (t : ByteArray) (ht : t.size ≤ 1048576) (p : Nat) (w : World) :
    Calls Tryd.prog 61 #[.string t, .int .i64 (p : Int)] w fun e w' => e = .returned (tupV (rdV t p)) ∧ Below w.heap.size w w' := by
  by_cases h : p ≤ t.size
  · have := implReadVar_in t p ht h w
    rw [rvOut_rd] at this
    exact this.mono (fun e w' ⟨h1, h2⟩ => ⟨h1, by rw [← h2]; exact Below.refl _ _⟩)
  · rw [rdV_past (by omega)]
    exact (implReadVar_out t p ht (by omega) w).mono (fun e w' ⟨h1, h2⟩ => ⟨h1, by rw [← h2]; exact Below.refl _ _⟩)

theorem specReadShort_rd (t : ByteArray) (ht : t.size ≤ 1048576) (p : Nat) (w : World) :
    Calls Tryd.prog 46 #[.string t, .int .i64 (p : Int)] w fun e w' => e = .returned (tupS (rdS t p)) ∧ Below w.heap.size w w' := by
  by_cases h : p ≤ t.size
  · have := specReadShort_in t p ht h w
    rw [shOut_rd] at this
    exact this
  · rw [rdS_past (by omega)]
    exact (specReadShort_out t p ht (by omega) w).mono (fun e w' ⟨h1, h2⟩ => ⟨h1, by rw [← h2]; exact Below.refl _ _⟩)

theorem implReadShort_rd (t : ByteArray) (ht : t.size ≤ 1048576) (p : Nat) (w : World) :
    Calls Tryd.prog 62 #[.string t, .int .i64 (p : Int)] w fun e w' => e = .returned (tupS (rdS t p)) ∧ Below w.heap.size w w' := by
  by_cases h : p ≤ t.size
  · have := implReadShort_in t p ht h w
    rw [shOut_rd] at this
    exact this
  · rw [rdS_past (by omega)]
    exact (implReadShort_out t p ht (by omega) w).mono (fun e w' ⟨h1, h2⟩ => ⟨h1, by rw [← h2]; exact Below.refl _ _⟩)

/-- the cursor at block g -/
def CurT (w : World) (g : Nat) (t : ByteArray) (p : Nat) (bad : Bool) : Prop := w.heap[g]? = some (.cells #[.string t, .int .i64 (p : Int), .bool bad] 80 (0, 0))

theorem curT_lt {w : World} {g p : Nat} {t : ByteArray} {bad : Bool} (h : CurT w g t p bad) : g < w.heap.size := (Array.getElem?_eq_some_iff.1 h).1

theorem grown_of_below {w w' : World} (h : Below w.heap.size w w') (r : Option Nat) : w.grownBy w' r := ⟨h.os, h.tape, h.output, h.size, fun k hk _ => h.block k hk⟩

set_option maxHeartbeats 1000000 in
set_option maxRecDepth 100000 in
theorem l04ReadShort_good (g : Nat) (t : ByteArray) (ht : t.size ≤ 1048576) (p : Nat) (x : ByteArray) (q : Nat) (ho : rdS t p = some (x, q)) (w : World) (hc : CurT w g t p false) :
    Calls Tryd.prog 33 #[.pointer (some ⟨g, 0, none⟩)] w fun e w' => e = .returned (.string x) ∧ CurT w' g t q false ∧ w.grownBy w' (some g) := by
  have HC := hide (specReadShort_rd t ht p)
  rw [ho, tupS] at HC
  have hgl := curT_lt hc
  have HCu := hide hc
  have c0 : w.cell? ⟨g, 0, none⟩ = some (.string t) := (cell_at hc 0).1
  have c1 : w.cell? ⟨g, 1, none⟩ = some (.int .i64 (p : Int)) := (cell_at hc 1).1
  clear hc ho
  go_enter Tryd.func33, Tryd.ntmps33
  go_wp2_with fail
  go_region_held3 (fun wx => wx.cell? ⟨g, 0, none⟩ = some (.string t) ∧ wx.cell? ⟨g, 1, none⟩ = some (.int .i64 (p : Int))) (first | exact ⟨c0, c1⟩ | exact hS2) ((go_at_call 46; refine (HC.out _).mono ?_; rintro e w2 ⟨rfl, hb2⟩; have hS2 : w2.cell? ⟨g, 0, none⟩ = some (.string t) ∧ w2.cell? ⟨g, 1, none⟩ = some (.int .i64 (p : Int)) := ⟨(hb2.cell (by exact hgl)).trans c0, (hb2.cell (by exact hgl)).trans c1⟩))
  have hbw : Below w.heap.size w w2 := (Below.refl _ _).drew.trans hb2
  have hcur : CurT w2 g t p false := (hbw.block _ hgl).trans HCu.out
  have HGr : Hid (w.grownBy w2 (some g)) := hide (grown_of_below hbw _)
  have HC2 := hide hcur
  have e2 : w2.cell? ⟨g, 2, none⟩ = some (.bool false) := (cell_at hcur 2).1
  have f1 := (cell_at hcur 1).2
  clear hb2 hS2 c0 c1 hbw hcur
  go_wp2_with fail
  go_ret
  exact ⟨rfl, heap_setCell_same w2 g 1 _ _ _ HC2.out, grown_trans HGr.out (grown_setCell _ g 1 _)⟩

set_option maxHeartbeats 1000000 in
set_option maxRecDepth 100000 in
theorem l04ReadShort_bad (g : Nat) (t : ByteArray) (ht : t.size ≤ 1048576) (p : Nat) (bad : Bool) (ho : bad = true ∨ rdS t p = none) (w : World) (hc : CurT w g t p bad) :
    Calls Tryd.prog 33 #[.pointer (some ⟨g, 0, none⟩)] w fun e w' => e = .returned (.string ⟨#[]⟩) ∧ CurT w' g t p true ∧ w.grownBy w' (some g) := by
  have HC := hide (specReadShort_rd t ht p)
  have hgl := curT_lt hc
  have HCu := hide hc
  have c0 : w.cell? ⟨g, 0, none⟩ = some (.string t) := (cell_at hc 0).1
  have c1 : w.cell? ⟨g, 1, none⟩ = some (.int .i64 (p : Int)) := (cell_at hc 1).1
  obtain ⟨r1, r2, r3, hr⟩ : ∃ r1 r2 r3, tupS (rdS t p) = .tuple #[r1, r2, .bool r3] ∧ (bad = true ∨ r3 = false) := by
    rcases ho with h | h
    · cases rdS t p with
      | none => exact ⟨_, _, _, rfl, Or.inl h⟩
      | some x => exact ⟨_, _, _, rfl, Or.inl h⟩
    · rw [h]; exact ⟨_, _, _, rfl, Or.inr rfl⟩
  rw [hr.1] at HC
  obtain ⟨-, hr⟩ := hr
  clear hc ho
  go_enter Tryd.func33, Tryd.ntmps33
  go_wp2_with fail
  go_region_held3 (fun wx => wx.cell? ⟨g, 0, none⟩ = some (.string t) ∧ wx.cell? ⟨g, 1, none⟩ = some (.int .i64 (p : Int))) (first | exact ⟨c0, c1⟩ | exact hS2) ((go_at_call 46; refine (HC.out _).mono ?_; rintro e w2 ⟨rfl, hb2⟩; have hS2 : w2.cell? ⟨g, 0, none⟩ = some (.string t) ∧ w2.cell? ⟨g, 1, none⟩ = some (.int .i64 (p : Int)) := ⟨(hb2.cell (by exact hgl)).trans c0, (hb2.cell (by exact hgl)).trans c1⟩))
  have hbw : Below w.heap.size w w2 := (Below.refl _ _).drew.trans hb2
  have hcur : CurT w2 g t p bad := (hbw.block _ hgl).trans HCu.out
  have HGr : Hid (w.grownBy w2 (some g)) := hide (grown_of_below hbw _)
  have HC2 := hide hcur
  have e2 : w2.cell? ⟨g, 2, none⟩ = some (.bool bad) := (cell_at hcur 2).1
  have f2 := (cell_at hcur 2).2
  clear hb2 hS2 c0 c1 hbw hcur
  cases bad with
  | true =>
    go_wp2_with fail
    go_ret
    exact ⟨rfl, heap_setCell_same w2 g 2 _ _ _ HC2.out, grown_trans HGr.out (grown_setCell _ g 2 _)⟩
  | false =>
    obtain rfl : r3 = false := by rcases hr with h | h; cases h; exact h
    go_wp2_with fail
    go_ret
    exact ⟨rfl, heap_setCell_same w2 g 2 _ _ _ HC2.out, grown_trans HGr.out (grown_setCell _ g 2 _)⟩

set_option maxHeartbeats 1000000 in
set_option maxRecDepth 100000 in
theorem l04Var_good (g : Nat) (t : ByteArray) (ht : t.size ≤ 1048576) (p : Nat) (x : Nat) (q : Nat) (ho : rdV t p = some (x, q)) (w : World) (hc : CurT w g t p false) :
    Calls Tryd.prog 32 #[.pointer (some ⟨g, 0, none⟩)] w fun e w' => e = .returned (.int .i64 (x : Int)) ∧ CurT w' g t q false ∧ w.grownBy w' (some g) := by
  have HC := hide (specReadVar_rd t ht p)
  rw [ho, tupV] at HC
  have hgl := curT_lt hc
  have HCu := hide hc
  have c0 : w.cell? ⟨g, 0, none⟩ = some (.string t) := (cell_at hc 0).1
  have c1 : w.cell? ⟨g, 1, none⟩ = some (.int .i64 (p : Int)) := (cell_at hc 1).1
  clear hc ho
  go_enter Tryd.func32, Tryd.ntmps32
  go_wp2_with fail
  go_region_held3 (fun wx => wx.cell? ⟨g, 0, none⟩ = some (.string t) ∧ wx.cell? ⟨g, 1, none⟩ = some (.int .i64 (p : Int))) (first | exact ⟨c0, c1⟩ | exact hS2) ((go_at_call 45; refine (HC.out _).mono ?_; rintro e w2 ⟨rfl, hb2⟩; have hS2 : w2.cell? ⟨g, 0, none⟩ = some (.string t) ∧ w2.cell? ⟨g, 1, none⟩ = some (.int .i64 (p : Int)) := ⟨(hb2.cell (by exact hgl)).trans c0, (hb2.cell (by exact hgl)).trans c1⟩))
  have hbw : Below w.heap.size w w2 := (Below.refl _ _).drew.trans hb2
  have hcur : CurT w2 g t p false := (hbw.block _ hgl).trans HCu.out
  have HGr : Hid (w.grownBy w2 (some g)) := hide (grown_of_below hbw _)
  have HC2 := hide hcur
  have e2 : w2.cell? ⟨g, 2, none⟩ = some (.bool false) := (cell_at hcur 2).1
  have f1 := (cell_at hcur 1).2
  clear hb2 hS2 c0 c1 hbw hcur
  go_wp2_with fail
  go_ret
  exact ⟨rfl, heap_setCell_same w2 g 1 _ _ _ HC2.out, grown_trans HGr.out (grown_setCell _ g 1 _)⟩

set_option maxHeartbeats 1000000 in
set_option maxRecDepth 100000 in
theorem l04Var_bad (g : Nat) (t : ByteArray) (ht : t.size ≤ 1048576) (p : Nat) (bad : Bool) (ho : bad = true ∨ rdV t p = none) (w : World) (hc : CurT w g t p bad) :
    Calls Tryd.prog 32 #[.pointer (some ⟨g, 0, none⟩)] w fun e w' => e = .returned (.int .i64 0) ∧ CurT w' g t p true ∧ w.grownBy w' (some g) := by
  have HC := hide (specReadVar_rd t ht p)
  have hgl := curT_lt hc
  have HCu := hide hc
  have c0 : w.cell? ⟨g, 0, none⟩ = some (.string t) := (cell_at hc 0).1
  have c1 : w.cell? ⟨g, 1, none⟩ = some (.int .i64 (p : Int)) := (cell_at hc 1).1
  obtain ⟨r1, r2, r3, hr⟩ : ∃ r1 r2 r3, tupV (rdV t p) = .tuple #[r1, r2, .bool r3] ∧ (bad = true ∨ r3 = false) := by
    rcases ho with h | h
    · cases rdV t p with
      | none => exact ⟨_, _, _, rfl, Or.inl h⟩
      | some x => exact ⟨_, _, _, rfl, Or.inl h⟩
    · rw [h]; exact ⟨_, _, _, rfl, Or.inr rfl⟩
  rw [hr.1] at HC
  obtain ⟨-, hr⟩ := hr
  clear hc ho
  go_enter Tryd.func32, Tryd.ntmps32
  go_wp2_with fail
  go_region_held3 (fun wx => wx.cell? ⟨g, 0, none⟩ = some (.string t) ∧ wx.cell? ⟨g, 1, none⟩ = some (.int .i64 (p : Int))) (first | exact ⟨c0, c1⟩ | exact hS2) ((go_at_call 45; refine (HC.out _).mono ?_; rintro e w2 ⟨rfl, hb2⟩; have hS2 : w2.cell? ⟨g, 0, none⟩ = some (.string t) ∧ w2.cell? ⟨g, 1, none⟩ = some (.int .i64 (p : Int)) := ⟨(hb2.cell (by exact hgl)).trans c0, (hb2.cell (by exact hgl)).trans c1⟩))
  have hbw : Below w.heap.size w w2 := (Below.refl _ _).drew.trans hb2
  have hcur : CurT w2 g t p bad := (hbw.block _ hgl).trans HCu.out
  have HGr : Hid (w.grownBy w2 (some g)) := hide (grown_of_below hbw _)
  have HC2 := hide hcur
  have e2 : w2.cell? ⟨g, 2, none⟩ = some (.bool bad) := (cell_at hcur 2).1
  have f2 := (cell_at hcur 2).2
  clear hb2 hS2 c0 c1 hbw hcur
  cases bad with
  | true =>
    go_wp2_with fail
    go_ret
    exact ⟨rfl, heap_setCell_same w2 g 2 _ _ _ HC2.out, grown_trans HGr.out (grown_setCell _ g 2 _)⟩
  | false =>
    obtain rfl : r3 = false := by rcases hr with h | h; cases h; exact h
    go_wp2_with fail
    go_ret
    exact ⟨rfl, heap_setCell_same w2 g 2 _ _ _ HC2.out, grown_trans HGr.out (grown_setCell _ g 2 _)⟩

end Go.Proofs.YtaefmkmldfbjeaaDoor

namespace Go.Proofs.YtaefmkmldfbjeaaDoor
open Go.RowKit

/-- the reader at block g -/
def RdT (w : World) (g : Nat) (t : ByteArray) (p : Nat) : Prop := w.heap[g]? = some (.cells #[.string t, .int .i64 (p : Int)] 86 (0, 0))

theorem rdT_lt {w : World} {g p : Nat} {t : ByteArray} (h : RdT w g t p) : g < w.heap.size := (Array.getElem?_eq_some_iff.1 h).1

/-- what misread is thrown as -/
def misread : List PanicEntry := [{ v := .iface 104 (.agg #[]), recovered := false }]

theorem must_yes (g : Nat) (w : World) : Calls Tryd.prog 38 #[.pointer (some ⟨g, 0, none⟩), .bool true] w fun e w' => e = .returned (.tuple #[]) ∧ w = w' := by
  go_enter Tryd.func38, Tryd.ntmps38
  go_wp2_with fail
  go_end0
  exact ⟨rfl, rfl⟩

theorem must_no (g : Nat) (w : World) : Calls Tryd.prog 38 #[.pointer (some ⟨g, 0, none⟩), .bool false] w fun e w' => e = .panicked misread ∧ w = w' := by
  go_enter Tryd.func38, Tryd.ntmps38
  go_wp2_with fail
  exact ⟨rfl, rfl, rfl⟩

set_option maxHeartbeats 1000000 in
set_option maxRecDepth 100000 in
theorem number_good (g : Nat) (t : ByteArray) (ht : t.size ≤ 1048576) (p : Nat) (x : Nat) (q : Nat) (ho : rdV t p = some (x, q)) (w : World) (hc : RdT w g t p) :
    Calls Tryd.prog 53 #[.pointer (some ⟨g, 0, none⟩)] w fun e w' => e = .returned (.int .i64 (x : Int)) ∧ RdT w' g t q ∧ w.grownBy w' (some g) := by
  have HC := hide (implReadVar_rd t ht p)
  rw [ho, tupV] at HC
  have hgl := rdT_lt hc
  have HCu := hide hc
  have c0 : w.cell? ⟨g, 0, none⟩ = some (.string t) := (cell_at hc 0).1
  have c1 : w.cell? ⟨g, 1, none⟩ = some (.int .i64 (p : Int)) := (cell_at hc 1).1
  clear hc ho
  go_enter Tryd.func53, Tryd.ntmps53
  go_wp2_with fail
  go_region_held3 (fun wx => wx.cell? ⟨g, 0, none⟩ = some (.string t) ∧ wx.cell? ⟨g, 1, none⟩ = some (.int .i64 (p : Int))) (first | exact ⟨c0, c1⟩ | exact hS2) ((go_at_call 61; refine (HC.out _).mono ?_; rintro e w2 ⟨rfl, hb2⟩; have hS2 : w2.cell? ⟨g, 0, none⟩ = some (.string t) ∧ w2.cell? ⟨g, 1, none⟩ = some (.int .i64 (p : Int)) := ⟨(hb2.cell (by exact hgl)).trans c0, (hb2.cell (by exact hgl)).trans c1⟩))
  have hbw : Below w.heap.size w w2 := (Below.refl _ _).drew.trans hb2
  have hcur : RdT w2 g t p := (hbw.block _ hgl).trans HCu.out
  have HGr : Hid (w.grownBy w2 (some g)) := hide (grown_of_below hbw _)
  have HC2 := hide hcur
  have f1 := (cell_at hcur 1).2
  have e1 : w2.cell? ⟨g, 1, none⟩ = some (.int .i64 (p : Int)) := (cell_at hcur 1).1
  clear hb2 hS2 c0 c1 hbw hcur
  go_wp2_with fail
  refine (must_yes g _).mono ?_
  rintro e w3 ⟨rfl, rfl⟩
  go_wp2_with fail
  go_ret
  exact ⟨rfl, heap_setCell_same w2 g 1 _ _ _ HC2.out, grown_trans HGr.out (grown_setCell _ g 1 _)⟩

set_option maxHeartbeats 1000000 in
set_option maxRecDepth 100000 in
theorem number_bad (g : Nat) (t : ByteArray) (ht : t.size ≤ 1048576) (p : Nat) (ho : rdV t p = none) (w : World) (hc : RdT w g t p) :
    Calls Tryd.prog 53 #[.pointer (some ⟨g, 0, none⟩)] w fun e w' => e = .panicked misread ∧ w.grownBy w' (some g) := by
  have HC := hide (implReadVar_rd t ht p)
  rw [ho, tupV] at HC
  have hgl := rdT_lt hc
  have c0 : w.cell? ⟨g, 0, none⟩ = some (.string t) := (cell_at hc 0).1
  have c1 : w.cell? ⟨g, 1, none⟩ = some (.int .i64 (p : Int)) := (cell_at hc 1).1
  clear hc ho
  go_enter Tryd.func53, Tryd.ntmps53
  go_wp2_with fail
  go_region_held3 (fun wx => wx.cell? ⟨g, 0, none⟩ = some (.string t) ∧ wx.cell? ⟨g, 1, none⟩ = some (.int .i64 (p : Int))) (first | exact ⟨c0, c1⟩ | exact hS2) ((go_at_call 61; refine (HC.out _).mono ?_; rintro e w2 ⟨rfl, hb2⟩; have hS2 : w2.cell? ⟨g, 0, none⟩ = some (.string t) ∧ w2.cell? ⟨g, 1, none⟩ = some (.int .i64 (p : Int)) := ⟨(hb2.cell (by exact hgl)).trans c0, (hb2.cell (by exact hgl)).trans c1⟩))
  have hbw : Below w.heap.size w w2 := (Below.refl _ _).drew.trans hb2
  have HGr : Hid (w.grownBy w2 (some g)) := hide (grown_of_below hbw _)
  clear hb2 hS2 c0 c1 hbw
  go_wp2_with fail
  refine (must_no g _).mono ?_
  rintro e w3 ⟨rfl, rfl⟩
  exact ⟨rfl, rfl, HGr.out⟩

set_option maxHeartbeats 1000000 in
set_option maxRecDepth 100000 in
theorem short_good (g : Nat) (t : ByteArray) (ht : t.size ≤ 1048576) (p : Nat) (x : ByteArray) (q : Nat) (ho : rdS t p = some (x, q)) (w : World) (hc : RdT w g t p) :
    Calls Tryd.prog 54 #[.pointer (some ⟨g, 0, none⟩)] w fun e w' => e = .returned (.string x) ∧ RdT w' g t q ∧ w.grownBy w' (some g) := by
  have HC := hide (implReadShort_rd t ht p)
  rw [ho, tupS] at HC
  have hgl := rdT_lt hc
  have HCu := hide hc
  have c0 : w.cell? ⟨g, 0, none⟩ = some (.string t) := (cell_at hc 0).1
  have c1 : w.cell? ⟨g, 1, none⟩ = some (.int .i64 (p : Int)) := (cell_at hc 1).1
  clear hc ho
  go_enter Tryd.func54, Tryd.ntmps54
  go_wp2_with fail
  go_region_held3 (fun wx => wx.cell? ⟨g, 0, none⟩ = some (.string t) ∧ wx.cell? ⟨g, 1, none⟩ = some (.int .i64 (p : Int))) (first | exact ⟨c0, c1⟩ | exact hS2) ((go_at_call 62; refine (HC.out _).mono ?_; rintro e w2 ⟨rfl, hb2⟩; have hS2 : w2.cell? ⟨g, 0, none⟩ = some (.string t) ∧ w2.cell? ⟨g, 1, none⟩ = some (.int .i64 (p : Int)) := ⟨(hb2.cell (by exact hgl)).trans c0, (hb2.cell (by exact hgl)).trans c1⟩))
  have hbw : Below w.heap.size w w2 := (Below.refl _ _).drew.trans hb2
  have hcur : RdT w2 g t p := (hbw.block _ hgl).trans HCu.out
  have HGr : Hid (w.grownBy w2 (some g)) := hide (grown_of_below hbw _)
  have HC2 := hide hcur
  have f1 := (cell_at hcur 1).2
  have e1 : w2.cell? ⟨g, 1, none⟩ = some (.int .i64 (p : Int)) := (cell_at hcur 1).1
  clear hb2 hS2 c0 c1 hbw hcur
  go_wp2_with fail
  refine (must_yes g _).mono ?_
  rintro e w3 ⟨rfl, rfl⟩
  go_wp2_with fail
  go_ret
  exact ⟨rfl, heap_setCell_same w2 g 1 _ _ _ HC2.out, grown_trans HGr.out (grown_setCell _ g 1 _)⟩

set_option maxHeartbeats 1000000 in
set_option maxRecDepth 100000 in
theorem short_bad (g : Nat) (t : ByteArray) (ht : t.size ≤ 1048576) (p : Nat) (ho : rdS t p = none) (w : World) (hc : RdT w g t p) :
    Calls Tryd.prog 54 #[.pointer (some ⟨g, 0, none⟩)] w fun e w' => e = .panicked misread ∧ w.grownBy w' (some g) := by
  have HC := hide (implReadShort_rd t ht p)
  rw [ho, tupS] at HC
  have hgl := rdT_lt hc
  have c0 : w.cell? ⟨g, 0, none⟩ = some (.string t) := (cell_at hc 0).1
  have c1 : w.cell? ⟨g, 1, none⟩ = some (.int .i64 (p : Int)) := (cell_at hc 1).1
  clear hc ho
  go_enter Tryd.func54, Tryd.ntmps54
  go_wp2_with fail
  go_region_held3 (fun wx => wx.cell? ⟨g, 0, none⟩ = some (.string t) ∧ wx.cell? ⟨g, 1, none⟩ = some (.int .i64 (p : Int))) (first | exact ⟨c0, c1⟩ | exact hS2) ((go_at_call 62; refine (HC.out _).mono ?_; rintro e w2 ⟨rfl, hb2⟩; have hS2 : w2.cell? ⟨g, 0, none⟩ = some (.string t) ∧ w2.cell? ⟨g, 1, none⟩ = some (.int .i64 (p : Int)) := ⟨(hb2.cell (by exact hgl)).trans c0, (hb2.cell (by exact hgl)).trans c1⟩))
  have hbw : Below w.heap.size w w2 := (Below.refl _ _).drew.trans hb2
  have HGr : Hid (w.grownBy w2 (some g)) := hide (grown_of_below hbw _)
  clear hb2 hS2 c0 c1 hbw
  go_wp2_with fail
  refine (must_no g _).mono ?_
  rintro e w3 ⟨rfl, rfl⟩
  exact ⟨rfl, rfl, HGr.out⟩

set_option maxHeartbeats 1000000 in
set_option maxRecDepth 100000 in
theorem mark_good (g : Nat) (t : ByteArray) (ht : t.size ≤ 1048576) (h0 : 0 < t.size) (w : World) (hc : RdT w g t 0) :
    Calls Tryd.prog 52 #[.pointer (some ⟨g, 0, none⟩)] w fun e w' => e = .returned (.int .u8 (byt t 0 : Int)) ∧ RdT w' g t 1 ∧ w.grownBy w' (some g) := by
  have hgl := rdT_lt hc
  have HCu := hide hc
  have c0 : w.cell? ⟨g, 0, none⟩ = some (.string t) := (cell_at hc 0).1
  have c1 : w.cell? ⟨g, 1, none⟩ = some (.int .i64 0) := (cell_at hc 1).1
  have f1 := (cell_at hc 1).2
  have d1 : decide ((0 : Int) < (t.size : Int)) = true := decide_eq_true (by omega)
  obtain ⟨y, hy⟩ : ∃ y, y = byt t 0 := ⟨_, rfl⟩
  have hyb : y < 256 := by rw [hy]; exact byt_lt t _
  have hs1 : t[0].toNat = y := by rw [hy]; exact byt_eq t _ h0
  rw [← hy]
  clear hc hy
  go_enter Tryd.func52, Tryd.ntmps52
  go_wp2_with fail
  go_region_held3 (fun wx => wx.cell? ⟨g, 0, none⟩ = some (.string t) ∧ wx.cell? ⟨g, 1, none⟩ = some (.int .i64 0)) (first | exact ⟨c0, c1⟩ | exact hS2) ((go_at_call 38; refine (must_yes g _).mono ?_; rintro e w2 ⟨rfl, hb2⟩; have hS2 : w2.cell? ⟨g, 0, none⟩ = some (.string t) ∧ w2.cell? ⟨g, 1, none⟩ = some (.int .i64 0) := by rw [← hb2]; exact ⟨c0, c1⟩))
  have hcur : RdT w2 g t 0 := by rw [← hb2]; exact HCu.out
  have HGr : Hid (w.grownBy w2 (some g)) := hide (by rw [← hb2]; exact grown_of_below (Below.refl _ _).drew _)
  have HC2 := hide hcur
  have f1' := (cell_at hcur 1).2
  have e1 : w2.cell? ⟨g, 1, none⟩ = some (.int .i64 0) := (cell_at hcur 1).1
  have e0 : w2.cell? ⟨g, 0, none⟩ = some (.string t) := (cell_at hcur 0).1
  clear hb2 hS2 c0 c1 hcur f1
  have hp1 : (0 : Int) < (t.size : Int) := by omega
  go_wp2_with fail
  go_quiet (fail)
  go_wp2_with fail
  go_ret
  exact ⟨rfl, heap_setCell_same w2 g 1 _ _ _ HC2.out, grown_trans HGr.out (grown_trans (grown_setCell _ g 1 _) (grown_of_below (below_drewN (Below.refl _ _) _) _))⟩

set_option maxHeartbeats 1000000 in
set_option maxRecDepth 100000 in
theorem mark_bad (g : Nat) (t : ByteArray) (h0 : t.size = 0) (w : World) (hc : RdT w g t 0) :
    Calls Tryd.prog 52 #[.pointer (some ⟨g, 0, none⟩)] w fun e w' => e = .panicked misread ∧ w.grownBy w' (some g) := by
  have c0 : w.cell? ⟨g, 0, none⟩ = some (.string t) := (cell_at hc 0).1
  have c1 : w.cell? ⟨g, 1, none⟩ = some (.int .i64 0) := (cell_at hc 1).1
  have d1 : decide ((0 : Int) < (t.size : Int)) = false := decide_eq_false (by omega)
  clear hc
  go_enter Tryd.func52, Tryd.ntmps52
  go_wp2_with fail
  go_region_dies
  all_goals
    refine (must_no g _).mono ?_
    rintro e w3 ⟨rfl, rfl⟩
    exact ⟨rfl, rfl, grown_of_below (Below.refl _ _).drew _⟩
end Go.Proofs.YtaefmkmldfbjeaaDoor

namespace Go.Proofs.YtaefmkmldfbjeaaDoor
open Go.RowKit

theorem run_append_row {P : Program} (w : World) (t ty : TypeId) (base : Nat) (e : TypeId) (i : TypeInfo) (z : Value) (size bytes : Nat) (ht : P.underlying t = some (.slice e)) (hi : P.info? e = some i) (hz : i.zero = some z)
    (hsize : i.size = size) (hby : i.bytes = bytes) (hzs : z.cells.size = size) (hsz : 0 < size)
    (v : Value) (n : Nat) (xs : List Value) (hown : w.ownsRow base e size v n xs)
    (u : Value) (m : Nat) (ys : List Value) (hrow : RowAt w size u m ys) (h1 : ∀ y ∈ ys, y.oneCell' = true)
    (h63 : n + m ≤ maxLen) (hbytes : (n + m) * bytes ≤ 140737488355328) (hbase : base ≤ w.heap.size) :
    ∃ x c w', (Builtin.append_ #[t, t] ty #[v, u]).run P w = .ok (.slice x (n + m) c) w' ∧ w'.ownsRow base e size (.slice x (n + m) c) (n + m) (xs ++ ys) ∧ w.grownBy w' v.ownBlock := by
  have key : ∀ (v' : Value) (w' : World), w'.ownsRow base e size v' (n + m) (xs ++ ys) → ∃ x c, v' = Value.slice x (n + m) c := fun v' w' h => by
    obtain ⟨-, a, cap, ee, -⟩ := row_of_own h
    exact ⟨a, cap, ee⟩
  obtain ⟨hl, a, cap, rfl, h2⟩ := hrow
  rcases a with _ | ad
  · rcases h2 with h0 | ⟨b, off, e, _⟩
    · subst h0
      have hy : ys = [] := List.length_eq_zero_iff.1 (by rw [hl]; omega)
      subst hy
      obtain ⟨x, c, hx⟩ := key v w (by rw [List.append_nil]; exact hown)
      refine ⟨x, c, w, ?_, ?_, ⟨rfl, rfl, rfl, Nat.le_refl _, fun _ _ _ => rfl⟩⟩
      · rw [← hx]
        rcases hown.2 with ⟨rfl, rfl⟩ | ⟨g, cap, cur, rfl, _, _, hnc, _⟩
        · simp [Builtin.append_, run_underlying ht, sizeOf, typeInfo, hi, Builtin.lenOf, Builtin.firstCells]
        · simp [Builtin.append_, run_underlying ht, sizeOf, typeInfo, hi, Builtin.lenOf, Builtin.firstCells, hnc, storeCells]
      · rw [← hx, List.append_nil]; exact hown
    · cases e
  · have hnews : ∀ j y, ys[j]? = some y → w.cell? (ad.add j) = some y := fun j y hj => by
      have hjl : j < m * size := by rw [← hl]; exact (List.getElem?_eq_some_iff.1 hj).1
      rcases h2 with h0 | ⟨b, off, e, hlt, hc⟩
      · subst h0; simp at hjl
      · injection e with e
        subst e
        rw [Addr.add_lit, hc j hjl, hj]
    obtain ⟨v', w', hr, g2, g3, _⟩ := run_append_own (P := P) w base t ty e i z size bytes ht hi hz hsize hby hzs hsz v n xs hown ad m cap ys hl hnews h1 h63 hbytes hbase
    obtain ⟨x, c, rfl⟩ := key v' w' g2
    exact ⟨x, c, w', hr, g2, g3⟩

theorem wp_append_row {P : Program} (w : World) {o : Oper} {a : Act} {K : Act → World → Prop} {Q : Exit → Act → World → Prop} (s x : Operand) (t : TypeId)
    (ho : o.op = .call { callee := .builtin .append, args := #[s, x], argTypes := #[t, t] })
    (base : Nat) (e : TypeId) (i : TypeInfo) (z : Value) (size bytes : Nat) (ht : P.underlying t = some (.slice e)) (hi : P.info? e = some i) (hz : i.zero = some z)
    (hsize : i.size = size) (hby : i.bytes = bytes) (hzs : z.cells.size = size) (hsz : 0 < size)
    (v : Value) (n : Nat) (xs : List Value) (hs : a.eval s = v) (hown : w.ownsRow base e size v n xs)
    (u : Value) (m : Nat) (ys : List Value) (hx : a.eval x = u) (hrow : RowAt w size u m ys) (h1 : ∀ y ∈ ys, y.oneCell' = true)
    (h63 : n + m ≤ maxLen) (hbytes : (n + m) * bytes ≤ 140737488355328) (hbase : base ≤ w.heap.size)
    (h : ∀ x c w', w'.ownsRow base e size (.slice x (n + m) c) (n + m) (xs ++ ys) → w.grownBy w' v.ownBlock → K (a.put o.dst (.slice x (n + m) c)) w') : o.wp P a w K Q := by
  obtain ⟨y, c, w', hr, h2, h3⟩ := run_append_row (P := P) w t o.type base e i z size bytes ht hi hz hsize hby hzs hsz v n xs hown u m ys hrow h1 h63 hbytes hbase
  unfold Oper.wp execOp
  simp only [ho, resolve, invoke, builtin, Sem.run_bind, Sem.run_pure, Result.andThen_ok, List.map_toArray, List.map_cons, List.map_nil, hs, hx, hr]
  exact h y c w' h2 h3

theorem wpList_append_row {P : Program} (w : World) {ops : Array Oper} {rest : List Oper} {o : Oper} {a : Act} {Q : Exit → Act → World → Prop} (hgd : o.guard = none) (s x : Operand) (t : TypeId)
    (ho : o.op = .call { callee := .builtin .append, args := #[s, x], argTypes := #[t, t] })
    (base : Nat) (e : TypeId) (i : TypeInfo) (z : Value) (size bytes : Nat) (ht : P.underlying t = some (.slice e)) (hi : P.info? e = some i) (hz : i.zero = some z)
    (hsize : i.size = size) (hby : i.bytes = bytes) (hzs : z.cells.size = size) (hsz : 0 < size)
    (v : Value) (n : Nat) (xs : List Value) (hs : a.eval s = v) (hown : w.ownsRow base e size v n xs)
    (u : Value) (m : Nat) (ys : List Value) (hx : a.eval x = u) (hrow : RowAt w size u m ys) (h1 : ∀ y ∈ ys, y.oneCell' = true)
    (h63 : n + m ≤ maxLen) (hbytes : (n + m) * bytes ≤ 140737488355328) (hbase : base ≤ w.heap.size)
    (h : ∀ x c w', w'.ownsRow base e size (.slice x (n + m) c) (n + m) (xs ++ ys) → w.grownBy w' v.ownBlock → wpList P ops Q rest (a.put o.dst (.slice x (n + m) c)) w') : wpList P ops Q (o :: rest) a w :=
  wpList_plain hgd fun _ hK => wp_append_row w s x t ho base e i z size bytes ht hi hz hsize hby hzs hsz v n xs hs hown u m ys hx hrow h1 h63 hbytes hbase fun x c w' h2 h3 => hK _ _ (h x c w' h2 h3)

theorem step_append_row {P : Program} (w : World) {ops : Array Oper} {o : Oper} {a : Act} {K : Act → World → Prop} {Q : Exit → Act → World → Prop} {E : Prop} (hgd : o.guard = none) (s x : Operand) (t : TypeId)
    (ho : o.op = .call { callee := .builtin .append, args := #[s, x], argTypes := #[t, t] })
    (base : Nat) (e : TypeId) (i : TypeInfo) (z : Value) (size bytes : Nat) (ht : P.underlying t = some (.slice e)) (hi : P.info? e = some i) (hz : i.zero = some z)
    (hsize : i.size = size) (hby : i.bytes = bytes) (hzs : z.cells.size = size) (hsz : 0 < size)
    (v : Value) (n : Nat) (xs : List Value) (hs : a.eval s = v) (hown : w.ownsRow base e size v n xs)
    (u : Value) (m : Nat) (ys : List Value) (hx : a.eval x = u) (hrow : RowAt w size u m ys) (h1 : ∀ y ∈ ys, y.oneCell' = true)
    (h63 : n + m ≤ maxLen) (hbytes : (n + m) * bytes ≤ 140737488355328) (hbase : base ≤ w.heap.size)
    (h : ∀ x c w', w'.ownsRow base e size (.slice x (n + m) c) (n + m) (xs ++ ys) → w.grownBy w' v.ownBlock → K (a.put o.dst (.slice x (n + m) c)) w') :
    if Region.wanted o (yielded ops a.tmps) = true then Oper.wp P o a w K Q else E := by
  have hw : Region.wanted o (yielded ops a.tmps) = true := by simp [Region.wanted, hgd]
  rw [if_pos hw]
  exact wp_append_row w s x t ho base e i z size bytes ht hi hz hsize hby hzs hsz v n xs hs hown u m ys hx hrow h1 h63 hbytes hbase h

theorem strs_one (l : List ByteArray) : ∀ y ∈ strs l, y.oneCell' = true := fun y hy => by
  obtain ⟨s, _, rfl⟩ := List.mem_map.1 hy
  rfl
end Go.Proofs.YtaefmkmldfbjeaaDoor

namespace Go.Proofs.YtaefmkmldfbjeaaDoor
open Go.RowKit

theorem step_call2 {P : Program} (w : World) {ops : Array Oper} {o : Oper} {a : Act} {K : Act → World → Prop} {Q : Exit → Act → World → Prop} {E : Prop} (hgd : o.guard = none) (f : FuncId) (fn : Func) (hfn : P.funcs[f]? = some fn) (hname : ¬ fn.name = "runtime.NumGoroutine") (hbody : ¬ fn.body = none) (s x : Operand) (ts : Array TypeId)
    (ho : o.op = .call { callee := .value (.func f), args := #[s, x], argTypes := ts }) (u v : Value) (hs : a.eval s = u) (hx : a.eval x = v)
    (R : Ending → World → Prop) (hc : Calls P f #[u, v] w R) (hR : ∀ e w', R e w' → ∃ r, e = .returned r ∧ K (a.put o.dst r) w') :
    if Region.wanted o (yielded ops a.tmps) = true then Oper.wp P o a w K Q else E := by
  have hw : Region.wanted o (yielded ops a.tmps) = true := by simp [Region.wanted, hgd]
  rw [if_pos hw]
  unfold Oper.wp execOp
  have hf : a.eval (.func f) = .func (.func f) #[] #[] := rfl
  simp only [ho, resolve, invoke, hf, Deferred.ofValue, callFunc, Sem.run_bind, Sem.run_pure, Result.andThen_ok, List.map_toArray, List.map_cons, List.map_nil, hs, hx]
  simp [go_sem, hfn, hname, hbody]
  refine hc.mono ?_
  intro e w' h
  obtain ⟨r, rfl, hk⟩ := hR e w' h
  exact hk

theorem step_call1 {P : Program} (w : World) {ops : Array Oper} {o : Oper} {a : Act} {K : Act → World → Prop} {Q : Exit → Act → World → Prop} {E : Prop} (hgd : o.guard = none) (f : FuncId) (fn : Func) (hfn : P.funcs[f]? = some fn) (hname : ¬ fn.name = "runtime.NumGoroutine") (hbody : ¬ fn.body = none) (s : Operand) (ts : Array TypeId)
    (ho : o.op = .call { callee := .value (.func f), args := #[s], argTypes := ts }) (u : Value) (hs : a.eval s = u)
    (R : Ending → World → Prop) (hc : Calls P f #[u] w R) (hR : ∀ e w', R e w' → ∃ r, e = .returned r ∧ K (a.put o.dst r) w') :
    if Region.wanted o (yielded ops a.tmps) = true then Oper.wp P o a w K Q else E := by
  have hw : Region.wanted o (yielded ops a.tmps) = true := by simp [Region.wanted, hgd]
  rw [if_pos hw]
  unfold Oper.wp execOp
  have hf : a.eval (.func f) = .func (.func f) #[] #[] := rfl
  simp only [ho, resolve, invoke, hf, Deferred.ofValue, callFunc, Sem.run_bind, Sem.run_pure, Result.andThen_ok, List.map_toArray, List.map_cons, List.map_nil, hs]
  simp [go_sem, hfn, hname, hbody]
  refine hc.mono ?_
  intro e w' h
  obtain ⟨r, rfl, hk⟩ := hR e w' h
  exact hk

theorem step_append_fits {P : Program} (w : World) {ops : Array Oper} {o : Oper} {a : Act} {K : Act → World → Prop} {Q : Exit → Act → World → Prop} {E : Prop} (hgd : o.guard = none) (s x : Operand) (t : TypeId)
    (ho : o.op = .call { callee := .builtin .append, args := #[s, x], argTypes := #[t, t] })
    (base : Nat) (e : TypeId) (i : TypeInfo) (size : Nat) (ht : P.underlying t = some (.slice e)) (hi : P.info? e = some i) (hsize : i.size = size)
    (g k cap : Nat) (xs : List Value) (hs : a.eval s = .slice (some ⟨g, 0, none⟩) k cap) (hown : w.ownsRow base e size (.slice (some ⟨g, 0, none⟩) k cap) k xs)
    (ad : Addr) (m c : Nat) (news : List Value) (hx : a.eval x = .slice (some ad) m c) (hn : news.length = m * size) (hc : ∀ j u, news[j]? = some u → w.cell? (ad.add j) = some u) (h1 : ∀ y ∈ news, y.oneCell' = true) (b1 : k + m ≤ cap)
    (h : ∀ w', w'.ownsRow base e size (.slice (some ⟨g, 0, none⟩) (k + m) cap) (k + m) (xs ++ news) → w.grownBy w' (some g) → K (a.put o.dst (.slice (some ⟨g, 0, none⟩) (k + m) cap)) w') :
    if Region.wanted o (yielded ops a.tmps) = true then Oper.wp P o a w K Q else E := by
  have hw : Region.wanted o (yielded ops a.tmps) = true := by simp [Region.wanted, hgd]
  rw [if_pos hw]
  obtain ⟨w', hr, h2, h3⟩ := run_append_fits (P := P) w base t o.type e i size ht hi hsize g k cap xs hown ad m c news hn hc h1 b1
  unfold Oper.wp execOp
  simp only [ho, resolve, invoke, builtin, Sem.run_bind, Sem.run_pure, Result.andThen_ok, List.map_toArray, List.map_cons, List.map_nil, hs, hx, hr]
  exact h w' h2 h3
end Go.Proofs.YtaefmkmldfbjeaaDoor

namespace Go.Proofs.YtaefmkmldfbjeaaDoor
open Go.RowKit

/-- a node in the variable at block gn, its rows in memory behind it -/
def NSt (w : World) (gn : Nat) (n : Nd) (v1 v2 v3 : Value) : Prop :=
  w.heap[gn]? = some (.cells #[.bool n.lf, v1, v2, v3] 50 (0, 0)) ∧ w.ownsRow (gn + 1) 9 1 v1 n.ks.length (strs n.ks) ∧ w.ownsRow (gn + 1) 9 1 v2 n.vs.length (strs n.vs) ∧ w.ownsRow (gn + 1) 3 1 v3 n.cs.length (ints n.cs) ∧ ∀ k, v1.ownBlock = some k → v2.ownBlock ≠ some k

theorem nst_lt {w : World} {gn : Nat} {n : Nd} {v1 v2 v3 : Value} (h : NSt w gn n v1 v2 v3) : gn < w.heap.size := (Array.getElem?_eq_some_iff.1 h.1).1

theorem nst_grown {w w' : World} {g gn : Nat} {n : Nd} {v1 v2 v3 : Value} (h : NSt w gn n v1 v2 v3) (hg : w.grownBy w' (some g)) (hlt : g < gn) : NSt w' gn n v1 v2 v3 := by
  have hl := nst_lt h
  obtain ⟨h0, h1, h2, h3, h4⟩ := h
  refine ⟨(hg.block gn hl (fun e => by injection e with e; omega)).trans h0, h1.kept hg (Or.inr (fun e => by have := (h1.lt _ e).1; omega)), h2.kept hg (Or.inr (fun e => by have := (h2.lt _ e).1; omega)), h3.kept hg (Or.inr (fun e => by have := (h3.lt _ e).1; omega)), h4⟩

theorem nst_below {w w' : World} {gn : Nat} {n : Nd} {v1 v2 v3 : Value} (h : NSt w gn n v1 v2 v3) (hb : Below w.heap.size w w') : NSt w' gn n v1 v2 v3 := by
  have hl := nst_lt h
  obtain ⟨h0, h1, h2, h3, h4⟩ := h
  exact ⟨(hb.block gn hl).trans h0, own_stays h1 hb, own_stays h2 hb, own_stays h3 hb, h4⟩

theorem nst_node {w : World} {gn : Nat} {n : Nd} {v1 v2 v3 : Value} (h : NSt w gn n v1 v2 v3) : NodeOwn w (gn + 1) (.agg #[.bool n.lf, v1, v2, v3]) n.lf n.ks n.vs n.cs := ⟨v1, v2, v3, rfl, h.2.1, h.2.2.1, h.2.2.2.1, h.2.2.2.2⟩

/-- an append to a row that lies behind gn: the rest stays -/
theorem grown_high {a b c : World} {g : Nat} {r : Option Nat} (h : a.grownBy b (some g)) (k : b.grownBy c r) (hr : ∀ j, r = some j → a.heap.size ≤ j) : a.grownBy c (some g) :=
  ⟨k.os.trans h.os, k.tape.trans h.tape, k.output.trans h.output, Nat.le_trans h.size k.size, fun j hj hne => by
    rw [k.block j (Nat.lt_of_lt_of_le hj h.size) (fun e => by have := hr j e.symm; omega)]
    exact h.block j hj hne⟩

theorem str_snoc (l : List ByteArray) (x : ByteArray) : strs l ++ [.string x] = strs (l ++ [x]) := by simp [strs]

theorem int_snoc (l : List Int) (x : Int) : ints l ++ [.int .i64 x] = ints (l ++ [x]) := by simp [ints]

theorem one_new (w : World) (n : Nat) (hn : n = w.heap.size) (x : Value) (T : TypeId) : ∀ (j : Nat) (u : Value), [x][j]? = some u → (w.alloc (Obj.cells #[x] T)).cell? ((⟨n, 0, none⟩ : Addr).add j) = some u := by
  subst hn
  intro j u hj
  obtain rfl : j = 0 := by have := (List.getElem?_eq_some_iff.1 hj).1; simp at this; omega
  rw [Addr.add_lit, ← hj]
  exact (cell_at (heap_alloc_new w _) 0).1

theorem apart {u v : Value} (h : ∀ k, u.ownBlock = some k → v.ownBlock ≠ some k) : v.ownBlock = none ∨ v.ownBlock ≠ u.ownBlock := by
  cases hv : v.ownBlock with
  | none => exact Or.inl rfl
  | some k => exact Or.inr (fun e => h k e.symm hv)

theorem away {u : Value} {gn : Nat} (h : ∀ k, u.ownBlock = some k → gn < k) : some gn ≠ u.ownBlock := fun e => by have := h gn e.symm; omega

theorem nst_key {w w' : World} {gn b cap : Nat} {n : Nd} {v1 v2 v3 : Value} {x : ByteArray} (h : NSt w gn n v1 v2 v3) (hown : w'.ownsRow (gn + 1) 9 1 (.slice (some ⟨b, 0, none⟩) (n.ks.length + 1) cap) (n.ks.length + 1) (strs n.ks ++ [.string x])) (hg : w.grownBy w' v1.ownBlock) (hb : v1.ownBlock = some b ∨ b = w.heap.size) :
    NSt (w'.setCell ⟨gn, 1, none⟩ (.slice (some ⟨b, 0, none⟩) (n.ks.length + 1) cap)) gn ⟨n.lf, n.ks ++ [x], n.vs, n.cs⟩ (.slice (some ⟨b, 0, none⟩) (n.ks.length + 1) cap) v2 v3 := by
  have hl := nst_lt h
  obtain ⟨h0, h1, h2, h3, h4⟩ := h
  have hgn : w'.heap[gn]? = _ := (hg.block gn hl (away (fun k e => by have := (h1.lt k e).1; omega))).trans h0
  have hs := grown_setCell w' gn 1 (.slice (some ⟨b, 0, none⟩) (n.ks.length + 1) cap)
  have k2 := h2.kept hg (apart h4)
  have k3 := h3.kept hg (apart (fun k e => one_type h1 h3 Tryd.str_int k e))
  refine ⟨heap_setCell_same w' gn 1 _ _ _ hgn, ?_, k2.kept hs (Or.inr (fun e => by have := (h2.lt _ e).1; omega)), k3.kept hs (Or.inr (fun e => by have := (h3.lt _ e).1; omega)), ?_⟩
  · rw [List.length_append, ← str_snoc]
    exact hown.kept hs (Or.inr (fun e => by have := (hown.lt _ e).1; omega))
  · intro k e1 e2
    have e1 : b = k := Option.some.inj e1
    subst e1
    rcases hb with hb | hb
    · exact h4 b hb e2
    · have := (h2.lt b e2).2; omega

theorem nst_val {w w' : World} {gn b cap : Nat} {n : Nd} {v1 v2 v3 : Value} {x : ByteArray} (h : NSt w gn n v1 v2 v3) (hown : w'.ownsRow (gn + 1) 9 1 (.slice (some ⟨b, 0, none⟩) (n.vs.length + 1) cap) (n.vs.length + 1) (strs n.vs ++ [.string x])) (hg : w.grownBy w' v2.ownBlock) (hb : v2.ownBlock = some b ∨ b = w.heap.size) :
    NSt (w'.setCell ⟨gn, 2, none⟩ (.slice (some ⟨b, 0, none⟩) (n.vs.length + 1) cap)) gn ⟨n.lf, n.ks, n.vs ++ [x], n.cs⟩ v1 (.slice (some ⟨b, 0, none⟩) (n.vs.length + 1) cap) v3 := by
  have hl := nst_lt h
  obtain ⟨h0, h1, h2, h3, h4⟩ := h
  have hgn : w'.heap[gn]? = _ := (hg.block gn hl (away (fun k e => by have := (h2.lt k e).1; omega))).trans h0
  have hs := grown_setCell w' gn 2 (.slice (some ⟨b, 0, none⟩) (n.vs.length + 1) cap)
  have k1 := h1.kept hg (apart (fun k e e' => h4 k e' e))
  have k3 := h3.kept hg (apart (fun k e => one_type h2 h3 Tryd.str_int k e))
  refine ⟨heap_setCell_same w' gn 2 _ _ _ hgn, k1.kept hs (Or.inr (fun e => by have := (h1.lt _ e).1; omega)), ?_, k3.kept hs (Or.inr (fun e => by have := (h3.lt _ e).1; omega)), ?_⟩
  · rw [List.length_append, ← str_snoc]
    exact hown.kept hs (Or.inr (fun e => by have := (hown.lt _ e).1; omega))
  · intro k e1 e2
    have e2 : b = k := Option.some.inj e2
    subst e2
    rcases hb with hb | hb
    · exact h4 b e1 hb
    · have := (h1.lt b e1).2; omega

theorem nst_kid {w w' : World} {gn b cap : Nat} {n : Nd} {v1 v2 v3 : Value} {x : Int} (h : NSt w gn n v1 v2 v3) (hown : w'.ownsRow (gn + 1) 3 1 (.slice (some ⟨b, 0, none⟩) (n.cs.length + 1) cap) (n.cs.length + 1) (ints n.cs ++ [.int .i64 x])) (hg : w.grownBy w' v3.ownBlock) :
    NSt (w'.setCell ⟨gn, 3, none⟩ (.slice (some ⟨b, 0, none⟩) (n.cs.length + 1) cap)) gn ⟨n.lf, n.ks, n.vs, n.cs ++ [x]⟩ v1 v2 (.slice (some ⟨b, 0, none⟩) (n.cs.length + 1) cap) := by
  have hl := nst_lt h
  obtain ⟨h0, h1, h2, h3, h4⟩ := h
  have hgn : w'.heap[gn]? = _ := (hg.block gn hl (away (fun k e => by have := (h3.lt k e).1; omega))).trans h0
  have hs := grown_setCell w' gn 3 (.slice (some ⟨b, 0, none⟩) (n.cs.length + 1) cap)
  have k1 := h1.kept hg (apart (fun k e => one_type h3 h1 Tryd.str_int.symm k e))
  have k2 := h2.kept hg (apart (fun k e => one_type h3 h2 Tryd.str_int.symm k e))
  refine ⟨heap_setCell_same w' gn 3 _ _ _ hgn, k1.kept hs (Or.inr (fun e => by have := (h1.lt _ e).1; omega)), k2.kept hs (Or.inr (fun e => by have := (h2.lt _ e).1; omega)), ?_, h4⟩
  rw [List.length_append, ← int_snoc]
  exact hown.kept hs (Or.inr (fun e => by have := (hown.lt _ e).1; omega))

theorem key_step {w w' : World} {gn b cap : Nat} {n : Nd} {v1 v2 v3 : Value} {x : ByteArray} {o : Obj} (h : NSt w gn n v1 v2 v3) (hown : w'.ownsRow (gn + 1) 9 1 (.slice (some ⟨b, 0, none⟩) (n.ks.length + 1) cap) (n.ks.length + 1) (strs n.ks ++ [.string x])) (hg : (w.alloc o).grownBy w' v1.ownBlock) (hb : v1.ownBlock = some b ∨ b = (w.alloc o).heap.size) :
    NSt (w'.setCell ⟨gn, 1, none⟩ (.slice (some ⟨b, 0, none⟩) (n.ks.length + 1) cap)) gn ⟨n.lf, n.ks ++ [x], n.vs, n.cs⟩ (.slice (some ⟨b, 0, none⟩) (n.ks.length + 1) cap) v2 v3 ∧ Below gn w (w'.setCell ⟨gn, 1, none⟩ (.slice (some ⟨b, 0, none⟩) (n.ks.length + 1) cap)) ∧ w'.cell? ⟨gn, 1, none⟩ = some v1 ∧ w'.frozen? ⟨gn, 1, none⟩ = false := by
  have hl := nst_lt h
  have hba : Below w.heap.size w (w.alloc o) := (Below.refl _ _).alloc (Nat.le_refl _) _
  have hA := nst_below h hba
  have hlt := fun k e => (h.2.1.lt k e).1
  have cg : w'.heap[gn]? = _ := (hg.block gn (nst_lt hA) (away (fun k e => by have := hlt k e; omega))).trans hA.1
  refine ⟨nst_key hA hown hg hb, ?_, (cell_at cg 1).1, (cell_at cg 1).2⟩
  have h1 : Below gn w w' := ((Below.refl gn w).alloc (by omega) o).grown hg (by have := nst_lt hA; omega) (fun k e => by have := hlt k e; omega)
  exact h1.grown (grown_setCell w' gn 1 _) (by have := h1.size; omega) (fun k e => by injection e with e; omega)

theorem val_step {w w' : World} {gn b cap : Nat} {n : Nd} {v1 v2 v3 : Value} {x : ByteArray} {o : Obj} (h : NSt w gn n v1 v2 v3) (hown : w'.ownsRow (gn + 1) 9 1 (.slice (some ⟨b, 0, none⟩) (n.vs.length + 1) cap) (n.vs.length + 1) (strs n.vs ++ [.string x])) (hg : (w.alloc o).grownBy w' v2.ownBlock) (hb : v2.ownBlock = some b ∨ b = (w.alloc o).heap.size) :
    NSt (w'.setCell ⟨gn, 2, none⟩ (.slice (some ⟨b, 0, none⟩) (n.vs.length + 1) cap)) gn ⟨n.lf, n.ks, n.vs ++ [x], n.cs⟩ v1 (.slice (some ⟨b, 0, none⟩) (n.vs.length + 1) cap) v3 ∧ Below gn w (w'.setCell ⟨gn, 2, none⟩ (.slice (some ⟨b, 0, none⟩) (n.vs.length + 1) cap)) ∧ w'.cell? ⟨gn, 2, none⟩ = some v2 ∧ w'.frozen? ⟨gn, 2, none⟩ = false := by
  have hl := nst_lt h
  have hba : Below w.heap.size w (w.alloc o) := (Below.refl _ _).alloc (Nat.le_refl _) _
  have hA := nst_below h hba
  have hlt := fun k e => (h.2.2.1.lt k e).1
  have cg : w'.heap[gn]? = _ := (hg.block gn (nst_lt hA) (away (fun k e => by have := hlt k e; omega))).trans hA.1
  refine ⟨nst_val hA hown hg hb, ?_, (cell_at cg 2).1, (cell_at cg 2).2⟩
  have h1 : Below gn w w' := ((Below.refl gn w).alloc (by omega) o).grown hg (by have := nst_lt hA; omega) (fun k e => by have := hlt k e; omega)
  exact h1.grown (grown_setCell w' gn 2 _) (by have := h1.size; omega) (fun k e => by injection e with e; omega)

theorem kid_step {w w' : World} {gn b cap : Nat} {n : Nd} {v1 v2 v3 : Value} {x : Int} {o : Obj} (h : NSt w gn n v1 v2 v3) (hown : w'.ownsRow (gn + 1) 3 1 (.slice (some ⟨b, 0, none⟩) (n.cs.length + 1) cap) (n.cs.length + 1) (ints n.cs ++ [.int .i64 x])) (hg : (w.alloc o).grownBy w' v3.ownBlock) (_hb : v3.ownBlock = some b ∨ b = (w.alloc o).heap.size) :
    NSt (w'.setCell ⟨gn, 3, none⟩ (.slice (some ⟨b, 0, none⟩) (n.cs.length + 1) cap)) gn ⟨n.lf, n.ks, n.vs, n.cs ++ [x]⟩ v1 v2 (.slice (some ⟨b, 0, none⟩) (n.cs.length + 1) cap) ∧ Below gn w (w'.setCell ⟨gn, 3, none⟩ (.slice (some ⟨b, 0, none⟩) (n.cs.length + 1) cap)) ∧ w'.cell? ⟨gn, 3, none⟩ = some v3 ∧ w'.frozen? ⟨gn, 3, none⟩ = false := by
  have hl := nst_lt h
  have hba : Below w.heap.size w (w.alloc o) := (Below.refl _ _).alloc (Nat.le_refl _) _
  have hA := nst_below h hba
  have hlt := fun k e => (h.2.2.2.1.lt k e).1
  have cg : w'.heap[gn]? = _ := (hg.block gn (nst_lt hA) (away (fun k e => by have := hlt k e; omega))).trans hA.1
  refine ⟨nst_kid hA hown hg, ?_, (cell_at cg 3).1, (cell_at cg 3).2⟩
  have h1 : Below gn w w' := ((Below.refl gn w).alloc (by omega) o).grown hg (by have := nst_lt hA; omega) (fun k e => by have := hlt k e; omega)
  exact h1.grown (grown_setCell w' gn 3 _) (by have := h1.size; omega) (fun k e => by injection e with e; omega)

theorem grown_low {a b c : World} {g gn : Nat} (h : a.grownBy b (some g)) (k : Below gn b c) (hle : a.heap.size ≤ gn) : a.grownBy c (some g) :=
  ⟨k.os.trans h.os, k.tape.trans h.tape, k.output.trans h.output, Nat.le_trans h.size k.size, fun j hj hne => by
    rw [k.block j (by omega)]
    exact h.block j hj hne⟩

/-- a node stored into another variable -/
theorem ret_node {w : World} {a B : Nat} {lf : Bool} {v1 v2 v3 c0 c1 c2 c3 : Value} {ks vs : List ByteArray} {cs : List Int} (hq : w.heap[a]? = some (.cells #[c0, c1, c2, c3] 50 (0, 0))) (hn : NodeOwn w B (.agg #[.bool lf, v1, v2, v3]) lf ks vs cs) (hlt : a < B) :
    ((((w.setCell ⟨a, 0, none⟩ (.bool lf)).setCell ⟨a, 1, none⟩ v1).setCell ⟨a, 2, none⟩ v2).setCell ⟨a, 3, none⟩ v3).heap[a]? = some (.cells #[.bool lf, v1, v2, v3] 50 (0, 0)) ∧
    NodeOwn ((((w.setCell ⟨a, 0, none⟩ (.bool lf)).setCell ⟨a, 1, none⟩ v1).setCell ⟨a, 2, none⟩ v2).setCell ⟨a, 3, none⟩ v3) B (.agg #[.bool lf, v1, v2, v3]) lf ks vs cs ∧
    Below a w ((((w.setCell ⟨a, 0, none⟩ (.bool lf)).setCell ⟨a, 1, none⟩ v1).setCell ⟨a, 2, none⟩ v2).setCell ⟨a, 3, none⟩ v3) := by
  have hal : a < w.heap.size := (Array.getElem?_eq_some_iff.1 hq).1
  have g1 := grown_trans (grown_trans (grown_trans (grown_setCell w a 0 (.bool lf)) (grown_setCell _ a 1 v1)) (grown_setCell _ a 2 v2)) (grown_setCell _ a 3 v3)
  refine ⟨heap_setCell_same _ a 3 _ _ _ (heap_setCell_same _ a 2 _ _ _ (heap_setCell_same _ a 1 _ _ _ (heap_setCell_same w a 0 _ _ _ hq))), ?_, (Below.refl a w).grown g1 (by omega) (fun k e => by injection e with e; omega)⟩
  obtain ⟨u1, u2, u3, e, h1, h2, h3, h4⟩ := hn
  obtain ⟨-, rfl, rfl, rfl⟩ := agg4 e
  exact ⟨_, _, _, rfl, h1.kept g1 (Or.inr (fun e => by have := (h1.lt _ e).1; omega)), h2.kept g1 (Or.inr (fun e => by have := (h2.lt _ e).1; omega)), h3.kept g1 (Or.inr (fun e => by have := (h3.lt _ e).1; omega)), h4⟩

theorem nodeOwn_down {w : World} {B B' : Nat} {v : Value} {lf : Bool} {ks vs : List ByteArray} {cs : List Int} (h : NodeOwn w B v lf ks vs cs) (hb : B' ≤ B) : NodeOwn w B' v lf ks vs cs := by
  obtain ⟨u1, u2, u3, e, h1, h2, h3, h4⟩ := h
  exact ⟨u1, u2, u3, e, own_down h1 hb, own_down h2 hb, own_down h3 hb, h4⟩
end Go.Proofs.YtaefmkmldfbjeaaDoor

namespace Go.Proofs.YtaefmkmldfbjeaaDoor
open Go.RowKit

theorem step_call1w {P : Program} (w : World) {ops : Array Oper} {o : Oper} {a : Act} {K : Act → World → Prop} {Q : Exit → Act → World → Prop} {E : Prop} (hw : Region.wanted o (yielded ops a.tmps) = true) (f : FuncId) (fn : Func) (hfn : P.funcs[f]? = some fn) (hname : ¬ fn.name = "runtime.NumGoroutine") (hbody : ¬ fn.body = none) (s : Operand) (ts : Array TypeId)
    (ho : o.op = .call { callee := .value (.func f), args := #[s], argTypes := ts }) (u : Value) (hs : a.eval s = u)
    (R : Ending → World → Prop) (hc : Calls P f #[u] w R) (hR : ∀ e w', R e w' → ∃ r, e = .returned r ∧ K (a.put o.dst r) w') :
    if Region.wanted o (yielded ops a.tmps) = true then Oper.wp P o a w K Q else E := by
  rw [if_pos hw]
  unfold Oper.wp execOp
  have hf : a.eval (.func f) = .func (.func f) #[] #[] := rfl
  simp only [ho, resolve, invoke, hf, Deferred.ofValue, callFunc, Sem.run_bind, Sem.run_pure, Result.andThen_ok, List.map_toArray, List.map_cons, List.map_nil, hs]
  simp [go_sem, hfn, hname, hbody]
  refine hc.mono ?_
  intro e w' h
  obtain ⟨r, rfl, hk⟩ := hR e w' h
  exact hk

theorem step_call2_die {P : Program} (w : World) {ops : Array Oper} {o : Oper} {a : Act} {K : Act → World → Prop} {Q : Exit → Act → World → Prop} {E : Prop} (hgd : o.guard = none) (f : FuncId) (fn : Func) (hfn : P.funcs[f]? = some fn) (hname : ¬ fn.name = "runtime.NumGoroutine") (hbody : ¬ fn.body = none) (s x : Operand) (ts : Array TypeId)
    (ho : o.op = .call { callee := .value (.func f), args := #[s, x], argTypes := ts }) (u v : Value) (hs : a.eval s = u) (hx : a.eval x = v)
    (R : Ending → World → Prop) (hc : Calls P f #[u, v] w R) (hR : ∀ e w', R e w' → ∃ ch, e = .panicked ch ∧ Q (.panic ch) a w') (_hk : Hid False → K (a.put o.dst undef) w) :
    if Region.wanted o (yielded ops a.tmps) = true then Oper.wp P o a w K Q else E := by
  have hw : Region.wanted o (yielded ops a.tmps) = true := by simp [Region.wanted, hgd]
  rw [if_pos hw]
  unfold Oper.wp execOp
  have hf : a.eval (.func f) = .func (.func f) #[] #[] := rfl
  simp only [ho, resolve, invoke, hf, Deferred.ofValue, callFunc, Sem.run_bind, Sem.run_pure, Result.andThen_ok, List.map_toArray, List.map_cons, List.map_nil, hs, hx]
  simp [go_sem, hfn, hname, hbody]
  refine hc.mono ?_
  intro e w' h
  obtain ⟨ch, rfl, hk⟩ := hR e w' h
  exact hk
end Go.Proofs.YtaefmkmldfbjeaaDoor

namespace Go.Proofs.YtaefmkmldfbjeaaDoor
open Go.RowKit

/-- how node ends at the text s -/
def RnPost (w : World) (g : Nat) (s : ByteArray) (e : Ending) (w' : World) : Prop :=
  w.grownBy w' (some g) ∧ ((∃ n v, e = .returned v ∧ IsIn s n ∧ (∀ m, IsIn s m → m = n) ∧ NodeOwn w' w.heap.size v n.lf n.ks n.vs n.cs) ∨ (e = .panicked misread ∧ ∀ m, ¬ IsIn s m))

theorem rn_die {w w' : World} {g : Nat} {s : ByteArray} (h : w.grownBy w' (some g)) (hn : ∀ m, ¬ IsIn s m) : RnPost w g s (.panicked misread) w' := ⟨h, Or.inr ⟨rfl, hn⟩⟩

theorem rdT_alloc {w : World} {g p : Nat} {t : ByteArray} (h : RdT w g t p) (o : Obj) : RdT (w.alloc o) g t p := (Below.heap_alloc w o g (rdT_lt h)).trans h

theorem grown_dr {a b : World} {r : Option Nat} (h : a.grownBy b r) : a.grownBy b.drew r := grown_trans h ⟨rfl, rfl, rfl, Nat.le_refl _, fun _ _ _ => rfl⟩

theorem rdT_low {w w' : World} {g gn p : Nat} {t : ByteArray} (h : RdT w g t p) (hb : Below gn w w') (hlt : g < gn) : RdT w' g t p := (hb.block g hlt).trans h

end Go.Proofs.YtaefmkmldfbjeaaDoor
