/-
  Draws of chapter 4 by contracts: l04Schema, l04ValueOf.
-/
import Derived.Test.YtjldcbnoomcloaaDrawThing
namespace Go.Proofs.Ytjldcbnoomcloaa
open Go.RowKit

/-- the three fields that are drawn from -/
def sch3 : List (ByteArray × Int) := [(⟨#[97, 103, 101]⟩, 1), (⟨#[110, 97, 109, 101]⟩, 2), (⟨#[120]⟩, 1)]

theorem take3_own {w : World} {g n : Nat} (hn : n ≤ 3) (h : w.heap[g]? = some (.cells #[.string ⟨#[97, 103, 101]⟩, .int .i64 1, .string ⟨#[110, 97, 109, 101]⟩, .int .i64 2, .string ⟨#[120]⟩, .int .i64 1] 48 (0, 0))) (B : Nat) (hB : B ≤ g) :
    w.ownsRow B 48 2 (.slice (some ⟨g, 0, none⟩) n 3) (sch3.take n).length (flds (sch3.take n)) := by
  have hl : (sch3.take n).length = n := by rw [List.length_take]; simp [sch3]; omega
  refine ⟨by rw [flds_length, hl], Or.inr ⟨g, 3, _, by rw [hl], hB, h, by omega, by unfold maxLen; omega, rfl, ?_⟩⟩
  match n, hn with
  | 0, _ => rfl
  | 1, _ => rfl
  | 2, _ => rfl
  | 3, _ => rfl

set_option maxHeartbeats 1000000 in
set_option maxRecDepth 100000 in
theorem l04Schema_any (g B : Nat) (a : Option Addr) (len cap : Nat) (w : World) (hc : CurAt w g a len cap) (hd : CodeIn w B a len) (hB : B ≤ g) :
    Calls Try.prog 81 #[.pointer (some ⟨g, 0, none⟩)] w fun e w' => ∃ (v : Value) (n : Nat), 1 ≤ n ∧ n ≤ 3 ∧ e = .returned v ∧ w'.ownsRow w.heap.size 48 2 v (sch3.take n).length (flds (sch3.take n)) ∧ Drawn w w' g B a len cap := by
  have hgl := cur_lt hc
  obtain ⟨w1, hw1⟩ : ∃ w1, w1 = w.alloc (Obj.cells #[.string ⟨#[97, 103, 101]⟩, .int .i64 1, .string ⟨#[110, 97, 109, 101]⟩, .int .i64 2, .string ⟨#[120]⟩, .int .i64 1] 48) := ⟨_, rfl⟩
  have HG1 : Hid (w.grownBy w1 (some g)) := hide (by rw [hw1]; exact World.grownBy_alloc w _ _)
  have HC := hide (cur_grown hc (by rw [hw1]; exact World.grownBy_alloc w _ none : w.grownBy w1 none) (by simp))
  have HD := hide (code_grown hd HG1.out hB hgl)
  have HBk : Hid (w1.heap[w.heap.size]? = some (Obj.cells #[.string ⟨#[97, 103, 101]⟩, .int .i64 1, .string ⟨#[110, 97, 109, 101]⟩, .int .i64 2, .string ⟨#[120]⟩, .int .i64 1] 48)) := hide (by rw [hw1]; exact heap_alloc_new w _)
  clear hc hd
  go_enter Try.func81, Try.ntmps81
  go_wp2_with fail
  rw [← hw1]
  clear hw1
  refine (l01Below_any g B a len cap 3 (by omega) (by omega) _ HC.out HD.out hB).mono ?_
  rintro e w2 ⟨x, hx, rfl, h2⟩
  have hne : w.heap.size ≠ g := by omega
  have HB2 : Hid (w2.heap[w.heap.size]? = some (Obj.cells #[.string ⟨#[97, 103, 101]⟩, .int .i64 1, .string ⟨#[110, 97, 109, 101]⟩, .int .i64 2, .string ⟨#[120]⟩, .int .i64 1] 48)) := hide ((h2.2.1.block _ (Array.getElem?_eq_some_iff.1 HBk.out).1 (by simpa using hne)).trans HBk.out)
  have H2 : Hid (Drawn w w2 g B a len cap) := hide ⟨h2.1, grown_trans HG1.out h2.2.1, h2.2.2⟩
  have hx0 : (0 : Int) ≤ 1 + (x : Int) := by omega
  have hx1 : 1 + (x : Int) ≤ 3 := by omega
  clear h2 hne
  go_wp2_with fail
  go_ret
  refine ⟨_, 1 + x, by omega, by omega, rfl, ?_, H2.out⟩
  have := take3_own (n := 1 + x) (by omega) HB2.out w.heap.size (Nat.le_refl _)
  exact this

/-- what may be drawn for a field of a kind -/
def drawnV (kind num : Int) (t : ByteArray) : Prop := t.size ≤ 6 ∧ (kind = 1 ∨ kind = 2 → valueB kind num t = true)

def words6 : List ByteArray := [⟨#[]⟩, ⟨#[97]⟩, ⟨#[98]⟩, ⟨#[97, 110, 110]⟩, ⟨#[98, 111, 98]⟩, ⟨#[122, 122, 122, 122, 122, 122]⟩]

theorem words6_in {z : ByteArray} (h : z ∈ words6) : z.size ≤ 6 ∧ valueB 2 0 z = true := by
  simp only [words6, List.mem_cons, List.not_mem_nil, or_false] at h
  rcases h with rfl | rfl | rfl | rfl | rfl | rfl <;> decide

theorem ints7_in {n : Nat} (hn : n < 50) {z : Int} (h : z ∈ [0, 1, 7, 256, 65535, 999999, (n : Int)]) : valueB 1 z ⟨#[]⟩ = true := by
  rw [value_num, decide_eq_true rfl, Bool.and_true]
  apply decide_eq_true
  simp only [List.mem_cons, List.not_mem_nil, or_false] at h
  omega

theorem two_new {w : World} {g : Nat} {a b u0 u1 : Value} {T : TypeId} (h : w.heap[g]? = some (.cells #[a, b] T (0, 0))) : ((w.setCell ⟨g, 0, none⟩ u0).setCell ⟨g, 1, none⟩ u1).heap[g]? = some (.cells #[u0, u1] T (0, 0)) :=
  heap_setCell_same (w.setCell ⟨g, 0, none⟩ u0) g 1 _ _ _ (heap_setCell_same w g 0 _ _ _ h)

/-- two stores into a block of the call's own -/
theorem drawn_new {w w0 w2 : World} {g B r : Nat} {a : Option Addr} {len cap : Nat} (h0 : w.grownBy w0 (some g)) (h2 : Drawn w0 w2 g B a len cap) (hr : w.heap.size ≤ r) (hgl : g < w.heap.size) (hB : B ≤ g) (u0 u1 : Value) :
    Drawn w ((w2.setCell ⟨r, 0, none⟩ u0).setCell ⟨r, 1, none⟩ u1) g B a len cap := by
  have hne : some g ≠ some r := by simp; omega
  have hg2 := grown_trans h0 h2.2.1
  have hs1 := grown_setCell w2 r 0 u0
  have hs2 := grown_setCell (w2.setCell ⟨r, 0, none⟩ u0) r 1 u1
  have hs := grown_trans hs1 hs2
  have hgr : w.grownBy ((w2.setCell ⟨r, 0, none⟩ u0).setCell ⟨r, 1, none⟩ u1) (some g) := ⟨hs.os.trans hg2.os, hs.tape.trans hg2.tape, hs.output.trans hg2.output, Nat.le_trans hg2.size hs.size, fun k hk hn => (hs.block k (Nat.lt_of_lt_of_le hk hg2.size) (by simp; omega)).trans (hg2.block k hk hn)⟩
  refine ⟨cur_grown h2.1 hs hne, hgr, ?_⟩
  refine ⟨h2.2.2.1, ?_⟩
  rcases h2.2.2.2 with h | ⟨b, off, e, hb, hz⟩
  · exact Or.inl h
  · refine Or.inr ⟨b, off, e, hb, fun j hj => ?_⟩
    obtain ⟨z, k1, k2⟩ := hz j hj
    exact ⟨z, k1, by rw [World.cell?_of_block (hs.block b (World.block_lt_of_cell? w2 _ k2) (by simp; omega))]; exact k2⟩

set_option maxHeartbeats 1000000 in
set_option maxRecDepth 100000 in
theorem l04ValueOf_any (g B : Nat) (a : Option Addr) (len cap : Nat) (kind : Int) (w : World) (hc : CurAt w g a len cap) (hd : CodeIn w B a len) (hB : B ≤ g) :
    Calls Try.prog 87 #[.pointer (some ⟨g, 0, none⟩), .int .i64 kind] w fun e w' => ∃ (num : Int) (t : ByteArray), drawnV kind num t ∧ e = .returned (.agg #[.int .i64 num, .string t]) ∧ Drawn w w' g B a len cap := by
  have hgl := cur_lt hc
  obtain ⟨w0, hw0⟩ : ∃ w0, w0 = w.alloc (Obj.cells #[.int .i64 0, .string ⟨#[]⟩] 50) := ⟨_, rfl⟩
  have HG0 : Hid (w.grownBy w0 (some g)) := hide (by rw [hw0]; exact World.grownBy_alloc w _ _)
  have HC := hide (cur_grown hc (by rw [hw0]; exact World.grownBy_alloc w _ none : w.grownBy w0 none) (by simp))
  have HD := hide (code_grown hd HG0.out hB hgl)
  have HBk : Hid (w0.heap[w.heap.size]? = some (Obj.cells #[.int .i64 0, .string ⟨#[]⟩] 50)) := hide (by rw [hw0]; exact heap_alloc_new w _)
  have HS0 : Hid (w.heap.size + 1 = w0.heap.size) := hide (by rw [hw0]; simp)
  clear hc hd
  by_cases hk : kind = 1
  · subst hk
    go_enter Try.func87, Try.ntmps87
    go_wp2_with fail
    rw [← hw0]
    clear hw0
    refine (l01Below_any g B a len cap 50 (by omega) (by omega) _ HC.out HD.out hB).mono ?_
    rintro e w1 ⟨x, hx, rfl, h1⟩
    have H1 := hide h1
    clear h1
    go_wp2_with fail
    refine (pick_ints g B a len cap [0, 1, 7, 256, 65535, 999999, (x : Int)] 7 rfl (by omega) (by omega) w1 w1.heap.size rfl H1.out.1 H1.out.2.2 hB _ rfl).mono ?_
    rintro e w2 ⟨z, hz, rfl, h2⟩
    have HZv := hide (ints7_in hx hz)
    clear hz
    have h2 := drawn_trans H1.out h2
    have hne : w.heap.size ≠ g := by omega
    have hblk2 : w2.heap[w.heap.size]? = some (Obj.cells #[.int .i64 0, .string ⟨#[]⟩] 50) := (h2.2.1.block _ (Array.getElem?_eq_some_iff.1 HBk.out).1 (by simpa using hne)).trans HBk.out
    have hfin := two_new (u0 := .int .i64 z) (u1 := .string ⟨#[]⟩) hblk2
    have HZ := hide (⟨(cell_at hfin 0).1, (cell_at hfin 1).1⟩ : _ ∧ _)
    have HFd : Hid (Drawn w ((w2.setCell ⟨w.heap.size, 0, none⟩ (.int .i64 z)).setCell ⟨w.heap.size, 1, none⟩ (.string ⟨#[]⟩)) g B a len cap) := hide (drawn_new (HG0.out) h2 (Nat.le_refl _) hgl hB _ _)
    have r0 : w2.cell? ⟨w.heap.size, 0, none⟩ = some (.int .i64 0) := (cell_at hblk2 0).1
    have r1 : w2.cell? ⟨w.heap.size, 1, none⟩ = some (.string ⟨#[]⟩) := (cell_at hblk2 1).1
    have q0 := (cell_at hblk2 0).2
    have q1 := (cell_at hblk2 1).2
    clear hfin hblk2 h2 hne
    go_wp2_with fail
    have z0 := HZ.out.1
    have z1 := HZ.out.2
    refine bodyPost_ret (v := .agg #[.int .i64 z, .string ⟨#[]⟩]) (by simp [results, Try.results87, go_sem, z0, z1]) rfl ⟨_, _, ?_, rfl, HFd.out⟩
    exact ⟨Nat.zero_le _, fun _ => HZv.out⟩
  · have dk : (kind == 1) = false := by simp [hk]
    have dk2 : decide (kind = 1) = false := by simp [hk]
    go_enter Try.func87, Try.ntmps87
    go_wp2_with fail
    rw [← hw0]
    clear hw0
    refine (pick_strs g B a len cap words6 6 rfl (by omega) (by omega) w0 (w.heap.size + 1) HS0.out HC.out HD.out hB _ rfl).mono ?_
    rintro e w2 ⟨z, hz, rfl, h2⟩
    have HZv := hide (words6_in hz)
    clear hz
    have hne : w.heap.size ≠ g := by omega
    have hblk2 : w2.heap[w.heap.size]? = some (Obj.cells #[.int .i64 0, .string ⟨#[]⟩] 50) := (h2.2.1.block _ (Array.getElem?_eq_some_iff.1 HBk.out).1 (by simpa using hne)).trans HBk.out
    have hfin := two_new (u0 := .int .i64 0) (u1 := .string z) hblk2
    have HZ := hide (⟨(cell_at hfin 0).1, (cell_at hfin 1).1⟩ : _ ∧ _)
    have HFd : Hid (Drawn w ((w2.setCell ⟨w.heap.size, 0, none⟩ (.int .i64 0)).setCell ⟨w.heap.size, 1, none⟩ (.string z)) g B a len cap) := hide (drawn_new (HG0.out) h2 (Nat.le_refl _) hgl hB _ _)
    have r0 : w2.cell? ⟨w.heap.size, 0, none⟩ = some (.int .i64 0) := (cell_at hblk2 0).1
    have r1 : w2.cell? ⟨w.heap.size, 1, none⟩ = some (.string ⟨#[]⟩) := (cell_at hblk2 1).1
    have q0 := (cell_at hblk2 0).2
    have q1 := (cell_at hblk2 1).2
    clear hfin hblk2 h2 hne
    go_wp2_with fail
    have z0 := HZ.out.1
    have z1 := HZ.out.2
    refine bodyPost_ret (v := .agg #[.int .i64 0, .string z]) (by simp [results, Try.results87, go_sem, z0, z1]) rfl ⟨_, _, ?_, rfl, HFd.out⟩
    exact ⟨HZv.out.1, fun h => by rcases h with h | h; exact absurd h hk; (rw [h]; exact HZv.out.2)⟩
end Go.Proofs.Ytjldcbnoomcloaa
