/-
  Several texts in one. Plain facts on disks, without any program: what is read of a page, when a disk is right, what is kept, what falls. · spec's functions over disks by contracts: ReadPage, DiskOk, SyncDisk, FallDisk, WritePage, DiskNew. · 'append(own, row...)': a row of our own, and behind it the elements of a row that is only read (nil, empty or not): laws at the operation, in a plain region and in one that draws its order. No program. · spec.SyncDisk, spec.l03Copy and spec.FallDisk by contracts. · spec.l03Copy by its contract: a disk that reads the same, in new memory. · A call of a function of the program as one step of a region that draws its order. No function of the program. · A work that is being copied, in whatever order: empty rows that were made, rows that were filled, the disk. No function of the program. · A disk and a work among things that lie side by side. No function of the program.
-/
import Derived.WalkKit
import Derived.Test.YtbokjfjdjgopeaaGreatDoorRgB
import Derived.Test.YtbokjfjdjgopeaaGreatDoorVar
import Derived.Test.YtbokjfjdjgopeaaGreatDoorRow
import Derived.Deep.AppendLies
import Derived.Deep.RegionLaw
import Derived.Test.YtbokjfjdjgopeaaGreatDoorRgA
namespace Go.Proofs.YtbokjfjdjgopeaaGreatDoor
open Go.RowKit

/-- among the first k puts the text of the last one to this page -/
def lateAt (ls : List (Int × ByteArray)) (page : Int) : Nat → Option ByteArray
  | 0 => none
  | k + 1 => match ls[k]? with
    | some p => if p.1 = page then some p.2 else lateAt ls page k
    | none => lateAt ls page k

theorem lateAt_hit {ls : List (Int × ByteArray)} {page : Int} {k : Nat} {t : ByteArray} (h : ls[k]? = some (page, t)) : lateAt ls page (k + 1) = some t := by
  rw [lateAt, h]; simp

theorem lateAt_miss {ls : List (Int × ByteArray)} {page q : Int} {k : Nat} {t : ByteArray} (h : ls[k]? = some (q, t)) (hne : q ≠ page) : lateAt ls page (k + 1) = lateAt ls page k := by
  rw [lateAt, h]; simp [hne]

/-- what is read of a page -/
def readD (ps : List ByteArray) (ls : List (Int × ByteArray)) (page : Int) : ByteArray :=
  if 0 ≤ page ∧ page < (ps.length : Int) then
    match lateAt ls page ls.length with
    | some t => t
    | none => ps.getD page.toNat ⟨#[]⟩
  else ⟨#[]⟩

theorem readD_out {ps : List ByteArray} {ls : List (Int × ByteArray)} {page : Int} (h : page < 0 ∨ (ps.length : Int) ≤ page) : readD ps ls page = ⟨#[]⟩ := if_neg (by omega)

theorem readD_late {ps : List ByteArray} {ls : List (Int × ByteArray)} {page : Int} {t : ByteArray} (h : 0 ≤ page ∧ page < (ps.length : Int)) (hl : lateAt ls page ls.length = some t) : readD ps ls page = t := by
  rw [readD, if_pos h, hl]

theorem readD_page {ps : List ByteArray} {ls : List (Int × ByteArray)} {page : Int} (h : 0 ≤ page ∧ page < (ps.length : Int)) (hl : lateAt ls page ls.length = none) : readD ps ls page = ps.getD page.toNat ⟨#[]⟩ := by
  rw [readD, if_pos h, hl]

/-- when a disk is right -/
def diskOkB (ps : List ByteArray) (ls : List (Int × ByteArray)) : Bool :=
  ps.all (fun s => decide (s.size ≤ 240)) && ls.all (fun p => decide (0 ≤ p.1 ∧ p.1 < (ps.length : Int) ∧ p.2.size ≤ 240)) && decide (4 ≤ ps.length ∧ ps.length ≤ 40 ∧ ls.length ≤ 200)

theorem diskOk_page {ps : List ByteArray} {ls : List (Int × ByteArray)} {k : Nat} (h : k < ps.length) (hb : 240 < ps[k].size) : diskOkB ps ls = false := by
  have : ps.all (fun s => decide (s.size ≤ 240)) = false := by
    rw [List.all_eq_false]
    exact ⟨ps[k], List.getElem_mem h, by simp; omega⟩
  rw [diskOkB, this]; rfl

theorem diskOk_late {ps : List ByteArray} {ls : List (Int × ByteArray)} {k : Nat} (h : k < ls.length) (hb : ¬ (0 ≤ ls[k].1 ∧ ls[k].1 < (ps.length : Int) ∧ ls[k].2.size ≤ 240)) : diskOkB ps ls = false := by
  have : ls.all (fun p => decide (0 ≤ p.1 ∧ p.1 < (ps.length : Int) ∧ p.2.size ≤ 240)) = false := by
    rw [List.all_eq_false]
    exact ⟨ls[k], List.getElem_mem h, by simpa using hb⟩
  rw [diskOkB, this]; simp

theorem diskOk_all {ps : List ByteArray} {ls : List (Int × ByteArray)} (h1 : ∀ i (h : i < ps.length), ps[i].size ≤ 240) (h2 : ∀ i (h : i < ls.length), 0 ≤ ls[i].1 ∧ ls[i].1 < (ps.length : Int) ∧ ls[i].2.size ≤ 240) : diskOkB ps ls = decide (4 ≤ ps.length ∧ ps.length ≤ 40 ∧ ls.length ≤ 200) := by
  have e1 : ps.all (fun s => decide (s.size ≤ 240)) = true := by
    rw [List.all_eq_true]
    intro s hs
    obtain ⟨i, hi, rfl⟩ := List.getElem_of_mem hs
    simpa using h1 i hi
  have e2 : ls.all (fun p => decide (0 ≤ p.1 ∧ p.1 < (ps.length : Int) ∧ p.2.size ≤ 240)) = true := by
    rw [List.all_eq_true]
    intro s hs
    obtain ⟨i, hi, rfl⟩ := List.getElem_of_mem hs
    simpa using h2 i hi
  rw [diskOkB, e1, e2]; rfl

theorem diskOk_yes {ps : List ByteArray} {ls : List (Int × ByteArray)} (h : diskOkB ps ls = true) : (∀ s ∈ ps, s.size ≤ 240) ∧ (∀ p ∈ ls, 0 ≤ p.1 ∧ p.1 < (ps.length : Int) ∧ p.2.size ≤ 240) ∧ 4 ≤ ps.length ∧ ps.length ≤ 40 ∧ ls.length ≤ 200 := by
  unfold diskOkB at h
  simp only [Bool.and_eq_true, List.all_eq_true, decide_eq_true_eq] at h
  obtain ⟨⟨h1, h2⟩, h3⟩ := h
  exact ⟨h1, h2, h3⟩

/-- a put is kept -/
def putD (ps : List ByteArray) (p : Int × ByteArray) : List ByteArray := if 0 ≤ p.1 ∧ p.1 < (ps.length : Int) then ps.set p.1.toNat p.2 else ps

/-- all that is late is kept, in order -/
def syncD (ps : List ByteArray) (ls : List (Int × ByteArray)) : List ByteArray := ls.foldl putD ps

theorem putD_length (ps : List ByteArray) (p : Int × ByteArray) : (putD ps p).length = ps.length := by
  unfold putD
  split
  · rw [List.length_set]
  · rfl

theorem syncD_length (ls : List (Int × ByteArray)) : ∀ ps : List ByteArray, (syncD ps ls).length = ps.length := by
  induction ls with
  | nil => intro ps; rfl
  | cons p ls ih => intro ps; rw [syncD, List.foldl_cons]; exact (ih _).trans (putD_length ps p)

theorem syncD_succ (ps : List ByteArray) (ls : List (Int × ByteArray)) (k : Nat) (h : k < ls.length) : syncD ps (ls.take (k + 1)) = putD (syncD ps (ls.take k)) ls[k] := by
  rw [List.take_succ_eq_append_getElem h, syncD, List.foldl_append]
  rfl

end Go.Proofs.YtbokjfjdjgopeaaGreatDoor

namespace Go.Proofs.YtbokjfjdjgopeaaGreatDoor
open Go.RowKit

theorem l01In_any (x a b : Int) (w : World) : Calls Tryz.prog 57 #[.int .i64 x, .int .i64 a, .int .i64 b] w fun e w' => e = .returned (.bool (decide (a ≤ x ∧ x ≤ b))) ∧ w = w' := by
  by_cases h : a ≤ x ∧ x ≤ b
  · rw [decide_eq_true h]; exact l01In_yes x a b w h.1 h.2
  · rw [decide_eq_false h]; exact l01In_no x a b w (by omega)

set_option maxHeartbeats 1000000 in
theorem specReadPage_any (v : Value) (ps : List ByteArray) (ls : List (Int × ByteArray)) (hp : ps.length ≤ 1048576) (hl : ls.length ≤ 1048576) (page : Int) (w : World) (hd : DiskAt w v ps ls) :
    Calls Tryz.prog 32 #[v, .int .i64 page] w fun e w' => e = .returned (.string (readD ps ls page)) ∧ Below w.heap.size w w' := by
  obtain ⟨vp, vl, rfl, h1, h2⟩ := hd
  obtain ⟨x1, c1, rfl⟩ : ∃ a cap, vp = .slice a ps.length cap := by obtain ⟨-, a, cap, e, -⟩ := h1; exact ⟨a, cap, e⟩
  obtain ⟨x2, c2, rfl⟩ : ∃ a cap, vl = .slice a ls.length cap := by obtain ⟨-, a, cap, e, -⟩ := h2; exact ⟨a, cap, e⟩
  have H1 := hide h1
  have H2 := hide h2
  clear h1 h2
  have HC := hide (l01In_any page 0 ((ps.length : Int) - 1))
  have hb0 : Below w.heap.size w (w.alloc (Obj.cells #[.slice x1 ps.length c1, .slice x2 ls.length c2] 42)) := (Below.refl w.heap.size w).alloc (Nat.le_refl _) _
  have HB0 := hide hb0
  clear hb0
  by_cases hin : 0 ≤ page ∧ page ≤ (ps.length : Int) - 1
  · rw [decide_eq_true hin] at HC
    go_enter Tryz.func32, Tryz.ntmps32
    go_wp2_with fail
    refine (HC.out _).mono ?_
    rintro e w1 ⟨rfl, rfl⟩
    go_wp2_with fail
    obtain ⟨w0, hw0⟩ : ∃ w0, w0 = w.alloc (Obj.cells #[.slice x1 ps.length c1, .slice x2 ls.length c2] 42) := ⟨_, rfl⟩
    rw [← hw0]
    rw [← hw0] at HB0
    have hblk : w0.heap[w.heap.size]? = some (Obj.cells #[.slice x1 ps.length c1, .slice x2 ls.length c2] 42) := by rw [hw0]; exact heap_alloc_new w _
    have cb0 : w0.cell? ⟨w.heap.size, 0, none⟩ = some (.slice x1 ps.length c1) := (cell_at hblk 0).1
    have cb1 : w0.cell? ⟨w.heap.size, 1, none⟩ = some (.slice x2 ls.length c2) := (cell_at hblk 1).1
    clear hw0 hblk
    go_loopg [5] ls.length (fun q iv wr => ∃ k : Nat, k ≤ ls.length ∧ iv = .int .i64 ((k : Int) - 1) ∧ q = k ∧ Hid (lateAt ls page ls.length = lateAt ls page k) ∧ w0 = wr)
    case atStart => exact ⟨ls.length, Nat.le_refl _, rfl, rfl, hide rfl, rfl⟩
    case round =>
      obtain ⟨k, hk, rfl, hgk, HL, rfl⟩ := hrel
      have HGk := hide hgk
      clear hgk
      by_cases hk0 : k = 0
      · subst hk0
        have HO : Hid (readD ps ls page = ps.getD page.toNat ⟨#[]⟩) := hide (readD_page (by omega) (by rw [HL.out]; rfl))
        obtain ⟨n, hn⟩ := Int.eq_ofNat_of_zero_le hin.1
        have hnl : n < ps.length := by omega
        obtain ⟨x, hx⟩ : ∃ x, x = ps.getD page.toNat ⟨#[]⟩ := ⟨_, rfl⟩
        rcases H1.out.2 with ⟨a, cap, e, h0 | ⟨b, off, e2, hbl, hc⟩⟩
        · omega
        · injection e with e1 e3 e4
          subst e1 e4
          subst e2
          have hcell : w0.cell? ⟨b, off + n, none⟩ = some (.string x) := by
            rw [HB0.out.cell (by exact hbl), hc n (by omega), strs_at ps n hnl, hx, hn]
            simp [List.getD, hnl]
          rw [← hx] at HO
          subst hn
          have hi0 : (0 : Int) ≤ (n : Int) := by omega
          have hi1 : (n : Int) < (ps.length : Int) := by omega
          clear hx hc
          go_wp2_with fail
          go_ret
          rw [HO.out]
          exact ⟨rfl, HB0.out⟩
      · obtain ⟨j, rfl⟩ : ∃ j, k = j + 1 := ⟨k - 1, by omega⟩
        have hjl : j < ls.length := by omega
        rcases H2.out.2 with ⟨a, cap, e, h0 | ⟨b, off, e2, hbl, hc⟩⟩
        · omega
        · injection e with e1 e3 e4
          subst e1 e4
          subst e2
          obtain ⟨q, t, hqt⟩ : ∃ q t, (q, t) = ls[j] := ⟨_, _, rfl⟩
          have hget : ls[j]? = some (q, t) := by rw [List.getElem?_eq_getElem hjl, hqt]
          have hc0 : w0.cell? ⟨b, off + j * 2, none⟩ = some (.int .i64 q) := by rw [HB0.out.cell (by exact hbl), hc (j * 2) (by omega), (puts_at ls j hjl).1, ← hqt]
          have hc1 : w0.cell? ⟨b, off + j * 2 + 1, none⟩ = some (.string t) := by rw [HB0.out.cell (by exact hbl), Nat.add_assoc, hc (j * 2 + 1) (by omega), (puts_at ls j hjl).2, ← hqt]
          have hi0 : (0 : Int) ≤ (j : Int) := by omega
          have hi1 : (j : Int) < (ls.length : Int) := by omega
          have hij : ((j + 1 : Nat) : Int) - 1 = (j : Int) := by omega
          rw [hij]
          have HGet := hide hget
          clear hc hqt hget hij
          by_cases hq : q = page
          · subst hq
            have HO : Hid (readD ps ls q = t) := hide (readD_late (by omega) (by rw [HL.out]; exact lateAt_hit HGet.out))
            go_wp2_with fail
            go_ret
            rw [HO.out]
            exact ⟨rfl, HB0.out⟩
          · have HL2 : Hid (lateAt ls page ls.length = lateAt ls page j) := hide (by rw [HL.out]; exact lateAt_miss HGet.out hq)
            go_wp2_with fail
            go_roundg j
            case measure => have := HGk.out; omega
            case rel => exact ⟨j, by omega, by go_num, rfl, HL2, rfl⟩
  · rw [decide_eq_false hin] at HC
    have HO : Hid (readD ps ls page = ⟨#[]⟩) := hide (readD_out (by omega))
    go_enter Tryz.func32, Tryz.ntmps32
    go_wp2_with fail
    refine (HC.out _).mono ?_
    rintro e w1 ⟨rfl, rfl⟩
    go_wp2_with fail
    go_ret
    rw [HO.out]
    exact ⟨rfl, HB0.out⟩

end Go.Proofs.YtbokjfjdjgopeaaGreatDoor

namespace Go.Proofs.YtbokjfjdjgopeaaGreatDoor
open Go.RowKit

theorem run_append_row {P : Program} (w : World) (t ty : TypeId) (base : Nat) (e : TypeId) (i : TypeInfo) (z : Value) (size bytes : Nat) (ht : P.underlying t = some (.slice e)) (hi : P.info? e = some i) (hz : i.zero = some z)
    (hsize : i.size = size) (hby : i.bytes = bytes) (hzs : z.cells.size = size) (hsz : 0 < size)
    (v : Value) (n : Nat) (xs : List Value) (hown : w.ownsRow base e size v n xs)
    (u : Value) (m : Nat) (ys : List Value) (hrow : RowAt w size u m ys) (h1 : ∀ y ∈ ys, y.oneCell' = true)
    (h63 : n + m ≤ maxLen) (hbytes : (n + m) * bytes ≤ 140737488355328) (hbase : base ≤ w.heap.size) :
    ∃ x c w', (Builtin.append_ #[t, t] ty #[v, u]).run P w = .ok (.slice x (n + m) c) w' ∧ w'.ownsRow base e size (.slice x (n + m) c) (n + m) (xs ++ ys) ∧ w.grownBy w' v.ownBlock := by
  have key : ∀ (v' : Value) (w' : World), w'.ownsRow base e size v' (n + m) (xs ++ ys) → ∃ x c, v' = Value.slice x (n + m) c := fun v' w' h => by
    obtain ⟨-, a, cap, ee, -⟩ := row_of_own h
    exact ⟨a, cap, ee⟩
  obtain ⟨hl, a, cap, rfl, h2⟩ := hrow
  rcases a with _ | ad
  · rcases h2 with h0 | ⟨b, off, e, _⟩
    · subst h0
      have hy : ys = [] := List.length_eq_zero_iff.1 (by rw [hl]; omega)
      subst hy
      obtain ⟨x, c, hx⟩ := key v w (by rw [List.append_nil]; exact hown)
      refine ⟨x, c, w, ?_, ?_, ⟨rfl, rfl, rfl, Nat.le_refl _, fun _ _ _ => rfl⟩⟩
      · rw [← hx]
        rcases hown.2 with ⟨rfl, rfl⟩ | ⟨g, cap, cur, rfl, _, _, hnc, _⟩
        · simp [Builtin.append_, run_underlying ht, sizeOf, typeInfo, hi, Builtin.lenOf, Builtin.firstCells]
        · simp [Builtin.append_, run_underlying ht, sizeOf, typeInfo, hi, Builtin.lenOf, Builtin.firstCells, hnc, storeCells]
      · rw [← hx, List.append_nil]; exact hown
    · cases e
  · have hnews : ∀ j y, ys[j]? = some y → w.cell? (ad.add j) = some y := fun j y hj => by
      have hjl : j < m * size := by rw [← hl]; exact (List.getElem?_eq_some_iff.1 hj).1
      rcases h2 with h0 | ⟨b, off, e, hlt, hc⟩
      · subst h0; simp at hjl
      · injection e with e
        subst e
        rw [Addr.add_lit, hc j hjl, hj]
    obtain ⟨v', w', hr, g2, g3, _⟩ := run_append_own (P := P) w base t ty e i z size bytes ht hi hz hsize hby hzs hsz v n xs hown ad m cap ys hl hnews h1 h63 hbytes hbase
    obtain ⟨x, c, rfl⟩ := key v' w' g2
    exact ⟨x, c, w', hr, g2, g3⟩

theorem wp_append_row {P : Program} (w : World) {o : Oper} {a : Act} {K : Act → World → Prop} {Q : Exit → Act → World → Prop} (s x : Operand) (t : TypeId)
    (ho : o.op = .call { callee := .builtin .append, args := #[s, x], argTypes := #[t, t] })
    (base : Nat) (e : TypeId) (i : TypeInfo) (z : Value) (size bytes : Nat) (ht : P.underlying t = some (.slice e)) (hi : P.info? e = some i) (hz : i.zero = some z)
    (hsize : i.size = size) (hby : i.bytes = bytes) (hzs : z.cells.size = size) (hsz : 0 < size)
    (v : Value) (n : Nat) (xs : List Value) (hs : a.eval s = v) (hown : w.ownsRow base e size v n xs)
    (u : Value) (m : Nat) (ys : List Value) (hx : a.eval x = u) (hrow : RowAt w size u m ys) (h1 : ∀ y ∈ ys, y.oneCell' = true)
    (h63 : n + m ≤ maxLen) (hbytes : (n + m) * bytes ≤ 140737488355328) (hbase : base ≤ w.heap.size)
    (h : ∀ x c w', w'.ownsRow base e size (.slice x (n + m) c) (n + m) (xs ++ ys) → w.grownBy w' v.ownBlock → K (a.put o.dst (.slice x (n + m) c)) w') : o.wp P a w K Q := by
  obtain ⟨y, c, w', hr, h2, h3⟩ := run_append_row (P := P) w t o.type base e i z size bytes ht hi hz hsize hby hzs hsz v n xs hown u m ys hrow h1 h63 hbytes hbase
  unfold Oper.wp execOp
  simp only [ho, resolve, invoke, builtin, Sem.run_bind, Sem.run_pure, Result.andThen_ok, List.map_toArray, List.map_cons, List.map_nil, hs, hx, hr]
  exact h y c w' h2 h3

theorem wpList_append_row {P : Program} (w : World) {ops : Array Oper} {rest : List Oper} {o : Oper} {a : Act} {Q : Exit → Act → World → Prop} (hgd : o.guard = none) (s x : Operand) (t : TypeId)
    (ho : o.op = .call { callee := .builtin .append, args := #[s, x], argTypes := #[t, t] })
    (base : Nat) (e : TypeId) (i : TypeInfo) (z : Value) (size bytes : Nat) (ht : P.underlying t = some (.slice e)) (hi : P.info? e = some i) (hz : i.zero = some z)
    (hsize : i.size = size) (hby : i.bytes = bytes) (hzs : z.cells.size = size) (hsz : 0 < size)
    (v : Value) (n : Nat) (xs : List Value) (hs : a.eval s = v) (hown : w.ownsRow base e size v n xs)
    (u : Value) (m : Nat) (ys : List Value) (hx : a.eval x = u) (hrow : RowAt w size u m ys) (h1 : ∀ y ∈ ys, y.oneCell' = true)
    (h63 : n + m ≤ maxLen) (hbytes : (n + m) * bytes ≤ 140737488355328) (hbase : base ≤ w.heap.size)
    (h : ∀ x c w', w'.ownsRow base e size (.slice x (n + m) c) (n + m) (xs ++ ys) → w.grownBy w' v.ownBlock → wpList P ops Q rest (a.put o.dst (.slice x (n + m) c)) w') : wpList P ops Q (o :: rest) a w :=
  wpList_plain hgd fun _ hK => wp_append_row w s x t ho base e i z size bytes ht hi hz hsize hby hzs hsz v n xs hs hown u m ys hx hrow h1 h63 hbytes hbase fun x c w' h2 h3 => hK _ _ (h x c w' h2 h3)

theorem step_append_row {P : Program} (w : World) {ops : Array Oper} {o : Oper} {a : Act} {K : Act → World → Prop} {Q : Exit → Act → World → Prop} {E : Prop} (hgd : o.guard = none) (s x : Operand) (t : TypeId)
    (ho : o.op = .call { callee := .builtin .append, args := #[s, x], argTypes := #[t, t] })
    (base : Nat) (e : TypeId) (i : TypeInfo) (z : Value) (size bytes : Nat) (ht : P.underlying t = some (.slice e)) (hi : P.info? e = some i) (hz : i.zero = some z)
    (hsize : i.size = size) (hby : i.bytes = bytes) (hzs : z.cells.size = size) (hsz : 0 < size)
    (v : Value) (n : Nat) (xs : List Value) (hs : a.eval s = v) (hown : w.ownsRow base e size v n xs)
    (u : Value) (m : Nat) (ys : List Value) (hx : a.eval x = u) (hrow : RowAt w size u m ys) (h1 : ∀ y ∈ ys, y.oneCell' = true)
    (h63 : n + m ≤ maxLen) (hbytes : (n + m) * bytes ≤ 140737488355328) (hbase : base ≤ w.heap.size)
    (h : ∀ x c w', w'.ownsRow base e size (.slice x (n + m) c) (n + m) (xs ++ ys) → w.grownBy w' v.ownBlock → K (a.put o.dst (.slice x (n + m) c)) w') :
    if Region.wanted o (yielded ops a.tmps) = true then Oper.wp P o a w K Q else E := by
  have hw : Region.wanted o (yielded ops a.tmps) = true := by simp [Region.wanted, hgd]
  rw [if_pos hw]
  exact wp_append_row w s x t ho base e i z size bytes ht hi hz hsize hby hzs hsz v n xs hs hown u m ys hx hrow h1 h63 hbytes hbase h

theorem strs_one (l : List ByteArray) : ∀ y ∈ strs l, y.oneCell' = true := fun y hy => by
  obtain ⟨s, _, rfl⟩ := List.mem_map.1 hy
  rfl
end Go.Proofs.YtbokjfjdjgopeaaGreatDoor

namespace Go.Proofs.YtbokjfjdjgopeaaGreatDoor
open Go.RowKit

/-- what a round of SyncDisk keeps: its argument's box, its answer's variable, the new disk's variable, the new pages; nothing that was there is turned -/
structure SyncIn (wr : World) (a0 a1 a3 : Nat) (vp vl u : Value) (n : Nat) (m : List ByteArray) (w : World) : Prop where
  box : wr.heap[a0]? = some (Obj.cells #[vp, vl] 42)
  res : wr.heap[a1]? = some (Obj.cells #[.slice none 0 0, .slice none 0 0] 42)
  out : wr.heap[a3]? = some (Obj.cells #[u, .slice none 0 0] 42)
  own : wr.ownsRow (a1 + 1) 9 1 u n (strs m)
  low : Below a0 w wr

theorem syncIn_drewN {wr : World} {a0 a1 a3 : Nat} {vp vl u : Value} {n : Nat} {m : List ByteArray} {w : World} (h : SyncIn wr a0 a1 a3 vp vl u n m w) (k : Nat) : SyncIn (wr.drewN k) a0 a1 a3 vp vl u n m w :=
  ⟨h.box, h.res, h.out, h.own, below_drewN h.low _⟩

theorem syncIn_set {wr : World} {a0 a1 a3 : Nat} {vp vl : Value} {n g c : Nat} {m : List ByteArray} {w : World} (h0 : a0 < g) (h1 : a1 < g) (h3 : g < a3) (h : SyncIn wr a0 a1 a3 vp vl (.slice (some ⟨g, 0, none⟩) n c) n m w) (k j : Nat) (t : ByteArray) :
    SyncIn ((wr.drewN k).setCell ⟨g, j, none⟩ (.string t)) a0 a1 a3 vp vl (.slice (some ⟨g, 0, none⟩) n c) n (m.set j t) w := by
  have h' := syncIn_drewN h k
  refine ⟨?_, ?_, ?_, ?_, ?_⟩
  · rw [heap_setCell_other _ ⟨g, j, none⟩ a0 _ (by show a0 ≠ g; omega)]; exact h'.box
  · rw [heap_setCell_other _ ⟨g, j, none⟩ a1 _ (by show a1 ≠ g; omega)]; exact h'.res
  · rw [heap_setCell_other _ ⟨g, j, none⟩ a3 _ (by show a3 ≠ g; omega)]; exact h'.out
  · have := (h'.own.stored j (.string t)).1
    rw [strs_set] at this
    exact this
  · exact h'.low.setCell (by show a0 ≤ g; omega) _

end Go.Proofs.YtbokjfjdjgopeaaGreatDoor

namespace Go.Proofs.YtbokjfjdjgopeaaGreatDoor
open Go.RowKit

theorem puts_one (l : List (Int × ByteArray)) : ∀ y ∈ puts l, y.oneCell' = true := fun y hy => by
  obtain ⟨p, _, hp⟩ := List.mem_flatMap.1 hy
  simp at hp
  rcases hp with rfl | rfl <;> rfl

theorem own_empty {w : World} {g e sz : Nat} (h : w.heap[g]? = some (.cells #[] e (0, 0))) : w.ownsRow g e sz (.slice (some ⟨g, 0, none⟩) 0 0) 0 [] :=
  ⟨by simp, Or.inr ⟨g, 0, #[], rfl, Nat.le_refl _, h, Nat.le_refl _, by unfold maxLen; omega, by simp, by simp⟩⟩

theorem heap_second (w : World) (a b : Obj) : ((w.alloc a).alloc b).drew.heap[w.heap.size + 1]? = some b := by
  have h := heap_alloc_new (w.alloc a) b
  rw [World.size_alloc] at h
  exact h

theorem k1 {w w' : World} {o : Obj} {g k : Nat} {x : Obj} (hg : (w.alloc o).drew.grownBy w' (some g)) (hq : w.heap[k]? = some x) (hlt : k < w.heap.size) (hne : k ≠ g) : w'.heap[k]? = some x :=
  ((hg.block k (by show k < (w.alloc o).heap.size; simp; omega) (by intro e; injection e with e; exact hne e)).trans (Below.heap_alloc w o k hlt)).trans hq

theorem k2 {w w' : World} {o o' : Obj} {g k : Nat} {x : Obj} (hg : ((w.alloc o).alloc o').drew.grownBy w' (some g)) (hq : w.heap[k]? = some x) (hlt : k < w.heap.size) (hne : k ≠ g) : w'.heap[k]? = some x :=
  (((hg.block k (by show k < ((w.alloc o).alloc o').heap.size; simp; omega) (by intro e; injection e with e; exact hne e)).trans (Below.heap_alloc (w.alloc o) o' k (by simp; omega))).trans (Below.heap_alloc w o k hlt)).trans hq

theorem k3 {w w' : World} {o : Obj} {g k : Nat} {x : Obj} (hg : (w.alloc o).grownBy w' (some g)) (hq : w.heap[k]? = some x) (hne : k ≠ g) : w'.heap[k]? = some x := by
  have hlt : k < w.heap.size := (Array.getElem?_eq_some_iff.1 hq).1
  exact ((hg.block k (by simp; omega) (by intro e; injection e with e; exact hne e)).trans (Below.heap_alloc w o k hlt)).trans hq

theorem k4 {w w' : World} {g k : Nat} {x : Obj} (hg : w.grownBy w' (some g)) (hq : w.heap[k]? = some x) (hne : k ≠ g) : w'.heap[k]? = some x :=
  (hg.block k (Array.getElem?_eq_some_iff.1 hq).1 (by intro e; injection e with e; exact hne e)).trans hq

theorem own_after {w w' : World} {B e sz n : Nat} {v : Value} {xs : List Value} (h : w.ownsRow B e sz v n xs) {g e' : Nat} (he : w.heap[g]? = some (.cells #[] e' (0, 0))) (hne : e ≠ e') (hg : w.grownBy w' (some g)) : w'.ownsRow B e sz v n xs :=
  h.kept hg (Or.inr (fun e1 => one_type h (own_empty (sz := 1) he) hne g e1 rfl))

theorem after_alloc {w : World} {g : Nat} {u0 u1 : Value} {t : TypeId} (h : w.heap[g]? = some (.cells #[u0, u1] t (0, 0))) : ∀ o, (w.alloc o).cell? ⟨g, 1, none⟩ = some u1 := fun o =>
  (cell_at ((Below.heap_alloc w o g (Array.getElem?_eq_some_iff.1 h).1).trans h) 1).1

theorem low_grown {B g : Nat} {w src w' : World} (hb : Below B w src) (hs : B ≤ src.heap.size) (hg : src.grownBy w' (some g)) (hB : B ≤ g) : Below B w w' :=
  hb.grown hg hs (fun j hj => by injection hj with hj; omega)

theorem copy_fin {w w0 wB : World} {a0 a1 g : Nat} {y1 y2 : Option Addr} {d1 d2 : Nat} {ps : List ByteArray} {ls : List (Int × ByteArray)} (eqB1 : wB.heap[a1]? = some (Obj.cells #[.slice none 0 0, .slice none 0 0] 42))
    (ownA : wB.ownsRow g 9 1 (.slice y1 ps.length d1) ps.length (strs ps)) {g2 : Nat} (ownB : wB.ownsRow g2 126 2 (.slice y2 ls.length d2) ls.length (puts ls)) (hl : Below w.heap.size w wB)
    (h0 : a0 = w.heap.size) (h1 : a1 = a0 + 1) (hb1 : a1 + 1 = w0.heap.size) (hg : w0.heap.size ≤ g) (hg2 : w0.heap.size ≤ g2) :
    ((wB.setCell ⟨a1, 0, none⟩ (.slice y1 ps.length d1)).setCell ⟨a1, 1, none⟩ (.slice y2 ls.length d2)).cell? ⟨a1, 0, none⟩ = some (.slice y1 ps.length d1) ∧
    ((wB.setCell ⟨a1, 0, none⟩ (.slice y1 ps.length d1)).setCell ⟨a1, 1, none⟩ (.slice y2 ls.length d2)).cell? ⟨a1, 1, none⟩ = some (.slice y2 ls.length d2) ∧
    DiskOwn ((wB.setCell ⟨a1, 0, none⟩ (.slice y1 ps.length d1)).setCell ⟨a1, 1, none⟩ (.slice y2 ls.length d2)) w.heap.size (.agg #[.slice y1 ps.length d1, .slice y2 ls.length d2]) ps ls ∧
    Below w.heap.size w ((wB.setCell ⟨a1, 0, none⟩ (.slice y1 ps.length d1)).setCell ⟨a1, 1, none⟩ (.slice y2 ls.length d2)) := by
  have y1' : (wB.setCell ⟨a1, 0, none⟩ (.slice y1 ps.length d1)).heap[a1]? = some (Obj.cells #[.slice y1 ps.length d1, .slice none 0 0] 42) := heap_setCell_same _ a1 0 _ _ _ eqB1
  have y2' : ((wB.setCell ⟨a1, 0, none⟩ (.slice y1 ps.length d1)).setCell ⟨a1, 1, none⟩ (.slice y2 ls.length d2)).heap[a1]? = some (Obj.cells #[.slice y1 ps.length d1, .slice y2 ls.length d2] 42) := heap_setCell_same _ a1 1 _ _ _ y1'
  have k2 : Kept wB ((wB.setCell ⟨a1, 0, none⟩ (.slice y1 ps.length d1)).setCell ⟨a1, 1, none⟩ (.slice y2 ls.length d2)) (fun k => k = a1) := kept_trans (kept_setCell _ _ _ _) (kept_setCell _ _ _ _) (fun j _ h => h)
  refine ⟨(cell_at y2' 0).1, (cell_at y2' 1).1, ⟨_, _, rfl, ?_, ?_⟩, ?_⟩
  · exact own_down (own_kept ownA k2 (fun k hk => by have := (ownA.lt k hk).1; omega)) (by omega)
  · exact own_down (own_kept ownB k2 (fun k hk => by have := (ownB.lt k hk).1; omega)) (by omega)
  · refine (hl.setCell ?_ _).setCell ?_ _
    · show _ ≤ a1; omega
    · show _ ≤ a1; omega

end Go.Proofs.YtbokjfjdjgopeaaGreatDoor

namespace Go.Proofs.YtbokjfjdjgopeaaGreatDoor
open Go.RowKit

theorem step_call2 {P : Program} (w : World) {ops : Array Oper} {o : Oper} {a : Act} {K : Act → World → Prop} {Q : Exit → Act → World → Prop} {E : Prop} (hgd : o.guard = none) (f : FuncId) (fn : Func) (hfn : P.funcs[f]? = some fn) (hname : ¬ fn.name = "runtime.NumGoroutine") (hbody : ¬ fn.body = none) (s x : Operand) (ts : Array TypeId)
    (ho : o.op = .call { callee := .value (.func f), args := #[s, x], argTypes := ts }) (u v : Value) (hs : a.eval s = u) (hx : a.eval x = v)
    (R : Ending → World → Prop) (hc : Calls P f #[u, v] w R) (hR : ∀ e w', R e w' → ∃ r, e = .returned r ∧ K (a.put o.dst r) w') :
    if Region.wanted o (yielded ops a.tmps) = true then Oper.wp P o a w K Q else E := by
  have hw : Region.wanted o (yielded ops a.tmps) = true := by simp [Region.wanted, hgd]
  rw [if_pos hw]
  unfold Oper.wp execOp
  have hf : a.eval (.func f) = .func (.func f) #[] #[] := rfl
  simp only [ho, resolve, invoke, hf, Deferred.ofValue, callFunc, Sem.run_bind, Sem.run_pure, Result.andThen_ok, List.map_toArray, List.map_cons, List.map_nil, hs, hx]
  simp [go_sem, hfn, hname, hbody]
  refine hc.mono ?_
  intro e w' h
  obtain ⟨r, rfl, hk⟩ := hR e w' h
  exact hk

theorem step_call1 {P : Program} (w : World) {ops : Array Oper} {o : Oper} {a : Act} {K : Act → World → Prop} {Q : Exit → Act → World → Prop} {E : Prop} (hgd : o.guard = none) (f : FuncId) (fn : Func) (hfn : P.funcs[f]? = some fn) (hname : ¬ fn.name = "runtime.NumGoroutine") (hbody : ¬ fn.body = none) (s : Operand) (ts : Array TypeId)
    (ho : o.op = .call { callee := .value (.func f), args := #[s], argTypes := ts }) (u : Value) (hs : a.eval s = u)
    (R : Ending → World → Prop) (hc : Calls P f #[u] w R) (hR : ∀ e w', R e w' → ∃ r, e = .returned r ∧ K (a.put o.dst r) w') :
    if Region.wanted o (yielded ops a.tmps) = true then Oper.wp P o a w K Q else E := by
  have hw : Region.wanted o (yielded ops a.tmps) = true := by simp [Region.wanted, hgd]
  rw [if_pos hw]
  unfold Oper.wp execOp
  have hf : a.eval (.func f) = .func (.func f) #[] #[] := rfl
  simp only [ho, resolve, invoke, hf, Deferred.ofValue, callFunc, Sem.run_bind, Sem.run_pure, Result.andThen_ok, List.map_toArray, List.map_cons, List.map_nil, hs]
  simp [go_sem, hfn, hname, hbody]
  refine hc.mono ?_
  intro e w' h
  obtain ⟨r, rfl, hk⟩ := hR e w' h
  exact hk

theorem step_append_fits {P : Program} (w : World) {ops : Array Oper} {o : Oper} {a : Act} {K : Act → World → Prop} {Q : Exit → Act → World → Prop} {E : Prop} (hgd : o.guard = none) (s x : Operand) (t : TypeId)
    (ho : o.op = .call { callee := .builtin .append, args := #[s, x], argTypes := #[t, t] })
    (base : Nat) (e : TypeId) (i : TypeInfo) (size : Nat) (ht : P.underlying t = some (.slice e)) (hi : P.info? e = some i) (hsize : i.size = size)
    (g k cap : Nat) (xs : List Value) (hs : a.eval s = .slice (some ⟨g, 0, none⟩) k cap) (hown : w.ownsRow base e size (.slice (some ⟨g, 0, none⟩) k cap) k xs)
    (ad : Addr) (m c : Nat) (news : List Value) (hx : a.eval x = .slice (some ad) m c) (hn : news.length = m * size) (hc : ∀ j u, news[j]? = some u → w.cell? (ad.add j) = some u) (h1 : ∀ y ∈ news, y.oneCell' = true) (b1 : k + m ≤ cap)
    (h : ∀ w', w'.ownsRow base e size (.slice (some ⟨g, 0, none⟩) (k + m) cap) (k + m) (xs ++ news) → w.grownBy w' (some g) → K (a.put o.dst (.slice (some ⟨g, 0, none⟩) (k + m) cap)) w') :
    if Region.wanted o (yielded ops a.tmps) = true then Oper.wp P o a w K Q else E := by
  have hw : Region.wanted o (yielded ops a.tmps) = true := by simp [Region.wanted, hgd]
  rw [if_pos hw]
  obtain ⟨w', hr, h2, h3⟩ := run_append_fits (P := P) w base t o.type e i size ht hi hsize g k cap xs hown ad m c news hn hc h1 b1
  unfold Oper.wp execOp
  simp only [ho, resolve, invoke, builtin, Sem.run_bind, Sem.run_pure, Result.andThen_ok, List.map_toArray, List.map_cons, List.map_nil, hs, hx, hr]
  exact h w' h2 h3
end Go.Proofs.YtbokjfjdjgopeaaGreatDoor

namespace Go.Proofs.YtbokjfjdjgopeaaGreatDoor
open Go.RowKit

/-- between two steps of a copy: 'Em' are the blocks of empty rows that wait, 'R' the rows that are filled, 'D' the disk where it is there -/
structure CS (w : World) (n0 : Nat) (bx rs : Obj) (ps : List ByteArray) (ls : List (Int × ByteArray)) (W : World) (Em : Nat → Prop) (R : List (Value × List Int)) (D : List Value) : Prop where
  n0e : n0 = w.heap.size
  low : Below w.heap.size w W
  box : W.heap[n0]? = some bx
  res : W.heap[n0 + 1]? = some rs
  emp : ∀ g, Em g → n0 + 2 ≤ g ∧ W.heap[g]? = some (.cells #[] 3 (0, 0))
  own : ∀ r ∈ R, W.ownsRow (n0 + 2) 3 1 r.1 r.2.length (ints r.2) ∧ ∀ g, Em g → r.1.ownBlock ≠ some g
  apart : R.Pairwise (fun r s => ∀ j, r.1.ownBlock = some j → s.1.ownBlock ≠ some j)
  disk : ∀ v ∈ D, DiskOwn W (n0 + 2) v ps ls

theorem CS.size {w : World} {n0 : Nat} {bx rs : Obj} {ps : List ByteArray} {ls : List (Int × ByteArray)} {W : World} {Em : Nat → Prop} {R : List (Value × List Int)} {D : List Value} (h : CS w n0 bx rs ps ls W Em R D) : n0 + 2 ≤ W.heap.size := (Array.getElem?_eq_some_iff.1 h.res).1

theorem cs_stays {w : World} {n0 : Nat} {bx rs : Obj} {ps : List ByteArray} {ls : List (Int × ByteArray)} {W W' : World} {Em : Nat → Prop} {R : List (Value × List Int)} {D : List Value} (h : CS w n0 bx rs ps ls W Em R D) (hb : Below W.heap.size W W') : CS w n0 bx rs ps ls W' Em R D where
  n0e := h.n0e
  low := h.low.trans (hb.mono h.low.size)
  box := (hb.block _ (Array.getElem?_eq_some_iff.1 h.box).1).trans h.box
  res := (hb.block _ (Array.getElem?_eq_some_iff.1 h.res).1).trans h.res
  emp := fun g hg => ⟨(h.emp g hg).1, (hb.block _ (Array.getElem?_eq_some_iff.1 (h.emp g hg).2).1).trans (h.emp g hg).2⟩
  own := fun r hr => ⟨own_stays (h.own r hr).1 hb, (h.own r hr).2⟩
  apart := h.apart
  disk := fun v hv => diskOwn_below (h.disk v hv) hb

theorem cs_drew {w : World} {n0 : Nat} {bx rs : Obj} {ps : List ByteArray} {ls : List (Int × ByteArray)} {W : World} {Em : Nat → Prop} {R : List (Value × List Int)} {D : List Value} (h : CS w n0 bx rs ps ls W Em R D) : CS w n0 bx rs ps ls W.drew Em R D :=
  cs_stays h (Below.refl _ _).drew

theorem cs_alloc {w : World} {n0 : Nat} {bx rs : Obj} {ps : List ByteArray} {ls : List (Int × ByteArray)} {W : World} {Em : Nat → Prop} {R : List (Value × List Int)} {D : List Value} (h : CS w n0 bx rs ps ls W Em R D) : CS w n0 bx rs ps ls (W.alloc (.cells #[] 3 (0, 0))) (fun y => y = W.heap.size ∨ Em y) R D := by
  have h1 := cs_stays h ((Below.refl _ _).alloc (Nat.le_refl _) (.cells #[] 3 (0, 0)))
  refine ⟨h1.n0e, h1.low, h1.box, h1.res, fun g hg => ?_, fun r hr => ⟨(h1.own r hr).1, fun g hg => ?_⟩, h1.apart, h1.disk⟩
  · rcases hg with rfl | hg
    · exact ⟨h.size, heap_alloc_new W _⟩
    · exact h1.emp g hg
  · rcases hg with rfl | hg
    · intro e; have := ((h.own r hr).1.lt _ e).2; omega
    · exact (h.own r hr).2 g hg

theorem cs_call {w : World} {n0 : Nat} {bx rs : Obj} {ps : List ByteArray} {ls : List (Int × ByteArray)} {W W' : World} {Em : Nat → Prop} {R : List (Value × List Int)} {D : List Value} {v : Value} (h : CS w n0 bx rs ps ls W Em R D) (hb : Below W.heap.size W W') (hd : DiskOwn W' W.heap.size v ps ls) : CS w n0 bx rs ps ls W' Em R [v] := by
  have h1 := cs_stays h hb
  refine ⟨h1.n0e, h1.low, h1.box, h1.res, h1.emp, h1.own, h1.apart, fun u hu => ?_⟩
  obtain rfl := List.mem_singleton.1 hu
  obtain ⟨vp, vl, e, d1, d2⟩ := hd
  exact ⟨vp, vl, e, own_down d1 h.size, own_down d2 h.size⟩

theorem cs_app {w : World} {n0 : Nat} {bx rs : Obj} {ps : List ByteArray} {ls : List (Int × ByteArray)} {W W' : World} {Em : Nat → Prop} {R : List (Value × List Int)} {D : List Value} {g b c : Nat} {l : List Int} (h : CS w n0 bx rs ps ls W Em R D) (hE : Em g) (hown : W'.ownsRow g 3 1 (.slice (some ⟨b, 0, none⟩) l.length c) l.length (ints l)) (hg : W.grownBy W' (some g)) (hb : b = g ∨ b = W.heap.size) : CS w n0 bx rs ps ls W' (fun y => Em y ∧ y ≠ g) ((.slice (some ⟨b, 0, none⟩) l.length c, l) :: R) D := by
  obtain ⟨hg0, hge⟩ := h.emp g hE
  have hn := h.n0e
  have hlt : ∀ y, Em y → y < W.heap.size := fun y hy => (Array.getElem?_eq_some_iff.1 (h.emp y hy).2).1
  refine ⟨h.n0e, low_grown h.low h.low.size hg (by omega), k4 hg h.box (by omega), k4 hg h.res (by omega), fun y hy => ⟨(h.emp y hy.1).1, k4 hg (h.emp y hy.1).2 hy.2⟩, fun r hr => ?_, ?_, fun v hv => ?_⟩
  · rcases List.mem_cons.1 hr with rfl | hr
    · refine ⟨own_down hown hg0, fun y hy e => ?_⟩
      injection e with e
      have e : b = y := e
      rcases hb with hb | hb
      · exact hy.2 (by omega)
      · have := hlt y hy.1; omega
    · exact ⟨(h.own r hr).1.kept hg (Or.inr ((h.own r hr).2 g hE)), fun y hy => (h.own r hr).2 y hy.1⟩
  · refine List.pairwise_cons.2 ⟨fun s hs j e1 e2 => ?_, h.apart⟩
    injection e1 with e1
    have e1 : b = j := e1
    rcases hb with hb | hb
    · exact (h.own s hs).2 g hE (by rw [e2, ← hb, e1])
    · have := ((h.own s hs).1.lt j e2).2; omega
  · obtain ⟨vp, vl, e, d1, d2⟩ := h.disk v hv
    exact ⟨vp, vl, e, own_after d1 hge Tryz.str_int hg, own_after d2 hge Tryz.put_int hg⟩

theorem own_empty0 {w : World} {g e : Nat} (h : w.heap[g]? = some (.cells #[] e (0, 0))) : w.ownsRow g e 1 (.slice (some ⟨g, 0, none⟩) 0 0) 0 [] := own_empty h

/-- 'append([]int{}, row...)' at an empty row that waits -/
theorem run_copy {P : Program} (w : World) (t ty e : TypeId) (i : TypeInfo) (z : Value) (ht : P.underlying t = some (.slice e)) (hi : P.info? e = some i) (hz : i.zero = some z) (hsize : i.size = 1) (hby : i.bytes = 8) (hzs : z.cells.size = 1)
    (g : Nat) (hge : w.heap[g]? = some (.cells #[] e (0, 0))) (u : Value) (m : Nat) (ys : List Value) (hrow : RowAt w 1 u m ys) (h1 : ∀ y ∈ ys, y.oneCell' = true) (hm : m ≤ 2000000) :
    ∃ b c w', (Builtin.append_ #[t, t] ty #[.slice (some ⟨g, 0, none⟩) 0 0, u]).run P w = .ok (.slice (some ⟨b, 0, none⟩) m c) w' ∧ w'.ownsRow g e 1 (.slice (some ⟨b, 0, none⟩) m c) m ys ∧ w.grownBy w' (some g) ∧ (b = g ∨ b = w.heap.size) := by
  have hlt : g < w.heap.size := (Array.getElem?_eq_some_iff.1 hge).1
  have hown := own_empty0 hge
  obtain ⟨hl, a, cap, rfl, h2⟩ := hrow
  rcases a with _ | ad
  · rcases h2 with h0 | ⟨b, off, e, _⟩
    · subst h0
      have hy : ys = [] := List.length_eq_zero_iff.1 (by omega)
      subst hy
      refine ⟨g, 0, w, ?_, hown, ⟨rfl, rfl, rfl, Nat.le_refl _, fun _ _ _ => rfl⟩, Or.inl rfl⟩
      simp [Builtin.append_, run_underlying ht, sizeOf, typeInfo, hi, Builtin.lenOf, Builtin.firstCells, storeCells]
    · cases e
  · have hnews : ∀ j y, ys[j]? = some y → w.cell? (ad.add j) = some y := fun j y hj => by
      have hjl : j < m * 1 := by rw [← hl]; exact (List.getElem?_eq_some_iff.1 hj).1
      rcases h2 with h0 | ⟨b, off, e, hlt, hc⟩
      · subst h0; simp at hjl
      · injection e with e
        subst e
        rw [Addr.add_lit, hc j hjl, hj]
    obtain ⟨v', w', hr, q2, q3, q4, q5⟩ := run_append_own_at (P := P) w g t ty e i z 1 8 ht hi hz hsize hby hzs (by decide) (.slice (some ⟨g, 0, none⟩) 0 0) 0 [] hown ad m cap ys hl hnews h1 (by unfold maxLen; omega) (by omega) (by omega)
    rw [Nat.zero_add] at q2
    rw [List.nil_append] at q2
    rcases q2.2 with ⟨rfl, hm0⟩ | ⟨b, c, cur, rfl, rest⟩
    · exact absurd (q4.1 rfl).1 (by intro h; cases h)
    · refine ⟨b, c, w', hr, q2, q3, ?_⟩
      rcases q5 with q5 | q5
      · injection q5 with q5
        exact Or.inl q5
      · injection q5 with q5
        exact Or.inr q5

theorem Tryz.infoIntC : (Tryz.prog.info? 3).map (fun i => (i.zero, i.size, i.bytes)) = some (some (.int .i64 0), 1, 8) := by kernel_rfl

theorem step_copy {ops : Array Oper} {o : Oper} {a : Act} {K : Act → World → Prop} {Q : Exit → Act → World → Prop} {E : Prop} {w : World} {n0 : Nat} {bx rs : Obj} {ps : List ByteArray} {ls : List (Int × ByteArray)} {W : World} {Em : Nat → Prop} {R : List (Value × List Int)} {D : List Value}
    (hcs : CS w n0 bx rs ps ls W Em R D) (hgd : o.guard = none) (s x : Operand) (ho : o.op = .call { callee := .builtin .append, args := #[s, x], argTypes := #[30, 30] })
    {g : Nat} (hs : a.eval s = .slice (some ⟨g, 0, none⟩) 0 0) {u : Value} (hx : a.eval x = u) (l : List Int) (hl : l.length ≤ 2000000) (hrow : RowAt w 1 u l.length (ints l)) (hE : Em g)
    (h : ∀ b c W', W.heap.size ≤ W'.heap.size → CS w n0 bx rs ps ls W' (fun y => Em y ∧ y ≠ g) ((.slice (some ⟨b, 0, none⟩) l.length c, l) :: R) D → K (a.put o.dst (.slice (some ⟨b, 0, none⟩) l.length c)) W') :
    if Region.wanted o (yielded ops a.tmps) = true then Oper.wp Tryz.prog o a W K Q else E := by
  have hw : Region.wanted o (yielded ops a.tmps) = true := by simp [Region.wanted, hgd]
  rw [if_pos hw]
  obtain ⟨i0, hi, hz0, hz1, hz2⟩ := info_parts Tryz.infoIntC
  obtain ⟨b, c, W', hr, q2, q3, q4⟩ := run_copy (P := Tryz.prog) W 30 o.type 3 i0 (.int .i64 0) Tryz.underlying30 hi hz0 hz1 hz2 rfl g (hcs.emp g hE).2 u l.length (ints l) (row_below hrow hcs.low) (ints_one l) hl
  unfold Oper.wp execOp
  simp only [ho, resolve, invoke, builtin, Sem.run_bind, Sem.run_pure, Result.andThen_ok, List.map_toArray, List.map_cons, List.map_nil, hs, hx, hr]
  exact h b c W' q3.size (cs_app hcs hE q2 q3 q4)

theorem step_callcs {ops : Array Oper} {o : Oper} {a : Act} {K : Act → World → Prop} {Q : Exit → Act → World → Prop} {E : Prop} {w : World} {n0 : Nat} {bx rs : Obj} {ps : List ByteArray} {ls : List (Int × ByteArray)} {W : World} {Em : Nat → Prop} {R : List (Value × List Int)} {D : List Value}
    (hcs : CS w n0 bx rs ps ls W Em R D) (hgd : o.guard = none) (f : FuncId) (fn : Func) (hfn : Tryz.prog.funcs[f]? = some fn) (hname : ¬ fn.name = "runtime.NumGoroutine") (hbody : ¬ fn.body = none) (s : Operand) (ts : Array TypeId)
    (ho : o.op = .call { callee := .value (.func f), args := #[s], argTypes := ts }) (u : Value) (hs : a.eval s = u)
    (hc : ∀ wx, DiskAt wx u ps ls → Calls Tryz.prog f #[u] wx fun e w' => ∃ v', e = .returned v' ∧ DiskOwn w' wx.heap.size v' ps ls ∧ Below wx.heap.size wx w') (hd : DiskAt w u ps ls)
    (h : ∀ x1 c1 y1 d1 W', W.heap.size ≤ W'.heap.size → CS w n0 bx rs ps ls W' Em R [.agg #[.slice x1 ps.length c1, .slice y1 ls.length d1]] → K (a.put o.dst (.agg #[.slice x1 ps.length c1, .slice y1 ls.length d1])) W') :
    if Region.wanted o (yielded ops a.tmps) = true then Oper.wp Tryz.prog o a W K Q else E :=
  step_call1 W hgd f fn hfn hname hbody s ts ho u hs _ (hc W (disk_below hd hcs.low)) (fun e w' hr => by
    obtain ⟨v', rfl, hown, hb⟩ := hr
    obtain ⟨x1, c1, y1, d1, rfl⟩ := disk_form hown
    exact ⟨_, rfl, h x1 c1 y1 d1 w' hb.size (cs_call hcs hb hown)⟩)

abbrev set6 (wr : World) (a : Nat) (u0 u1 u2 u3 u4 u5 : Value) : World := (((((wr.setCell ⟨a, 0, none⟩ u0).setCell ⟨a, 1, none⟩ u1).setCell ⟨a, 2, none⟩ u2).setCell ⟨a, 3, none⟩ u3).setCell ⟨a, 4, none⟩ u4).setCell ⟨a, 5, none⟩ u5

theorem set6_blk {wr : World} {a : Nat} {r0 r1 r2 r3 r4 r5 u0 u1 u2 u3 u4 u5 : Value} {t : TypeId} (h : wr.heap[a]? = some (Obj.cells #[r0, r1, r2, r3, r4, r5] t)) : (set6 wr a u0 u1 u2 u3 u4 u5).heap[a]? = some (Obj.cells #[u0, u1, u2, u3, u4, u5] t) :=
  heap_setCell_same _ a 5 _ _ _ (heap_setCell_same _ a 4 _ _ _ (heap_setCell_same _ a 3 _ _ _ (heap_setCell_same _ a 2 _ _ _ (heap_setCell_same _ a 1 _ _ _ (heap_setCell_same wr a 0 _ _ _ h)))))

theorem set6_kept (wr : World) (a : Nat) (u0 u1 u2 u3 u4 u5 : Value) : Kept wr (set6 wr a u0 u1 u2 u3 u4 u5) (fun k => k = a) :=
  kept_trans (kept_trans (kept_trans (kept_trans (kept_trans (kept_setCell _ _ _ _) (kept_setCell _ _ _ _) (fun _ _ h => h)) (kept_setCell _ _ _ _) (fun _ _ h => h)) (kept_setCell _ _ _ _) (fun _ _ h => h)) (kept_setCell _ _ _ _) (fun _ _ h => h)) (kept_setCell _ _ _ _) (fun _ _ h => h)

/-- a work whose rows are all new ones -/
def WorkNw (w : World) (B : Nat) (v : Value) (k : Wk) : Prop :=
  ∃ vp vl vu vg vf, v = .agg #[vp, vl, .int .i64 k.next, vu, vg, vf] ∧ DiskOwn w B (.agg #[vp, vl]) k.ps k.ls ∧ w.ownsRow B 3 1 vu k.us.length (ints k.us) ∧ w.ownsRow B 3 1 vg k.gs.length (ints k.gs) ∧ w.ownsRow B 3 1 vf k.fs.length (ints k.fs) ∧
    (∀ j, vu.ownBlock = some j → vg.ownBlock ≠ some j) ∧ (∀ j, vu.ownBlock = some j → vf.ownBlock ≠ some j) ∧ (∀ j, vg.ownBlock = some j → vf.ownBlock ≠ some j)

theorem nw_own {w : World} {B : Nat} {v : Value} {k : Wk} (h : WorkNw w B v k) : WorkOwn w B v k := by
  obtain ⟨vp, vl, vu, vg, vf, e, h1, h2, h3, h4, h5⟩ := h
  exact ⟨vp, vl, vu, vg, vf, e, h1, intOwn_of_own h2, intOwn_of_own h3, intOwn_of_own h4, h5⟩

theorem nw_kept {w w' : World} {B : Nat} {v : Value} {k : Wk} {S : Nat → Prop} (h : WorkNw w B v k) (hk : Kept w w' S) (hS : ∀ j, workBlocks v j → ¬ S j) : WorkNw w' B v k := by
  obtain ⟨vp, vl, vu, vg, vf, rfl, h1, h2, h3, h4, h5⟩ := h
  exact ⟨vp, vl, vu, vg, vf, rfl, diskOwn_kept h1 hk (fun j e => hS j ⟨_, _, _, _, _, _, rfl, Or.inl e⟩), own_kept h2 hk (fun j e => hS j ⟨_, _, _, _, _, _, rfl, Or.inr (Or.inl e)⟩), own_kept h3 hk (fun j e => hS j ⟨_, _, _, _, _, _, rfl, Or.inr (Or.inr (Or.inl e))⟩), own_kept h4 hk (fun j e => hS j ⟨_, _, _, _, _, _, rfl, Or.inr (Or.inr (Or.inr e))⟩), h5⟩

theorem nw_below {w w' : World} {B : Nat} {v : Value} {k : Wk} (h : WorkNw w B v k) (hb : Below w.heap.size w w') : WorkNw w' B v k :=
  nw_kept h (kept_of_all hb (fun _ => False)) (fun _ _ h => h)

theorem nw_down {w : World} {B B' : Nat} {v : Value} {k : Wk} (h : WorkNw w B v k) (hB : B' ≤ B) : WorkNw w B' v k := by
  obtain ⟨vp, vl, vu, vg, vf, e, ⟨vp', vl', e1, d1, d2⟩, h2, h3, h4, h5⟩ := h
  exact ⟨vp, vl, vu, vg, vf, e, ⟨vp', vl', e1, own_down d1 hB, own_down d2 hB⟩, own_down h2 hB, own_down h3 hB, own_down h4 hB, h5⟩

theorem ret_nw {w wr : World} {a1 B : Nat} {r0 r1 r2 r3 r4 r5 u0 u1 u2 u3 u4 u5 : Value} {t : TypeId} {k : Wk} (hres : wr.heap[a1]? = some (Obj.cells #[r0, r1, r2, r3, r4, r5] t)) (hd : WorkNw wr B (.agg #[u0, u1, u2, u3, u4, u5]) k) (hB : a1 < B) (hw : w.heap.size ≤ a1) (hb : Below w.heap.size w wr) :
    (set6 wr a1 u0 u1 u2 u3 u4 u5).heap[a1]? = some (Obj.cells #[u0, u1, u2, u3, u4, u5] t) ∧ WorkNw (set6 wr a1 u0 u1 u2 u3 u4 u5) w.heap.size (.agg #[u0, u1, u2, u3, u4, u5]) k ∧ Below w.heap.size w (set6 wr a1 u0 u1 u2 u3 u4 u5) := by
  have hk := set6_kept wr a1 u0 u1 u2 u3 u4 u5
  exact ⟨set6_blk hres, nw_down (nw_kept hd hk (fun j hj => by have := (workOwn_lt (nw_own hd) j hj).1; omega)) (by omega), hb.trans (below_of_kept hk hb.size (fun k hk => by omega))⟩

/-- a work is laid into the variable of the answer -/
theorem ret_work {w wr : World} {a1 B : Nat} {r0 r1 r2 r3 r4 r5 u0 u1 u2 u3 u4 u5 : Value} {t : TypeId} {k : Wk} (hres : wr.heap[a1]? = some (Obj.cells #[r0, r1, r2, r3, r4, r5] t)) (hd : WorkOwn wr B (.agg #[u0, u1, u2, u3, u4, u5]) k) (hB : a1 < B) (hw : w.heap.size ≤ a1) (hb : Below w.heap.size w wr) :
    (set6 wr a1 u0 u1 u2 u3 u4 u5).heap[a1]? = some (Obj.cells #[u0, u1, u2, u3, u4, u5] t) ∧ WorkOwn (set6 wr a1 u0 u1 u2 u3 u4 u5) w.heap.size (.agg #[u0, u1, u2, u3, u4, u5]) k ∧ Below w.heap.size w (set6 wr a1 u0 u1 u2 u3 u4 u5) := by
  have hk := set6_kept wr a1 u0 u1 u2 u3 u4 u5
  exact ⟨set6_blk hres, workOwn_down (workOwn_kept hd hk (fun j hj => by have := (workOwn_lt hd j hj).1; omega)) (by omega), hb.trans (below_of_kept hk hb.size (fun k hk => by omega))⟩

theorem size_drewW (w : World) : w.drew.heap.size = w.heap.size := rfl

theorem cs_cells {w : World} {n0 : Nat} {c0 c1 c2 c3 c4 c5 : Value} {t : TypeId} {rs : Obj} {ps : List ByteArray} {ls : List (Int × ByteArray)} {W : World} {Em : Nat → Prop} {R : List (Value × List Int)} {D : List Value} (h : CS w n0 (Obj.cells #[c0, c1, c2, c3, c4, c5] t) rs ps ls W Em R D) :
    W.cell? ⟨n0, 0, none⟩ = some c0 ∧ W.cell? ⟨n0, 1, none⟩ = some c1 ∧ W.cell? ⟨n0, 2, none⟩ = some c2 ∧ W.cell? ⟨n0, 3, none⟩ = some c3 ∧ W.cell? ⟨n0, 4, none⟩ = some c4 ∧ W.cell? ⟨n0, 5, none⟩ = some c5 :=
  ⟨(cell_at h.box 0).1, (cell_at h.box 1).1, (cell_at h.box 2).1, (cell_at h.box 3).1, (cell_at h.box 4).1, (cell_at h.box 5).1⟩

theorem cs_cells6 {w : World} {n0 : Nat} {c0 c1 c2 c3 c4 c5 u0 u1 u2 u3 u4 u5 : Value} {t : TypeId} {rs : Obj} {ps : List ByteArray} {ls : List (Int × ByteArray)} {W : World} {Em : Nat → Prop} {R : List (Value × List Int)} {D : List Value} (h : CS w n0 (Obj.cells #[c0, c1, c2, c3, c4, c5] t) rs ps ls W Em R D) :
    (set6 W (n0 + 1) u0 u1 u2 u3 u4 u5).cell? ⟨n0, 0, none⟩ = some c0 ∧ (set6 W (n0 + 1) u0 u1 u2 u3 u4 u5).cell? ⟨n0, 1, none⟩ = some c1 ∧ (set6 W (n0 + 1) u0 u1 u2 u3 u4 u5).cell? ⟨n0, 2, none⟩ = some c2 ∧ (set6 W (n0 + 1) u0 u1 u2 u3 u4 u5).cell? ⟨n0, 3, none⟩ = some c3 ∧ (set6 W (n0 + 1) u0 u1 u2 u3 u4 u5).cell? ⟨n0, 4, none⟩ = some c4 ∧ (set6 W (n0 + 1) u0 u1 u2 u3 u4 u5).cell? ⟨n0, 5, none⟩ = some c5 := by
  have hb := ((set6_kept W (n0 + 1) u0 u1 u2 u3 u4 u5).2.2.2.2 n0 (Array.getElem?_eq_some_iff.1 h.box).1 (by omega)).trans h.box
  exact ⟨(cell_at hb 0).1, (cell_at hb 1).1, (cell_at hb 2).1, (cell_at hb 3).1, (cell_at hb 4).1, (cell_at hb 5).1⟩

theorem cs_res {w : World} {n0 : Nat} {c0 c1 c2 c3 c4 c5 : Value} {t : TypeId} {bx : Obj} {ps : List ByteArray} {ls : List (Int × ByteArray)} {W : World} {Em : Nat → Prop} {R : List (Value × List Int)} {D : List Value} (h : CS w n0 bx (Obj.cells #[c0, c1, c2, c3, c4, c5] t) ps ls W Em R D) :
    (W.cell? ⟨n0 + 1, 0, none⟩ = some c0 ∧ W.cell? ⟨n0 + 1, 1, none⟩ = some c1 ∧ W.cell? ⟨n0 + 1, 2, none⟩ = some c2 ∧ W.cell? ⟨n0 + 1, 3, none⟩ = some c3 ∧ W.cell? ⟨n0 + 1, 4, none⟩ = some c4 ∧ W.cell? ⟨n0 + 1, 5, none⟩ = some c5) ∧
    W.frozen? ⟨n0 + 1, 0, none⟩ = false ∧ W.frozen? ⟨n0 + 1, 1, none⟩ = false ∧ W.frozen? ⟨n0 + 1, 2, none⟩ = false ∧ W.frozen? ⟨n0 + 1, 3, none⟩ = false ∧ W.frozen? ⟨n0 + 1, 4, none⟩ = false ∧ W.frozen? ⟨n0 + 1, 5, none⟩ = false :=
  ⟨⟨(cell_at h.res 0).1, (cell_at h.res 1).1, (cell_at h.res 2).1, (cell_at h.res 3).1, (cell_at h.res 4).1, (cell_at h.res 5).1⟩, (cell_at h.res 0).2, (cell_at h.res 1).2, (cell_at h.res 2).2, (cell_at h.res 3).2, (cell_at h.res 4).2, (cell_at h.res 5).2⟩

theorem blk6c {W : World} {g : Nat} {c0 c1 c2 c3 c4 c5 : Value} {t : TypeId} (h : W.heap[g]? = some (Obj.cells #[c0, c1, c2, c3, c4, c5] t)) :
    W.cell? ⟨g, 0, none⟩ = some c0 ∧ W.cell? ⟨g, 1, none⟩ = some c1 ∧ W.cell? ⟨g, 2, none⟩ = some c2 ∧ W.cell? ⟨g, 3, none⟩ = some c3 ∧ W.cell? ⟨g, 4, none⟩ = some c4 ∧ W.cell? ⟨g, 5, none⟩ = some c5 :=
  ⟨(cell_at h 0).1, (cell_at h 1).1, (cell_at h 2).1, (cell_at h 3).1, (cell_at h 4).1, (cell_at h 5).1⟩

/-- the copy that is done -/
theorem cs_work {w : World} {n0 : Nat} {bx rs : Obj} {W : World} {Em : Nat → Prop} {k : Wk} {v1 v2 v3 vp vl : Value} (h : CS w n0 bx rs k.ps k.ls W Em [(v3, k.fs), (v2, k.gs), (v1, k.us)] [.agg #[vp, vl]]) : WorkNw W (n0 + 2) (.agg #[vp, vl, .int .i64 k.next, v1, v2, v3]) k := by
  have hp := h.apart
  simp only [List.pairwise_cons, List.mem_cons, List.not_mem_nil, or_false, forall_eq_or_imp, forall_eq] at hp
  obtain ⟨⟨p1, p2⟩, p3, -⟩ := hp
  have o3 := (h.own (v3, k.fs) (by simp)).1
  have o2 := (h.own (v2, k.gs) (by simp)).1
  have o1 := (h.own (v1, k.us) (by simp)).1
  exact ⟨vp, vl, v1, v2, v3, rfl, h.disk _ (by simp), o1, o2, o3, fun j e1 e2 => p3 j e2 e1, fun j e1 e2 => p2 j e2 e1, fun j e1 e2 => p1 j e2 e1⟩
end Go.Proofs.YtbokjfjdjgopeaaGreatDoor

namespace Go.Proofs.YtbokjfjdjgopeaaGreatDoor
open Go.RowKit

def diskA (B : Nat) (v : Value) (ps : List ByteArray) (ls : List (Int × ByteArray)) : Ast := ⟨diskBlocks v, fun W => DiskOwn W B v ps ls, fun W W' h hk => by
  obtain ⟨vp, vl, rfl, h1, h2⟩ := h
  exact ⟨vp, vl, rfl, (rowA B 9 1 vp ps.length (strs ps)).loc W W' h1 (fun k e => hk k ⟨_, _, rfl, Or.inl e⟩), (rowA B 126 2 vl ls.length (puts ls)).loc W W' h2 (fun k e => hk k ⟨_, _, rfl, Or.inr e⟩)⟩⟩

/-- the rows of a work -/
def workL (B : Nat) (u0 u1 u3 u4 u5 : Value) (k : Wk) : List Ast := [diskA B (.agg #[u0, u1]) k.ps k.ls, rowA B 3 1 u3 k.us.length (ints k.us), rowA B 3 1 u4 k.gs.length (ints k.gs), rowA B 3 1 u5 k.fs.length (ints k.fs)]

theorem nw_sep {W : World} {B : Nat} {u0 u1 u2 u3 u4 u5 : Value} {k : Wk} (h : WorkNw W B (.agg #[u0, u1, u2, u3, u4, u5]) k) : u2 = .int .i64 k.next ∧ Sep B W (workL B u0 u1 u3 u4 u5 k) := by
  have hlt := workOwn_lt (nw_own h)
  obtain ⟨vp, vl, vu, vg, vf, e, h1, h2, h3, h4, n1, n2, n3⟩ := h
  obtain ⟨rfl, rfl, rfl, rfl, rfl, rfl⟩ := agg6 e
  refine ⟨rfl, ?_⟩
  refine sep_cons.2 ⟨⟨h1, fun j hj => hlt j ⟨_, _, _, _, _, _, rfl, Or.inl hj⟩⟩, fun A hA j hj hj' => ?_, ?_⟩
  · rcases List.mem_cons.1 hA with rfl | hA
    · exact disk_int_apart h1 (intOwn_of_own h2) j hj hj'
    rcases List.mem_cons.1 hA with rfl | hA
    · exact disk_int_apart h1 (intOwn_of_own h3) j hj hj'
    rcases List.mem_cons.1 hA with rfl | hA
    · exact disk_int_apart h1 (intOwn_of_own h4) j hj hj'
    · cases hA
  refine sep_cons.2 ⟨⟨h2, fun j hj => hlt j ⟨_, _, _, _, _, _, rfl, Or.inr (Or.inl hj)⟩⟩, fun A hA j hj hj' => ?_, ?_⟩
  · rcases List.mem_cons.1 hA with rfl | hA
    · exact n1 j hj hj'
    rcases List.mem_cons.1 hA with rfl | hA
    · exact n2 j hj hj'
    · cases hA
  refine sep_cons.2 ⟨⟨h3, fun j hj => hlt j ⟨_, _, _, _, _, _, rfl, Or.inr (Or.inr (Or.inl hj))⟩⟩, fun A hA j hj hj' => ?_, ?_⟩
  · rcases List.mem_cons.1 hA with rfl | hA
    · exact n3 j hj hj'
    · cases hA
  exact sep_cons.2 ⟨⟨h4, fun j hj => hlt j ⟨_, _, _, _, _, _, rfl, Or.inr (Or.inr (Or.inr hj))⟩⟩, fun A hA => (by cases hA), sep_nil _ _⟩

theorem sep_nw {W : World} {B B' : Nat} {u0 u1 u3 u4 u5 : Value} {k : Wk} (h : Sep B W (workL B' u0 u1 u3 u4 u5 k)) : WorkNw W B' (.agg #[u0, u1, .int .i64 k.next, u3, u4, u5]) k :=
  ⟨u0, u1, u3, u4, u5, rfl, sep_get h 0 rfl, sep_get h 1 rfl, sep_get h 2 rfl, sep_get h 3 rfl, fun j => sep_apart h 1 2 rfl rfl (by decide) j, fun j => sep_apart h 1 3 rfl rfl (by decide) j, fun j => sep_apart h 2 3 rfl rfl (by decide) j⟩

/-- the rows of a work, their lengths as letters -/
abbrev workN (B : Nat) (u0 u1 u3 u4 u5 : Value) (k : Wk) (nu ng nf : Nat) : List Ast := [diskA B (.agg #[u0, u1]) k.ps k.ls, rowA B 3 1 u3 nu (ints k.us), rowA B 3 1 u4 ng (ints k.gs), rowA B 3 1 u5 nf (ints k.fs)]

theorem row_n {W : World} {B e n : Nat} {v : Value} {l : List Int} (h : W.ownsRow B e 1 v n (ints l)) : n = l.length := by
  have := h.1
  rw [ints_length] at this
  omega

theorem sep_nwN {W : World} {B B' : Nat} {u0 u1 u3 u4 u5 : Value} {k : Wk} {nu ng nf : Nat} (h : Sep B W (workN B' u0 u1 u3 u4 u5 k nu ng nf)) : WorkNw W B' (.agg #[u0, u1, .int .i64 k.next, u3, u4, u5]) k := by
  have h1 : W.ownsRow B' 3 1 u3 nu (ints k.us) := sep_get h 1 rfl
  have h2 : W.ownsRow B' 3 1 u4 ng (ints k.gs) := sep_get h 2 rfl
  have h3 : W.ownsRow B' 3 1 u5 nf (ints k.fs) := sep_get h 3 rfl
  exact ⟨u0, u1, u3, u4, u5, rfl, sep_get h 0 rfl, by rw [← row_n h1]; exact h1, by rw [← row_n h2]; exact h2, by rw [← row_n h3]; exact h3, fun j => sep_apart h 1 2 rfl rfl (by decide) j, fun j => sep_apart h 1 3 rfl rfl (by decide) j, fun j => sep_apart h 2 3 rfl rfl (by decide) j⟩

/-- an answer that is a work: it is laid into the answer's variable -/
theorem ret_sep {w wr : World} {b0 a1 B : Nat} {r0 r1 r2 r3 r4 r5 u0 u1 u3 u4 u5 : Value} {t : TypeId} {k : Wk} {nu ng nf : Nat} {l : List Ast} (h : Sep b0 wr l) (r : Nat) (hr : l[r]? = some (cellA a1 (Obj.cells #[r0, r1, r2, r3, r4, r5] t))) (hs : (workN B u0 u1 u3 u4 u5 k nu ng nf).Sublist l) (hB : a1 < B) (hw : w.heap.size ≤ a1) (hb : Below w.heap.size w wr) :
    (set6 wr a1 u0 u1 (.int .i64 k.next) u3 u4 u5).heap[a1]? = some (Obj.cells #[u0, u1, .int .i64 k.next, u3, u4, u5] t) ∧ WorkNw (set6 wr a1 u0 u1 (.int .i64 k.next) u3 u4 u5) w.heap.size (.agg #[u0, u1, .int .i64 k.next, u3, u4, u5]) k ∧ Below w.heap.size w (set6 wr a1 u0 u1 (.int .i64 k.next) u3 u4 u5) :=
  ret_nw (sep_get h r hr) (sep_nwN (sep_take h _ hs)) hB hw hb

theorem rowat_some {w : World} {n c : Nat} {a : Option Addr} {xs : List Value} (h : RowAt w 1 (.slice a n c) n xs) (hn : 0 < n) : ∃ b off, a = some ⟨b, off, none⟩ := by
  obtain ⟨-, a', cap, e, h⟩ := h
  injection e with e1
  rcases h with h0 | ⟨b, off, e, -⟩
  · omega
  · exact ⟨b, off, by rw [e1, e]⟩

theorem rowat_cell {w wx : World} {n c b off : Nat} {l : List Int} (h : RowAt w 1 (.slice (some ⟨b, off, none⟩) n c) n (ints l)) (hb : Below w.heap.size w wx) (i : Nat) (hi : i < n) (hn : n = l.length) : wx.cell? ⟨b, off + i, none⟩ = some (.int .i64 (l.getD i 0)) := by
  obtain ⟨-, a', cap, e, h⟩ := h
  injection e with e1 e2 e3
  subst e1
  rcases h with h0 | ⟨b', off', e, hlt, hc⟩
  · omega
  · injection e with e
    injection e with e e'
    subst e e'
    rw [hb.cell (by exact hlt), hc i (by omega), ints_at l i (by omega)]
    simp [List.getD_eq_getElem?_getD, show i < l.length by omega]

theorem ints_snocW (l : List Int) (x : Int) : ints l ++ [.int .i64 x] = ints (l ++ [x]) := by simp [ints]

/-- an append of a number -/
theorem wpList_int1 {ops : Array Oper} {rest : List Oper} {o : Oper} {a : Act} {Q : Exit → Act → World → Prop} {B : Nat} {W : World} {l : List Ast} (h : Sep B W l) (i : Nat) {B' n : Nat} {v : Value} {xs : List Int} (hi : l[i]? = some (rowA B' 3 1 v n (ints xs))) (hBB : B ≤ B') (hBW : B ≤ W.heap.size) (hBW' : B' ≤ W.heap.size)
    (hgd : o.guard = none) (s x : Operand) (ho : o.op = .call { callee := .builtin .append, args := #[s, x], argTypes := #[30, 30] }) (hs : a.eval s = v) (p : Int) {H : Nat} (hH : H = W.heap.size) (hx : a.eval x = .slice (some ⟨H, 0, none⟩) 1 1) (hn : n ≤ 3000000)
    (hK : ∀ b c w', Sep B w' (l.set i (rowA B' 3 1 (.slice (some ⟨b, 0, none⟩) (n + 1) c) (n + 1) (ints (xs ++ [p])))) → Below B W w' → wpList Tryz.prog ops Q rest (a.put o.dst (.slice (some ⟨b, 0, none⟩) (n + 1) c)) w') :
    wpList Tryz.prog ops Q (o :: rest) a (W.alloc (Obj.cells #[.int .i64 p] 3)) := by
  obtain ⟨i0, hinf, hz0, hz1, hz2⟩ := info_parts Tryz.infoIntC
  refine wpList_sep1 h i hi hBB hBW hBW' hgd s x 30 ho i0 (.int .i64 0) 8 Tryz.underlying30 hinf hz0 hz1 hz2 rfl (by decide) hs #[.int .i64 p] hH hx rfl (fun u hu => by simp at hu; subst hu; rfl) (by unfold maxLen; omega) (by omega) (fun b c w' k1 k2 => hK b c w' ?_ k2)
  rw [← ints_snocW]
  exact k1

theorem step_int1 {ops : Array Oper} {o : Oper} {a : Act} {K : Act → World → Prop} {Q : Exit → Act → World → Prop} {E : Prop} {B : Nat} {W : World} {l : List Ast} (h : Sep B W l) (i : Nat) {B' n : Nat} {v : Value} {xs : List Int} (hi : l[i]? = some (rowA B' 3 1 v n (ints xs))) (hBB : B ≤ B') (hBW : B ≤ W.heap.size) (hBW' : B' ≤ W.heap.size)
    (hgd : o.guard = none) (s x : Operand) (ho : o.op = .call { callee := .builtin .append, args := #[s, x], argTypes := #[30, 30] }) (hs : a.eval s = v) (p : Int) {H : Nat} (hH : H = W.heap.size) (hx : a.eval x = .slice (some ⟨H, 0, none⟩) 1 1) (hn : n ≤ 3000000)
    (hK : ∀ b c w', Sep B w' (l.set i (rowA B' 3 1 (.slice (some ⟨b, 0, none⟩) (n + 1) c) (n + 1) (ints (xs ++ [p])))) → Below B W w' → K (a.put o.dst (.slice (some ⟨b, 0, none⟩) (n + 1) c)) w') :
    if Region.wanted o (yielded ops a.tmps) = true then Oper.wp Tryz.prog o a (W.alloc (Obj.cells #[.int .i64 p] 3)) K Q else E := by
  obtain ⟨i0, hinf, hz0, hz1, hz2⟩ := info_parts Tryz.infoIntC
  refine step_sep1 h i hi hBB hBW hBW' hgd s x 30 ho i0 (.int .i64 0) 8 Tryz.underlying30 hinf hz0 hz1 hz2 rfl (by decide) hs #[.int .i64 p] hH hx rfl (fun u hu => by simp at hu; subst hu; rfl) (by unfold maxLen; omega) (by omega) (fun b c w' k1 k2 => hK b c w' ?_ k2)
  rw [← ints_snocW]
  exact k1
end Go.Proofs.YtbokjfjdjgopeaaGreatDoor
