/-
  Facts and contracts that the law's own text rests on, by their texts' names: Var, Plain9, DiskSpecN, AppRow, DiskSyncN.
-/
import Derived.BigQuiet
import Derived.Deep.QuietTactic
import Derived.Laws.IdiomStrings
import Derived.Outline
import Derived.OwnWalk
import Derived.WalkKit
import Derived.Test.YtmmepgincbngeaaDoorRs1
import Derived.Test.YtmmepgincbngeaaDoorProg
import Derived.Deep.AppendLies
namespace Go.Proofs.YtmmepgincbngeaaDoor
open Go.RowKit
theorem Tryd.infoU8 : (Tryd.prog.info? 5).map (fun i => (i.zero, i.size, i.bytes)) = some (some (.int .u8 0), 1, 1) := by kernel_rfl
theorem below_app {B : Nat} {w wr w1 : World} {v : Value} {n : Nat} {xs : List Value} {o : Obj} (hB : B ≤ wr.heap.size) (hb : Below B w wr) (hown : wr.ownsRow B 5 1 v n xs) (hg : (wr.alloc o).grownBy w1 v.ownBlock) : Below B w w1 :=
  (hb.alloc hB o).grown hg (by simp; omega) (fun k hk => (hown.lt k hk).1)
theorem one_cell (w : World) (x : Value) : ∀ (j : Nat) (u : Value), [x][j]? = some u → (w.alloc (Obj.cells #[x] 5)).cell? ((⟨w.heap.size, 0, none⟩ : Addr).add j) = some u := by
  intro j u hj
  match j, hj with
  | 0, hj => simp at hj; subst hj; simp [Addr.add]
theorem string_of_row {P : Program} {w : World} {B src dst e : TypeId} {v : Value} {l : List UInt8} (hs : P.underlying src = some (.slice e)) (he : P.underlying e = some (.int .u8)) (hd : P.underlying dst = some .string)
    (hown : w.ownsRow B e 1 v l.length (Lib.byteCells l)) (hpos : 0 < l.length) :
    ∃ g cap, v = .slice (some ⟨g, 0, none⟩) l.length cap ∧ (convert src dst (.slice (some ⟨g, 0, none⟩) l.length cap)).run P w = .ok (.string ⟨l.toArray⟩) w := by
  rcases hown.2 with ⟨-, h0⟩ | ⟨g, cap, cur, rfl, -, -, -, -, -, -⟩
  · omega
  · exact ⟨g, cap, rfl, run_convert_bytes_back (P := P) w src dst e ⟨g, 0, none⟩ cap l hs he hd (fun j hj => hown.cells (g := g) rfl j _ (by simp [Lib.byteCells, hj]))⟩
set_option maxHeartbeats 1000000 in
set_option maxRecDepth 100000 in
theorem l01Var_any (n : Int) (h0 : 0 ≤ n) (h1 : n ≤ 1000000000) (w : World) :
    Calls Tryd.prog 59 #[.int .i64 n] w fun e w' => e = .returned (.string ⟨(vtext n.toNat).toArray⟩) ∧ Below w.heap.size w w' := by
  obtain ⟨k, rfl⟩ := Int.eq_ofNat_of_zero_le h0
  rw [Int.toNat_natCast]
  obtain ⟨i0, hi, hz0, hz1, hz2⟩ := info_parts Tryd.infoU8
  go_enter Tryd.func59, Tryd.ntmps59
  go_wp2
  go_loopw [0, 3] (fun nv v wr => ∃ (f m : Nat) (done : List UInt8), nv = .int .i64 m ∧ m < 128 ^ (f + 1) ∧ m ≤ 1000000000 ∧ done.length + f ≤ 4 ∧ done ++ venc f m = vtext k ∧ wr.ownsRow w.heap.size 5 1 v done.length (Lib.byteCells done) ∧ Below w.heap.size w wr)
    (fun nv _ _ => (intOf nv).toNat)
  case atStart => exact ⟨4, k, [], rfl, pow5 k (by omega), by omega, by simp, by simp [vtext], by simpa [Lib.byteCells] using World.ownsRow_lit (base := w.heap.size) (e := 5) (size := 1) w #[] 0 (Nat.le_refl _) (by unfold maxLen; omega) (by simp), (Below.refl _ _).alloc (Nat.le_refl _) _⟩
  case round =>
    obtain ⟨f, m, done, rfl, hf, hm, hl, hd, hown, hb⟩ := hrel
    have hB := hb.size
    by_cases hlt : 127 < m
    · obtain ⟨g, hg, hf', hv⟩ := venc_step f m (by omega) hf
      have HV := hide hv
      have HG := hide hg
      have HD := hide hd
      clear hv hg hd
      go_wp2_with (at_builtin; refine wpList_append_own _ rfl _ _ 22 rfl w.heap.size 5 i0 (.int .u8 0) 1 1 Tryd.underlying22 hi hz0 hz1 hz2 rfl (by decide) _ _ _ rfl (hown.alloc _) ⟨wr.heap.size, 0, none⟩ 1 1 [.int .u8 (m % 128 + 128)] rfl rfl ?c1 ?c2 ?c3 ?c4 ?c5 ?_)
      case c1 => exact one_cell _ _
      case c2 => intro u hu; simp at hu; subst hu; rfl
      case c3 => unfold maxLen; omega
      case c4 => omega
      case c5 => simp; omega
      intro v' w1 hown' hgrow _
      have hb1 := below_app hB hb hown hgrow
      have hown2 : w1.ownsRow w.heap.size 5 1 v' (done ++ [UInt8.ofNat (m % 128 + 128)]).length (Lib.byteCells (done ++ [UInt8.ofNat (m % 128 + 128)])) := by
        rw [← cells_snoc done (m % 128 + 128) (by omega), List.length_append]
        simpa using hown'
      clear hown' hgrow hown hb
      go_wp2
      go_roundw
      case rel => exact ⟨g, m / 128, done ++ [UInt8.ofNat (m % 128 + 128)], by go_num, hf', by omega, by have := HG.out; simp; omega, by rw [List.append_assoc, List.singleton_append, ← HV.out]; exact HD.out, hown2, hb1⟩
      case measure => simp [intOf]; omega
    · have hv := venc_last f m (by omega)
      rw [hv] at hd
      have HD := hide hd
      clear hv hd
      go_wp2_with (at_builtin; refine wpList_append_own _ rfl _ _ 22 rfl w.heap.size 5 i0 (.int .u8 0) 1 1 Tryd.underlying22 hi hz0 hz1 hz2 rfl (by decide) _ _ _ rfl (hown.alloc _) ⟨wr.heap.size, 0, none⟩ 1 1 [.int .u8 m] rfl rfl ?c1 ?c2 ?c3 ?c4 ?c5 ?_)
      case c1 => exact one_cell _ _
      case c2 => intro u hu; simp at hu; subst hu; rfl
      case c3 => unfold maxLen; omega
      case c4 => omega
      case c5 => simp; omega
      intro v' w1 hown' hgrow _
      have hb1 := below_app hB hb hown hgrow
      have hown2 : w1.ownsRow w.heap.size 5 1 v' (vtext k).length (Lib.byteCells (vtext k)) := by
        rw [← HD.out, ← cells_snoc done m (by omega), List.length_append]
        simpa using hown'
      clear hown' hgrow hown hb
      obtain ⟨gb, cp, hv', hcv⟩ := string_of_row (dst := 9) (src := 22) (e := 5) Tryd.underlying22 Tryd.underlying5 Tryd.underlying9 hown2 (by have := (vtext_length k).1; omega)
      rw [hv']
      clear hv' hown2
      go_wp2
      go_ret
      exact ⟨rfl, hb1⟩
set_option maxHeartbeats 400000 in
theorem l01In_yes (x a b : Int) (w : World) (h1 : a ≤ x) (h2 : x ≤ b) : Calls Tryd.prog 45 #[.int .i64 x, .int .i64 a, .int .i64 b] w fun e w' => e = .returned (.bool true) ∧ w = w' := by
  go_enter Tryd.func45, Tryd.ntmps45
  go_wp2
  go_ret
  exact ⟨rfl, rfl⟩
set_option maxHeartbeats 400000 in
theorem l01In_no (x a b : Int) (w : World) (h : x < a ∨ b < x) : Calls Tryd.prog 45 #[.int .i64 x, .int .i64 a, .int .i64 b] w fun e w' => e = .returned (.bool false) ∧ w = w' := by
  by_cases h1 : x < a
  · go_enter Tryd.func45, Tryd.ntmps45
    go_wp2
    go_ret
    exact ⟨rfl, rfl⟩
  · have h2 : b < x := by omega
    have h3 : a ≤ x := by omega
    have h4 : decide (x ≤ b) = false := by simp; omega
    clear h h1
    go_enter Tryd.func45, Tryd.ntmps45
    go_wp2
    go_ret
    exact ⟨rfl, rfl⟩
set_option maxHeartbeats 1000000 in
set_option maxRecDepth 100000 in
theorem implVarText_yes (n : Int) (h0 : 0 ≤ n) (h1 : n ≤ 1000000000) (w : World) :
    Calls Tryd.prog 81 #[.int .i64 n] w fun e w' => e = .returned (.tuple #[.string ⟨(vtext n.toNat).toArray⟩, .bool true]) ∧ Below w.heap.size w w' := by
  obtain ⟨k, rfl⟩ := Int.eq_ofNat_of_zero_le h0
  rw [Int.toNat_natCast]
  obtain ⟨i0, hi, hz0, hz1, hz2⟩ := info_parts Tryd.infoU8
  go_enter Tryd.func81, Tryd.ntmps81
  go_wp2
  go_loopw [0, 4] (fun nv v wr => ∃ (f m : Nat) (done : List UInt8), nv = .int .i64 m ∧ m < 128 ^ (f + 1) ∧ m ≤ 1000000000 ∧ done.length + f ≤ 4 ∧ done ++ venc f m = vtext k ∧ wr.ownsRow w.heap.size 5 1 v done.length (Lib.byteCells done) ∧ Below w.heap.size w wr)
    (fun nv _ _ => (intOf nv).toNat)
  case atStart => exact ⟨4, k, [], rfl, pow5 k (by omega), by omega, by simp, by simp [vtext], by simpa [Lib.byteCells] using World.ownsRow_lit (base := w.heap.size) (e := 5) (size := 1) w #[] 0 (Nat.le_refl _) (by unfold maxLen; omega) (by simp), (Below.refl _ _).alloc (Nat.le_refl _) _⟩
  case round =>
    obtain ⟨f, m, done, rfl, hf, hm, hl, hd, hown, hb⟩ := hrel
    have hB := hb.size
    by_cases hlt : 127 < m
    · obtain ⟨g, hg, hf', hv⟩ := venc_step f m (by omega) hf
      have HV := hide hv
      have HG := hide hg
      have HD := hide hd
      clear hv hg hd
      go_wp2_with (at_builtin; refine wpList_append_own _ rfl _ _ 22 rfl w.heap.size 5 i0 (.int .u8 0) 1 1 Tryd.underlying22 hi hz0 hz1 hz2 rfl (by decide) _ _ _ rfl (hown.alloc _) ⟨wr.heap.size, 0, none⟩ 1 1 [.int .u8 (m % 128 + 128)] rfl rfl ?c1 ?c2 ?c3 ?c4 ?c5 ?_)
      case c1 => exact one_cell _ _
      case c2 => intro u hu; simp at hu; subst hu; rfl
      case c3 => unfold maxLen; omega
      case c4 => omega
      case c5 => simp; omega
      intro v' w1 hown' hgrow _
      have hb1 := below_app hB hb hown hgrow
      have hown2 : w1.ownsRow w.heap.size 5 1 v' (done ++ [UInt8.ofNat (m % 128 + 128)]).length (Lib.byteCells (done ++ [UInt8.ofNat (m % 128 + 128)])) := by
        rw [← cells_snoc done (m % 128 + 128) (by omega), List.length_append]
        simpa using hown'
      clear hown' hgrow hown hb
      go_wp2
      go_roundw
      case rel => exact ⟨g, m / 128, done ++ [UInt8.ofNat (m % 128 + 128)], by go_num, hf', by omega, by have := HG.out; simp; omega, by rw [List.append_assoc, List.singleton_append, ← HV.out]; exact HD.out, hown2, hb1⟩
      case measure => simp [intOf]; omega
    · have hv := venc_last f m (by omega)
      rw [hv] at hd
      have HD := hide hd
      clear hv hd
      go_wp2_with (at_builtin; refine wpList_append_own _ rfl _ _ 22 rfl w.heap.size 5 i0 (.int .u8 0) 1 1 Tryd.underlying22 hi hz0 hz1 hz2 rfl (by decide) _ _ _ rfl (hown.alloc _) ⟨wr.heap.size, 0, none⟩ 1 1 [.int .u8 m] rfl rfl ?c1 ?c2 ?c3 ?c4 ?c5 ?_)
      case c1 => exact one_cell _ _
      case c2 => intro u hu; simp at hu; subst hu; rfl
      case c3 => unfold maxLen; omega
      case c4 => omega
      case c5 => simp; omega
      intro v' w1 hown' hgrow _
      have hb1 := below_app hB hb hown hgrow
      have hown2 : w1.ownsRow w.heap.size 5 1 v' (vtext k).length (Lib.byteCells (vtext k)) := by
        rw [← HD.out, ← cells_snoc done m (by omega), List.length_append]
        simpa using hown'
      clear hown' hgrow hown hb
      obtain ⟨gb, cp, hv', hcv⟩ := string_of_row (dst := 9) (src := 22) (e := 5) Tryd.underlying22 Tryd.underlying5 Tryd.underlying9 hown2 (by have := (vtext_length k).1; omega)
      rw [hv']
      clear hv' hown2
      go_wp2
      go_ret2
      exact ⟨rfl, hb1⟩
open Go.RowKit
def diskOkB (ps : List ByteArray) (ls : List (Int × ByteArray)) : Bool :=
  ps.all (fun s => decide (s.size ≤ 240)) && ls.all (fun p => decide (0 ≤ p.1 ∧ p.1 < (ps.length : Int) ∧ p.2.size ≤ 240)) && decide (4 ≤ ps.length ∧ ps.length ≤ 40 ∧ ls.length ≤ 200)
theorem diskOk_page {ps : List ByteArray} {ls : List (Int × ByteArray)} {k : Nat} (h : k < ps.length) (hb : 240 < ps[k].size) : diskOkB ps ls = false := by
  have : ps.all (fun s => decide (s.size ≤ 240)) = false := by
    rw [List.all_eq_false]
    exact ⟨ps[k], List.getElem_mem h, by simp; omega⟩
  rw [diskOkB, this]; rfl
theorem diskOk_late {ps : List ByteArray} {ls : List (Int × ByteArray)} {k : Nat} (h : k < ls.length) (hb : ¬ (0 ≤ ls[k].1 ∧ ls[k].1 < (ps.length : Int) ∧ ls[k].2.size ≤ 240)) : diskOkB ps ls = false := by
  have : ls.all (fun p => decide (0 ≤ p.1 ∧ p.1 < (ps.length : Int) ∧ p.2.size ≤ 240)) = false := by
    rw [List.all_eq_false]
    exact ⟨ls[k], List.getElem_mem h, by simpa using hb⟩
  rw [diskOkB, this]; simp
theorem diskOk_all {ps : List ByteArray} {ls : List (Int × ByteArray)} (h1 : ∀ i (h : i < ps.length), ps[i].size ≤ 240) (h2 : ∀ i (h : i < ls.length), 0 ≤ ls[i].1 ∧ ls[i].1 < (ps.length : Int) ∧ ls[i].2.size ≤ 240) : diskOkB ps ls = decide (4 ≤ ps.length ∧ ps.length ≤ 40 ∧ ls.length ≤ 200) := by
  have e1 : ps.all (fun s => decide (s.size ≤ 240)) = true := by
    rw [List.all_eq_true]
    intro s hs
    obtain ⟨i, hi, rfl⟩ := List.getElem_of_mem hs
    simpa using h1 i hi
  have e2 : ls.all (fun p => decide (0 ≤ p.1 ∧ p.1 < (ps.length : Int) ∧ p.2.size ≤ 240)) = true := by
    rw [List.all_eq_true]
    intro s hs
    obtain ⟨i, hi, rfl⟩ := List.getElem_of_mem hs
    simpa using h2 i hi
  rw [diskOkB, e1, e2]; rfl
theorem diskOk_yes {ps : List ByteArray} {ls : List (Int × ByteArray)} (h : diskOkB ps ls = true) : (∀ s ∈ ps, s.size ≤ 240) ∧ (∀ p ∈ ls, 0 ≤ p.1 ∧ p.1 < (ps.length : Int) ∧ p.2.size ≤ 240) ∧ 4 ≤ ps.length ∧ ps.length ≤ 40 ∧ ls.length ≤ 200 := by
  unfold diskOkB at h
  simp only [Bool.and_eq_true, List.all_eq_true, decide_eq_true_eq] at h
  obtain ⟨⟨h1, h2⟩, h3⟩ := h
  exact ⟨h1, h2, h3⟩
def putD (ps : List ByteArray) (p : Int × ByteArray) : List ByteArray := if 0 ≤ p.1 ∧ p.1 < (ps.length : Int) then ps.set p.1.toNat p.2 else ps
def syncD (ps : List ByteArray) (ls : List (Int × ByteArray)) : List ByteArray := ls.foldl putD ps
theorem putD_length (ps : List ByteArray) (p : Int × ByteArray) : (putD ps p).length = ps.length := by
  unfold putD
  split
  · rw [List.length_set]
  · rfl
theorem syncD_length (ls : List (Int × ByteArray)) : ∀ ps : List ByteArray, (syncD ps ls).length = ps.length := by
  induction ls with
  | nil => intro ps; rfl
  | cons p ls ih => intro ps; rw [syncD, List.foldl_cons]; exact (ih _).trans (putD_length ps p)
theorem syncD_succ (ps : List ByteArray) (ls : List (Int × ByteArray)) (k : Nat) (h : k < ls.length) : syncD ps (ls.take (k + 1)) = putD (syncD ps (ls.take k)) ls[k] := by
  rw [List.take_succ_eq_append_getElem h, syncD, List.foldl_append]
  rfl
open Go.RowKit
theorem l01In_any (x a b : Int) (w : World) : Calls Tryd.prog 45 #[.int .i64 x, .int .i64 a, .int .i64 b] w fun e w' => e = .returned (.bool (decide (a ≤ x ∧ x ≤ b))) ∧ w = w' := by
  by_cases h : a ≤ x ∧ x ≤ b
  · rw [decide_eq_true h]; exact l01In_yes x a b w h.1 h.2
  · rw [decide_eq_false h]; exact l01In_no x a b w (by omega)
set_option maxHeartbeats 2000000 in
set_option maxRecDepth 100000 in
theorem specDiskOk_any (v : Value) (ps : List ByteArray) (ls : List (Int × ByteArray)) (hp : ps.length ≤ 1048576) (hl : ls.length ≤ 1048576) (hps : ∀ s ∈ ps, s.size ≤ 1048576) (hls : ∀ p ∈ ls, p.2.size ≤ 1048576) (w : World) (hd : DiskAt w v ps ls) :
    Calls Tryd.prog 62 #[v] w fun e w' => e = .returned (.bool (diskOkB ps ls)) ∧ Below w.heap.size w w' := by
  obtain ⟨vp, vl, rfl, h1, h2⟩ := hd
  obtain ⟨x1, c1, rfl⟩ : ∃ a cap, vp = .slice a ps.length cap := by obtain ⟨-, a, cap, e, -⟩ := h1; exact ⟨a, cap, e⟩
  obtain ⟨x2, c2, rfl⟩ : ∃ a cap, vl = .slice a ls.length cap := by obtain ⟨-, a, cap, e, -⟩ := h2; exact ⟨a, cap, e⟩
  have H1 := hide h1
  have H2 := hide h2
  have HPs := hide hps
  have HLs := hide hls
  clear h1 h2 hps hls
  go_enter Tryd.func62, Tryd.ntmps62
  go_wp2_with fail
  obtain ⟨w0, hw0⟩ : ∃ w0, w0 = w.alloc (Obj.cells #[.slice x1 ps.length c1, .slice x2 ls.length c2] 60) := ⟨_, rfl⟩
  have hb0 : Below w.heap.size w w0 := by rw [hw0]; exact (Below.refl w.heap.size w).alloc (Nat.le_refl _) _
  have hblk : w0.heap[w.heap.size]? = some (Obj.cells #[.slice x1 ps.length c1, .slice x2 ls.length c2] 60) := by rw [hw0]; exact heap_alloc_new w _
  have hsz : w.heap.size < w0.heap.size := (Array.getElem?_eq_some_iff.1 hblk).1
  rw [← hw0]
  have HB0 := hide hb0
  have HBk := hide hblk
  have HSz := hide hsz
  clear hw0 hb0 hblk hsz
  go_loopg [3] ps.length (fun q iv wr => ∃ k : Nat, k ≤ ps.length ∧ iv = .int .i64 (k : Int) ∧ q + k = ps.length ∧ Hid (∀ i (h : i < ps.length), i < k → ps[i].size ≤ 240) ∧ w0 = wr)
  case atStart => exact ⟨0, Nat.zero_le _, rfl, rfl, hide (fun i h h0 => by omega), rfl⟩
  case round =>
    obtain ⟨k, hk, rfl, hg, HA, rfl⟩ := hrel
    have HG := hide hg
    clear hg
    have cb0 : w0.cell? ⟨w.heap.size, 0, none⟩ = some (.slice x1 ps.length c1) := (cell_at HBk.out 0).1
    have cb1 : w0.cell? ⟨w.heap.size, 1, none⟩ = some (.slice x2 ls.length c2) := (cell_at HBk.out 1).1
    by_cases hlt : k < ps.length
    · rcases H1.out.2 with ⟨a, cap, e, h0 | ⟨b, off, e2, hbl, hc⟩⟩
      · omega
      · injection e with e1 e3 e4
        subst e1 e4
        subst e2
        obtain ⟨x, hx⟩ : ∃ x, x = ps[k] := ⟨_, rfl⟩
        have hxs : x.size ≤ 1048576 := by rw [hx]; exact HPs.out _ (List.getElem_mem hlt)
        have hcell : w0.cell? ⟨b, off + k, none⟩ = some (.string x) := by rw [HB0.out.cell (by exact hbl), hc k (by omega), strs_at ps k hlt, hx]
        have HX := hide hx
        have hi0 : (0 : Int) ≤ (k : Int) := by omega
        have hi1 : (k : Int) < (ps.length : Int) := by omega
        clear hx hc
        by_cases hbig : 240 < x.size
        · have HO : Hid (diskOkB ps ls = false) := hide (diskOk_page hlt (by rw [← HX.out]; exact hbig))
          go_wp2_with fail
          go_ret
          rw [HO.out]
          exact ⟨rfl, HB0.out⟩
        · have HA2 : Hid (∀ i (h : i < ps.length), i < k + 1 → ps[i].size ≤ 240) := hide (fun i h hi => by
            by_cases e : i = k
            · subst e; rw [← HX.out]; omega
            · exact HA.out i h (by omega))
          go_wp2_with fail
          go_roundg (gk - 1)
          case measure => have := HG.out; omega
          case rel => exact ⟨k + 1, by omega, by go_num, by have := HG.out; omega, HA2, rfl⟩
    · have HAll : Hid (∀ i (h : i < ps.length), ps[i].size ≤ 240) := hide (fun i h => HA.out i h (by omega))
      have HCi := hide (l01In_any (ps.length : Int) 4 40)
      clear HA
      go_wp2_with fail
      go_loopg [4] ls.length (fun q iv wr => ∃ j : Nat, j ≤ ls.length ∧ iv = .int .i64 (j : Int) ∧ q + j = ls.length ∧ Hid (∀ i (h : i < ls.length), i < j → 0 ≤ ls[i].1 ∧ ls[i].1 < (ps.length : Int) ∧ ls[i].2.size ≤ 240) ∧ Below w0.heap.size w0 wr)
      case atStart => exact ⟨0, Nat.zero_le _, rfl, rfl, hide (fun i h h0 => by omega), Below.refl _ _⟩
      case round =>
        obtain ⟨j, hj, rfl, hg, HA, hbw⟩ := hrel
        have HG2 := hide hg
        have HBw := hide hbw
        have HBa : Hid (Below w.heap.size w wr) := hide (HB0.out.trans (hbw.mono HB0.out.size))
        have cd0 : wr.cell? ⟨w.heap.size, 0, none⟩ = some (.slice x1 ps.length c1) := (hbw.cell (by exact HSz.out)).trans cb0
        have cd1 : wr.cell? ⟨w.heap.size, 1, none⟩ = some (.slice x2 ls.length c2) := (hbw.cell (by exact HSz.out)).trans cb1
        clear hg hbw cb0 cb1
        by_cases hjl : j < ls.length
        · rcases H2.out.2 with ⟨a, cap, e, h0 | ⟨b, off, e2, hbl, hc⟩⟩
          · omega
          · injection e with e1 e3 e4
            subst e1 e4
            subst e2
            obtain ⟨q, t, hqt⟩ : ∃ q t, (q, t) = ls[j] := ⟨_, _, rfl⟩
            have hts : t.size ≤ 1048576 := by have := HLs.out _ (List.getElem_mem hjl); rw [← hqt] at this; exact this
            have hc0 : wr.cell? ⟨b, off + j * 2, none⟩ = some (.int .i64 q) := by rw [HBa.out.cell (by exact hbl), hc (j * 2) (by omega), (puts_at ls j hjl).1, ← hqt]
            have hc1 : wr.cell? ⟨b, off + j * 2 + 1, none⟩ = some (.string t) := by rw [HBa.out.cell (by exact hbl), Nat.add_assoc, hc (j * 2 + 1) (by omega), (puts_at ls j hjl).2, ← hqt]
            have hi0 : (0 : Int) ≤ (j : Int) := by omega
            have hi1 : (j : Int) < (ls.length : Int) := by omega
            have hw1 : IntKind.i64.wrap ((ps.length : Int) - 1) = (ps.length : Int) - 1 := IntWalk.i64_in _ ⟨by omega, by omega⟩
            have HQT := hide hqt
            have HC := hide (l01In_any q 0 ((ps.length : Int) - 1))
            clear hc hqt
            by_cases hin : 0 ≤ q ∧ q ≤ (ps.length : Int) - 1
            · rw [decide_eq_true hin] at HC
              by_cases hbig : 240 < t.size
              · have HO : Hid (diskOkB ps ls = false) := hide (diskOk_late hjl (by rw [← HQT.out]; show ¬ (0 ≤ q ∧ q < (ps.length : Int) ∧ t.size ≤ 240); omega))
                have hd1 : decide ((240 : Int) < (t.size : Int)) = true := by simp; omega
                go_wp2_with fail
                go_region_held3 (fun wx => wx.cell? ⟨w.heap.size, 0, none⟩ = some (.slice x1 ps.length c1) ∧ wx.cell? ⟨w.heap.size, 1, none⟩ = some (.slice (some ⟨b, off, none⟩) ls.length c2) ∧ wx.cell? ⟨b, off + j * 2, none⟩ = some (.int .i64 q) ∧ wx.cell? ⟨b, off + j * 2 + 1, none⟩ = some (.string t)) (exact ⟨cd0, cd1, hc0, hc1⟩) ((go_at_call 45; refine (HC.out _).mono ?_; rintro e wx ⟨rfl, rfl⟩))
                go_wp2_with fail
                go_ret
                rw [HO.out]
                exact ⟨rfl, HBa.out.drew⟩
              · have HA2 : Hid (∀ i (h : i < ls.length), i < j + 1 → 0 ≤ ls[i].1 ∧ ls[i].1 < (ps.length : Int) ∧ ls[i].2.size ≤ 240) := hide (fun i h hi => by
                  by_cases e : i = j
                  · subst e; rw [← HQT.out]; show 0 ≤ q ∧ q < (ps.length : Int) ∧ t.size ≤ 240; omega
                  · exact HA.out i h (by omega))
                have hd1 : decide ((240 : Int) < (t.size : Int)) = false := by simp; omega
                go_wp2_with fail
                go_region_held3 (fun wx => wx.cell? ⟨w.heap.size, 0, none⟩ = some (.slice x1 ps.length c1) ∧ wx.cell? ⟨w.heap.size, 1, none⟩ = some (.slice (some ⟨b, off, none⟩) ls.length c2) ∧ wx.cell? ⟨b, off + j * 2, none⟩ = some (.int .i64 q) ∧ wx.cell? ⟨b, off + j * 2 + 1, none⟩ = some (.string t)) (exact ⟨cd0, cd1, hc0, hc1⟩) ((go_at_call 45; refine (HC.out _).mono ?_; rintro e wx ⟨rfl, rfl⟩))
                go_wp2_with fail
                go_roundg (gk - 1)
                case measure => have := HG2.out; omega
                case rel => exact ⟨j + 1, by omega, by go_num, by have := HG2.out; omega, HA2, HBw.out.drew⟩
            · rw [decide_eq_false hin] at HC
              have HO : Hid (diskOkB ps ls = false) := hide (diskOk_late hjl (by rw [← HQT.out]; show ¬ (0 ≤ q ∧ q < (ps.length : Int) ∧ t.size ≤ 240); omega))
              go_wp2_with fail
              go_quiet ((go_at_call 45; exact Calls.quiet_of_same ((HC.out _).mono (fun _ _ h => ⟨h.1, h.2.symm⟩))))
              go_wp2_with fail
              go_ret
              rw [HO.out]
              exact ⟨rfl, below_drewN HBa.out _⟩
        · have HE : Hid (diskOkB ps ls = decide (4 ≤ ps.length ∧ ps.length ≤ 40 ∧ ls.length ≤ 200)) := hide (diskOk_all HAll.out (fun i h => HA.out i h (by omega)))
          by_cases h4 : 4 ≤ (ps.length : Int) ∧ (ps.length : Int) ≤ 40
          · rw [decide_eq_true h4] at HCi
            have HO : Hid (diskOkB ps ls = decide ((ls.length : Int) ≤ 200)) := hide (by rw [HE.out]; congr 1; simp; omega)
            go_wp2_with fail
            refine (HCi.out _).mono ?_
            rintro e w2 ⟨rfl, rfl⟩
            go_wp2_with fail
            go_ret
            rw [HO.out]
            exact ⟨rfl, HBa.out⟩
          · rw [decide_eq_false h4] at HCi
            have HO : Hid (diskOkB ps ls = false) := hide (by rw [HE.out, decide_eq_false (by omega)])
            go_wp2_with fail
            refine (HCi.out _).mono ?_
            rintro e w2 ⟨rfl, rfl⟩
            go_wp2_with fail
            go_ret
            rw [HO.out]
            exact ⟨rfl, HBa.out⟩
open Go.RowKit
theorem run_append_row {P : Program} (w : World) (t ty : TypeId) (base : Nat) (e : TypeId) (i : TypeInfo) (z : Value) (size bytes : Nat) (ht : P.underlying t = some (.slice e)) (hi : P.info? e = some i) (hz : i.zero = some z)
    (hsize : i.size = size) (hby : i.bytes = bytes) (hzs : z.cells.size = size) (hsz : 0 < size)
    (v : Value) (n : Nat) (xs : List Value) (hown : w.ownsRow base e size v n xs)
    (u : Value) (m : Nat) (ys : List Value) (hrow : RowAt w size u m ys) (h1 : ∀ y ∈ ys, y.oneCell' = true)
    (h63 : n + m ≤ maxLen) (hbytes : (n + m) * bytes ≤ 140737488355328) (hbase : base ≤ w.heap.size) :
    ∃ x c w', (Builtin.append_ #[t, t] ty #[v, u]).run P w = .ok (.slice x (n + m) c) w' ∧ w'.ownsRow base e size (.slice x (n + m) c) (n + m) (xs ++ ys) ∧ w.grownBy w' v.ownBlock := by
  have key : ∀ (v' : Value) (w' : World), w'.ownsRow base e size v' (n + m) (xs ++ ys) → ∃ x c, v' = Value.slice x (n + m) c := fun v' w' h => by
    obtain ⟨-, a, cap, ee, -⟩ := row_of_own h
    exact ⟨a, cap, ee⟩
  obtain ⟨hl, a, cap, rfl, h2⟩ := hrow
  rcases a with _ | ad
  · rcases h2 with h0 | ⟨b, off, e, _⟩
    · subst h0
      have hy : ys = [] := List.length_eq_zero_iff.1 (by rw [hl]; omega)
      subst hy
      obtain ⟨x, c, hx⟩ := key v w (by rw [List.append_nil]; exact hown)
      refine ⟨x, c, w, ?_, ?_, ⟨rfl, rfl, rfl, Nat.le_refl _, fun _ _ _ => rfl⟩⟩
      · rw [← hx]
        rcases hown.2 with ⟨rfl, rfl⟩ | ⟨g, cap, cur, rfl, _, _, hnc, _⟩
        · simp [Builtin.append_, run_underlying ht, sizeOf, typeInfo, hi, Builtin.lenOf, Builtin.firstCells]
        · simp [Builtin.append_, run_underlying ht, sizeOf, typeInfo, hi, Builtin.lenOf, Builtin.firstCells, hnc, storeCells]
      · rw [← hx, List.append_nil]; exact hown
    · cases e
  · have hnews : ∀ j y, ys[j]? = some y → w.cell? (ad.add j) = some y := fun j y hj => by
      have hjl : j < m * size := by rw [← hl]; exact (List.getElem?_eq_some_iff.1 hj).1
      rcases h2 with h0 | ⟨b, off, e, hlt, hc⟩
      · subst h0; simp at hjl
      · injection e with e
        subst e
        rw [Addr.add_lit, hc j hjl, hj]
    obtain ⟨v', w', hr, g2, g3, _⟩ := run_append_own (P := P) w base t ty e i z size bytes ht hi hz hsize hby hzs hsz v n xs hown ad m cap ys hl hnews h1 h63 hbytes hbase
    obtain ⟨x, c, rfl⟩ := key v' w' g2
    exact ⟨x, c, w', hr, g2, g3⟩
theorem wp_append_row {P : Program} (w : World) {o : Oper} {a : Act} {K : Act → World → Prop} {Q : Exit → Act → World → Prop} (s x : Operand) (t : TypeId)
    (ho : o.op = .call { callee := .builtin .append, args := #[s, x], argTypes := #[t, t] })
    (base : Nat) (e : TypeId) (i : TypeInfo) (z : Value) (size bytes : Nat) (ht : P.underlying t = some (.slice e)) (hi : P.info? e = some i) (hz : i.zero = some z)
    (hsize : i.size = size) (hby : i.bytes = bytes) (hzs : z.cells.size = size) (hsz : 0 < size)
    (v : Value) (n : Nat) (xs : List Value) (hs : a.eval s = v) (hown : w.ownsRow base e size v n xs)
    (u : Value) (m : Nat) (ys : List Value) (hx : a.eval x = u) (hrow : RowAt w size u m ys) (h1 : ∀ y ∈ ys, y.oneCell' = true)
    (h63 : n + m ≤ maxLen) (hbytes : (n + m) * bytes ≤ 140737488355328) (hbase : base ≤ w.heap.size)
    (h : ∀ x c w', w'.ownsRow base e size (.slice x (n + m) c) (n + m) (xs ++ ys) → w.grownBy w' v.ownBlock → K (a.put o.dst (.slice x (n + m) c)) w') : o.wp P a w K Q := by
  obtain ⟨y, c, w', hr, h2, h3⟩ := run_append_row (P := P) w t o.type base e i z size bytes ht hi hz hsize hby hzs hsz v n xs hown u m ys hrow h1 h63 hbytes hbase
  unfold Oper.wp execOp
  simp only [ho, resolve, invoke, builtin, Sem.run_bind, Sem.run_pure, Result.andThen_ok, List.map_toArray, List.map_cons, List.map_nil, hs, hx, hr]
  exact h y c w' h2 h3
theorem wpList_append_row {P : Program} (w : World) {ops : Array Oper} {rest : List Oper} {o : Oper} {a : Act} {Q : Exit → Act → World → Prop} (hgd : o.guard = none) (s x : Operand) (t : TypeId)
    (ho : o.op = .call { callee := .builtin .append, args := #[s, x], argTypes := #[t, t] })
    (base : Nat) (e : TypeId) (i : TypeInfo) (z : Value) (size bytes : Nat) (ht : P.underlying t = some (.slice e)) (hi : P.info? e = some i) (hz : i.zero = some z)
    (hsize : i.size = size) (hby : i.bytes = bytes) (hzs : z.cells.size = size) (hsz : 0 < size)
    (v : Value) (n : Nat) (xs : List Value) (hs : a.eval s = v) (hown : w.ownsRow base e size v n xs)
    (u : Value) (m : Nat) (ys : List Value) (hx : a.eval x = u) (hrow : RowAt w size u m ys) (h1 : ∀ y ∈ ys, y.oneCell' = true)
    (h63 : n + m ≤ maxLen) (hbytes : (n + m) * bytes ≤ 140737488355328) (hbase : base ≤ w.heap.size)
    (h : ∀ x c w', w'.ownsRow base e size (.slice x (n + m) c) (n + m) (xs ++ ys) → w.grownBy w' v.ownBlock → wpList P ops Q rest (a.put o.dst (.slice x (n + m) c)) w') : wpList P ops Q (o :: rest) a w :=
  wpList_plain hgd fun _ hK => wp_append_row w s x t ho base e i z size bytes ht hi hz hsize hby hzs hsz v n xs hs hown u m ys hx hrow h1 h63 hbytes hbase fun x c w' h2 h3 => hK _ _ (h x c w' h2 h3)
theorem step_append_row {P : Program} (w : World) {ops : Array Oper} {o : Oper} {a : Act} {K : Act → World → Prop} {Q : Exit → Act → World → Prop} {E : Prop} (hgd : o.guard = none) (s x : Operand) (t : TypeId)
    (ho : o.op = .call { callee := .builtin .append, args := #[s, x], argTypes := #[t, t] })
    (base : Nat) (e : TypeId) (i : TypeInfo) (z : Value) (size bytes : Nat) (ht : P.underlying t = some (.slice e)) (hi : P.info? e = some i) (hz : i.zero = some z)
    (hsize : i.size = size) (hby : i.bytes = bytes) (hzs : z.cells.size = size) (hsz : 0 < size)
    (v : Value) (n : Nat) (xs : List Value) (hs : a.eval s = v) (hown : w.ownsRow base e size v n xs)
    (u : Value) (m : Nat) (ys : List Value) (hx : a.eval x = u) (hrow : RowAt w size u m ys) (h1 : ∀ y ∈ ys, y.oneCell' = true)
    (h63 : n + m ≤ maxLen) (hbytes : (n + m) * bytes ≤ 140737488355328) (hbase : base ≤ w.heap.size)
    (h : ∀ x c w', w'.ownsRow base e size (.slice x (n + m) c) (n + m) (xs ++ ys) → w.grownBy w' v.ownBlock → K (a.put o.dst (.slice x (n + m) c)) w') :
    if Region.wanted o (yielded ops a.tmps) = true then Oper.wp P o a w K Q else E := by
  have hw : Region.wanted o (yielded ops a.tmps) = true := by simp [Region.wanted, hgd]
  rw [if_pos hw]
  exact wp_append_row w s x t ho base e i z size bytes ht hi hz hsize hby hzs hsz v n xs hs hown u m ys hx hrow h1 h63 hbytes hbase h
theorem strs_one (l : List ByteArray) : ∀ y ∈ strs l, y.oneCell' = true := fun y hy => by
  obtain ⟨s, _, rfl⟩ := List.mem_map.1 hy
  rfl
open Go.RowKit
structure SyncIn (wr : World) (a0 a1 a3 : Nat) (vp vl u : Value) (n : Nat) (m : List ByteArray) (w : World) : Prop where
  box : wr.heap[a0]? = some (Obj.cells #[vp, vl] 60)
  res : wr.heap[a1]? = some (Obj.cells #[.slice none 0 0, .slice none 0 0] 60)
  out : wr.heap[a3]? = some (Obj.cells #[u, .slice none 0 0] 60)
  own : wr.ownsRow (a1 + 1) 9 1 u n (strs m)
  low : Below a0 w wr
theorem syncIn_drewN {wr : World} {a0 a1 a3 : Nat} {vp vl u : Value} {n : Nat} {m : List ByteArray} {w : World} (h : SyncIn wr a0 a1 a3 vp vl u n m w) (k : Nat) : SyncIn (wr.drewN k) a0 a1 a3 vp vl u n m w :=
  ⟨h.box, h.res, h.out, h.own, below_drewN h.low _⟩
theorem syncIn_set {wr : World} {a0 a1 a3 : Nat} {vp vl : Value} {n g c : Nat} {m : List ByteArray} {w : World} (h0 : a0 < g) (h1 : a1 < g) (h3 : g < a3) (h : SyncIn wr a0 a1 a3 vp vl (.slice (some ⟨g, 0, none⟩) n c) n m w) (k j : Nat) (t : ByteArray) :
    SyncIn ((wr.drewN k).setCell ⟨g, j, none⟩ (.string t)) a0 a1 a3 vp vl (.slice (some ⟨g, 0, none⟩) n c) n (m.set j t) w := by
  have h' := syncIn_drewN h k
  refine ⟨?_, ?_, ?_, ?_, ?_⟩
  · rw [heap_setCell_other _ ⟨g, j, none⟩ a0 _ (by show a0 ≠ g; omega)]; exact h'.box
  · rw [heap_setCell_other _ ⟨g, j, none⟩ a1 _ (by show a1 ≠ g; omega)]; exact h'.res
  · rw [heap_setCell_other _ ⟨g, j, none⟩ a3 _ (by show a3 ≠ g; omega)]; exact h'.out
  · have := (h'.own.stored j (.string t)).1
    rw [strs_set] at this
    exact this
  · exact h'.low.setCell (by show a0 ≤ g; omega) _
set_option maxHeartbeats 2000000 in
set_option maxRecDepth 100000 in
theorem specSyncDisk_any (v : Value) (ps : List ByteArray) (ls : List (Int × ByteArray)) (hp : ps.length ≤ 1048576) (hl : ls.length ≤ 1048576) (w : World) (hd : DiskAt w v ps ls) :
    Calls Tryd.prog 44 #[v] w fun e w' => ∃ v', e = .returned v' ∧ DiskOwn w' w.heap.size v' (syncD ps ls) [] ∧ Below w.heap.size w w' := by
  obtain ⟨i0, hi, hz0, hz1, hz2⟩ := info_parts Tryd.infoStrR
  obtain ⟨vp, vl, rfl, h1, h2⟩ := hd
  obtain ⟨x1, c1, rfl⟩ : ∃ a cap, vp = .slice a ps.length cap := by obtain ⟨-, a, cap, e, -⟩ := h1; exact ⟨a, cap, e⟩
  obtain ⟨x2, c2, rfl⟩ : ∃ a cap, vl = .slice a ls.length cap := by obtain ⟨-, a, cap, e, -⟩ := h2; exact ⟨a, cap, e⟩
  have H1 := hide h1
  have H2 := hide h2
  clear h1 h2
  obtain ⟨w0, hw0⟩ : ∃ w0, w0 = ((w.alloc (Obj.cells #[.slice x1 ps.length c1, .slice x2 ls.length c2] 60)).alloc (Obj.cells #[.slice none 0 0, .slice none 0 0] 60)).alloc (Obj.cells #[] 9) := ⟨_, rfl⟩
  have hb0 : Below w.heap.size w w0 := by rw [hw0]; exact (((Below.refl w.heap.size w).alloc (Nat.le_refl _) _).alloc (by simp) _).alloc (by simp; omega) _
  obtain ⟨q0, q1, q2, hs0⟩ := three_allocs w (Obj.cells #[.slice x1 ps.length c1, .slice x2 ls.length c2] 60) (Obj.cells #[.slice none 0 0, .slice none 0 0] 60) (Obj.cells #[] 9)
  rw [← hw0] at q0 q1 q2 hs0
  have hown0 : w0.ownsRow (w.heap.size + 1 + 1) 9 1 (.slice (some ⟨w.heap.size + 1 + 1, 0, none⟩) 0 0) 0 (strs []) := ⟨rfl, Or.inr ⟨_, 0, #[], rfl, Nat.le_refl _, q2, Nat.le_refl _, by unfold maxLen; omega, rfl, rfl⟩⟩
  have HRow := hide (row_below H1.out hb0)
  go_enter Tryd.func44, Tryd.ntmps44
  go_wp2_with (at_builtin; rw [← hw0]; refine wpList_append_row _ rfl _ _ 50 rfl (w.heap.size + 1 + 1) 9 i0 (.string ⟨#[]⟩) 1 16 Tryd.underlying50 hi hz0 hz1 hz2 rfl (by decide) _ _ _ rfl hown0 _ _ _ rfl HRow.out (strs_one _) ?_ ?_ ?_ ?_)
  · unfold maxLen; omega
  · omega
  · omega
  intro y c w1 hown1' hg1
  have hown1 : w1.ownsRow (w.heap.size + 1 + 1) 9 1 (.slice y ps.length c) ps.length (strs ps) := hown1'
  rw [← hw0] at hg1
  obtain ⟨a0, ha0⟩ : ∃ a, a = w.heap.size := ⟨_, rfl⟩
  obtain ⟨a1, ha1⟩ : ∃ a, a = a0 + 1 := ⟨_, rfl⟩
  rw [← ha0] at hown1 q0 q1 hg1 hs0 ⊢
  rw [← ha1] at hown1 q1 hg1 ⊢
  have hgb : (Value.slice (some ⟨a1 + 1, 0, none⟩) 0 0).ownBlock = some (a1 + 1) := rfl
  rw [hgb] at hg1
  have r0 := (hg1.block a0 (by omega) (by simp; omega)).trans q0
  have r1 := (hg1.block a1 (by omega) (by simp)).trans q1
  have hb1 : Below a0 w w1 := by rw [ha0]; exact hb0.grown hg1 (by omega) (fun k hk => by cases hk; omega)
  have hs1 := hg1.size
  obtain ⟨a3, ha3⟩ : ∃ a, a = w1.heap.size := ⟨_, rfl⟩
  have HA := hide (⟨ha0, ha1, hs0⟩ : a0 = w.heap.size ∧ a1 = a0 + 1 ∧ w0.heap.size = a0 + 3)
  have HB1 := hide hb1
  have HO1 := hide hown1
  have HR := hide (⟨r0, r1⟩ : w1.heap[a0]? = some (Obj.cells #[.slice x1 ps.length c1, .slice x2 ls.length c2] 60) ∧ w1.heap[a1]? = some (Obj.cells #[.slice none 0 0, .slice none 0 0] 60))
  have HS1 := hide hs1
  clear hown1' hg1 hgb q0 q1 q2 hown0 hb0 hw0 ha0 ha1 hs0 hb1 hown1 r0 r1 hs1
  go_wp2_with fail
  rw [← ha3]
  have HG3 : Hid (∀ k, (Value.slice y ps.length c).ownBlock = some k → a1 + 1 ≤ k ∧ k < a3) := hide (fun k h => by rw [ha3]; exact HO1.out.lt k h)
  have hI0 : SyncIn (w1.alloc (Obj.cells #[.slice y ps.length c, .slice none 0 0] 60)) a0 a1 a3 (.slice x1 ps.length c1) (.slice x2 ls.length c2) (.slice y ps.length c) ps.length ps w := by
    have hlt0 : a0 < w1.heap.size := (Array.getElem?_eq_some_iff.1 HR.out.1).1
    have hlt1 : a1 < w1.heap.size := (Array.getElem?_eq_some_iff.1 HR.out.2).1
    refine ⟨(Below.heap_alloc w1 _ a0 hlt0).trans HR.out.1, (Below.heap_alloc w1 _ a1 hlt1).trans HR.out.2, ?_, HO1.out.alloc _, ?_⟩
    · rw [ha3]; exact heap_alloc_new w1 _
    · exact HB1.out.alloc (by have h1 := HA.out; have h2 := HS1.out; omega) _
  have HI0 := hide hI0
  clear hI0 ha3
  go_loopg [4] ls.length (fun q iv wr => ∃ k : Nat, k ≤ ls.length ∧ iv = .int .i64 (k : Int) ∧ q + k = ls.length ∧ Hid (SyncIn wr a0 a1 a3 (.slice x1 ps.length c1) (.slice x2 ls.length c2) (.slice y ps.length c) ps.length (syncD ps (ls.take k)) w))
  case atStart => exact ⟨0, Nat.zero_le _, rfl, rfl, HI0⟩
  case round =>
    obtain ⟨k, hk, rfl, hg, HI⟩ := hrel
    have HG := hide hg
    clear hg HI0
    have cb0 : wr.cell? ⟨a0, 0, none⟩ = some (.slice x1 ps.length c1) := (cell_at HI.out.box 0).1
    have cb1 : wr.cell? ⟨a0, 1, none⟩ = some (.slice x2 ls.length c2) := (cell_at HI.out.box 1).1
    have cb2 : wr.cell? ⟨a3, 0, none⟩ = some (.slice y ps.length c) := (cell_at HI.out.out 0).1
    by_cases hlt : k < ls.length
    · rcases H2.out.2 with ⟨a, cap, e, h0 | ⟨b, off, e2, hbl, hc⟩⟩
      · omega
      · injection e with e1 e3 e4
        subst e1 e4
        subst e2
        obtain ⟨q, t, hqt⟩ : ∃ q t, (q, t) = ls[k] := ⟨_, _, rfl⟩
        have hba : b < a0 := by have := HA.out; omega
        have hc0 : wr.cell? ⟨b, off + k * 2, none⟩ = some (.int .i64 q) := by rw [HI.out.low.cell (by exact hba), hc (k * 2) (by omega), (puts_at ls k hlt).1, ← hqt]
        have hc1 : wr.cell? ⟨b, off + k * 2 + 1, none⟩ = some (.string t) := by rw [HI.out.low.cell (by exact hba), Nat.add_assoc, hc (k * 2 + 1) (by omega), (puts_at ls k hlt).2, ← hqt]
        have hi0 : (0 : Int) ≤ (k : Int) := by omega
        have hi1 : (k : Int) < (ls.length : Int) := by omega
        have hw1 : IntKind.i64.wrap ((ps.length : Int) - 1) = (ps.length : Int) - 1 := IntWalk.i64_in _ ⟨by omega, by omega⟩
        have HC := hide (l01In_any q 0 ((ps.length : Int) - 1))
        have HQT := hide hqt
        clear hc hqt
        by_cases hin : 0 ≤ q ∧ q ≤ (ps.length : Int) - 1
        · rw [decide_eq_true hin] at HC
          obtain ⟨j, hj⟩ := Int.eq_ofNat_of_zero_le hin.1
          subst hj
          have hjl : j < ps.length := by omega
          obtain ⟨g, rfl⟩ : ∃ g, y = some ⟨g, 0, none⟩ := by
            rcases HI.out.own.2 with ⟨e, h0⟩ | ⟨g, cc, cur, e, _⟩
            · omega
            · injection e with e1; exact ⟨g, e1⟩
          have hml : j < (syncD ps (ls.take k)).length := by rw [syncD_length]; exact hjl
          have hd0 : wr.cell? ⟨g, j, none⟩ = some (.string ((syncD ps (ls.take k))[j]'hml)) := by rw [HI.out.own.cellAt j (by omega), strs_at _ j hml]
          have hf0 : wr.frozen? ⟨g, j, none⟩ = false := HI.out.own.frozenAt j
          obtain ⟨z, hz⟩ : ∃ z, z = (syncD ps (ls.take k))[j]'hml := ⟨_, rfl⟩
          rw [← hz] at hd0
          have HP : Hid (putD (syncD ps (ls.take k)) ls[k] = (syncD ps (ls.take k)).set j t) := hide (by rw [← HQT.out, putD, syncD_length, if_pos (by omega)]; simp)
          have hj0 : (0 : Int) ≤ (j : Int) := by omega
          have hj1 : (j : Int) < (ps.length : Int) := by omega
          clear hin hz hml
          go_wp2_with fail
          go_quiet ((go_at_call 45; exact Calls.quiet_of_same ((HC.out _).mono (fun _ _ h => ⟨h.1, h.2.symm⟩))))
          go_wp2_with fail
          go_region
          have HI2 : Hid (SyncIn ((wr.drewN (nq + 1)).setCell ⟨g, j, none⟩ (.string t)) a0 a1 a3 (.slice x1 ps.length c1) (.slice (some ⟨b, off, none⟩) ls.length c2) (.slice (some ⟨g, 0, none⟩) ps.length c) ps.length (syncD ps (ls.take (k + 1))) w) := hide (by
            have hgo := HG3.out g rfl
            have hA := HA.out
            rw [syncD_succ ps ls k hlt, HP.out]
            exact syncIn_set (by omega) (by omega) (by omega) HI.out _ _ _)
          go_wp2_with fail
          go_roundg (gk - 1)
          case measure => have := HG.out; omega
          case rel => exact ⟨k + 1, by omega, by go_num, by have := HG.out; omega, HI2⟩
        · rw [decide_eq_false hin] at HC
          have HP : Hid (syncD ps (ls.take (k + 1)) = syncD ps (ls.take k)) := hide (by rw [syncD_succ ps ls k hlt, ← HQT.out, putD, syncD_length, if_neg (by show ¬ (0 ≤ q ∧ q < (ps.length : Int)); omega)])
          clear hin
          go_wp2_with fail
          go_quiet ((go_at_call 45; exact Calls.quiet_of_same ((HC.out _).mono (fun _ _ h => ⟨h.1, h.2.symm⟩))))
          have HI2 : Hid (SyncIn (wr.drewN nq) a0 a1 a3 (.slice x1 ps.length c1) (.slice (some ⟨b, off, none⟩) ls.length c2) (.slice y ps.length c) ps.length (syncD ps (ls.take (k + 1))) w) := hide (by rw [HP.out]; exact syncIn_drewN HI.out _)
          go_wp2_with fail
          go_roundg (gk - 1)
          case measure => have := HG.out; omega
          case rel => exact ⟨k + 1, by omega, by go_num, by have := HG.out; omega, HI2⟩
    · have hkl : ls.take k = ls := List.take_of_length_le (by omega)
      rw [hkl] at HI
      have cr0 : wr.cell? ⟨a1, 0, none⟩ = some (.slice none 0 0) := (cell_at HI.out.res 0).1
      have cr1 : wr.cell? ⟨a1, 1, none⟩ = some (.slice none 0 0) := (cell_at HI.out.res 1).1
      have fr0 := (cell_at HI.out.res 0).2
      have fr1 := (cell_at HI.out.res 1).2
      have cb3 : wr.cell? ⟨a3, 1, none⟩ = some (.slice none 0 0) := (cell_at HI.out.out 1).1
      go_wp2_with fail
      have y1 : (wr.setCell ⟨a1, 0, none⟩ (.slice y ps.length c)).heap[a1]? = some (Obj.cells #[.slice y ps.length c, .slice none 0 0] 60) := heap_setCell_same _ a1 0 _ _ _ HI.out.res
      have y2 : ((wr.setCell ⟨a1, 0, none⟩ (.slice y ps.length c)).setCell ⟨a1, 1, none⟩ (.slice none 0 0)).heap[a1]? = some (Obj.cells #[.slice y ps.length c, .slice none 0 0] 60) := heap_setCell_same _ a1 1 _ _ _ y1
      have z0 := (cell_at y2 0).1
      have z1 := (cell_at y2 1).1
      have hA := HA.out
      have k2 : Kept wr ((wr.setCell ⟨a1, 0, none⟩ (.slice y ps.length c)).setCell ⟨a1, 1, none⟩ (.slice none 0 0)) (fun k => k = a1) := kept_trans (kept_setCell _ _ _ _) (kept_setCell _ _ _ _) (fun j _ h => h)
      refine bodyPost_ret (v := .agg #[.slice y ps.length c, .slice none 0 0]) (by simp [results, Tryd.results44, go_sem, z0, z1]) rfl ⟨_, rfl, ⟨_, _, rfl, ?_, ?_⟩, ?_⟩
      · rw [syncD_length]
        exact own_down (own_kept HI.out.own k2 (fun k hk => by have := (HI.out.own.lt k hk).1; omega)) (by omega)
      · exact ⟨rfl, Or.inl ⟨rfl, rfl⟩⟩
      · have hlow := HI.out.low
        rw [hA.1] at hlow
        refine (hlow.setCell ?_ _).setCell ?_ _
        · show _ ≤ a1; omega
        · show _ ≤ a1; omega
end Go.Proofs.YtmmepgincbngeaaDoor
