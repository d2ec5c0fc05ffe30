/-
  spec.l01Var, spec.VarText and impl.VarText, each by its contract: all three give the bytes 'vtext' of a number in 0 .. 1000000000; outside it both VarText give the empty text and false.
-/
import Derived.Test.YtacmpggigdlmmaaDoorProg
import Derived.Test.YtacmpggigdlmmaaDoorPlain1
import Derived.Laws.IdiomStrings
import Derived.OwnWalk
import Derived.WalkKit
import Derived.BigQuiet
import Derived.Deep.QuietTactic
import Derived.Outline
namespace Go.Proofs.YtacmpggigdlmmaaDoor
open Go.RowKit

theorem Tryd.infoU8 : (Tryd.prog.info? 5).map (fun i => (i.zero, i.size, i.bytes)) = some (some (.int .u8 0), 1, 1) := by kernel_rfl

/-- What a row of our own becomes behind 'append' of one byte. -/
theorem below_app {B : Nat} {w wr w1 : World} {v : Value} {n : Nat} {xs : List Value} {o : Obj} (hB : B ≤ wr.heap.size) (hb : Below B w wr) (hown : wr.ownsRow B 5 1 v n xs) (hg : (wr.alloc o).grownBy w1 v.ownBlock) : Below B w w1 :=
  (hb.alloc hB o).grown hg (by simp; omega) (fun k hk => (hown.lt k hk).1)

theorem one_cell (w : World) (x : Value) : ∀ (j : Nat) (u : Value), [x][j]? = some u → (w.alloc (Obj.cells #[x] 5)).cell? ((⟨w.heap.size, 0, none⟩ : Addr).add j) = some u := by
  intro j u hj
  match j, hj with
  | 0, hj => simp at hj; subst hj; simp [Addr.add]

/-- 'string(out)' of a row of our own that is not empty. -/
theorem string_of_row {P : Program} {w : World} {B src dst e : TypeId} {v : Value} {l : List UInt8} (hs : P.underlying src = some (.slice e)) (he : P.underlying e = some (.int .u8)) (hd : P.underlying dst = some .string)
    (hown : w.ownsRow B e 1 v l.length (Lib.byteCells l)) (hpos : 0 < l.length) :
    ∃ g cap, v = .slice (some ⟨g, 0, none⟩) l.length cap ∧ (convert src dst (.slice (some ⟨g, 0, none⟩) l.length cap)).run P w = .ok (.string ⟨l.toArray⟩) w := by
  rcases hown.2 with ⟨-, h0⟩ | ⟨g, cap, cur, rfl, -, -, -, -, -, -⟩
  · omega
  · exact ⟨g, cap, rfl, run_convert_bytes_back (P := P) w src dst e ⟨g, 0, none⟩ cap l hs he hd (fun j hj => hown.cells (g := g) rfl j _ (by simp [Lib.byteCells, hj]))⟩

set_option maxHeartbeats 1000000 in
set_option maxRecDepth 100000 in
theorem l01Var_any (n : Int) (h0 : 0 ≤ n) (h1 : n ≤ 1000000000) (w : World) :
    Calls Tryd.prog 68 #[.int .i64 n] w fun e w' => e = .returned (.string ⟨(vtext n.toNat).toArray⟩) ∧ Below w.heap.size w w' := by
  obtain ⟨k, rfl⟩ := Int.eq_ofNat_of_zero_le h0
  rw [Int.toNat_natCast]
  obtain ⟨i0, hi, hz0, hz1, hz2⟩ := info_parts Tryd.infoU8
  go_enter Tryd.func68, Tryd.ntmps68
  go_wp2
  go_loopw [0, 3] (fun nv v wr => ∃ (f m : Nat) (done : List UInt8), nv = .int .i64 m ∧ m < 128 ^ (f + 1) ∧ m ≤ 1000000000 ∧ done.length + f ≤ 4 ∧ done ++ venc f m = vtext k ∧ wr.ownsRow w.heap.size 5 1 v done.length (Lib.byteCells done) ∧ Below w.heap.size w wr)
    (fun nv _ _ => (intOf nv).toNat)
  case atStart => exact ⟨4, k, [], rfl, pow5 k (by omega), by omega, by simp, by simp [vtext], by simpa [Lib.byteCells] using World.ownsRow_lit (base := w.heap.size) (e := 5) (size := 1) w #[] 0 (Nat.le_refl _) (by unfold maxLen; omega) (by simp), (Below.refl _ _).alloc (Nat.le_refl _) _⟩
  case round =>
    obtain ⟨f, m, done, rfl, hf, hm, hl, hd, hown, hb⟩ := hrel
    have hB := hb.size
    by_cases hlt : 127 < m
    · obtain ⟨g, hg, hf', hv⟩ := venc_step f m (by omega) hf
      have HV := hide hv
      have HG := hide hg
      have HD := hide hd
      clear hv hg hd
      go_wp2_with (at_builtin; refine wpList_append_own _ rfl _ _ 87 rfl w.heap.size 5 i0 (.int .u8 0) 1 1 Tryd.underlying87 hi hz0 hz1 hz2 rfl (by decide) _ _ _ rfl (hown.alloc _) ⟨wr.heap.size, 0, none⟩ 1 1 [.int .u8 (m % 128 + 128)] rfl rfl ?c1 ?c2 ?c3 ?c4 ?c5 ?_)
      case c1 => exact one_cell _ _
      case c2 => intro u hu; simp at hu; subst hu; rfl
      case c3 => unfold maxLen; omega
      case c4 => omega
      case c5 => simp; omega
      intro v' w1 hown' hgrow _
      have hb1 := below_app hB hb hown hgrow
      have hown2 : w1.ownsRow w.heap.size 5 1 v' (done ++ [UInt8.ofNat (m % 128 + 128)]).length (Lib.byteCells (done ++ [UInt8.ofNat (m % 128 + 128)])) := by
        rw [← cells_snoc done (m % 128 + 128) (by omega), List.length_append]
        simpa using hown'
      clear hown' hgrow hown hb
      go_wp2
      go_roundw
      case rel => exact ⟨g, m / 128, done ++ [UInt8.ofNat (m % 128 + 128)], by go_num, hf', by omega, by have := HG.out; simp; omega, by rw [List.append_assoc, List.singleton_append, ← HV.out]; exact HD.out, hown2, hb1⟩
      case measure => simp [intOf]; omega
    · have hv := venc_last f m (by omega)
      rw [hv] at hd
      have HD := hide hd
      clear hv hd
      go_wp2_with (at_builtin; refine wpList_append_own _ rfl _ _ 87 rfl w.heap.size 5 i0 (.int .u8 0) 1 1 Tryd.underlying87 hi hz0 hz1 hz2 rfl (by decide) _ _ _ rfl (hown.alloc _) ⟨wr.heap.size, 0, none⟩ 1 1 [.int .u8 m] rfl rfl ?c1 ?c2 ?c3 ?c4 ?c5 ?_)
      case c1 => exact one_cell _ _
      case c2 => intro u hu; simp at hu; subst hu; rfl
      case c3 => unfold maxLen; omega
      case c4 => omega
      case c5 => simp; omega
      intro v' w1 hown' hgrow _
      have hb1 := below_app hB hb hown hgrow
      have hown2 : w1.ownsRow w.heap.size 5 1 v' (vtext k).length (Lib.byteCells (vtext k)) := by
        rw [← HD.out, ← cells_snoc done m (by omega), List.length_append]
        simpa using hown'
      clear hown' hgrow hown hb
      obtain ⟨gb, cp, hv', hcv⟩ := string_of_row (dst := 9) (src := 87) (e := 5) Tryd.underlying87 Tryd.underlying5 Tryd.underlying9 hown2 (by have := (vtext_length k).1; omega)
      rw [hv']
      clear hv' hown2
      go_wp2
      go_ret
      exact ⟨rfl, hb1⟩

set_option maxHeartbeats 400000 in
theorem l01In_yes (x a b : Int) (w : World) (h1 : a ≤ x) (h2 : x ≤ b) : Calls Tryd.prog 57 #[.int .i64 x, .int .i64 a, .int .i64 b] w fun e w' => e = .returned (.bool true) ∧ w = w' := by
  go_enter Tryd.func57, Tryd.ntmps57
  go_wp2
  go_ret
  exact ⟨rfl, rfl⟩

set_option maxHeartbeats 400000 in
theorem l01In_no (x a b : Int) (w : World) (h : x < a ∨ b < x) : Calls Tryd.prog 57 #[.int .i64 x, .int .i64 a, .int .i64 b] w fun e w' => e = .returned (.bool false) ∧ w = w' := by
  by_cases h1 : x < a
  · go_enter Tryd.func57, Tryd.ntmps57
    go_wp2
    go_ret
    exact ⟨rfl, rfl⟩
  · have h2 : b < x := by omega
    have h3 : a ≤ x := by omega
    have h4 : decide (x ≤ b) = false := by simp; omega
    clear h h1
    go_enter Tryd.func57, Tryd.ntmps57
    go_wp2
    go_ret
    exact ⟨rfl, rfl⟩

set_option maxHeartbeats 400000 in
theorem implVarText_no (n : Int) (h : n < 0 ∨ 1000000000 < n) (w : World) :
    Calls Tryd.prog 77 #[.int .i64 n] w fun e w' => e = .returned (.tuple #[.string ⟨#[]⟩, .bool false]) ∧ w' = w := by
  by_cases h1 : n < 0
  · go_enter Tryd.func77, Tryd.ntmps77
    go_wp2
    go_ret2
    exact ⟨rfl, rfl⟩
  · have h2 : 1000000000 < n := by omega
    have h3 : 0 ≤ n := by omega
    clear h h1
    go_enter Tryd.func77, Tryd.ntmps77
    go_wp2
    go_ret2
    exact ⟨rfl, rfl⟩

set_option maxHeartbeats 1000000 in
set_option maxRecDepth 100000 in
theorem implVarText_yes (n : Int) (h0 : 0 ≤ n) (h1 : n ≤ 1000000000) (w : World) :
    Calls Tryd.prog 77 #[.int .i64 n] w fun e w' => e = .returned (.tuple #[.string ⟨(vtext n.toNat).toArray⟩, .bool true]) ∧ Below w.heap.size w w' := by
  obtain ⟨k, rfl⟩ := Int.eq_ofNat_of_zero_le h0
  rw [Int.toNat_natCast]
  obtain ⟨i0, hi, hz0, hz1, hz2⟩ := info_parts Tryd.infoU8
  go_enter Tryd.func77, Tryd.ntmps77
  go_wp2
  go_loopw [0, 4] (fun nv v wr => ∃ (f m : Nat) (done : List UInt8), nv = .int .i64 m ∧ m < 128 ^ (f + 1) ∧ m ≤ 1000000000 ∧ done.length + f ≤ 4 ∧ done ++ venc f m = vtext k ∧ wr.ownsRow w.heap.size 5 1 v done.length (Lib.byteCells done) ∧ Below w.heap.size w wr)
    (fun nv _ _ => (intOf nv).toNat)
  case atStart => exact ⟨4, k, [], rfl, pow5 k (by omega), by omega, by simp, by simp [vtext], by simpa [Lib.byteCells] using World.ownsRow_lit (base := w.heap.size) (e := 5) (size := 1) w #[] 0 (Nat.le_refl _) (by unfold maxLen; omega) (by simp), (Below.refl _ _).alloc (Nat.le_refl _) _⟩
  case round =>
    obtain ⟨f, m, done, rfl, hf, hm, hl, hd, hown, hb⟩ := hrel
    have hB := hb.size
    by_cases hlt : 127 < m
    · obtain ⟨g, hg, hf', hv⟩ := venc_step f m (by omega) hf
      have HV := hide hv
      have HG := hide hg
      have HD := hide hd
      clear hv hg hd
      go_wp2_with (at_builtin; refine wpList_append_own _ rfl _ _ 87 rfl w.heap.size 5 i0 (.int .u8 0) 1 1 Tryd.underlying87 hi hz0 hz1 hz2 rfl (by decide) _ _ _ rfl (hown.alloc _) ⟨wr.heap.size, 0, none⟩ 1 1 [.int .u8 (m % 128 + 128)] rfl rfl ?c1 ?c2 ?c3 ?c4 ?c5 ?_)
      case c1 => exact one_cell _ _
      case c2 => intro u hu; simp at hu; subst hu; rfl
      case c3 => unfold maxLen; omega
      case c4 => omega
      case c5 => simp; omega
      intro v' w1 hown' hgrow _
      have hb1 := below_app hB hb hown hgrow
      have hown2 : w1.ownsRow w.heap.size 5 1 v' (done ++ [UInt8.ofNat (m % 128 + 128)]).length (Lib.byteCells (done ++ [UInt8.ofNat (m % 128 + 128)])) := by
        rw [← cells_snoc done (m % 128 + 128) (by omega), List.length_append]
        simpa using hown'
      clear hown' hgrow hown hb
      go_wp2
      go_roundw
      case rel => exact ⟨g, m / 128, done ++ [UInt8.ofNat (m % 128 + 128)], by go_num, hf', by omega, by have := HG.out; simp; omega, by rw [List.append_assoc, List.singleton_append, ← HV.out]; exact HD.out, hown2, hb1⟩
      case measure => simp [intOf]; omega
    · have hv := venc_last f m (by omega)
      rw [hv] at hd
      have HD := hide hd
      clear hv hd
      go_wp2_with (at_builtin; refine wpList_append_own _ rfl _ _ 87 rfl w.heap.size 5 i0 (.int .u8 0) 1 1 Tryd.underlying87 hi hz0 hz1 hz2 rfl (by decide) _ _ _ rfl (hown.alloc _) ⟨wr.heap.size, 0, none⟩ 1 1 [.int .u8 m] rfl rfl ?c1 ?c2 ?c3 ?c4 ?c5 ?_)
      case c1 => exact one_cell _ _
      case c2 => intro u hu; simp at hu; subst hu; rfl
      case c3 => unfold maxLen; omega
      case c4 => omega
      case c5 => simp; omega
      intro v' w1 hown' hgrow _
      have hb1 := below_app hB hb hown hgrow
      have hown2 : w1.ownsRow w.heap.size 5 1 v' (vtext k).length (Lib.byteCells (vtext k)) := by
        rw [← HD.out, ← cells_snoc done m (by omega), List.length_append]
        simpa using hown'
      clear hown' hgrow hown hb
      obtain ⟨gb, cp, hv', hcv⟩ := string_of_row (dst := 9) (src := 87) (e := 5) Tryd.underlying87 Tryd.underlying5 Tryd.underlying9 hown2 (by have := (vtext_length k).1; omega)
      rw [hv']
      clear hv' hown2
      go_wp2
      go_ret2
      exact ⟨rfl, hb1⟩
end Go.Proofs.YtacmpggigdlmmaaDoor
