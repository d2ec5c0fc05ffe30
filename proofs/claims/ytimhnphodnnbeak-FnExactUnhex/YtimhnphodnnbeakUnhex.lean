/-
  spec.Unhex and impl.Unhex by their contracts: for an even number of at most 40000 figures both give the pairs' bytes and true; else the empty text and false.
-/
import Derived.Test.YtimhnphodnnbeakOwn
import Derived.Test.YtimhnphodnnbeakPlain4
import Derived.Laws.Shifts
import Derived.WalkSpells
import Derived.WalkSmall
import Derived.Deep.LoopGhost
import Derived.Laws.OwnMore
namespace Go.Proofs.Ytimhnphodnnbeak
open Go.RowKit

set_option maxHeartbeats 400000 in
theorem value_good (y v : Nat) (hv : v = hvN y) (h : v < 16) (w : World) : Calls Try.prog 13 #[.int .u8 (y : Int)] w fun e w' => e = .returned (.int .i64 (v : Int)) ∧ w = w' := by
  rcases hvN_cases y with hc | hc | ⟨h1, h2⟩
  · have HV : Hid ((v : Int) = (y : Int) - 48) := hide (by rw [hv, hvN_digit y hc.1 hc.2]; omega)
    obtain ⟨h1, h2⟩ := hc
    clear hv
    go_enter Try.func13, Try.ntmps13
    go_wp2
    go_ret
    refine ⟨?_, rfl⟩
    rw [HV.out]; rfl
  · have HV : Hid ((v : Int) = (y : Int) - 97 + 10) := hide (by rw [hv, hvN_letter y hc.1 hc.2]; omega)
    obtain ⟨h1, h2⟩ := hc
    have h3 : ¬ y ≤ 57 := by omega
    clear hv
    go_enter Try.func13, Try.ntmps13
    go_wp2
    go_ret
    refine ⟨?_, rfl⟩
    rw [HV.out]; rfl
  · rw [hvN_bad y h1 h2] at hv
    omega

set_option maxHeartbeats 400000 in
theorem value_bad (y : Nat) (h : ¬ hvN y < 16) (w : World) : Calls Try.prog 13 #[.int .u8 (y : Int)] w fun e w' => e = .returned (.int .i64 (-1)) ∧ w = w' := by
  have h1 : ¬ (48 ≤ y ∧ y ≤ 57) := fun hc => h (by rw [hvN_digit y hc.1 hc.2]; omega)
  have h2 : ¬ (97 ≤ y ∧ y ≤ 102) := fun hc => h (by rw [hvN_letter y hc.1 hc.2]; omega)
  clear h
  go_enter Try.func13, Try.ntmps13
  go_wp2
  all_goals go_ret
  all_goals first | exact ⟨rfl, rfl⟩ | (exfalso; omega)

/-- a row of our own behind 'append' of one byte -/
theorem own_snoc {w1 : World} {B n : Nat} {v : Value} {l : List UInt8} {k : Nat} (hk : k < 256) (hn : n = l.length) (h : w1.ownsRow B 5 1 v (n + 1) (Lib.byteCells l ++ [.int .u8 (k : Int)])) :
    w1.ownsRow B 5 1 v (l ++ [UInt8.ofNat k]).length (Lib.byteCells (l ++ [UInt8.ofNat k])) := by
  subst hn
  rw [cells_snoc l k hk] at h
  rw [List.length_append]
  exact h

theorem one_new (w : World) (x : Value) : ∀ (j : Nat) (u : Value), [x][j]? = some u → (w.alloc (Obj.cells #[x] 5)).cell? ((⟨w.heap.size, 0, none⟩ : Addr).add j) = some u := by
  intro j u hj
  match j, hj with
  | 0, hj => simp at hj; subst hj; simp [Addr.add]

set_option maxHeartbeats 2000000 in
set_option maxRecDepth 100000 in
theorem specUnhex_even (s : ByteArray) (n : Nat) (hn : s.size = 2 * n) (hs : s.size ≤ 40000) (w : World) :
    Calls Try.prog 8 #[.string s] w fun e w' => ((∀ i, i < s.size → hexAt s i < 16) → e = .returned (.tuple #[.string ⟨(outS s n).toArray⟩, .bool true])) ∧
      ((∃ i, i < s.size ∧ ¬ hexAt s i < 16) → e = .returned (.tuple #[.string ⟨#[]⟩, .bool false])) ∧ Below w.heap.size w w' := by
  obtain ⟨i0, hi, hz0, hz1, hz2⟩ := info_parts Try.infoByte
  have hn1 : s.size ≤ 2 * n := by omega
  have hn2 : 2 * n ≤ s.size := by omega
  have hq2 : ((s.size : Int) % 2 != 0) = false := by rw [hn]; simp
  have hq1 : decide ((40000 : Int) < (s.size : Int)) = false := by simp; omega
  clear hn
  go_enter Try.func8, Try.ntmps8
  go_wp2_with fail
  go_loopg [4, 5] n (fun g v iv wr => ∃ k : Nat, k ≤ n ∧ iv = .int .i64 ((2 * k : Nat) : Int) ∧ g + k = n ∧ Hid (∀ i, i < 2 * k → hexAt s i < 16) ∧ wr.ownsRow w.heap.size 5 1 v (outS s k).length (Lib.byteCells (outS s k)) ∧ Below w.heap.size w wr)
  case atStart => exact ⟨0, Nat.zero_le _, rfl, rfl, hide (fun i h => by omega), by simpa [outS, Lib.byteCells] using World.ownsRow_lit (base := w.heap.size) (e := 5) (size := 1) w #[] 0 (Nat.le_refl _) (by unfold maxLen; omega) (by simp), (Below.refl _ _).alloc (Nat.le_refl _) _⟩
  case round =>
    obtain ⟨k, hk, rfl, hg, HI, hown, hb⟩ := hrel
    have HG := hide hg
    clear hg
    have hB := hb.size
    have HL := hide (outS_length s k)
    by_cases hlt : k < n
    · obtain ⟨y1, hy1⟩ : ∃ y, y = byt s (2 * k) := ⟨_, rfl⟩
      obtain ⟨y2, hy2⟩ : ∃ y, y = byt s (2 * k + 1) := ⟨_, rfl⟩
      have hyb1 : y1 < 256 := by rw [hy1]; exact byt_lt s _
      have hyb2 : y2 < 256 := by rw [hy2]; exact byt_lt s _
      have hk1 : 2 * k < s.size := by omega
      have hk2 : 2 * k + 1 < s.size := by omega
      have hs1 : s[2 * k].toNat = y1 := by rw [hy1]; exact byt_eq s _ hk1
      have hs2 : s[2 * k + 1].toNat = y2 := by rw [hy2]; exact byt_eq s _ hk2
      have HY1 := hide hy1
      have HY2 := hide hy2
      clear hy1 hy2
      obtain ⟨v1, hv1⟩ : ∃ v, v = hvN y1 := ⟨_, rfl⟩
      obtain ⟨v2, hv2⟩ : ∃ v, v = hvN y2 := ⟨_, rfl⟩
      have HA1 : Hid (hexAt s (2 * k) = v1) := hide (by rw [hexAt, ← HY1.out, hv1])
      have HA2 : Hid (hexAt s (2 * k + 1) = v2) := hide (by rw [hexAt, ← HY2.out, hv2])
      by_cases hg1 : v1 < 16
      · have HC1 := hide (value_good y1 v1 hv1 hg1)
        by_cases hg2 : v2 < 16
        · have HC2 := hide (value_good y2 v2 hv2 hg2)
          clear hv1 hv2
          go_wp2_with fail
          refine (HC1.out _).mono ?_
          rintro e w1 ⟨rfl, rfl⟩
          go_wp2_with fail
          refine (HC2.out _).mono ?_
          rintro e w1 ⟨rfl, rfl⟩
          go_wp2_with (at_builtin; refine wpList_append_own _ rfl _ _ 27 rfl w.heap.size 5 i0 (.int .u8 0) 1 1 Try.underlying27 hi hz0 hz1 hz2 rfl (by decide) _ _ _ rfl (hown.alloc _) ⟨wr.heap.size, 0, none⟩ 1 1 [.int .u8 ((16 * v1 + v2 : Nat) : Int)] rfl rfl ?c1 ?c2 ?c3 ?c4 ?c5 ?_)
          case c1 => exact one_new _ _
          case c2 => intro u hu; simp at hu; subst hu; rfl
          case c3 => have := HL.out; unfold maxLen; omega
          case c4 => have := HL.out; omega
          case c5 => simp; omega
          intro v' w1 hown' hgrow _
          have hb1 : Below w.heap.size w w1 := below_grow hb hB hown ((Below.refl _ _).alloc hB _) hgrow
          have hown2 : w1.ownsRow w.heap.size 5 1 v' (outS s (k + 1)).length (Lib.byteCells (outS s (k + 1))) := by
            rw [outS_snoc, show pairAt s k = 16 * v1 + v2 from by rw [pairAt, HA1.out, HA2.out]]
            exact own_snoc (by omega) rfl hown'
          clear hown' hgrow hown hb
          go_wp2_with fail
          go_roundg (gk - 1)
          case measure => have := HG.out; omega
          case rel => exact ⟨k + 1, by omega, by go_num, by have := HG.out; omega, hide (fun i h => by by_cases e1 : i = 2 * k; (rw [e1, HA1.out]; exact hg1); by_cases e2 : i = 2 * k + 1; (rw [e2, HA2.out]; exact hg2); exact HI.out i (by omega)), hown2, hb1⟩
        · have HC2 := hide (value_bad y2 (by rw [← hv2]; exact hg2))
          clear hv1 hv2
          go_wp2_with fail
          refine (HC1.out _).mono ?_
          rintro e w1 ⟨rfl, rfl⟩
          go_wp2_with fail
          refine (HC2.out _).mono ?_
          rintro e w1 ⟨rfl, rfl⟩
          go_wp2_with fail
          go_ret2
          exact ⟨fun hall => absurd (hall (2 * k + 1) hk2) (by rw [HA2.out]; exact hg2), fun _ => rfl, hb⟩
      · have HC1 := hide (value_bad y1 (by rw [← hv1]; exact hg1))
        by_cases hg2 : v2 < 16
        · have HC2 := hide (value_good y2 v2 hv2 hg2)
          clear hv1 hv2
          go_wp2_with fail
          refine (HC1.out _).mono ?_
          rintro e w1 ⟨rfl, rfl⟩
          go_wp2_with fail
          refine (HC2.out _).mono ?_
          rintro e w1 ⟨rfl, rfl⟩
          go_wp2_with fail
          go_ret2
          exact ⟨fun hall => absurd (hall (2 * k) hk1) (by rw [HA1.out]; exact hg1), fun _ => rfl, hb⟩
        · have HC2 := hide (value_bad y2 (by rw [← hv2]; exact hg2))
          clear hv1 hv2
          go_wp2_with fail
          refine (HC1.out _).mono ?_
          rintro e w1 ⟨rfl, rfl⟩
          go_wp2_with fail
          refine (HC2.out _).mono ?_
          rintro e w1 ⟨rfl, rfl⟩
          go_wp2_with fail
          go_ret2
          exact ⟨fun hall => absurd (hall (2 * k) hk1) (by rw [HA1.out]; exact hg1), fun _ => rfl, hb⟩
    · have hkn : k = n := by omega
      rw [hkn] at hown HI
      have hcv := string_own (dst := 9) (src := 27) Try.underlying27 Try.underlying5 Try.underlying9 hown
      clear hkn hown
      go_wp2_with fail
      go_ret2
      exact ⟨fun _ => rfl, fun ⟨i, h1, h2⟩ => absurd (HI.out i (by omega)) h2, hb⟩

theorem unhex_step {wr : World} {B n k ov hv : Nat} {s : ByteArray} {z : Int} (hown : wr.ownsRow B 5 1 (.slice (some ⟨B, 0, none⟩) n n) n (cellsAt s n k)) (hp : pv s (k + 1) (k / 2) = 16 * ov + hv) (ho : ov < 16) (hh : hv < 16) (hz : z = (hv : Int)) :
    (wr.setCell ⟨B, k / 2, none⟩ (.int .u8 (bits BinOp.or IntKind.u8 ((ov : Int) * 16) z))).ownsRow B 5 1 (.slice (some ⟨B, 0, none⟩) n n) n (cellsAt s n (k + 1)) := by
  subst hz
  rw [show ((ov : Int) * 16) = ((16 * ov : Nat) : Int) from by omega, or_four ov hv ho hh, cellsAt_step, hp]
  exact (hown.stored (k / 2) _).1

set_option maxHeartbeats 2000000 in
set_option maxRecDepth 100000 in
theorem implUnhex_even (s : ByteArray) (n : Nat) (hn : s.size = 2 * n) (hs : s.size ≤ 40000) (w : World) :
    Calls Try.prog 9 #[.string s] w fun e w' => ((∀ i, i < s.size → hexAt s i < 16) → e = .returned (.tuple #[.string ⟨(outS s n).toArray⟩, .bool true])) ∧
      ((∃ i, i < s.size ∧ ¬ hexAt s i < 16) → e = .returned (.tuple #[.string ⟨#[]⟩, .bool false])) ∧ Below w.heap.size w w' := by
  obtain ⟨i0, hi, hz0, hz1, hz2⟩ := info_parts Try.infoByte
  have hn1 : s.size ≤ 2 * n := by omega
  have hn2 : 2 * n ≤ s.size := by omega
  have hq2 : ((s.size : Int) % 2 != 0) = false := by rw [hn]; simp
  have hq1 : decide ((40000 : Int) < (s.size : Int)) = false := by simp; omega
  have hq3 : (s.size : Int) / 2 = (n : Int) := by omega
  clear hn
  go_enter Try.func9, Try.ntmps9
  go_wp2
  go_step3
  go_wp2_with (at_make; refine wpList_make_full _ rfl _ _ 27 rfl w.heap.size 5 i0 (.int .u8 0) 1 Try.underlying27 hi hz0 hz1 .i64 .i64 _ _ n rfl rfl (by simp) (by simp) (by rw [hz2]; omega) (by unfold maxLen; omega) (Nat.le_refl _) ?_)
  intro w1 hown1 hg1
  have hb1 : Below w.heap.size w w1 := (Below.refl _ _).grown hg1 (Nat.le_refl _) (fun k hk => by cases hk)
  have hown1' : w1.ownsRow w.heap.size 5 1 (.slice (some ⟨w.heap.size, 0, none⟩) n n) n (cellsAt s n 0) := by
    rw [cellsAt_zero]
    simpa [Value.cells, toList_madeCells_one] using hown1
  clear hg1 hown1
  go_wp2
  go_step3
  go_wp2
  go_loopg [5] s.size (fun g iv wr => ∃ k : Nat, k ≤ s.size ∧ iv = .int .i64 (k : Int) ∧ g + k = s.size ∧ Hid (∀ i, i < k → hexAt s i < 16) ∧ wr.ownsRow w.heap.size 5 1 (.slice (some ⟨w.heap.size, 0, none⟩) n n) n (cellsAt s n k) ∧ Below w.heap.size w wr)
  case atStart => exact ⟨0, Nat.zero_le _, rfl, rfl, hide (fun i h => by omega), hown1', hb1⟩
  case round =>
    obtain ⟨k, hk, rfl, hg, HI, hown, hb⟩ := hrel
    have HG := hide hg
    clear hg hown1' hb1
    by_cases hlt : k < s.size
    · obtain ⟨y, hy⟩ : ∃ y, y = byt s k := ⟨_, rfl⟩
      have hyb : y < 256 := by rw [hy]; exact byt_lt s _
      have hs1 : s[k].toNat = y := by rw [hy]; exact byt_eq s _ hlt
      obtain ⟨ov, hov⟩ : ∃ ov, ov = pv s k (k / 2) := ⟨_, rfl⟩
      obtain ⟨hv, hhv⟩ : ∃ v, v = hvN y := ⟨_, rfl⟩
      have HA : Hid (hexAt s k = hv) := hide (by rw [hexAt, ← hy, hhv])
      have hpn := pv_next s k HI.out
      rw [← hov, HA.out] at hpn
      obtain ⟨ho16, hpn⟩ := hpn
      have HP := hide hpn
      have hcell : wr.cell? ⟨w.heap.size, k / 2, none⟩ = some (.int .u8 (ov : Int)) := by rw [hown.cellAt (k / 2) (by omega), cellsAt_get s n k (k / 2) (by omega), ← hov]
      have hfz : wr.frozen? ⟨w.heap.size, k / 2, none⟩ = false := hown.frozenAt _
      clear hpn hov hy
      rcases hvN_cases y with hc | hc | ⟨h1, h2⟩
      · have hd : hv = y - 48 := by rw [hhv, hvN_digit y hc.1 hc.2]
        obtain ⟨h1, h2⟩ := hc
        have HD := hide hd
        clear hd hhv
        go_wp2
        go_roundg (gk - 1)
        case measure => have := HG.out; omega
        case rel => exact ⟨k + 1, by omega, by go_num, by have := HG.out; omega, hide (fun i h => by by_cases e1 : i = k; (rw [e1, HA.out, HD.out]; omega); exact HI.out i (by omega)), unhex_step hown HP.out ho16 (by rw [HD.out]; omega) (by rw [HD.out]; omega), hb.setCell (Nat.le_refl _) _⟩
      · have hd : hv = y - 87 := by rw [hhv, hvN_letter y hc.1 hc.2]
        obtain ⟨h1, h2⟩ := hc
        have h3 : ¬ y ≤ 57 := by omega
        have HD := hide hd
        clear hd hhv
        go_wp2
        go_roundg (gk - 1)
        case measure => have := HG.out; omega
        case rel => exact ⟨k + 1, by omega, by go_num, by have := HG.out; omega, hide (fun i h => by by_cases e1 : i = k; (rw [e1, HA.out, HD.out]; omega); exact HI.out i (by omega)), unhex_step hown HP.out ho16 (by rw [HD.out]; omega) (by rw [HD.out]; omega), hb.setCell (Nat.le_refl _) _⟩
      · have hbad : ¬ hv < 16 := by rw [hhv, hvN_bad y h1 h2]; omega
        clear hhv
        go_wp2
        all_goals (try (exfalso; omega))
        all_goals (try rw [Exit.noGoto_ret])
        all_goals go_ret2
        all_goals exact ⟨fun hall => absurd (hall k hlt) (by rw [HA.out]; exact hbad), fun _ => rfl, hb⟩
    · have hk2 : k = 2 * n := by omega
      rw [hk2] at HI hown
      have hown' : wr.ownsRow w.heap.size 5 1 (.slice (some ⟨w.heap.size, 0, none⟩) n n) (outS s n).length (Lib.byteCells (outS s n)) := by
        rw [outS_length, ← cellsAt_end s n HI.out]; exact hown
      have hcv := string_own (dst := 9) (src := 27) Try.underlying27 Try.underlying5 Try.underlying9 hown'
      clear hk2 hown hown'
      go_wp2
      all_goals (try rw [Exit.noGoto_ret])
      all_goals go_ret2
      exact ⟨fun _ => rfl, fun ⟨i, h1, h2⟩ => absurd (HI.out i (by omega)) h2, hb⟩

set_option maxHeartbeats 400000 in
theorem specUnhex_no (s : ByteArray) (h : s.size % 2 = 1 ∨ 40000 < s.size) (_hs : s.size ≤ 9223372036854775807) (w : World) :
    Calls Try.prog 8 #[.string s] w fun e w' => e = .returned (.tuple #[.string ⟨#[]⟩, .bool false]) ∧ w = w' := by
  by_cases h1 : 40000 < s.size
  · clear h
    go_enter Try.func8, Try.ntmps8
    go_wp2
    go_ret2
    exact ⟨rfl, rfl⟩
  · have h2 : ((s.size : Int) % 2 != 0) = true := by rw [bne_iff_ne]; omega
    clear h
    go_enter Try.func8, Try.ntmps8
    go_wp2
    go_ret2
    exact ⟨rfl, rfl⟩

set_option maxHeartbeats 400000 in
theorem implUnhex_no (s : ByteArray) (h : s.size % 2 = 1 ∨ 40000 < s.size) (_hs : s.size ≤ 9223372036854775807) (w : World) :
    Calls Try.prog 9 #[.string s] w fun e w' => e = .returned (.tuple #[.string ⟨#[]⟩, .bool false]) ∧ w = w' := by
  by_cases h1 : s.size % 2 = 1
  · have h2 : ((s.size : Int) % 2 != 0) = true := by rw [bne_iff_ne]; omega
    clear h h1
    go_enter Try.func9, Try.ntmps9
    go_wp2
    go_step3
    go_wp2
    all_goals (try rw [Exit.noGoto_ret])
    go_ret2
    exact ⟨rfl, rfl⟩
  · have h2 : ((s.size : Int) % 2 != 0) = false := by rw [bne_eq_false_iff_eq]; omega
    have h3 : 40000 < s.size := by omega
    clear h h1
    go_enter Try.func9, Try.ntmps9
    go_wp2
    go_step3
    go_wp2
    all_goals (try rw [Exit.noGoto_ret])
    go_ret2
    exact ⟨rfl, rfl⟩
end Go.Proofs.Ytimhnphodnnbeak
