/-
  Rows of pairs that come in, and the laws' own helpers over them by contracts: szPair, szPairS, toPair, toPairS (turned out of FldRow).
-/
import Derived.Test.YtmmepgincbngeaaPairRow
import Derived.Test.YtmmepgincbngeaaFrame
namespace Go.Proofs.Ytmmepgincbngeaa
open Go.RowKit

/-- the bytes of the first k names -/
def pSum (l : List (ByteArray × ByteArray)) (k : Nat) : Nat := ((l.take k).map fun p => p.1.size + p.2.size).sum

theorem pSum_succ (l : List (ByteArray × ByteArray)) (k : Nat) (h : k < l.length) : pSum l (k + 1) = pSum l k + ((l[k]).1.size + (l[k]).2.size) := by
  unfold pSum
  rw [List.take_succ_eq_append_getElem h, List.map_append, List.sum_append]
  simp

theorem pSum_zero (l : List (ByteArray × ByteArray)) : pSum l 0 = 0 := by simp [pSum]

theorem pSum_mono (l : List (ByteArray × ByteArray)) (k : Nat) : pSum l k ≤ pSum l l.length := by
  unfold pSum
  conv => rhs; rw [List.take_length, ← List.take_append_drop k l, List.map_append, List.sum_append]
  omega

/-- how much a list of fields holds -/
def pBulk (l : List (ByteArray × ByteArray)) : Nat := l.length + pSum l l.length

set_option maxHeartbeats 1000000 in
theorem szPair_any (p : ByteArray) (t : ByteArray) (ht : t.size ≤ 9223372036854775807) (hq : p.size ≤ 9223372036854775807) (left : Nat) (hleft : left ≤ 1048576) (w : World) :
    Calls Try.prog 9 #[.agg #[.string t, .string p], .int .i64 (left : Int)] w fun e w' => e = .returned (.int .i64 (szOut left (t.size + p.size))) ∧ Below w.heap.size w w' := by
  by_cases h1 : t.size ≤ left
  · by_cases h : t.size + p.size ≤ left
    · have HO := hide (szOut_yes h)
      go_enter Try.func9, Try.ntmps9
      go_wp2
      go_ret
      refine ⟨?_, (Below.refl _ _).alloc (Nat.le_refl _) _⟩
      rw [HO.out]
      simp
      omega
    · have HO := hide (szOut_no (Nat.lt_of_not_le h))
      go_enter Try.func9, Try.ntmps9
      go_wp2
      go_ret
      rw [HO.out]
      exact ⟨rfl, (Below.refl _ _).alloc (Nat.le_refl _) _⟩
  · have HO := hide (szOut_no (show left < t.size + p.size by omega))
    go_enter Try.func9, Try.ntmps9
    go_wp2
    go_ret
    rw [HO.out]
    exact ⟨rfl, (Below.refl _ _).alloc (Nat.le_refl _) _⟩

set_option maxHeartbeats 1000000 in
theorem szPairS_any (l : List (ByteArray × ByteArray)) (hl : l.length ≤ maxLen) (hs : ∀ p ∈ l, p.1.size ≤ maxLen ∧ p.2.size ≤ maxLen) (v : Value) (left : Nat) (hleft : left ≤ 1048576) (w : World) (hr : RowAt w 2 v l.length (prs l)) :
    Calls Try.prog 4 #[v, .int .i64 (left : Int)] w fun e w' => e = .returned (.int .i64 (szOut left (pBulk l))) ∧ Below w.heap.size w w' := by
  obtain ⟨-, a, cap, rfl, h2⟩ := hr
  have HR := hide h2
  have HS := hide hs
  clear h2 hs
  unfold maxLen at hl
  have HBk : Hid (pBulk l = l.length + pSum l l.length) := hide rfl
  by_cases h0 : left < l.length
  · have HO : Hid (szOut left (pBulk l) = -1) := hide (szOut_no (by rw [HBk.out]; omega))
    go_enter Try.func4, Try.ntmps4
    go_wp2
    go_ret
    rw [HO.out]
    exact ⟨rfl, Below.refl _ _⟩
  · go_enter Try.func4, Try.ntmps4
    go_wp2
    go_loopg [1, 5] l.length (fun g lv iv wr => ∃ k m : Nat, k ≤ l.length ∧ iv = .int .i64 (k : Int) ∧ g + k = l.length ∧ lv = .int .i64 (m : Int) ∧ m ≤ 1048576 ∧ Hid (m + l.length + pSum l k = left) ∧ Below w.heap.size w wr)
    case atStart => exact ⟨0, left - l.length, Nat.zero_le _, rfl, rfl, by go_num, by omega, hide (by rw [pSum_zero]; omega), Below.refl _ _⟩
    case round =>
      obtain ⟨k, m, hk, rfl, hg, rfl, hm, HM, hb⟩ := hrel
      have HG := hide hg
      clear hg
      by_cases hlt : k < l.length
      · rcases HR.out with hn0 | ⟨b, off, rfl, hbl, hc⟩
        · omega
        · obtain ⟨p, hp⟩ : ∃ p, p = l[k].2 := ⟨_, rfl⟩
          obtain ⟨x, hx⟩ : ∃ x, x = l[k].1 := ⟨_, rfl⟩
          have hc0 : wr.cell? ⟨b, off + k * 2, none⟩ = some (.string x) := by rw [hb.cell (by exact hbl), hc (k * 2) (by omega), (prs_at l k hlt).1, hx]
          have hc1 : wr.cell? ⟨b, off + k * 2 + 1, none⟩ = some (.string p) := by rw [hb.cell (by exact hbl), Nat.add_assoc, hc (k * 2 + 1) (by omega), (prs_at l k hlt).2, hp]
          obtain ⟨hxs, hps⟩ : x.size ≤ 9223372036854775807 ∧ p.size ≤ 9223372036854775807 := by
            have := HS.out l[k] (List.getElem_mem hlt)
            rw [← hx, ← hp] at this
            unfold maxLen at this
            exact this
          have hsum : pSum l (k + 1) = pSum l k + (x.size + p.size) := by rw [hx, hp]; exact pSum_succ l k hlt
          have HSum := hide hsum
          have hk0 : (0 : Int) ≤ (k : Int) := by omega
          have hk1 : (k : Int) < (l.length : Int) := by omega
          clear hc hx hp hsum
          by_cases hneg : m < x.size + p.size
          · have HO : Hid (szOut left (pBulk l) = -1) := hide (szOut_no (by have h1 := HBk.out; have h2 := HM.out; have h3 := HSum.out; have h4 := pSum_mono l (k + 1); omega))
            have HC := hide (szPair_any p x hxs hps m hm)
            rw [szOut_no hneg] at HC
            go_wp2_with fail
            refine (HC.out _).mono ?_
            rintro e w2 ⟨rfl, hb2⟩
            go_wp2_with fail
            go_ret
            rw [HO.out]
            exact ⟨rfl, hb.trans (hb2.mono hb.size)⟩
          · have HC := hide (szPair_any p x hxs hps m hm)
            rw [szOut_yes (by omega)] at HC
            obtain ⟨m', hm'⟩ : ∃ m', m' = m - (x.size + p.size) := ⟨_, rfl⟩
            rw [← hm'] at HC
            have hml : m' ≤ 1048576 := by omega
            have HM2 : Hid (m' + l.length + pSum l (k + 1) = left) := hide (by have h2 := HM.out; have h3 := HSum.out; omega)
            clear hm' hneg
            go_wp2_with fail
            refine (HC.out _).mono ?_
            rintro e w2 ⟨rfl, hb2⟩
            go_wp2_with fail
            go_roundg (gk - 1)
            case measure => have := HG.out; omega
            case rel => exact ⟨k + 1, m', by omega, by go_num, by have := HG.out; omega, rfl, hml, HM2, hb.trans (hb2.mono hb.size)⟩
      · have HO : Hid (szOut left (pBulk l) = (m : Int)) := hide (by
          have h1 := HBk.out
          have h2 := HM.out
          obtain rfl : k = l.length := by omega
          rw [szOut_yes (by omega)]
          congr 1
          omega)
        go_wp2
        go_ret
        rw [HO.out]
        exact ⟨rfl, hb⟩

set_option maxHeartbeats 400000 in
theorem toPair_any (p : ByteArray) (t : ByteArray) (w : World) :
    Calls Try.prog 10 #[.agg #[.string t, .string p]] w fun e w' => e = .returned (.agg #[.string t, .string p]) ∧ Below w.heap.size w w' := by
  go_enter Try.func10, Try.ntmps10
  go_wp2
  refine bodyPost_ret (v := .agg #[.string t, .string p]) (by simp [results, Try.results10, go_sem]) rfl ⟨rfl, ?_⟩
  exact (((Below.refl w.heap.size w).alloc (Nat.le_refl _) _).alloc (by simp) _).alloc (by simp; omega) _

theorem Try.infoPrT : (Try.prog.info? 32).map (fun i => (i.zero, i.size, i.bytes)) = some (some (.agg #[.string ⟨#[]⟩, .string ⟨#[]⟩]), 2, 32) := by kernel_rfl

theorem prs_made (n : Nat) : (madeCells #[Value.string ⟨#[]⟩, .string ⟨#[]⟩] (n * 2)).toList = prs (List.replicate n (⟨#[]⟩, ⟨#[]⟩)) := by
  have hlen : (prs (List.replicate n ((⟨#[]⟩ : ByteArray), (⟨#[]⟩ : ByteArray)))).length = n * 2 := by rw [prs_length, List.length_replicate]
  apply List.ext_getElem?
  intro i
  by_cases hi : i < n * 2
  · have h1 : (madeCells #[Value.string ⟨#[]⟩, .string ⟨#[]⟩] (n * 2)).toList[i]? = some (#[Value.string ⟨#[]⟩, .string ⟨#[]⟩][i % 2]!) := by
      simp [madeCells, hi]
    have hk : i / 2 < (List.replicate n ((⟨#[]⟩ : ByteArray), (⟨#[]⟩ : ByteArray))).length := by rw [List.length_replicate]; omega
    have h2 := prs_at _ (i / 2) hk
    rw [h1]
    rcases Nat.mod_two_eq_zero_or_one i with h | h
    · rw [h, show i = i / 2 * 2 from by omega, h2.1]; simp
    · rw [h, show i = i / 2 * 2 + 1 from by omega, h2.2]; simp
  · rw [List.getElem?_eq_none (by simp [madeCells]; omega), List.getElem?_eq_none (by rw [hlen]; omega)]

set_option maxHeartbeats 1000000 in
set_option maxRecDepth 100000 in
theorem toPairS_any (l : List (ByteArray × ByteArray)) (hl : l.length ≤ 1048576) (v : Value) (w : World) (hr : RowAt w 2 v l.length (prs l)) :
    Calls Try.prog 6 #[v] w fun e w' => ∃ v', e = .returned v' ∧ w'.ownsRow w.heap.size 32 2 v' l.length (prs l) ∧ Below w.heap.size w w' := by
  obtain ⟨i0, hi, hz0, hz1, hz2⟩ := info_parts Try.infoPrT
  obtain ⟨-, a, cap, rfl, h2⟩ := hr
  have HR := hide h2
  clear h2
  go_enter Try.func6, Try.ntmps6
  go_wp2_with (at_make; refine wpList_make_full _ rfl _ _ 25 rfl w.heap.size 32 i0 (.agg #[.string ⟨#[]⟩, .string ⟨#[]⟩]) 2 Try.underlying25 hi hz0 hz1 .i64 .i64 _ _ l.length rfl rfl rfl rfl (by rw [hz2]; omega) (by unfold maxLen; omega) (Nat.le_refl _) ?_)
  intro w1 hown1 hg1
  have hb1 : Below w.heap.size w w1 := (Below.refl _ _).grown hg1 (Nat.le_refl _) (fun k hk => by cases hk)
  have hown2 : w1.ownsRow w.heap.size 32 2 (.slice (some ⟨w.heap.size, 0, none⟩) l.length l.length) l.length (prs (List.replicate l.length (⟨#[]⟩, ⟨#[]⟩))) := own_n hown1 rfl (prs_made _)
  clear hg1 hown1
  go_wp2
  go_loopg [4] l.length (fun q iv wr => ∃ (k : Nat) (m : List (ByteArray × ByteArray)), k ≤ l.length ∧ iv = .int .i64 (k : Int) ∧ q + k = l.length ∧ wr.ownsRow w.heap.size 32 2 (.slice (some ⟨w.heap.size, 0, none⟩) l.length l.length) l.length (prs m) ∧ Hid (m.length = l.length ∧ m.take k = l.take k) ∧ Below w.heap.size w wr)
  case atStart => exact ⟨0, _, Nat.zero_le _, rfl, rfl, hown2, hide ⟨by simp, by simp⟩, hb1⟩
  case round =>
    obtain ⟨k, m, hk, rfl, hg, hown, HM, hb⟩ := hrel
    have HG := hide hg
    clear hg hown2 hb1
    by_cases hlt : k < l.length
    · rcases HR.out with hn0 | ⟨b, off, rfl, hbl, hc⟩
      · omega
      · obtain ⟨p, hp⟩ : ∃ p, p = l[k].2 := ⟨_, rfl⟩
        obtain ⟨x, hx⟩ : ∃ x, x = l[k].1 := ⟨_, rfl⟩
        have hc0 : wr.cell? ⟨b, off + k * 2, none⟩ = some (.string x) := by rw [hb.cell (by exact hbl), hc (k * 2) (by omega), (prs_at l k hlt).1, hx]
        have hc1 : wr.cell? ⟨b, off + k * 2 + 1, none⟩ = some (.string p) := by rw [hb.cell (by exact hbl), Nat.add_assoc, hc (k * 2 + 1) (by omega), (prs_at l k hlt).2, hp]
        have hkm : k < m.length := by rw [HM.out.1]; exact hlt
        have HM2 : Hid ((m.set k (x, p)).length = l.length ∧ (m.set k (x, p)).take (k + 1) = l.take (k + 1)) := hide (by
          refine ⟨by rw [List.length_set]; exact HM.out.1, ?_⟩
          rw [List.take_succ_eq_append_getElem (by rw [List.length_set]; exact hkm), List.take_succ_eq_append_getElem hlt, List.getElem_set_self, List.take_set_of_le (by omega), HM.out.2, hp, hx])
        obtain ⟨u0, u1, hu⟩ : ∃ (u0 : ByteArray) (u1 : ByteArray), (prs m)[k * 2]? = some (.string u0) ∧ (prs m)[k * 2 + 1]? = some (.string u1) := ⟨_, _, prs_at m k hkm⟩
        have HU := hide hu
        have HKm := hide hkm
        have hk0 : (0 : Int) ≤ (k : Int) := by omega
        have hk1 : (k : Int) < (l.length : Int) := by omega
        clear hx hp hc hkm hu
        go_wp2_with fail
        refine (toPair_any p x _).mono ?_
        rintro e w2 ⟨rfl, hb2⟩
        have hown2 := own_stays hown hb2
        have hd0 : w2.cell? ⟨w.heap.size, k * 2, none⟩ = some (.string u0) := by rw [hown2.cellAt (k * 2) (by omega), HU.out.1]
        have hd1 : w2.cell? ⟨w.heap.size, k * 2 + 1, none⟩ = some (.string u1) := by rw [hown2.cellAt (k * 2 + 1) (by omega), HU.out.2]
        have hf0 : w2.frozen? ⟨w.heap.size, k * 2, none⟩ = false := hown2.frozenAt _
        have hf1 : w2.frozen? ⟨w.heap.size, k * 2 + 1, none⟩ = false := hown2.frozenAt _
        have hb3 : Below w.heap.size w w2 := hb.trans (hb2.mono hb.size)
        have HO := hide (((hown2.stored (k * 2) (.string x)).1.stored (k * 2 + 1) (.string p)).1)
        rw [prs_set m k x p HKm.out] at HO
        clear hown hb2
        go_wp2_with fail
        go_roundg (gk - 1)
        case measure => have := HG.out; omega
        case rel => exact ⟨k + 1, m.set k (x, p), by omega, by go_num, by have := HG.out; omega, HO.out, HM2, (hb3.setCell (Nat.le_refl _) _).setCell (Nat.le_refl _) _⟩
    · have hml : m = l := by
        have h1 := HM.out.2
        rw [List.take_of_length_le (by rw [HM.out.1]; omega), List.take_of_length_le (by omega)] at h1
        exact h1
      subst hml
      go_wp2
      go_ret
      exact ⟨_, rfl, hown, hb⟩

end Go.Proofs.Ytmmepgincbngeaa
