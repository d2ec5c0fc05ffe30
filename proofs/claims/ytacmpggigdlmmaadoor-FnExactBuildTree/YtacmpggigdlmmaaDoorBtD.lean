/-
  Several texts in one. Rows of pairs that come in, and the laws' own helpers over them by contracts: szPair, szPairS, toPair, toPairS (turned out of FldRow). · laws.FnExactBuildTree by contracts: it returns true at every work and every list of pairs (made by tools/buildlaw.py). · A disk that came in as an argument of a law, opened: what its reading gives. · A work that came in as an argument of a law, opened: what its reading gives. · Pairs that came in as an argument of a law, opened: what their reading gives.
-/
import Derived.Test.YtacmpggigdlmmaaDoorBtA
import Derived.Test.YtacmpggigdlmmaaDoorFrame
import Derived.Test.YtacmpggigdlmmaaDoorBtC
import Derived.Test.YtacmpggigdlmmaaDoorSpecBuild
import Derived.Test.YtacmpggigdlmmaaDoorDiskN
import Derived.Lib.SmallJoins
import Derived.Deep.Strs
import Derived.Deep.SlicePairs
import Derived.ChangeOld
import Derived.Test.YtacmpggigdlmmaaDoorWork
namespace Go.Proofs.YtacmpggigdlmmaaDoor
open Go.RowKit

/-- the bytes of the first k names -/
def pSum (l : List (ByteArray × ByteArray)) (k : Nat) : Nat := ((l.take k).map fun p => p.1.size + p.2.size).sum

theorem pSum_succ (l : List (ByteArray × ByteArray)) (k : Nat) (h : k < l.length) : pSum l (k + 1) = pSum l k + ((l[k]).1.size + (l[k]).2.size) := by
  unfold pSum
  rw [List.take_succ_eq_append_getElem h, List.map_append, List.sum_append]
  simp

theorem pSum_zero (l : List (ByteArray × ByteArray)) : pSum l 0 = 0 := by simp [pSum]

theorem pSum_mono (l : List (ByteArray × ByteArray)) (k : Nat) : pSum l k ≤ pSum l l.length := by
  unfold pSum
  conv => rhs; rw [List.take_length, ← List.take_append_drop k l, List.map_append, List.sum_append]
  omega

/-- how much a list of fields holds -/
def pBulk (l : List (ByteArray × ByteArray)) : Nat := l.length + pSum l l.length

set_option maxHeartbeats 1000000 in
theorem szPair_any (p : ByteArray) (t : ByteArray) (ht : t.size ≤ 9223372036854775807) (hq : p.size ≤ 9223372036854775807) (left : Nat) (hleft : left ≤ 1048576) (w : World) :
    Calls Tryd.prog 17 #[.agg #[.string t, .string p], .int .i64 (left : Int)] w fun e w' => e = .returned (.int .i64 (szOut left (t.size + p.size))) ∧ Below w.heap.size w w' := by
  by_cases h1 : t.size ≤ left
  · by_cases h : t.size + p.size ≤ left
    · have HO := hide (szOut_yes h)
      go_enter Tryd.func17, Tryd.ntmps17
      go_wp2
      go_ret
      refine ⟨?_, (Below.refl _ _).alloc (Nat.le_refl _) _⟩
      rw [HO.out]
      simp
      omega
    · have HO := hide (szOut_no (Nat.lt_of_not_le h))
      go_enter Tryd.func17, Tryd.ntmps17
      go_wp2
      go_ret
      rw [HO.out]
      exact ⟨rfl, (Below.refl _ _).alloc (Nat.le_refl _) _⟩
  · have HO := hide (szOut_no (show left < t.size + p.size by omega))
    go_enter Tryd.func17, Tryd.ntmps17
    go_wp2
    go_ret
    rw [HO.out]
    exact ⟨rfl, (Below.refl _ _).alloc (Nat.le_refl _) _⟩

set_option maxHeartbeats 1000000 in
theorem szPairS_any (l : List (ByteArray × ByteArray)) (hl : l.length ≤ maxLen) (hs : ∀ p ∈ l, p.1.size ≤ maxLen ∧ p.2.size ≤ maxLen) (v : Value) (left : Nat) (hleft : left ≤ 1048576) (w : World) (hr : RowAt w 2 v l.length (prs l)) :
    Calls Tryd.prog 5 #[v, .int .i64 (left : Int)] w fun e w' => e = .returned (.int .i64 (szOut left (pBulk l))) ∧ Below w.heap.size w w' := by
  obtain ⟨-, a, cap, rfl, h2⟩ := hr
  have HR := hide h2
  have HS := hide hs
  clear h2 hs
  unfold maxLen at hl
  have HBk : Hid (pBulk l = l.length + pSum l l.length) := hide rfl
  by_cases h0 : left < l.length
  · have HO : Hid (szOut left (pBulk l) = -1) := hide (szOut_no (by rw [HBk.out]; omega))
    go_enter Tryd.func5, Tryd.ntmps5
    go_wp2
    go_ret
    rw [HO.out]
    exact ⟨rfl, Below.refl _ _⟩
  · go_enter Tryd.func5, Tryd.ntmps5
    go_wp2
    go_loopg [1, 5] l.length (fun g lv iv wr => ∃ k m : Nat, k ≤ l.length ∧ iv = .int .i64 (k : Int) ∧ g + k = l.length ∧ lv = .int .i64 (m : Int) ∧ m ≤ 1048576 ∧ Hid (m + l.length + pSum l k = left) ∧ Below w.heap.size w wr)
    case atStart => exact ⟨0, left - l.length, Nat.zero_le _, rfl, rfl, by go_num, by omega, hide (by rw [pSum_zero]; omega), Below.refl _ _⟩
    case round =>
      obtain ⟨k, m, hk, rfl, hg, rfl, hm, HM, hb⟩ := hrel
      have HG := hide hg
      clear hg
      by_cases hlt : k < l.length
      · rcases HR.out with hn0 | ⟨b, off, rfl, hbl, hc⟩
        · omega
        · obtain ⟨p, hp⟩ : ∃ p, p = l[k].2 := ⟨_, rfl⟩
          obtain ⟨x, hx⟩ : ∃ x, x = l[k].1 := ⟨_, rfl⟩
          have hc0 : wr.cell? ⟨b, off + k * 2, none⟩ = some (.string x) := by rw [hb.cell (by exact hbl), hc (k * 2) (by omega), (prs_at l k hlt).1, hx]
          have hc1 : wr.cell? ⟨b, off + k * 2 + 1, none⟩ = some (.string p) := by rw [hb.cell (by exact hbl), Nat.add_assoc, hc (k * 2 + 1) (by omega), (prs_at l k hlt).2, hp]
          obtain ⟨hxs, hps⟩ : x.size ≤ 9223372036854775807 ∧ p.size ≤ 9223372036854775807 := by
            have := HS.out l[k] (List.getElem_mem hlt)
            rw [← hx, ← hp] at this
            unfold maxLen at this
            exact this
          have hsum : pSum l (k + 1) = pSum l k + (x.size + p.size) := by rw [hx, hp]; exact pSum_succ l k hlt
          have HSum := hide hsum
          have hk0 : (0 : Int) ≤ (k : Int) := by omega
          have hk1 : (k : Int) < (l.length : Int) := by omega
          clear hc hx hp hsum
          by_cases hneg : m < x.size + p.size
          · have HO : Hid (szOut left (pBulk l) = -1) := hide (szOut_no (by have h1 := HBk.out; have h2 := HM.out; have h3 := HSum.out; have h4 := pSum_mono l (k + 1); omega))
            have HC := hide (szPair_any p x hxs hps m hm)
            rw [szOut_no hneg] at HC
            go_wp2_with fail
            refine (HC.out _).mono ?_
            rintro e w2 ⟨rfl, hb2⟩
            go_wp2_with fail
            go_ret
            rw [HO.out]
            exact ⟨rfl, hb.trans (hb2.mono hb.size)⟩
          · have HC := hide (szPair_any p x hxs hps m hm)
            rw [szOut_yes (by omega)] at HC
            obtain ⟨m', hm'⟩ : ∃ m', m' = m - (x.size + p.size) := ⟨_, rfl⟩
            rw [← hm'] at HC
            have hml : m' ≤ 1048576 := by omega
            have HM2 : Hid (m' + l.length + pSum l (k + 1) = left) := hide (by have h2 := HM.out; have h3 := HSum.out; omega)
            clear hm' hneg
            go_wp2_with fail
            refine (HC.out _).mono ?_
            rintro e w2 ⟨rfl, hb2⟩
            go_wp2_with fail
            go_roundg (gk - 1)
            case measure => have := HG.out; omega
            case rel => exact ⟨k + 1, m', by omega, by go_num, by have := HG.out; omega, rfl, hml, HM2, hb.trans (hb2.mono hb.size)⟩
      · have HO : Hid (szOut left (pBulk l) = (m : Int)) := hide (by
          have h1 := HBk.out
          have h2 := HM.out
          obtain rfl : k = l.length := by omega
          rw [szOut_yes (by omega)]
          congr 1
          omega)
        go_wp2
        go_ret
        rw [HO.out]
        exact ⟨rfl, hb⟩

set_option maxHeartbeats 400000 in
theorem toPair_any (p : ByteArray) (t : ByteArray) (w : World) :
    Calls Tryd.prog 22 #[.agg #[.string t, .string p]] w fun e w' => e = .returned (.agg #[.string t, .string p]) ∧ Below w.heap.size w w' := by
  go_enter Tryd.func22, Tryd.ntmps22
  go_wp2
  refine bodyPost_ret (v := .agg #[.string t, .string p]) (by simp [results, Tryd.results22, go_sem]) rfl ⟨rfl, ?_⟩
  exact (((Below.refl w.heap.size w).alloc (Nat.le_refl _) _).alloc (by simp) _).alloc (by simp; omega) _

theorem Tryd.infoPrT : (Tryd.prog.info? 53).map (fun i => (i.zero, i.size, i.bytes)) = some (some (.agg #[.string ⟨#[]⟩, .string ⟨#[]⟩]), 2, 32) := by kernel_rfl

theorem prs_made (n : Nat) : (madeCells #[Value.string ⟨#[]⟩, .string ⟨#[]⟩] (n * 2)).toList = prs (List.replicate n (⟨#[]⟩, ⟨#[]⟩)) := by
  have hlen : (prs (List.replicate n ((⟨#[]⟩ : ByteArray), (⟨#[]⟩ : ByteArray)))).length = n * 2 := by rw [prs_length, List.length_replicate]
  apply List.ext_getElem?
  intro i
  by_cases hi : i < n * 2
  · have h1 : (madeCells #[Value.string ⟨#[]⟩, .string ⟨#[]⟩] (n * 2)).toList[i]? = some (#[Value.string ⟨#[]⟩, .string ⟨#[]⟩][i % 2]!) := by
      simp [madeCells, hi]
    have hk : i / 2 < (List.replicate n ((⟨#[]⟩ : ByteArray), (⟨#[]⟩ : ByteArray))).length := by rw [List.length_replicate]; omega
    have h2 := prs_at _ (i / 2) hk
    rw [h1]
    rcases Nat.mod_two_eq_zero_or_one i with h | h
    · rw [h, show i = i / 2 * 2 from by omega, h2.1]; simp
    · rw [h, show i = i / 2 * 2 + 1 from by omega, h2.2]; simp
  · rw [List.getElem?_eq_none (by simp [madeCells]; omega), List.getElem?_eq_none (by rw [hlen]; omega)]

set_option maxHeartbeats 1000000 in
set_option maxRecDepth 100000 in
theorem toPairS_any (l : List (ByteArray × ByteArray)) (hl : l.length ≤ 1048576) (v : Value) (w : World) (hr : RowAt w 2 v l.length (prs l)) :
    Calls Tryd.prog 8 #[v] w fun e w' => ∃ v', e = .returned v' ∧ w'.ownsRow w.heap.size 53 2 v' l.length (prs l) ∧ Below w.heap.size w w' := by
  obtain ⟨i0, hi, hz0, hz1, hz2⟩ := info_parts Tryd.infoPrT
  obtain ⟨-, a, cap, rfl, h2⟩ := hr
  have HR := hide h2
  clear h2
  go_enter Tryd.func8, Tryd.ntmps8
  go_wp2_with (at_make; refine wpList_make_full _ rfl _ _ 40 rfl w.heap.size 53 i0 (.agg #[.string ⟨#[]⟩, .string ⟨#[]⟩]) 2 Tryd.underlying40 hi hz0 hz1 .i64 .i64 _ _ l.length rfl rfl rfl rfl (by rw [hz2]; omega) (by unfold maxLen; omega) (Nat.le_refl _) ?_)
  intro w1 hown1 hg1
  have hb1 : Below w.heap.size w w1 := (Below.refl _ _).grown hg1 (Nat.le_refl _) (fun k hk => by cases hk)
  have hown2 : w1.ownsRow w.heap.size 53 2 (.slice (some ⟨w.heap.size, 0, none⟩) l.length l.length) l.length (prs (List.replicate l.length (⟨#[]⟩, ⟨#[]⟩))) := own_n hown1 rfl (prs_made _)
  clear hg1 hown1
  go_wp2
  go_loopg [4] l.length (fun q iv wr => ∃ (k : Nat) (m : List (ByteArray × ByteArray)), k ≤ l.length ∧ iv = .int .i64 (k : Int) ∧ q + k = l.length ∧ wr.ownsRow w.heap.size 53 2 (.slice (some ⟨w.heap.size, 0, none⟩) l.length l.length) l.length (prs m) ∧ Hid (m.length = l.length ∧ m.take k = l.take k) ∧ Below w.heap.size w wr)
  case atStart => exact ⟨0, _, Nat.zero_le _, rfl, rfl, hown2, hide ⟨by simp, by simp⟩, hb1⟩
  case round =>
    obtain ⟨k, m, hk, rfl, hg, hown, HM, hb⟩ := hrel
    have HG := hide hg
    clear hg hown2 hb1
    by_cases hlt : k < l.length
    · rcases HR.out with hn0 | ⟨b, off, rfl, hbl, hc⟩
      · omega
      · obtain ⟨p, hp⟩ : ∃ p, p = l[k].2 := ⟨_, rfl⟩
        obtain ⟨x, hx⟩ : ∃ x, x = l[k].1 := ⟨_, rfl⟩
        have hc0 : wr.cell? ⟨b, off + k * 2, none⟩ = some (.string x) := by rw [hb.cell (by exact hbl), hc (k * 2) (by omega), (prs_at l k hlt).1, hx]
        have hc1 : wr.cell? ⟨b, off + k * 2 + 1, none⟩ = some (.string p) := by rw [hb.cell (by exact hbl), Nat.add_assoc, hc (k * 2 + 1) (by omega), (prs_at l k hlt).2, hp]
        have hkm : k < m.length := by rw [HM.out.1]; exact hlt
        have HM2 : Hid ((m.set k (x, p)).length = l.length ∧ (m.set k (x, p)).take (k + 1) = l.take (k + 1)) := hide (by
          refine ⟨by rw [List.length_set]; exact HM.out.1, ?_⟩
          rw [List.take_succ_eq_append_getElem (by rw [List.length_set]; exact hkm), List.take_succ_eq_append_getElem hlt, List.getElem_set_self, List.take_set_of_le (by omega), HM.out.2, hp, hx])
        obtain ⟨u0, u1, hu⟩ : ∃ (u0 : ByteArray) (u1 : ByteArray), (prs m)[k * 2]? = some (.string u0) ∧ (prs m)[k * 2 + 1]? = some (.string u1) := ⟨_, _, prs_at m k hkm⟩
        have HU := hide hu
        have HKm := hide hkm
        have hk0 : (0 : Int) ≤ (k : Int) := by omega
        have hk1 : (k : Int) < (l.length : Int) := by omega
        clear hx hp hc hkm hu
        go_wp2_with fail
        refine (toPair_any p x _).mono ?_
        rintro e w2 ⟨rfl, hb2⟩
        have hown2 := own_stays hown hb2
        have hd0 : w2.cell? ⟨w.heap.size, k * 2, none⟩ = some (.string u0) := by rw [hown2.cellAt (k * 2) (by omega), HU.out.1]
        have hd1 : w2.cell? ⟨w.heap.size, k * 2 + 1, none⟩ = some (.string u1) := by rw [hown2.cellAt (k * 2 + 1) (by omega), HU.out.2]
        have hf0 : w2.frozen? ⟨w.heap.size, k * 2, none⟩ = false := hown2.frozenAt _
        have hf1 : w2.frozen? ⟨w.heap.size, k * 2 + 1, none⟩ = false := hown2.frozenAt _
        have hb3 : Below w.heap.size w w2 := hb.trans (hb2.mono hb.size)
        have HO := hide (((hown2.stored (k * 2) (.string x)).1.stored (k * 2 + 1) (.string p)).1)
        rw [prs_set m k x p HKm.out] at HO
        clear hown hb2
        go_wp2_with fail
        go_roundg (gk - 1)
        case measure => have := HG.out; omega
        case rel => exact ⟨k + 1, m.set k (x, p), by omega, by go_num, by have := HG.out; omega, HO.out, HM2, (hb3.setCell (Nat.le_refl _) _).setCell (Nat.le_refl _) _⟩
    · have hml : m = l := by
        have h1 := HM.out.2
        rw [List.take_of_length_le (by rw [HM.out.1]; omega), List.take_of_length_le (by omega)] at h1
        exact h1
      subst hml
      go_wp2
      go_ret
      exact ⟨_, rfl, hown, hb⟩

end Go.Proofs.YtacmpggigdlmmaaDoor

namespace Go.Proofs.YtacmpggigdlmmaaDoor
open Go.RowKit

theorem its_fit : ∀ (j : Nat) {st st' : Bst}, st.fit → st.2.2.length ≤ 1048576 → lup 21 st.2.2.length = j → its j st = some st' → st'.fit
  | 0, st, st', hf, _, _, h => by
    injection h with h
    subst h
    exact hf
  | j + 1, st, st', hf, hl, hj, h => by
    have h1 : 1 < st.2.2.length := by
      rcases Nat.lt_or_ge 1 st.2.2.length with h1 | h1
      · exact h1
      · rw [lup_one h1] at hj; cases hj
    rw [its] at h
    cases e : mds st with
    | none => rw [e] at h; cases h
    | some q =>
      rw [e] at h
      obtain ⟨f1, f2⟩ := fit_up hf h1 e
      rw [lup_up h1 hl] at hj
      exact its_fit j f1 (by rw [f2]; have := fours_two h1; omega) (by rw [f2]; omega) h

theorem bld_small {k : Wk} {L : List (ByteArray × ByteArray)} (hk : k.rm 951424) (hl : L.length ≤ 1048576) (hL : ∀ p ∈ L, p.1.size ≤ 1048576) : (bldS k L).1.small := by
  cases ha : ascB L with
  | false => rw [bld_no ha]; exact rm_small hk
  | true =>
    cases hb : bldO k L with
    | none => rw [bld_none ha hb]; exact rm_small hk
    | some st =>
      rw [bld_some ha hb]
      unfold bldO at hb
      cases hs : lvs k L with
      | none => rw [hs] at hb; cases hb
      | some s0 =>
        rw [hs] at hb
        obtain ⟨f1, f2⟩ := lvs_fit hL hl hk hs
        exact rm_small (its_fit _ f1 (by rw [f2]; unfold fours; omega) rfl hb).2.2.2

theorem pBulk_in {L : List (ByteArray × ByteArray)} (h : pBulk L ≤ 1048576) : L.length ≤ 1048576 ∧ ∀ p ∈ L, p.1.size ≤ 1048576 ∧ p.2.size ≤ 1048576 := by
  unfold pBulk at h
  refine ⟨by omega, fun p hp => ?_⟩
  have hs : p.1.size + p.2.size ≤ pSum L L.length := by
    unfold pSum
    rw [List.take_length]
    obtain ⟨i, hi, rfl⟩ := List.getElem_of_mem hp
    clear h hp
    induction L generalizing i with
    | nil => simp at hi
    | cons q L ih =>
      cases i with
      | zero => simp
      | succ i => have := ih i (by simpa using hi); simp at this ⊢; omega
  omega

theorem markWork_sepB (k0 : Nat) (hk0 : 0 < k0) (hk1 : k0 ≤ 100000000) (v : Value) (k : Wk) (hk : k.small) (B : Nat) (rest : List Ast) (w : World) (h : Sep B w (workA B v k :: rest)) (hB : B ≤ w.heap.size) :
    Calls Tryd.prog 12 #[v, .int .i64 (k0 : Int)] w fun e w' => e = .returned (.int .i64 ((k0 + k.ps.length + k.ls.length * 2 + k.us.length + k.gs.length + k.fs.length : Nat) : Int)) ∧ Sep B w' (workA B v (marksW k0 k.ps.length k.ls.length k.us.length k.gs.length k.fs.length k.next) :: rest) ∧ Below B w w' := by
  refine (markWork_any v k B k0 hk hk0 hk1 w (sep_get h 0 rfl)).mono ?_
  rintro e w' ⟨rfl, h2, h3⟩
  refine ⟨rfl, ?_, below_of_kept h3 hB (fun j hj => (sep_lt h 0 rfl j hj).1)⟩
  exact sep_set h 0 rfl h3 (workA B v _) h2 (fun j hj => ⟨Or.inl hj, (workOwn_lt h2 j hj).2⟩) hB

theorem markPairS_sepB (k0 : Nat) (hk0 : 0 < k0) (hk1 : k0 ≤ 1048576000) (v : Value) (L : List (ByteArray × ByteArray)) (hl : L.length ≤ 1048576) (B : Nat) (rest : List Ast) (w : World) (h : Sep B w (rowA B 53 2 v L.length (prs L) :: rest)) (hB : B ≤ w.heap.size) :
    Calls Tryd.prog 13 #[v, .int .i64 (k0 : Int)] w fun e w' => e = .returned (.int .i64 ((k0 + L.length * 2 : Nat) : Int)) ∧ Sep B w' rest ∧ Below B w w' := by
  refine (markPairS_row L hl v B k0 hk0 hk1 w (sep_get h 0 rfl)).mono ?_
  rintro e w' ⟨rfl, h2, h3⟩
  refine ⟨rfl, sep_kept (sep_del h) h3 (fun A hA j hj hj' => ?_), below_of_kept h3 hB (fun j hj => (sep_lt h 0 rfl j hj).1)⟩
  exact (sep_cons.1 h).2.1 A hA j hj' hj

theorem Tryd.sizeLawWork : (Tryd.prog.info? 28).map (·.size) = some 6 := by kernel_rfl

set_option maxHeartbeats 16000000 in
set_option maxRecDepth 100000 in
theorem lawBuildTree (v : Value) (k : Wk) (hf : k.fits) (lv : Value) (L : List (ByteArray × ByteArray)) (hl : L.length ≤ maxLen) (hs : ∀ p ∈ L, p.1.size ≤ maxLen ∧ p.2.size ≤ maxLen) (w : World) (hd : WorkAt w v k) (hT : SumTab w) (hr : RowAt w 2 lv L.length (prs L)) :
    Calls Tryd.prog 3 #[v, lv] w fun e w' => e = .returned (.bool true) ∧ Below w.heap.size w w' := by
  obtain ⟨bs, rfl, hbs, hbo⟩ := work_arrA hd
  obtain ⟨a0, ha0⟩ : ∃ a, a = w.heap.size := ⟨_, rfl⟩
  have HSz := hide (fun wx (h : Below a0 w wx) => szWork_any (.agg bs) k hf 1048576 (Nat.le_refl _) wx (work_below hd (by rw [← ha0]; exact h)))
  have hS0 := sep_new (sep_nil w.heap.size w) (Obj.cells bs 28) (Nat.le_refl _)
  obtain ⟨w0, hw0⟩ : ∃ w0, w0 = w.alloc (Obj.cells bs 28) := ⟨_, rfl⟩
  rw [← hw0, ← ha0] at hS0
  have HS_w0 := hide hS0
  have HB_w0 : Hid (Below a0 w w0) := hide (by rw [hw0, ha0]; exact (Below.refl w.heap.size w).alloc (Nat.le_refl _) _)
  have HZ : Hid (∀ wx, Below a0 w wx → a0 ≤ wx.heap.size) := hide (fun wx h => by rw [ha0] at h ⊢; exact h.size)
  have Hbs_sz : Hid ((Tryd.prog.info? 28).map (·.size) = some bs.size) := hide (by rw [hbs]; exact Tryd.sizeLawWork)
  have HRb : Hid (w0.rangeAt a0 0 bs.toList) := hide (range_all (sep_get hS0 0 rfl : w0.heap[a0]? = some (Obj.cells bs 28)))
  have HA := hide ha0
  have HE := hide hw0
  rw [← ha0]
  by_cases hbk : k.bulk ≤ 1048576
  rotate_left
  · rw [szOut_no (by omega)] at HSz
    clear hw0 ha0 hS0 hbs hbo hd hr hT
    go_enter Tryd.func3, Tryd.ntmps3
    go_upto_region 1 with fail
    rw [← HE.out, ← HA.out]
    go_wp2_with ((with_reducible refine wpList_loadL ?_ 28 (.tmp 2) ?_ a0 0 ?_ bs HRb.out _ Tryd.underlying28 ?_ ?_ ?_); exact rfl; exact rfl; exact rfl; exact rfl; exact Hbs_sz.out)
    refine (HSz.out _ HB_w0.out).mono ?_
    rintro e w1 ⟨rfl, hb1⟩
    go_wp2_with fail
    go_ret
    exact ⟨rfl, HB_w0.out.trans (hb1.mono (HZ.out _ HB_w0.out))⟩
  obtain ⟨r, hrr, hr1⟩ : ∃ r : Nat, szOut 1048576 k.bulk = (r : Int) ∧ r ≤ 1048576 := ⟨_, szOut_yes hbk, by omega⟩
  rw [hrr] at HSz
  have HSp0 := hide (fun wx (h : Below a0 w wx) => szPairS_any L hl hs lv r hr1 wx (row_below hr (by rw [← ha0]; exact h)))
  by_cases hpk : pBulk L ≤ r
  rotate_left
  · rw [szOut_no (by omega)] at HSp0
    clear hw0 ha0 hS0 hbs hbo hd hr hT
    go_enter Tryd.func3, Tryd.ntmps3
    go_upto_region 1 with fail
    rw [← HE.out, ← HA.out]
    go_wp2_with ((with_reducible refine wpList_loadL ?_ 28 (.tmp 2) ?_ a0 0 ?_ bs HRb.out _ Tryd.underlying28 ?_ ?_ ?_); exact rfl; exact rfl; exact rfl; exact rfl; exact Hbs_sz.out)
    refine (HSz.out _ HB_w0.out).mono ?_
    rintro e w1 ⟨rfl, hb1⟩
    have HB_w1 : Hid (Below a0 w w1) := hide (HB_w0.out.trans (hb1.mono (HZ.out _ HB_w0.out)))
    clear hb1
    go_wp2_with fail
    refine (HSp0.out _ HB_w1.out).mono ?_
    rintro e w2 ⟨rfl, hb2⟩
    go_wp2_with fail
    go_ret
    exact ⟨rfl, HB_w1.out.trans (hb2.mono (HZ.out _ HB_w1.out))⟩
  obtain ⟨hl1, hl2⟩ := pBulk_in (L := L) (by omega)
  obtain ⟨r2, hr2⟩ : ∃ r2 : Nat, szOut r (pBulk L) = (r2 : Int) := ⟨_, szOut_yes hpk⟩
  rw [hr2] at HSp0
  have hrm := rm_bulk hbk
  have hsm := bld_small hrm hl1 (fun p hp => (hl2 p hp).1)
  have HTo := hide (fun wx (h : Below a0 w wx) => toWork_any (.agg bs) k hbk wx (work_below hd (by rw [← ha0]; exact h)))
  have HTp := hide (fun wx (h : Below a0 w wx) => toPairS_any L hl1 lv wx (row_below hr (by rw [← ha0]; exact h)))
  have HSp := hide (fun u lu wx h1 h2 => specBuildTree_any u k hrm L hl1 hl2 lu wx h1 h2)
  have HIm := hide (fun u a cap hc wx ht h1 h2 => implBuildTree_any u k hrm L hl1 hl2 a cap hc wx ht h1 h2)
  have HTb := hide (fun wx (h : Below a0 w wx) => sumTab_below hT (by rw [← ha0]; exact h))
  obtain ⟨K2, hK2⟩ : ∃ x, x = (bldS k L).1 := ⟨_, rfl⟩
  obtain ⟨pg, hpg⟩ : ∃ x, x = (bldS k L).2.1 := ⟨_, rfl⟩
  obtain ⟨ok, hok⟩ : ∃ x, x = (bldS k L).2.2 := ⟨_, rfl⟩
  rw [← hK2] at hsm
  rw [← hK2, ← hpg, ← hok] at HSp HIm
  have HEx := hide (fun u u' wx h h' => eqWork_same u u' k (rm_small hrm) wx h h')
  have HEr := hide (fun u u' wx h h' => eqWork_same u u' K2 hsm wx h h')
  have HEp := hide (fun u u' wx h h' => eqPairS_row L L (by omega) (by omega) u u' wx h h')
  rw [decide_eq_true rfl] at HEp
  have HMx := hide (fun u B rest wx h hB => markWork_sepB 1 (by omega) (by omega) u k (rm_small hrm) B rest wx h hB)
  obtain ⟨k1, hk1⟩ : ∃ n : Nat, 1 + k.ps.length + k.ls.length * 2 + k.us.length + k.gs.length + k.fs.length = n := ⟨_, rfl⟩
  have hk1b : 0 < k1 ∧ k1 ≤ 20000000 := by obtain ⟨c1, -, c3, -, c5, c6, c7⟩ := rm_small hrm; omega
  rw [hk1] at HMx
  have HMp := hide (fun u B rest wx h hB => markPairS_sepB k1 hk1b.1 (by omega) u L hl1 B rest wx h hB)
  obtain ⟨k2, hk2⟩ : ∃ n : Nat, k1 + L.length * 2 = n := ⟨_, rfl⟩
  rw [hk2] at HMp
  have HMr := hide (fun u B rest wx h hB => markWork_sepB 1 (by omega) (by omega) u K2 hsm B rest wx h hB)
  obtain ⟨c1, -, c3, -, c5, c6, c7⟩ := hsm
  have HHr := hide (fun u wx h => heldWork_any u K2.ps.length K2.ls.length K2.us.length K2.gs.length K2.fs.length 1 K2.next c1 c3 c5 c6 c7 (by omega) (by omega) wx h)
  obtain ⟨kz, hkz⟩ : ∃ n : Nat, 1 + K2.ps.length + K2.ls.length * 2 + K2.us.length + K2.gs.length + K2.fs.length = n := ⟨_, rfl⟩
  rw [hkz] at HMr HHr
  have dn : decide ((k2 : Int) < 0) = false := decide_eq_false (by omega)
  have dz : decide ((kz : Int) < 0) = false := decide_eq_false (by omega)
  have dk : ((kz : Int) != (kz : Int)) = false := by simp
  have dp : (pg != pg) = false := by simp
  have dg : (ok != ok) = false := by cases ok <;> rfl
  obtain ⟨n, hn⟩ : ∃ n, L.length = n := ⟨_, rfl⟩
  rw [hn] at HTp HIm HMp
  have HNn := hide hn
  clear hw0 ha0 hS0 hbs hbo hd hr hT hrr hr1 hr2 hpk hl1 hl2 hrm hK2 hpg hok hk1 hk1b hk2 c1 c3 c5 c6 c7 hkz hn hl hs hf hbk
  go_enter Tryd.func3, Tryd.ntmps3
  go_upto_region 1 with fail
  rw [← HE.out, ← HA.out]
  clear HE
  go_wp2_with ((with_reducible refine wpList_loadL ?_ 28 (.tmp 2) ?_ a0 0 ?_ bs HRb.out _ Tryd.underlying28 ?_ ?_ ?_); exact rfl; exact rfl; exact rfl; exact rfl; exact Hbs_sz.out)
  refine (HSz.out _ HB_w0.out).mono ?_
  rintro e w1 ⟨rfl, hb⟩
  clear HRb
  have HS_w1 := hide (sep_below HS_w0.out hb)
  have HB_w1 : Hid (Below a0 w w1) := hide (HB_w0.out.trans (hb.mono (HZ.out _ HB_w0.out)))
  clear hb
  have HRb : Hid (w1.rangeAt a0 0 bs.toList) := hide (range_all (sep_get HS_w1.out 0 rfl : w1.heap[a0]? = some (Obj.cells bs 28)))
  go_wp2_with fail
  refine (HSp0.out _ HB_w1.out).mono ?_
  rintro e w2 ⟨rfl, hb⟩
  clear HRb
  have HS_w2 := hide (sep_below HS_w1.out hb)
  have HB_w2 : Hid (Below a0 w w2) := hide (HB_w1.out.trans (hb.mono (HZ.out _ HB_w1.out)))
  clear hb
  have HRb : Hid (w2.rangeAt a0 0 bs.toList) := hide (range_all (sep_get HS_w2.out 0 rfl : w2.heap[a0]? = some (Obj.cells bs 28)))
  go_wp2_with ((with_reducible refine wpList_loadL ?_ 28 (.tmp 2) ?_ a0 0 ?_ bs HRb.out _ Tryd.underlying28 ?_ ?_ ?_); exact rfl; exact rfl; exact rfl; exact rfl; exact Hbs_sz.out)
  refine (HTo.out _ HB_w2.out).mono ?_
  rintro e w3 ⟨ta, rfl, ho, hb⟩
  clear HRb
  obtain ⟨ta_a, rfl, h1, h2⟩ := work_arr ho
  have hta_a : Hid (ta_a.size = 6 ∧ ta_a.toList.all (·.oneCell') = true) := hide ⟨h1, h2⟩
  clear h1 h2
  have hz := HZ.out _ HB_w2.out
  have HS_w3 := hide (sep_add HS_w2.out hb (workA a0 (.agg ta_a) k) (workOwn_down ho hz) (fun j hj => workOwn_lt ho j hj) hz)
  have HB_w3 : Hid (Below a0 w w3) := hide (HB_w2.out.trans (hb.mono hz))
  clear hz
  clear ho hb
  have HRb : Hid (w3.rangeAt a0 0 bs.toList) := hide (range_all (sep_get HS_w3.out 1 rfl : w3.heap[a0]? = some (Obj.cells bs 28)))
  go_wp2_with fail
  refine (HTp.out _ HB_w3.out).mono ?_
  rintro e w4 ⟨tb_v, rfl, ho, hb⟩
  obtain ⟨tb_x, tb_c, rfl⟩ := own_slice ho
  have Htb := hide (own_cap ho)
  clear HRb
  have hz := HZ.out _ HB_w3.out
  have HS_w4 := hide (sep_add HS_w3.out hb (rowA a0 53 2 (.slice tb_x n tb_c) n (prs L)) (own_down ho hz) (fun j hj => ho.lt j hj) hz)
  have HB_w4 : Hid (Below a0 w w4) := hide (HB_w3.out.trans (hb.mono hz))
  clear hz
  clear ho hb
  have HRb : Hid (w4.rangeAt a0 0 bs.toList) := hide (range_all (sep_get HS_w4.out 2 rfl : w4.heap[a0]? = some (Obj.cells bs 28)))
  go_wp2_with fail
  refine (HSp.out _ _ _ (work_of_own (sep_get HS_w4.out 1 rfl)) (by rw [HNn.out]; exact row_of_own (sep_get HS_w4.out 0 rfl))).mono ?_
  rintro e w5 ⟨s, rfl, ho, hb⟩
  clear HRb
  obtain ⟨s_a, rfl, h1, h2⟩ := work_arr ho
  have hs_a : Hid (s_a.size = 6 ∧ s_a.toList.all (·.oneCell') = true) := hide ⟨h1, h2⟩
  clear h1 h2
  have hz := HZ.out _ HB_w4.out
  have HS_w5 := hide (sep_add HS_w4.out hb (workA a0 (.agg s_a) K2) (workOwn_down ho hz) (fun j hj => workOwn_lt ho j hj) hz)
  have HB_w5 : Hid (Below a0 w w5) := hide (HB_w4.out.trans (hb.mono hz))
  clear hz
  clear ho hb
  have HRb : Hid (w5.rangeAt a0 0 bs.toList) := hide (range_all (sep_get HS_w5.out 3 rfl : w5.heap[a0]? = some (Obj.cells bs 28)))
  have hz := HZ.out _ HB_w5.out
  have hs := sep_cellsAll (sep_new HS_w5.out (Obj.cells #[.slice none 0 0, .slice none 0 0, .int .i64 0, .slice none 0 0, .slice none 0 0, .slice none 0 0] 36) hz) 0 rfl s_a (by rw [hs_a.out.1]; rfl)
  have hth : Hid ((w5.alloc (Obj.cells #[.slice none 0 0, .slice none 0 0, .int .i64 0, .slice none 0 0, .slice none 0 0, .slice none 0 0] 36)).there w5.heap.size 0 s_a.size) := hide (by rw [hs_a.out.1]; exact there_of (heap_alloc_new w5 (Obj.cells #[.slice none 0 0, .slice none 0 0, .int .i64 0, .slice none 0 0, .slice none 0 0, .slice none 0 0] 36)) 0 6 (show 0 + 6 ≤ 6 by decide))
  obtain ⟨w6, hw⟩ : ∃ wx, wx = (w5.alloc (Obj.cells #[.slice none 0 0, .slice none 0 0, .int .i64 0, .slice none 0 0, .slice none 0 0, .slice none 0 0] 36)).setCells w5.heap.size 0 s_a.toList := ⟨_, rfl⟩
  have HB_w6 : Hid (Below a0 w w6) := hide (by rw [hw]; exact below_cells hz _ 0 _ (HB_w5.out.alloc hz _))
  obtain ⟨g6, hg⟩ : ∃ g, g = w5.heap.size := ⟨_, rfl⟩
  rw [← hw, ← hg] at hs
  have HS_w6 := hide hs
  have HW := hide hw.symm
  have Hs_a_sz : Hid ((Tryd.prog.info? 36).map (·.size) = some s_a.size) := hide (by rw [hs_a.out.1]; exact Tryd.sizeWorkB)
  have Hs_a_o := hide hs_a.out.2
  clear hz hs hw
  go_upto_region 9 with ((with_reducible refine wpList_storeL ?_ 36 (.tmp 6) (.tmp 36) ?_ w5.heap.size 0 s_a ?_ ?_ hth.out ?_ ?_ HW.out ?_); exact rfl; exact rfl; exact rfl; exact rfl; exact Hs_a_sz.out; exact Hs_a_o.out)
  rw [← hg]
  clear hg hth HW
  clear HRb
  have HRb : Hid (w6.rangeAt a0 0 bs.toList) := hide (range_all (sep_get HS_w6.out 4 rfl : w6.heap[a0]? = some (Obj.cells bs 28)))
  go_wp2_with ((with_reducible refine wpList_loadL ?_ 28 (.tmp 2) ?_ a0 0 ?_ bs HRb.out _ Tryd.underlying28 ?_ ?_ ?_); exact rfl; exact rfl; exact rfl; exact rfl; exact Hbs_sz.out)
  refine (HTo.out _ HB_w6.out).mono ?_
  rintro e w7 ⟨x, rfl, ho, hb⟩
  clear HRb
  obtain ⟨x_a, rfl, h1, h2⟩ := work_arr ho
  have hx_a : Hid (x_a.size = 6 ∧ x_a.toList.all (·.oneCell') = true) := hide ⟨h1, h2⟩
  clear h1 h2
  have hz := HZ.out _ HB_w6.out
  have HS_w7 := hide (sep_add HS_w6.out hb (workA a0 (.agg x_a) k) (workOwn_down ho hz) (fun j hj => workOwn_lt ho j hj) hz)
  have HB_w7 : Hid (Below a0 w w7) := hide (HB_w6.out.trans (hb.mono hz))
  clear hz
  clear ho hb
  have HRb : Hid (w7.rangeAt a0 0 bs.toList) := hide (range_all (sep_get HS_w7.out 5 rfl : w7.heap[a0]? = some (Obj.cells bs 28)))
  have hz := HZ.out _ HB_w7.out
  have hs := sep_cellsAll (sep_new HS_w7.out (Obj.cells #[.slice none 0 0, .slice none 0 0, .int .i64 0, .slice none 0 0, .slice none 0 0, .slice none 0 0] 36) hz) 0 rfl x_a (by rw [hx_a.out.1]; rfl)
  have hth : Hid ((w7.alloc (Obj.cells #[.slice none 0 0, .slice none 0 0, .int .i64 0, .slice none 0 0, .slice none 0 0, .slice none 0 0] 36)).there w7.heap.size 0 x_a.size) := hide (by rw [hx_a.out.1]; exact there_of (heap_alloc_new w7 (Obj.cells #[.slice none 0 0, .slice none 0 0, .int .i64 0, .slice none 0 0, .slice none 0 0, .slice none 0 0] 36)) 0 6 (show 0 + 6 ≤ 6 by decide))
  obtain ⟨w8, hw⟩ : ∃ wx, wx = (w7.alloc (Obj.cells #[.slice none 0 0, .slice none 0 0, .int .i64 0, .slice none 0 0, .slice none 0 0, .slice none 0 0] 36)).setCells w7.heap.size 0 x_a.toList := ⟨_, rfl⟩
  have HB_w8 : Hid (Below a0 w w8) := hide (by rw [hw]; exact below_cells hz _ 0 _ (HB_w7.out.alloc hz _))
  obtain ⟨g9, hg⟩ : ∃ g, g = w7.heap.size := ⟨_, rfl⟩
  rw [← hw, ← hg] at hs
  have HS_w8 := hide hs
  have HW := hide hw.symm
  have Hx_a_sz : Hid ((Tryd.prog.info? 36).map (·.size) = some x_a.size) := hide (by rw [hx_a.out.1]; exact Tryd.sizeWorkB)
  have Hx_a_o := hide hx_a.out.2
  clear hz hs hw
  go_upto_region 10 with ((with_reducible refine wpList_storeL ?_ 36 (.tmp 9) (.tmp 40) ?_ w7.heap.size 0 x_a ?_ ?_ hth.out ?_ ?_ HW.out ?_); exact rfl; exact rfl; exact rfl; exact rfl; exact Hx_a_sz.out; exact Hx_a_o.out)
  rw [← hg]
  clear hg hth HW
  clear HRb
  have HRb : Hid (w8.rangeAt a0 0 bs.toList) := hide (range_all (sep_get HS_w8.out 6 rfl : w8.heap[a0]? = some (Obj.cells bs 28)))
  go_wp2_with fail
  refine (HTp.out _ HB_w8.out).mono ?_
  rintro e w9 ⟨y_v, rfl, ho, hb⟩
  obtain ⟨y_x, y_c, rfl⟩ := own_slice ho
  have Hy := hide (own_cap ho)
  clear HRb
  have hz := HZ.out _ HB_w8.out
  have HS_w9 := hide (sep_add HS_w8.out hb (rowA a0 53 2 (.slice y_x n y_c) n (prs L)) (own_down ho hz) (fun j hj => ho.lt j hj) hz)
  have HB_w9 : Hid (Below a0 w w9) := hide (HB_w8.out.trans (hb.mono hz))
  clear hz
  clear ho hb
  have HRb : Hid (w9.rangeAt a0 0 bs.toList) := hide (range_all (sep_get HS_w9.out 7 rfl : w9.heap[a0]? = some (Obj.cells bs 28)))
  have HR9 : Hid (w9.rangeAt g9 0 x_a.toList) := hide (range_all (sep_get HS_w9.out 1 rfl : w9.heap[g9]? = some (Obj.cells x_a 36)))
  go_wp2_with ((with_reducible refine wpList_loadL ?_ 36 (.tmp 9) ?_ g9 0 ?_ x_a HR9.out _ Tryd.underlying36 ?_ ?_ ?_); exact rfl; exact rfl; exact rfl; exact rfl; exact Hx_a_sz.out)
  refine (HIm.out _ _ _ Hy.out _ (HTb.out _ HB_w9.out) (work_of_own (sep_get HS_w9.out 2 rfl)) (row_of_own (sep_get HS_w9.out 0 rfl))).mono ?_
  rintro e w10 ⟨g, rfl, ho, hb⟩
  clear HRb
  obtain ⟨g_a, rfl, h1, h2⟩ := work_arr ho
  have hg_a : Hid (g_a.size = 6 ∧ g_a.toList.all (·.oneCell') = true) := hide ⟨h1, h2⟩
  clear h1 h2
  have hz := HZ.out _ HB_w9.out
  have HS_w10 := hide (sep_add HS_w9.out hb (workA a0 (.agg g_a) K2) (workOwn_down ho hz) (fun j hj => workOwn_lt ho j hj) hz)
  have HB_w10 : Hid (Below a0 w w10) := hide (HB_w9.out.trans (hb.mono hz))
  clear hz
  clear ho hb
  have HRb : Hid (w10.rangeAt a0 0 bs.toList) := hide (range_all (sep_get HS_w10.out 8 rfl : w10.heap[a0]? = some (Obj.cells bs 28)))
  clear HR9
  have hz := HZ.out _ HB_w10.out
  have hs := sep_cellsAll (sep_new HS_w10.out (Obj.cells #[.slice none 0 0, .slice none 0 0, .int .i64 0, .slice none 0 0, .slice none 0 0, .slice none 0 0] 36) hz) 0 rfl g_a (by rw [hg_a.out.1]; rfl)
  have hth : Hid ((w10.alloc (Obj.cells #[.slice none 0 0, .slice none 0 0, .int .i64 0, .slice none 0 0, .slice none 0 0, .slice none 0 0] 36)).there w10.heap.size 0 g_a.size) := hide (by rw [hg_a.out.1]; exact there_of (heap_alloc_new w10 (Obj.cells #[.slice none 0 0, .slice none 0 0, .int .i64 0, .slice none 0 0, .slice none 0 0, .slice none 0 0] 36)) 0 6 (show 0 + 6 ≤ 6 by decide))
  obtain ⟨w11, hw⟩ : ∃ wx, wx = (w10.alloc (Obj.cells #[.slice none 0 0, .slice none 0 0, .int .i64 0, .slice none 0 0, .slice none 0 0, .slice none 0 0] 36)).setCells w10.heap.size 0 g_a.toList := ⟨_, rfl⟩
  have HB_w11 : Hid (Below a0 w w11) := hide (by rw [hw]; exact below_cells hz _ 0 _ (HB_w10.out.alloc hz _))
  obtain ⟨g11, hg⟩ : ∃ g, g = w10.heap.size := ⟨_, rfl⟩
  rw [← hw, ← hg] at hs
  have HS_w11 := hide hs
  have HW := hide hw.symm
  have Hg_a_sz : Hid ((Tryd.prog.info? 36).map (·.size) = some g_a.size) := hide (by rw [hg_a.out.1]; exact Tryd.sizeWorkB)
  have Hg_a_o := hide hg_a.out.2
  clear hz hs hw
  go_upto_region 12 with ((with_reducible refine wpList_storeL ?_ 36 (.tmp 11) (.tmp 47) ?_ w10.heap.size 0 g_a ?_ ?_ hth.out ?_ ?_ HW.out ?_); exact rfl; exact rfl; exact rfl; exact rfl; exact Hg_a_sz.out; exact Hg_a_o.out)
  rw [← hg]
  clear hg hth HW
  clear HRb
  have HRb : Hid (w11.rangeAt a0 0 bs.toList) := hide (range_all (sep_get HS_w11.out 9 rfl : w11.heap[a0]? = some (Obj.cells bs 28)))
  have HR11 : Hid (w11.rangeAt g11 0 g_a.toList) := hide (range_all (sep_get HS_w11.out 0 rfl : w11.heap[g11]? = some (Obj.cells g_a 36)))
  have HR6 : Hid (w11.rangeAt g6 0 s_a.toList) := hide (range_all (sep_get HS_w11.out 5 rfl : w11.heap[g6]? = some (Obj.cells s_a 36)))
  go_wp2_with (first | ((with_reducible refine wpList_loadL ?_ 36 (.tmp 11) ?_ g11 0 ?_ g_a HR11.out _ Tryd.underlying36 ?_ ?_ ?_); exact rfl; exact rfl; exact rfl; exact rfl; exact Hg_a_sz.out) | ((with_reducible refine wpList_loadL ?_ 36 (.tmp 6) ?_ g6 0 ?_ s_a HR6.out _ Tryd.underlying36 ?_ ?_ ?_); exact rfl; exact rfl; exact rfl; exact rfl; exact Hs_a_sz.out))
  refine (HEr.out _ _ _ (work_of_own (sep_get HS_w11.out 1 rfl)) (work_of_own (sep_get HS_w11.out 6 rfl))).mono ?_
  rintro e w12 ⟨rfl, hb⟩
  clear HRb
  have HS_w12 := hide (sep_below HS_w11.out hb)
  have HB_w12 : Hid (Below a0 w w12) := hide (HB_w11.out.trans (hb.mono (HZ.out _ HB_w11.out)))
  clear hb
  have HRb : Hid (w12.rangeAt a0 0 bs.toList) := hide (range_all (sep_get HS_w12.out 9 rfl : w12.heap[a0]? = some (Obj.cells bs 28)))
  clear HR11 HR6
  go_upto_region 14 with fail
  obtain ⟨wd, hwd⟩ : ∃ wd, wd = w12.drew := ⟨_, rfl⟩
  have HS_wd := hide (sep_drew HS_w12.out)
  have HB_wd := hide HB_w12.out.drew
  rw [← hwd] at HS_wd HB_wd
  have hSd : (fun wx => wx.heap[g9]? = some (Obj.cells x_a 36) ∧ wx.heap[a0]? = some (Obj.cells bs 28)) wd := ⟨sep_get HS_wd.out 3 rfl, sep_get HS_wd.out 9 rfl⟩
  refine wp_region_held_drew (S := fun wx => wx.heap[g9]? = some (Obj.cells x_a 36) ∧ wx.heap[a0]? = some (Obj.cells bs 28)) (by kernel_rfl) (by rw [← hwd]; exact hSd) (fun _ => ?_)
  rw [← hwd]
  clear hwd HRb
  refine takeW 0 64 (.agg x_a) rfl rfl (by kernel_rfl) (by kernel_rfl) (by kernel_rfl) (fun _ _ _ h => h) (yields_loadL (by rfl) 36 (.tmp 9) rfl g9 0 rfl x_a _ (fun _ h => range_all h.1) Tryd.underlying36 rfl Hx_a_sz.out) hSd ?_
  simp only [List.setIfInBounds_toArray, List.set_cons_zero, List.set_cons_succ]
  refine takeW 1 65 (.agg bs) rfl rfl (by kernel_rfl) (by kernel_rfl) (by kernel_rfl) (fun _ _ _ h => h) (yields_loadL (by rfl) 28 (.tmp 2) rfl a0 0 rfl bs _ (fun _ h => range_all h.2) Tryd.underlying28 rfl Hbs_sz.out) hSd ?_
  simp only [List.setIfInBounds_toArray, List.set_cons_zero, List.set_cons_succ]
  refine wpAnyH_ready (rs := [2]) (by kernel_rfl) (by simp) ?_
  refine AllReadyH.cons rfl (fun K hK => ?_) AllReadyH.nil
  refine step_call1 wd ?_ 7 Tryd.f7 Tryd.func7 ?_ ?_ (.tmp 65) #[28] ?_ (.agg bs) ?_ _ (HTo.out wd HB_wd.out) ?_
  · exact rfl
  · decide
  · exact Option.some_ne_none _
  · exact rfl
  · exact rfl
  rintro e w13 ⟨tc, rfl, ho, hb⟩
  refine ⟨_, rfl, ?_⟩
  obtain ⟨tc_a, rfl, h1, h2⟩ := work_arr ho
  clear h1 h2
  have hz := HZ.out _ HB_wd.out
  have HS_w13 := hide (sep_add HS_wd.out hb (workA a0 (.agg tc_a) k) (workOwn_down ho hz) (fun j hj => workOwn_lt ho j hj) hz)
  have HB_w13 : Hid (Below a0 w w13) := hide (HB_wd.out.trans (hb.mono hz))
  clear hz
  have hS13 : (fun wx => wx.heap[g9]? = some (Obj.cells x_a 36) ∧ wx.heap[a0]? = some (Obj.cells bs 28)) w13 := ⟨sep_get HS_w13.out 4 rfl, sep_get HS_w13.out 10 rfl⟩
  refine hK.out (Act.put _ (some 66) _) _ hS13 (fun _ => ?_)
  clear hK K ho hb
  simp only [Act.put, List.setIfInBounds_toArray, List.set_cons_zero, List.set_cons_succ]
  refine wpAnyH_ready (rs := [3]) (by kernel_rfl) (by simp) ?_
  refine AllReadyH.cons rfl (fun K hK => ?_) AllReadyH.nil
  refine step_call2 w13 ?_ 10 Tryd.f10 Tryd.func10 ?_ ?_ (.tmp 64) (.tmp 66) #[36, 36] ?_ (.agg x_a) (.agg tc_a) ?_ ?_ _ (HEx.out _ _ w13 (work_of_own (sep_get HS_w13.out 5 rfl)) (work_of_own (sep_get HS_w13.out 0 rfl))) ?_
  · exact rfl
  · decide
  · exact Option.some_ne_none _
  · exact rfl
  · exact rfl
  · exact rfl
  rintro e w14 ⟨rfl, hb⟩
  refine ⟨_, rfl, ?_⟩
  have HS_w14 := hide (sep_below HS_w13.out hb)
  have HB_w14 : Hid (Below a0 w w14) := hide (HB_w13.out.trans (hb.mono (HZ.out _ HB_w13.out)))
  have hS14 : (fun wx => wx.heap[g9]? = some (Obj.cells x_a 36) ∧ wx.heap[a0]? = some (Obj.cells bs 28)) w14 := ⟨sep_get HS_w14.out 4 rfl, sep_get HS_w14.out 10 rfl⟩
  refine hK.out (Act.put _ (some 67) _) _ hS14 (fun _ => ?_)
  clear hK K hb
  simp only [Act.put, List.setIfInBounds_toArray, List.set_cons_zero, List.set_cons_succ]
  refine takeW 4 68 ?_ rfl rfl (by kernel_rfl) (by kernel_rfl) (by kernel_rfl) (fun _ _ _ h => h) (Or.inl ⟨by rfl, ?_⟩) hS14 ?_
  rotate_left
  · (intro wx hSw; (try dsimp only at hSw); go_simp; try with_reducible rfl)
  (try simp only [List.setIfInBounds_toArray, List.set_cons_zero, List.set_cons_succ])
  refine wpAnyH_done (by kernel_rfl) ?_ _
  have HRb : Hid (w14.rangeAt a0 0 bs.toList) := hide (range_all (sep_get HS_w14.out 10 rfl : w14.heap[a0]? = some (Obj.cells bs 28)))
  go_wp2_with fail
  refine (HTp.out _ HB_w14.out).mono ?_
  rintro e w15 ⟨tp_v, rfl, ho, hb⟩
  obtain ⟨tp_x, tp_c, rfl⟩ := own_slice ho
  have Htp := hide (own_cap ho)
  clear HRb
  have hz := HZ.out _ HB_w14.out
  have HS_w15 := hide (sep_add HS_w14.out hb (rowA a0 53 2 (.slice tp_x n tp_c) n (prs L)) (own_down ho hz) (fun j hj => ho.lt j hj) hz)
  have HB_w15 : Hid (Below a0 w w15) := hide (HB_w14.out.trans (hb.mono hz))
  clear hz
  clear ho hb
  have HRb : Hid (w15.rangeAt a0 0 bs.toList) := hide (range_all (sep_get HS_w15.out 11 rfl : w15.heap[a0]? = some (Obj.cells bs 28)))
  go_wp2_with fail
  refine (HEp.out _ _ _ (by rw [HNn.out]; exact row_of_own (sep_get HS_w15.out 4 rfl)) (by rw [HNn.out]; exact row_of_own (sep_get HS_w15.out 0 rfl))).mono ?_
  rintro e w16 ⟨rfl, hb⟩
  clear HRb
  have HS_w16 := hide (sep_below HS_w15.out hb)
  have HB_w16 : Hid (Below a0 w w16) := hide (HB_w15.out.trans (hb.mono (HZ.out _ HB_w15.out)))
  clear hb
  have HRb : Hid (w16.rangeAt a0 0 bs.toList) := hide (range_all (sep_get HS_w16.out 11 rfl : w16.heap[a0]? = some (Obj.cells bs 28)))
  have HR9 : Hid (w16.rangeAt g9 0 x_a.toList) := hide (range_all (sep_get HS_w16.out 5 rfl : w16.heap[g9]? = some (Obj.cells x_a 36)))
  go_wp2_with ((with_reducible refine wpList_loadL ?_ 36 (.tmp 9) ?_ g9 0 ?_ x_a HR9.out _ Tryd.underlying36 ?_ ?_ ?_); exact rfl; exact rfl; exact rfl; exact rfl; exact Hx_a_sz.out)
  clear HRb HR9
  have HSp := hide (sep_pick (pre := [_, _, _, _, _, _, _, _, _, _, _, _]) (rest := []) HS_w16.out [6, 0, 1, 2, 3, 4, 5, 7, 8, 9, 10, 11] (by decide) [_, _, _, _, _, _, _, _, _, _, _, _] rfl)
  clear HS_w16
  have HS_w16 := HSp
  clear HSp
  refine (HMx.out _ _ _ _ HS_w16.out (HZ.out _ HB_w16.out)).mono ?_
  rintro e w17 ⟨rfl, hs, hb⟩
  have HS_w17 := hide (sep_del hs)
  have HB_w17 := hide (HB_w16.out.trans hb)
  clear hs hb
  go_wp2_with fail
  have HSp := hide (sep_pick (pre := [_, _, _, _, _, _, _, _, _, _, _]) (rest := []) HS_w17.out [4, 0, 1, 2, 3, 5, 6, 7, 8, 9, 10] (by decide) [_, _, _, _, _, _, _, _, _, _, _] rfl)
  clear HS_w17
  have HS_w17 := HSp
  clear HSp
  refine (HMp.out _ _ _ _ HS_w17.out (HZ.out _ HB_w17.out)).mono ?_
  rintro e w18 ⟨rfl, hs, hb⟩
  have HS_w18 := hide hs
  have HB_w18 := hide (HB_w17.out.trans hb)
  clear hs hb
  have HR11 : Hid (w18.rangeAt g11 0 g_a.toList) := hide (range_all (sep_get HS_w18.out 2 rfl : w18.heap[g11]? = some (Obj.cells g_a 36)))
  have HR6 : Hid (w18.rangeAt g6 0 s_a.toList) := hide (range_all (sep_get HS_w18.out 5 rfl : w18.heap[g6]? = some (Obj.cells s_a 36)))
  have HRb : Hid (w18.rangeAt a0 0 bs.toList) := hide (range_all (sep_get HS_w18.out 9 rfl : w18.heap[a0]? = some (Obj.cells bs 28)))
  go_wp2_with (first | ((with_reducible refine wpList_loadW ?_ 36 (.tmp 11) ?_ g11 0 ?_ g_a HR11.out _ Tryd.underlying36 ?_ ?_ ?_); exact rfl; exact rfl; exact rfl; exact rfl; exact Hg_a_sz.out) | ((with_reducible refine wpList_loadW ?_ 36 (.tmp 6) ?_ g6 0 ?_ s_a HR6.out _ Tryd.underlying36 ?_ ?_ ?_); exact rfl; exact rfl; exact rfl; exact rfl; exact Hs_a_sz.out))
  refine (HEr.out _ _ _ (work_of_own (sep_get HS_w18.out 3 rfl)) (work_of_own (sep_get HS_w18.out 6 rfl))).mono ?_
  rintro e w19 ⟨rfl, hb⟩
  clear HRb
  have HS_w19 := hide (sep_below HS_w18.out hb)
  have HB_w19 : Hid (Below a0 w w19) := hide (HB_w18.out.trans (hb.mono (HZ.out _ HB_w18.out)))
  clear hb
  have HRb : Hid (w19.rangeAt a0 0 bs.toList) := hide (range_all (sep_get HS_w19.out 9 rfl : w19.heap[a0]? = some (Obj.cells bs 28)))
  clear HR11 HR6
  have HR11 : Hid (w19.rangeAt g11 0 g_a.toList) := hide (range_all (sep_get HS_w19.out 2 rfl : w19.heap[g11]? = some (Obj.cells g_a 36)))
  go_wp2_with ((with_reducible refine wpList_loadL ?_ 36 (.tmp 11) ?_ g11 0 ?_ g_a HR11.out _ Tryd.underlying36 ?_ ?_ ?_); exact rfl; exact rfl; exact rfl; exact rfl; exact Hg_a_sz.out)
  clear HRb HR11
  have HSp := hide (sep_pick (pre := [_, _, _, _, _, _, _, _, _, _]) (rest := []) HS_w19.out [3, 0, 1, 2, 4, 5, 6, 7, 8, 9] (by decide) [_, _, _, _, _, _, _, _, _, _] rfl)
  clear HS_w19
  have HS_w19 := HSp
  clear HSp
  refine (HMr.out _ _ _ _ HS_w19.out (HZ.out _ HB_w19.out)).mono ?_
  rintro e w20 ⟨rfl, hs, hb⟩
  have HS_w20 := hide hs
  have HB_w20 := hide (HB_w19.out.trans hb)
  clear hs hb
  have HR11 : Hid (w20.rangeAt g11 0 g_a.toList) := hide (range_all (sep_get HS_w20.out 3 rfl : w20.heap[g11]? = some (Obj.cells g_a 36)))
  have HRb : Hid (w20.rangeAt a0 0 bs.toList) := hide (range_all (sep_get HS_w20.out 9 rfl : w20.heap[a0]? = some (Obj.cells bs 28)))
  go_wp2_with ((with_reducible refine wpList_loadL ?_ 36 (.tmp 11) ?_ g11 0 ?_ g_a HR11.out _ Tryd.underlying36 ?_ ?_ ?_); exact rfl; exact rfl; exact rfl; exact rfl; exact Hg_a_sz.out)
  clear HR11
  refine (HHr.out _ _ (work_of_own (sep_get HS_w20.out 0 rfl))).mono ?_
  rintro e w21 ⟨rfl, hb⟩
  clear HRb
  have HS_w21 := hide (sep_below HS_w20.out hb)
  have HB_w21 : Hid (Below a0 w w21) := hide (HB_w20.out.trans (hb.mono (HZ.out _ HB_w20.out)))
  clear hb
  have HRb : Hid (w21.rangeAt a0 0 bs.toList) := hide (range_all (sep_get HS_w21.out 9 rfl : w21.heap[a0]? = some (Obj.cells bs 28)))
  go_wp2_with ((with_reducible refine wpList_loadL ?_ 28 (.tmp 2) ?_ a0 0 ?_ bs HRb.out _ Tryd.underlying28 ?_ ?_ ?_); exact rfl; exact rfl; exact rfl; exact rfl; exact Hbs_sz.out)
  refine (HTo.out _ HB_w21.out).mono ?_
  rintro e w22 ⟨td, rfl, ho, hb⟩
  clear HRb
  obtain ⟨td_a, rfl, h1, h2⟩ := work_arr ho
  have htd_a : Hid (td_a.size = 6 ∧ td_a.toList.all (·.oneCell') = true) := hide ⟨h1, h2⟩
  clear h1 h2
  have hz := HZ.out _ HB_w21.out
  have HS_w22 := hide (sep_add HS_w21.out hb (workA a0 (.agg td_a) k) (workOwn_down ho hz) (fun j hj => workOwn_lt ho j hj) hz)
  have HB_w22 : Hid (Below a0 w w22) := hide (HB_w21.out.trans (hb.mono hz))
  clear hz
  clear ho hb
  have HRb : Hid (w22.rangeAt a0 0 bs.toList) := hide (range_all (sep_get HS_w22.out 10 rfl : w22.heap[a0]? = some (Obj.cells bs 28)))
  go_wp2_with fail
  refine (HTp.out _ HB_w22.out).mono ?_
  rintro e w23 ⟨te_v, rfl, ho, hb⟩
  obtain ⟨te_x, te_c, rfl⟩ := own_slice ho
  have Hte := hide (own_cap ho)
  clear HRb
  have hz := HZ.out _ HB_w22.out
  have HS_w23 := hide (sep_add HS_w22.out hb (rowA a0 53 2 (.slice te_x n te_c) n (prs L)) (own_down ho hz) (fun j hj => ho.lt j hj) hz)
  have HB_w23 : Hid (Below a0 w w23) := hide (HB_w22.out.trans (hb.mono hz))
  clear hz
  clear ho hb
  have HRb : Hid (w23.rangeAt a0 0 bs.toList) := hide (range_all (sep_get HS_w23.out 11 rfl : w23.heap[a0]? = some (Obj.cells bs 28)))
  go_wp2_with fail
  refine (HIm.out _ _ _ Hte.out _ (HTb.out _ HB_w23.out) (work_of_own (sep_get HS_w23.out 1 rfl)) (row_of_own (sep_get HS_w23.out 0 rfl))).mono ?_
  rintro e w24 ⟨h, rfl, ho, hb⟩
  clear HRb
  obtain ⟨h_a, rfl, h1, h2⟩ := work_arr ho
  have hh_a : Hid (h_a.size = 6 ∧ h_a.toList.all (·.oneCell') = true) := hide ⟨h1, h2⟩
  clear h1 h2
  have hz := HZ.out _ HB_w23.out
  have HS_w24 := hide (sep_add HS_w23.out hb (workA a0 (.agg h_a) K2) (workOwn_down ho hz) (fun j hj => workOwn_lt ho j hj) hz)
  have HB_w24 : Hid (Below a0 w w24) := hide (HB_w23.out.trans (hb.mono hz))
  clear hz
  clear ho hb
  have HRb : Hid (w24.rangeAt a0 0 bs.toList) := hide (range_all (sep_get HS_w24.out 12 rfl : w24.heap[a0]? = some (Obj.cells bs 28)))
  have hz := HZ.out _ HB_w24.out
  have hs := sep_cellsAll (sep_new HS_w24.out (Obj.cells #[.slice none 0 0, .slice none 0 0, .int .i64 0, .slice none 0 0, .slice none 0 0, .slice none 0 0] 36) hz) 0 rfl h_a (by rw [hh_a.out.1]; rfl)
  have hth : Hid ((w24.alloc (Obj.cells #[.slice none 0 0, .slice none 0 0, .int .i64 0, .slice none 0 0, .slice none 0 0, .slice none 0 0] 36)).there w24.heap.size 0 h_a.size) := hide (by rw [hh_a.out.1]; exact there_of (heap_alloc_new w24 (Obj.cells #[.slice none 0 0, .slice none 0 0, .int .i64 0, .slice none 0 0, .slice none 0 0, .slice none 0 0] 36)) 0 6 (show 0 + 6 ≤ 6 by decide))
  obtain ⟨w25, hw⟩ : ∃ wx, wx = (w24.alloc (Obj.cells #[.slice none 0 0, .slice none 0 0, .int .i64 0, .slice none 0 0, .slice none 0 0, .slice none 0 0] 36)).setCells w24.heap.size 0 h_a.toList := ⟨_, rfl⟩
  have HB_w25 : Hid (Below a0 w w25) := hide (by rw [hw]; exact below_cells hz _ 0 _ (HB_w24.out.alloc hz _))
  obtain ⟨g17, hg⟩ : ∃ g, g = w24.heap.size := ⟨_, rfl⟩
  rw [← hw, ← hg] at hs
  have HS_w25 := hide hs
  have HW := hide hw.symm
  have Hh_a_sz : Hid ((Tryd.prog.info? 36).map (·.size) = some h_a.size) := hide (by rw [hh_a.out.1]; exact Tryd.sizeWorkB)
  have Hh_a_o := hide hh_a.out.2
  clear hz hs hw
  go_upto_region 32 with ((with_reducible refine wpList_storeL ?_ 36 (.tmp 17) (.tmp 115) ?_ w24.heap.size 0 h_a ?_ ?_ hth.out ?_ ?_ HW.out ?_); exact rfl; exact rfl; exact rfl; exact rfl; exact Hh_a_sz.out; exact Hh_a_o.out)
  rw [← hg]
  clear hg hth HW
  clear HRb
  have HR17 : Hid (w25.rangeAt g17 0 h_a.toList) := hide (range_all (sep_get HS_w25.out 0 rfl : w25.heap[g17]? = some (Obj.cells h_a 36)))
  have HR6 : Hid (w25.rangeAt g6 0 s_a.toList) := hide (range_all (sep_get HS_w25.out 9 rfl : w25.heap[g6]? = some (Obj.cells s_a 36)))
  have HRb : Hid (w25.rangeAt a0 0 bs.toList) := hide (range_all (sep_get HS_w25.out 13 rfl : w25.heap[a0]? = some (Obj.cells bs 28)))
  go_wp2_with (first | ((with_reducible refine wpList_loadL ?_ 36 (.tmp 17) ?_ g17 0 ?_ h_a HR17.out _ Tryd.underlying36 ?_ ?_ ?_); exact rfl; exact rfl; exact rfl; exact rfl; exact Hh_a_sz.out) | ((with_reducible refine wpList_loadL ?_ 36 (.tmp 6) ?_ g6 0 ?_ s_a HR6.out _ Tryd.underlying36 ?_ ?_ ?_); exact rfl; exact rfl; exact rfl; exact rfl; exact Hs_a_sz.out))
  refine (HEr.out _ _ _ (work_of_own (sep_get HS_w25.out 1 rfl)) (work_of_own (sep_get HS_w25.out 10 rfl))).mono ?_
  rintro e w26 ⟨rfl, hb⟩
  clear HRb
  have HS_w26 := hide (sep_below HS_w25.out hb)
  have HB_w26 : Hid (Below a0 w w26) := hide (HB_w25.out.trans (hb.mono (HZ.out _ HB_w25.out)))
  clear hb
  have HRb : Hid (w26.rangeAt a0 0 bs.toList) := hide (range_all (sep_get HS_w26.out 13 rfl : w26.heap[a0]? = some (Obj.cells bs 28)))
  clear HR17 HR6
  have HR11 : Hid (w26.rangeAt g11 0 g_a.toList) := hide (range_all (sep_get HS_w26.out 7 rfl : w26.heap[g11]? = some (Obj.cells g_a 36)))
  go_wp2_with ((with_reducible refine wpList_loadL ?_ 36 (.tmp 11) ?_ g11 0 ?_ g_a HR11.out _ Tryd.underlying36 ?_ ?_ ?_); exact rfl; exact rfl; exact rfl; exact rfl; exact Hg_a_sz.out)
  clear HR11
  refine (HHr.out _ _ (work_of_own (sep_get HS_w26.out 4 rfl))).mono ?_
  rintro e w27 ⟨rfl, hb⟩
  clear HRb
  have HS_w27 := hide (sep_below HS_w26.out hb)
  have HB_w27 : Hid (Below a0 w w27) := hide (HB_w26.out.trans (hb.mono (HZ.out _ HB_w26.out)))
  clear hb
  go_wp2_with fail
  go_ret
  exact ⟨rfl, HB_w27.out⟩

end Go.Proofs.YtacmpggigdlmmaaDoor

namespace Go.Proofs.YtacmpggigdlmmaaDoor
open Go.RowKit Go.ChangeShapes Go.WideShapes Go.Deep

theorem row_strs {H : Type} {enc : TypeId × Value → H} {W : World} {base : Nat} {spare : Nat → Bool} {held : Bool} {fuel : Nat} {v : Value} {x : DataW H × List MemPlace}
    (h : DataW.trod enc Tryd.prog W base spare held fuel 22 [v] = some x) : ∃ ps : List ByteArray, RowAt W 1 v ps.length (strs ps) ∧ ps.length ≤ maxLen ∧ ∀ s ∈ ps, s.size ≤ maxLen := by
  rcases open_strs Tryd.underlying22 Tryd.underlying9 (by kernel_rfl) h with ⟨hcs, -⟩ | ⟨a, len, cap, m, Sx, hcs, -, hl, hm, hmm, -, hx⟩
  · injection hcs with hcs
    subst hcs
    exact ⟨[], ⟨rfl, none, 0, rfl, Or.inl rfl⟩, by unfold maxLen; simp, fun s hs => by cases hs⟩
  · injection hcs with hcs
    subst hcs
    have hlm : len ≤ m := by rw [hmm]; split <;> omega
    refine ⟨(List.range len).map Sx, ?_, by simp; omega, fun s hs => ?_⟩
    · rw [List.length_map, List.length_range]
      refine ⟨by rw [strs_length]; simp, some a, cap, rfl, ?_⟩
      by_cases h0 : len = 0
      · exact Or.inl h0
      · obtain ⟨b, off, spot⟩ := a
        have hc := (hx 0 (by omega)).1
        obtain rfl : spot = none := by simpa [Addr.add] using World.cell?_spot hc
        refine Or.inr ⟨b, off, rfl, World.block_lt_of_cell? W _ (by simpa [Addr.add] using hc : W.cell? ⟨b, off, none⟩ = _), fun j hj => ?_⟩
        have hj' : j < len := by omega
        have := (hx j (by omega)).1
        rw [Addr.add_lit] at this
        rw [this, strs_at _ j (by simpa using hj')]
        simp
    · obtain ⟨i, hi, rfl⟩ := List.mem_map.1 hs
      exact (hx i (by have := List.mem_range.1 hi; omega)).2

theorem row_puts {H : Type} {enc : TypeId × Value → H} {W : World} {base : Nat} {spare : Nat → Bool} {held : Bool} {fuel : Nat} {v : Value} {x : DataW H × List MemPlace}
    (h : DataW.trod enc Tryd.prog W base spare held fuel 23 [v] = some x) : ∃ ls : List (Int × ByteArray), RowAt W 2 v ls.length (puts ls) ∧ ls.length ≤ maxLen ∧ ∀ p ∈ ls, p.2.size ≤ maxLen := by
  rcases open_slice_pairs Tryd.underlying23 Tryd.underlying90 (by kernel_rfl) rfl rfl (by kernel_rfl) (by kernel_rfl) h with ⟨hcs, -⟩ | ⟨a, len, cap, m, n, V0, V1, D0, D1, P0, P1, hcs, -, hl, hm, hmm, -, hx⟩
  · injection hcs with hcs
    subst hcs
    exact ⟨[], ⟨rfl, none, 0, rfl, Or.inl rfl⟩, by unfold maxLen; simp, fun s hs => by cases hs⟩
  · injection hcs with hcs
    subst hcs
    have hlm : len ≤ m := by rw [hmm]; split <;> omega
    have each : ∀ i, i < m → ∃ q : Int × ByteArray, V0 i = .int .i64 q.1 ∧ V1 i = .string q.2 ∧ q.2.size ≤ maxLen := fun i hi => by
      obtain ⟨h1, h2, h3, h4⟩ := hx i hi
      obtain ⟨k, e1, e2, -⟩ := DataW.trod_int Tryd.underlying3 h3
      obtain ⟨s, g1, g2, g3⟩ := DataW.trod_string Tryd.underlying9 h4
      exact ⟨(k, s), by simpa using e1, by simpa using g1, g3⟩
    obtain ⟨q, hq⟩ := choose_lt each
    refine ⟨(List.range len).map q, ?_, by simp; omega, fun s hs => ?_⟩
    · rw [List.length_map, List.length_range]
      refine ⟨by rw [puts_length]; simp, some a, cap, rfl, ?_⟩
      by_cases h0 : len = 0
      · exact Or.inl h0
      · obtain ⟨b, off, spot⟩ := a
        have hc := (hx 0 (by omega)).1
        obtain rfl : spot = none := by simpa [Addr.add] using World.cell?_spot hc
        refine Or.inr ⟨b, off, rfl, World.block_lt_of_cell? W _ (by simpa [Addr.add] using hc : W.cell? ⟨b, off, none⟩ = _), fun j hj => ?_⟩
        have hi : j / 2 < len := by omega
        obtain ⟨h1, h2, -, -⟩ := hx (j / 2) (by omega)
        rw [Addr.add_lit] at h1 h2
        have hp := puts_at ((List.range len).map q) (j / 2) (by simpa using hi)
        rcases Nat.mod_two_eq_zero_or_one j with e | e
        · rw [show j = j / 2 * 2 from by omega, hp.1, h1, (hq (j / 2) (by omega)).1]
          simp
        · rw [show j = j / 2 * 2 + 1 from by omega, hp.2, h2, (hq (j / 2) (by omega)).2.1]
          simp
    · obtain ⟨i, hi, rfl⟩ := List.mem_map.1 hs
      exact (hq i (by have := List.mem_range.1 hi; omega)).2.2

set_option maxRecDepth 100000 in
theorem open_disk {H : Type} {enc : TypeId × Value → H} {W : World} {r : Reach} {b0 base : Nat} {spare : Nat → Bool} {held : Bool} {v : Value} {d : DataW H} {p : List MemPlace}
    (hv : Value.okWide Tryd.prog W r b0 25 v) (h : DataW.Trod enc Tryd.prog W base spare held 25 v d p) :
    ∃ ps ls, DiskAt W v ps ls ∧ ps.length ≤ maxLen ∧ (∀ s ∈ ps, s.size ≤ maxLen) ∧ ls.length ≤ maxLen ∧ ∀ p ∈ ls, p.2.size ≤ maxLen := by
  obtain ⟨v0, v1, y0, y1, n, rfl, -, -, h0, h1⟩ := Joins.open_agg2 Tryd.underlying25 (by kernel_rfl) (by kernel_rfl) hv h
  obtain ⟨ps, hp1, hp2, hp3⟩ := row_strs h0
  obtain ⟨ls, hl1, hl2, hl3⟩ := row_puts h1
  exact ⟨ps, ls, ⟨v0, v1, rfl, hp1, hl1⟩, hp2, hp3, hl2, hl3⟩
end Go.Proofs.YtacmpggigdlmmaaDoor

namespace Go.Proofs.YtacmpggigdlmmaaDoor
open Go.RowKit Go.ChangeShapes Go.WideShapes Go.Deep

theorem array6 {α : Type} {cs : Array α} (h : cs.size = 6) : ∃ c0 c1 c2 c3 c4 c5, cs = #[c0, c1, c2, c3, c4, c5] := by
  obtain ⟨l⟩ := cs
  match l, h with
  | [c0, c1, c2, c3, c4, c5], _ => exact ⟨c0, c1, c2, c3, c4, c5, rfl⟩

theorem row_intsW {H : Type} {enc : TypeId × Value → H} {W : World} {base : Nat} {spare : Nat → Bool} {held : Bool} {fuel : Nat} {v : Value} {x : DataW H × List MemPlace}
    (h : DataW.trod enc Tryd.prog W base spare held fuel 26 [v] = some x) : ∃ cs : List Int, RowAt W 1 v cs.length (ints cs) ∧ cs.length ≤ maxLen ∧ ∃ a cap, v = .slice a cs.length cap ∧ cs.length ≤ cap := by
  rcases open_ints Tryd.underlying26 Tryd.underlying3 (by kernel_rfl) h with ⟨hcs, -⟩ | ⟨a, len, cap, zs, hcs, -, hl, hm, hz, -, hx, -⟩
  · injection hcs with hcs
    subst hcs
    exact ⟨[], ⟨rfl, none, 0, rfl, Or.inl rfl⟩, by unfold maxLen; simp, none, 0, rfl, Nat.le_refl _⟩
  · injection hcs with hcs
    subst hcs
    have hlm : len ≤ zs.length := by rw [hz]; split <;> omega
    have hlen : (zs.take len).length = len := by rw [List.length_take]; omega
    refine ⟨zs.take len, ?_, by omega, some a, cap, by rw [hlen], by omega⟩
    rw [hlen]
    refine ⟨by rw [ints_length, hlen]; simp, some a, cap, rfl, ?_⟩
    by_cases h0 : len = 0
    · exact Or.inl h0
    · obtain ⟨b, off, spot⟩ := a
      have hc := hx 0 (by omega)
      obtain rfl : spot = none := by simpa [Addr.add] using World.cell?_spot hc
      refine Or.inr ⟨b, off, rfl, World.block_lt_of_cell? W _ (by simpa [Addr.add] using hc : W.cell? ⟨b, off, none⟩ = _), fun j hj => ?_⟩
      have hj' : j < len := by omega
      have := hx j (by omega)
      rw [Addr.add_lit] at this
      rw [this, ints_at _ j (by omega)]
      simp [List.getD, show j < zs.length by omega]

theorem Tryd.cellsWork : Tryd.prog.cellsOf 28 = 6 := by kernel_rfl

set_option maxRecDepth 100000 in
theorem open_work {H : Type} {enc : TypeId × Value → H} {W : World} {r : Reach} {b0 base : Nat} {spare : Nat → Bool} {held : Bool} {v : Value} {d : DataW H} {p : List MemPlace}
    (hv : Value.okWide Tryd.prog W r b0 28 v) (h : DataW.Trod enc Tryd.prog W base spare held 28 v d p) : ∃ k : Wk, WorkAt W v k ∧ k.fits := by
  obtain ⟨cs, rfl, hsz⟩ := okWide_struct Tryd.underlying28 hv
  obtain ⟨c0, c1, c2, c3, c4, c5, rfl⟩ := array6 (hsz.trans Tryd.cellsWork)
  obtain ⟨fuel, hf⟩ := h
  obtain ⟨xs, n, -, -, -, hlen, hfs⟩ := DataW.trod_struct Tryd.underlying28 hf
  match xs, hlen with
  | [y0, y1, y2, y3, y4], _ =>
    have h0 := hfs 0 _ rfl
    have h1 := hfs 1 _ rfl
    have h2 := hfs 2 _ rfl
    have h3 := hfs 3 _ rfl
    have h4 := hfs 4 _ rfl
    replace h0 : DataW.trod enc Tryd.prog W base spare held n 25 [c0, c1] = some y0 := h0
    replace h1 : DataW.trod enc Tryd.prog W base spare held n 3 [c2] = some y1 := h1
    replace h2 : DataW.trod enc Tryd.prog W base spare held n 26 [c3] = some y2 := h2
    replace h3 : DataW.trod enc Tryd.prog W base spare held n 26 [c4] = some y3 := h3
    replace h4 : DataW.trod enc Tryd.prog W base spare held n 26 [c5] = some y4 := h4
    obtain ⟨z0, z1, m, -, -, g0, g1⟩ := trod_struct2 Tryd.underlying25 h0
    replace g0 : DataW.trod enc Tryd.prog W base spare held m 22 [c0] = some z0 := g0
    replace g1 : DataW.trod enc Tryd.prog W base spare held m 23 [c1] = some z1 := g1
    obtain ⟨ps, a1, a2, a3⟩ := row_strs g0
    obtain ⟨ls, b1, b2, b3⟩ := row_puts g1
    obtain ⟨nx, e1, -⟩ := DataW.trod_int Tryd.underlying3 h1
    have e1 : c2 = .int .i64 nx := by injection e1 with e1
    subst e1
    obtain ⟨us, u1, u2, u3⟩ := row_intsW h2
    obtain ⟨gs, g1', g2', -⟩ := row_intsW h3
    obtain ⟨fs, f1', f2', -⟩ := row_intsW h4
    exact ⟨⟨ps, ls, nx, us, gs, fs⟩, ⟨c0, c1, c3, c4, c5, rfl, ⟨c0, c1, rfl, a1, b1⟩, u1, g1', f1', u3⟩, a2, a3, b2, b3, u2, g2', f2'⟩
end Go.Proofs.YtacmpggigdlmmaaDoor

namespace Go.Proofs.YtacmpggigdlmmaaDoor
open Go.RowKit Go.ChangeShapes Go.WideShapes Go.Deep

theorem row_prs {H : Type} {enc : TypeId × Value → H} {W : World} {base : Nat} {spare : Nat → Bool} {held : Bool} {fuel : Nat} {v : Value} {x : DataW H × List MemPlace}
    (h : DataW.trod enc Tryd.prog W base spare held fuel 29 [v] = some x) : ∃ ls : List (ByteArray × ByteArray), RowAt W 2 v ls.length (prs ls) ∧ ls.length ≤ maxLen ∧ ∀ p ∈ ls, p.1.size ≤ maxLen ∧ p.2.size ≤ maxLen := by
  rcases open_slice_pairs Tryd.underlying29 Tryd.underlying51 (by kernel_rfl) rfl rfl (by kernel_rfl) (by kernel_rfl) h with ⟨hcs, -⟩ | ⟨a, len, cap, m, n, V0, V1, D0, D1, P0, P1, hcs, -, hl, hm, hmm, -, hx⟩
  · injection hcs with hcs
    subst hcs
    exact ⟨[], ⟨rfl, none, 0, rfl, Or.inl rfl⟩, by unfold maxLen; simp, fun s hs => by cases hs⟩
  · injection hcs with hcs
    subst hcs
    have hlm : len ≤ m := by rw [hmm]; split <;> omega
    have each : ∀ i, i < m → ∃ q : ByteArray × ByteArray, V0 i = .string q.1 ∧ V1 i = .string q.2 ∧ q.1.size ≤ maxLen ∧ q.2.size ≤ maxLen := fun i hi => by
      obtain ⟨h1, h2, h3, h4⟩ := hx i hi
      obtain ⟨k, e1, e2, e3⟩ := DataW.trod_string Tryd.underlying9 h3
      obtain ⟨s, g1, g2, g3⟩ := DataW.trod_string Tryd.underlying9 h4
      exact ⟨(k, s), by simpa using e1, by simpa using g1, e3, g3⟩
    obtain ⟨q, hq⟩ := choose_lt each
    refine ⟨(List.range len).map q, ?_, by simp; omega, fun s hs => ?_⟩
    · rw [List.length_map, List.length_range]
      refine ⟨by rw [prs_length]; simp, some a, cap, rfl, ?_⟩
      by_cases h0 : len = 0
      · exact Or.inl h0
      · obtain ⟨b, off, spot⟩ := a
        have hc := (hx 0 (by omega)).1
        obtain rfl : spot = none := by simpa [Addr.add] using World.cell?_spot hc
        refine Or.inr ⟨b, off, rfl, World.block_lt_of_cell? W _ (by simpa [Addr.add] using hc : W.cell? ⟨b, off, none⟩ = _), fun j hj => ?_⟩
        have hi : j / 2 < len := by omega
        obtain ⟨h1, h2, -, -⟩ := hx (j / 2) (by omega)
        rw [Addr.add_lit] at h1 h2
        have hp := prs_at ((List.range len).map q) (j / 2) (by simpa using hi)
        rcases Nat.mod_two_eq_zero_or_one j with e | e
        · rw [show j = j / 2 * 2 from by omega, hp.1, h1, (hq (j / 2) (by omega)).1]
          simp
        · rw [show j = j / 2 * 2 + 1 from by omega, hp.2, h2, (hq (j / 2) (by omega)).2.1]
          simp
    · obtain ⟨i, hi, rfl⟩ := List.mem_map.1 hs
      exact (hq i (by have := List.mem_range.1 hi; omega)).2.2

end Go.Proofs.YtacmpggigdlmmaaDoor
