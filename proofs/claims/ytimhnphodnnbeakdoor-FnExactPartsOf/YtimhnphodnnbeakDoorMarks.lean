/-
  The laws' own helpers over lists of texts, by their contracts: markText, eqStringS (of two rows that hold the same), markStringS, heldStringS (of a row that holds the marks).
-/
import Derived.Test.YtimhnphodnnbeakDoorPartsSpec
import Derived.Test.YtimhnphodnnbeakDoorDec
import Derived.BigQuiet
import Derived.Deep.QuietTactic
import Derived.Deep.RegionHeld3
import Derived.Deep.DrawnRows
import Derived.Laws.OwnMore
namespace Go.Proofs.YtimhnphodnnbeakDoor
open Go.RowKit
attribute [local go_sem ↓] Go.wp_at_zero Go.wp_at_succ

/-- the mark of k -/
def markL (k : Nat) : List UInt8 := 109 :: decF 20 k

set_option maxHeartbeats 1000000 in
set_option maxRecDepth 100000 in
theorem markText_any (n : Nat) (h0 : 0 < n) (h1 : n ≤ 9223372036854775807) (w : World) :
    Calls Tryd.prog 17 #[.int .i64 (n : Int)] w fun e w' => e = .returned (strV (markL n)) ∧ Below w.heap.size w w' := by
  have hnn : decide ((n : Int) ≤ 0) = false := by simp; omega
  go_enter Tryd.func17, Tryd.ntmps17
  go_wp2
  go_loopg [0, 3] 20 (fun g nv sv wr => ∃ (m : Nat) (t : ByteArray), nv = .int .i64 (m : Int) ∧ sv = .string t ∧ m ≤ 9223372036854775807 ∧ t.size ≤ 20 - g ∧ g ≤ 20 ∧ Hid (m < 10 ^ g) ∧ Hid (∃ L : List UInt8, t = ⟨L.toArray⟩ ∧ decF g m ++ L = decF 20 n) ∧ Below w.heap.size w wr)
  case atStart => exact ⟨n, ⟨#[]⟩, rfl, rfl, h1, Nat.le_refl 0, by omega, hide (pow20 n (by omega)), hide ⟨[], rfl, by simp⟩, Below.refl _ _⟩
  case round =>
    obtain ⟨m, t, rfl, rfl, hm, hts, hg20, HF, HL, hb⟩ := hrel
    have hB := hb.size
    by_cases hz : m = 0
    · have HE : Hid ((⟨#[109]⟩ ++ t : ByteArray) = ⟨(markL n).toArray⟩) := hide (by
        obtain ⟨L, hL, hd⟩ := HL.out
        rw [hz, decF_zero, List.nil_append] at hd
        rw [hL, hd, str_cons]; rfl)
      have hmz : ¬ 0 < m := by omega
      clear hz
      go_wp2
      go_ret
      refine ⟨?_, hb⟩
      rw [strV, ← HE.out]; rfl
    · have hmz : 0 < m := by omega
      obtain ⟨q, hq, hf', hdec⟩ := decF_step gk m hz HF.out
      obtain ⟨f, hf⟩ : ∃ f, f = 48 + m % 10 := ⟨_, rfl⟩
      have hf256 : f < 256 := by omega
      have hfi : (48 : Int) + (m : Int) % 10 = (f : Int) := by omega
      have hso := string_one wr f hf256
      have HQ := hide hq
      have HF' := hide hf'
      have HD : Hid (∃ L : List UInt8, (⟨#[UInt8.ofNat f]⟩ ++ t : ByteArray) = ⟨L.toArray⟩ ∧ decF q (m / 10) ++ L = decF 20 n) := hide (by
        obtain ⟨L, hL, hd⟩ := HL.out
        refine ⟨UInt8.ofNat f :: L, by rw [hL, str_cons], ?_⟩
        rw [← hd, hdec, hf, List.append_assoc]; rfl)
      have hg1 : 1 ≤ gk := by omega
      clear hq hf' hdec hf hz
      go_wp2
      go_roundg q
      case measure => have := HQ.out; omega
      case rel => exact ⟨m / 10, ⟨#[UInt8.ofNat f]⟩ ++ t, by go_num, rfl, by omega, by have := HQ.out; have h1 : (⟨#[UInt8.ofNat f]⟩ : ByteArray).size = 1 := rfl; rw [ByteArray.size_append, h1]; omega, by have := HQ.out; omega, HF', HD, hb.alloc hB _⟩

/-- a row's value: empty, or at the head of a block -/
theorem own_forms {w : World} {B e sz n : Nat} {v : Value} {xs : List Value} (h : w.ownsRow B e sz v n xs) : (∃ ao cap, v = .slice ao 0 cap ∧ n = 0) ∨ (0 < n ∧ ∃ g cap, v = .slice (some ⟨g, 0, none⟩) n cap ∧ g < w.heap.size) := by
  rcases h.2 with ⟨rfl, rfl⟩ | ⟨g, cap, cur, rfl, -⟩
  · exact Or.inl ⟨none, 0, rfl, rfl⟩
  · by_cases hn : n = 0
    · subst hn; exact Or.inl ⟨_, _, rfl, rfl⟩
    · exact Or.inr ⟨by omega, g, cap, rfl, (h.lt g rfl).2⟩

set_option maxHeartbeats 400000 in
theorem eqS_empty (ao bo : Option Addr) (c d : Nat) (w : World) : Calls Tryd.prog 9 #[.slice ao 0 c, .slice bo 0 d] w fun e w' => e = .returned (.bool true) ∧ w = w' := by
  go_enter Tryd.func9, Tryd.ntmps9
  go_wp2
  refine wp_loop_rounds 1 ?_
  rw [rounds_succ]
  go_wp2
  go_ret
  exact ⟨rfl, rfl⟩

set_option maxHeartbeats 1000000 in
set_option maxRecDepth 100000 in
theorem eqStringS_same (L : List (List UInt8)) (hL : L.length ≤ 1048576) (a b : Value) (A B : Nat) (w : World) (ha : w.ownsRow A 9 1 a L.length (strVs L)) (hb : w.ownsRow B 9 1 b L.length (strVs L)) :
    Calls Tryd.prog 9 #[a, b] w fun e w' => e = .returned (.bool true) ∧ Below w.heap.size w w' := by
  rcases own_forms ha with ⟨ao, c, rfl, hn⟩ | ⟨hpos, g, c, rfl, hglt⟩
  · rcases own_forms hb with ⟨bo, d, rfl, _⟩ | ⟨hp, _⟩
    · refine (eqS_empty ao bo c d w).mono ?_
      rintro e w1 ⟨rfl, rfl⟩
      exact ⟨rfl, Below.refl _ _⟩
    · omega
  · rcases own_forms hb with ⟨_, _, _, hn⟩ | ⟨_, g2, d, rfl, hglt2⟩
    · omega
    · go_enter Tryd.func9, Tryd.ntmps9
      go_wp2
      go_loopg [5] L.length (fun q iv wr => ∃ k : Nat, k ≤ L.length ∧ iv = .int .i64 (k : Int) ∧ q + k = L.length ∧ Below w.heap.size w wr)
      case atStart => exact ⟨0, Nat.zero_le _, rfl, rfl, Below.refl _ _⟩
      case round =>
        obtain ⟨k, hk, rfl, hg, hbw⟩ := hrel
        have HG := hide hg
        clear hg
        by_cases hlt : k < L.length
        · obtain ⟨x, hx⟩ : ∃ x : ByteArray, x = ⟨(L[k]).toArray⟩ := ⟨_, rfl⟩
          have hget : (strVs L)[k]? = some (.string x) := by rw [hx]; simp [strVs, strV, hlt]
          have hc1 : wr.cell? ⟨g, k, none⟩ = some (.string x) := by rw [hbw.cell (by exact hglt), ha.cellAt k (by omega), hget]
          have hc2 : wr.cell? ⟨g2, k, none⟩ = some (.string x) := by rw [hbw.cell (by exact hglt2), hb.cellAt k (by omega), hget]
          have hk0 : (0 : Int) ≤ (k : Int) := by omega
          have hk1 : (k : Int) < (L.length : Int) := by omega
          clear hx hget
          go_wp2
          go_quiet (fail)
          go_wp2
          go_roundg (gk - 1)
          case measure => have := HG.out; omega
          case rel => exact ⟨k + 1, by omega, by go_num, by have := HG.out; omega, below_drewN hbw _⟩
        · go_wp2
          go_ret
          exact ⟨rfl, hbw⟩

/-- the marks from k on, n of them -/
def marksL (k n : Nat) : List (List UInt8) := (List.range n).map fun i => markL (k + i)
theorem marksL_length (k n : Nat) : (marksL k n).length = n := by simp [marksL]
theorem marksL_snoc (k n : Nat) : marksL k (n + 1) = marksL k n ++ [markL (k + n)] := by simp [marksL, List.range_succ]
theorem marksL_at (k n i : Nat) (h : i < n) : (strVs (marksL k n))[i]? = some (strV (markL (k + i))) := by simp [strVs, marksL, h]

theorem marks_set (k n : Nat) (L : List (List UInt8)) (h : n < L.length) : (strVs (marksL k n ++ L.drop n)).set n (strV (markL (k + n))) = strVs (marksL k (n + 1) ++ L.drop (n + 1)) := by
  have e : ∀ (A R : List Value) (x y : Value), (A ++ x :: R).set A.length y = A ++ y :: R := fun A R x y => by
    induction A with
    | nil => rfl
    | cons a A ih => simp [ih]
  rw [List.drop_eq_getElem_cons h, marksL_snoc]
  have h1 := e (strVs (marksL k n)) (strVs (L.drop (n + 1))) (strV L[n]) (strV (markL (k + n)))
  rw [strVs_length, marksL_length] at h1
  simp only [strVs, List.map_append, List.map_cons, List.append_assoc, List.singleton_append] at h1 ⊢
  exact h1

theorem own_len {w : World} {B e n m : Nat} {v : Value} {xs : List Value} (h : w.ownsRow B e 1 v n xs) (hm : n = m) : w.ownsRow B e 1 v m xs := by subst hm; exact h

theorem own_base {w : World} {B e sz n : Nat} {g c : Nat} {xs : List Value} (h : w.ownsRow B e sz (.slice (some ⟨g, 0, none⟩) n c) n xs) : B ≤ g := (h.lt g rfl).1

theorem own_still {w w' : World} {B e sz n : Nat} {v : Value} {xs : List Value} {C : Nat} (h : w.ownsRow B e sz v n xs) (hb : Below C w w') (hC : ∀ k, v.ownBlock = some k → k < C) : w'.ownsRow B e sz v n xs := by
  refine ⟨h.1, ?_⟩
  rcases h.2 with ⟨rfl, hn⟩ | ⟨g, cap, cur, rfl, hg, hh, rest⟩
  · exact Or.inl ⟨rfl, hn⟩
  · exact Or.inr ⟨g, cap, cur, rfl, hg, (hb.block g (hC g rfl)).trans hh, rest⟩

set_option maxHeartbeats 400000 in
theorem markS_empty (ao : Option Addr) (c k : Nat) (w : World) : Calls Tryd.prog 10 #[.slice ao 0 c, .int .i64 (k : Int)] w fun e w' => e = .returned (.int .i64 (k : Int)) ∧ w = w' := by
  go_enter Tryd.func10, Tryd.ntmps10
  go_wp2
  refine wp_loop_rounds 1 ?_
  rw [rounds_succ]
  go_wp2
  go_ret
  exact ⟨rfl, rfl⟩

set_option maxHeartbeats 1000000 in
set_option maxRecDepth 100000 in
theorem markStringS_any (L : List (List UInt8)) (hL : L.length ≤ 1048576) (a : Value) (B k0 : Nat) (hk0 : 0 < k0) (hk1 : k0 ≤ 1048576000) (w : World) (ha : w.ownsRow B 9 1 a L.length (strVs L)) (hB : B ≤ w.heap.size) :
    Calls Tryd.prog 10 #[a, .int .i64 (k0 : Int)] w fun e w' => e = .returned (.int .i64 ((k0 + L.length : Nat) : Int)) ∧ w'.ownsRow B 9 1 a L.length (strVs (marksL k0 L.length)) ∧ Below B w w' := by
  rcases own_forms ha with ⟨ao, c, rfl, hn⟩ | ⟨hpos, g, c, rfl, hglt⟩
  · refine (markS_empty ao c k0 w).mono ?_
    rintro e w1 ⟨rfl, rfl⟩
    obtain rfl : L = [] := List.length_eq_zero_iff.1 hn
    exact ⟨rfl, ha, Below.refl _ _⟩
  · have hBg := own_base ha
    go_enter Tryd.func10, Tryd.ntmps10
    go_wp2
    go_loopg [1, 5] L.length (fun q kv iv wr => ∃ k : Nat, k ≤ L.length ∧ kv = .int .i64 ((k0 + k : Nat) : Int) ∧ iv = .int .i64 (k : Int) ∧ q + k = L.length ∧ wr.ownsRow B 9 1 (.slice (some ⟨g, 0, none⟩) L.length c) L.length (strVs (marksL k0 k ++ L.drop k)) ∧ Below B w wr)
    case atStart => exact ⟨0, Nat.zero_le _, rfl, rfl, rfl, ha, Below.refl _ _⟩
    case round =>
      obtain ⟨k, hk, rfl, rfl, hg, hown, hb⟩ := hrel
      have HG := hide hg
      clear hg
      have hBw := hb.size
      by_cases hlt : k < L.length
      · have HC := hide (markText_any (k0 + k) (by omega) (by omega))
        have hi0 : (0 : Int) ≤ (k : Int) := by omega
        have hi1 : (k : Int) < (L.length : Int) := by omega
        rw [show ((k0 + k : Nat) : Int) = (k0 : Int) + (k : Int) from by omega] at HC
        go_wp2_with fail
        refine (HC.out _).mono ?_
        rintro e w2 ⟨rfl, hb2⟩
        have hown2 := own_still hown hb2 (fun j hj => by have := (hown.lt j hj).2; exact this)
        have hfz : w2.frozen? ⟨g, k, none⟩ = false := hown2.frozenAt k
        obtain ⟨u, hu⟩ : ∃ u, (strVs (marksL k0 k ++ L.drop k))[k]? = some u := ⟨_, List.getElem?_eq_getElem (by rw [hown.1]; omega)⟩
        have hcell2 : w2.cell? ⟨g, k, none⟩ = some u := by rw [hown2.cellAt k (by omega), hu]
        have hb3 : Below B w w2 := hb.trans (hb2.mono (by omega))
        have HO := hide ((hown2.stored k (strV (markL (k0 + k)))).1)
        rw [marks_set k0 k L hlt] at HO
        unfold strV at HO
        unfold strV
        clear hb2 hown hu
        go_wp2_with fail
        go_roundg (gk - 1)
        case measure => have := HG.out; omega
        case rel => exact ⟨k + 1, by omega, by go_num, by go_num, by have := HG.out; omega, HO.out, hb3.setCell (by exact hBg) _⟩
      · have hkn : k = L.length := by omega
        have HO : Hid (wr.ownsRow B 9 1 (.slice (some ⟨g, 0, none⟩) L.length c) L.length (strVs (marksL k0 L.length))) := hide (by
          rw [hkn, List.drop_length, List.append_nil] at hown; exact hown)
        have HK := hide hkn
        clear hkn hown
        go_wp2_with fail
        go_ret
        exact ⟨by rw [HK.out]; rfl, HO.out, hb⟩

set_option maxHeartbeats 400000 in
theorem heldS_empty (ao : Option Addr) (c k : Nat) (w : World) : Calls Tryd.prog 11 #[.slice ao 0 c, .int .i64 (k : Int)] w fun e w' => e = .returned (.int .i64 (k : Int)) ∧ w = w' := by
  go_enter Tryd.func11, Tryd.ntmps11
  go_wp2
  refine wp_loop_rounds 1 ?_
  rw [rounds_succ]
  go_wp2
  go_ret
  exact ⟨rfl, rfl⟩

set_option maxHeartbeats 2000000 in
set_option maxRecDepth 100000 in
theorem heldStringS_any (n : Nat) (hn : n ≤ 1048576) (a : Value) (B k0 : Nat) (hk0 : 0 < k0) (hk1 : k0 ≤ 1048576000) (w : World) (ha : w.ownsRow B 9 1 a n (strVs (marksL k0 n))) :
    Calls Tryd.prog 11 #[a, .int .i64 (k0 : Int)] w fun e w' => e = .returned (.int .i64 ((k0 + n : Nat) : Int)) ∧ Below w.heap.size w w' := by
  rcases own_forms ha with ⟨ao, c, rfl, hn0⟩ | ⟨hpos, g, c, rfl, hglt⟩
  · refine (heldS_empty ao c k0 w).mono ?_
    rintro e w1 ⟨rfl, rfl⟩
    subst hn0
    exact ⟨rfl, Below.refl _ _⟩
  · go_enter Tryd.func11, Tryd.ntmps11
    go_wp2
    go_loopg [1, 5] n (fun q kv iv wr => ∃ k : Nat, k ≤ n ∧ kv = .int .i64 ((k0 + k : Nat) : Int) ∧ iv = .int .i64 (k : Int) ∧ q + k = n ∧ Below w.heap.size w wr)
    case atStart => exact ⟨0, Nat.zero_le _, rfl, rfl, rfl, Below.refl _ _⟩
    case round =>
      obtain ⟨k, hk, rfl, rfl, hg, hb⟩ := hrel
      have HG := hide hg
      clear hg
      have hBw := hb.size
      by_cases hlt : k < n
      · have HC := hide (markText_any (k0 + k) (by omega) (by omega))
        obtain ⟨x, hx⟩ : ∃ x : ByteArray, x = ⟨(markL (k0 + k)).toArray⟩ := ⟨_, rfl⟩
        have hcell : wr.cell? ⟨g, k, none⟩ = some (.string x) := by
          rw [hb.cell (by exact hglt), ha.cellAt k (by omega), marksL_at k0 n k hlt, hx]; rfl
        have hi0 : (0 : Int) ≤ (k : Int) := by omega
        have hi1 : (k : Int) < (n : Int) := by omega
        unfold strV at HC
        rw [show ((k0 + k : Nat) : Int) = (k0 : Int) + (k : Int) from by omega, ← hx] at HC
        have hgw : g < wr.heap.size := by omega
        clear hx
        go_wp2_with fail
        go_region_held3 (fun w' => w'.cell? ⟨g, k, none⟩ = some (.string x)) (first | go_keep | exact hc2) ((go_at_call 17; refine (HC.out _).mono ?_; rintro e w2 ⟨rfl, hbw⟩; have hc2 : w2.cell? ⟨g, k, none⟩ = some (.string x) := (hbw.cell (by exact hgw)).trans hcell))
        all_goals (have hb3 : Below w.heap.size w w2 := hb.trans ((Below.refl _ _).drew.trans (hbw.mono hBw)))
        all_goals clear hbw
        all_goals go_wp2_with fail
        all_goals go_roundg (gk - 1)
        case measure => have := HG.out; omega
        case rel => exact ⟨k + 1, by omega, by go_num, by go_num, by have := HG.out; omega, hb3⟩
      · have hkn : k = n := by omega
        have HK := hide hkn
        clear hkn
        go_wp2_with fail
        go_ret
        exact ⟨by rw [HK.out]; rfl, hb⟩
end Go.Proofs.YtimhnphodnnbeakDoor
