/-
  Facts and contracts that the law's own text rests on, by their texts' names: Plain1, Own, Row, PutRow.
-/
import Derived.Lib.UnsafeStr
import Derived.WalkKit
import Derived.Laws.BytesArg
import Derived.Laws.IdiomStrings
import Derived.OwnWalk
import Derived.Test.YtdbpbhemnnffeaaGreatDoorProg
import Derived.Below
import Derived.BigQuiet
import Derived.Deep.LoopGhost
import Derived.Deep.QuietTactic
import Derived.Laws.OwnMore
import Derived.Outline
import Derived.WalkSmall
import Derived.WalkSpells
import Derived.Deep.RegionHeld3
namespace Go.Proofs.YtdbpbhemnnffeaaGreatDoor
open Go.RowKit
theorem hide {p : Prop} (h : p) : Hid p := h
def venc : Nat → Nat → List UInt8
  | 0, n => [UInt8.ofNat n]
  | f + 1, n => if n < 128 then [UInt8.ofNat n] else UInt8.ofNat (n % 128 + 128) :: venc f (n / 128)
def vtext (n : Nat) : List UInt8 := venc 4 n
theorem venc_last (f n : Nat) (h : n < 128) : venc f n = [UInt8.ofNat n] := by
  cases f with
  | zero => rfl
  | succ f => simp [venc, h]
theorem venc_step (f n : Nat) (h : 128 ≤ n) (hf : n < 128 ^ (f + 1)) :
    ∃ g, f = g + 1 ∧ n / 128 < 128 ^ (g + 1) ∧ venc f n = UInt8.ofNat (n % 128 + 128) :: venc g (n / 128) := by
  cases f with
  | zero => simp at hf; omega
  | succ g =>
    refine ⟨g, rfl, ?_, ?_⟩
    · rw [Nat.pow_succ] at hf
      exact Nat.div_lt_of_lt_mul (by rw [Nat.mul_comm]; exact hf)
    · simp [venc, Nat.not_lt.2 h]
theorem venc_length (f n : Nat) : 1 ≤ (venc f n).length ∧ (venc f n).length ≤ f + 1 := by
  induction f generalizing n with
  | zero => simp [venc]
  | succ f ih =>
    unfold venc
    split
    · simp
    · have := ih (n / 128)
      simp; omega
theorem vtext_length (n : Nat) : 1 ≤ (vtext n).length ∧ (vtext n).length ≤ 5 := venc_length 4 n
theorem toNat_ofNat8 (k : Nat) (h : k < 256) : (UInt8.ofNat k).toNat = k := by
  simp [UInt8.toNat_ofNat']; omega
theorem cells_snoc (l : List UInt8) (k : Nat) (h : k < 256) : Lib.byteCells l ++ [Value.int .u8 (k : Int)] = Lib.byteCells (l ++ [UInt8.ofNat k]) := by
  simp [Lib.byteCells]; omega
theorem pow5 (n : Nat) (h : n ≤ 1000000000) : n < 128 ^ (4 + 1) := by
  simp; omega
open Go.RowKit
theorem string_own {P : Program} {w : World} {B src dst e : TypeId} {v : Value} {l : List UInt8} (hs : P.underlying src = some (.slice e)) (he : P.underlying e = some (.int .u8)) (hd : P.underlying dst = some .string)
    (hown : w.ownsRow B e 1 v l.length (Lib.byteCells l)) : (convert src dst v).run P w = .ok (.string ⟨l.toArray⟩) w := by
  rcases hown.2 with ⟨rfl, h0⟩ | ⟨g, cap, cur, rfl, -, -, -, -, -, -⟩
  · rw [run_convert_bytes_nil w src e hs he 0 0 dst hd]
    obtain rfl : l = [] := List.length_eq_zero_iff.1 h0
    rfl
  · exact run_convert_bytes_back (P := P) w src dst e ⟨g, 0, none⟩ cap l hs he hd (fun j hj => hown.cells (g := g) rfl j _ (by simp [Lib.byteCells, hj]))
open Go.RowKit
def RowAt (w : World) (sz : Nat) (v : Value) (n : Nat) (xs : List Value) : Prop :=
  xs.length = n * sz ∧ ∃ a cap, v = .slice a n cap ∧ (n = 0 ∨ ∃ b off, a = some ⟨b, off, none⟩ ∧ b < w.heap.size ∧ ∀ j, j < n * sz → w.cell? ⟨b, off + j, none⟩ = xs[j]?)
theorem row_below {w w' : World} {sz n : Nat} {v : Value} {xs : List Value} (h : RowAt w sz v n xs) (hb : Below w.heap.size w w') : RowAt w' sz v n xs := by
  obtain ⟨hl, a, cap, hv, h2⟩ := h
  refine ⟨hl, a, cap, hv, h2.imp id ?_⟩
  rintro ⟨b, off, e, hlt, hc⟩
  exact ⟨b, off, e, Nat.lt_of_lt_of_le hlt hb.size, fun j hj => by rw [hb.cell (by exact hlt)]; exact hc j hj⟩
theorem row_of_own {w : World} {B e sz n : Nat} {v : Value} {xs : List Value} (h : w.ownsRow B e sz v n xs) : RowAt w sz v n xs := by
  refine ⟨h.1, ?_⟩
  rcases h.2 with ⟨rfl, rfl⟩ | ⟨g, cap, cur, rfl, hg, hh, rest⟩
  · exact ⟨none, 0, rfl, Or.inl rfl⟩
  · exact ⟨_, _, rfl, Or.inr ⟨g, 0, rfl, (h.lt g rfl).2, fun j hj => by rw [Nat.zero_add]; exact h.cellAt j hj⟩⟩
theorem own_stays {w w' : World} {B e sz n : Nat} {v : Value} {xs : List Value} (h : w.ownsRow B e sz v n xs) (hb : Below w.heap.size w w') : w'.ownsRow B e sz v n xs := by
  refine ⟨h.1, ?_⟩
  rcases h.2 with ⟨rfl, hn⟩ | ⟨g, cap, cur, rfl, hg, hh, rest⟩
  · exact Or.inl ⟨rfl, hn⟩
  · have hlt : g < w.heap.size := (h.lt g rfl).2
    exact Or.inr ⟨g, cap, cur, rfl, hg, (hb.block g hlt).trans hh, rest⟩
theorem own_down {w : World} {B B' e sz n : Nat} {v : Value} {xs : List Value} (h : w.ownsRow B e sz v n xs) (hb : B' ≤ B) : w.ownsRow B' e sz v n xs := by
  refine ⟨h.1, ?_⟩
  rcases h.2 with h0 | ⟨g, cap, cur, e1, hg, rest⟩
  · exact Or.inl h0
  · exact Or.inr ⟨g, cap, cur, e1, Nat.le_trans hb hg, rest⟩
def strs (l : List ByteArray) : List Value := l.map Value.string
theorem strs_length (l : List ByteArray) : (strs l).length = l.length := by simp [strs]
theorem strs_at (l : List ByteArray) (k : Nat) (h : k < l.length) : (strs l)[k]? = some (.string l[k]) := by simp [strs, h]
def bulkS : List ByteArray → Nat
  | [] => 0
  | s :: l => 1 + s.size + bulkS l
def szOut (left total : Nat) : Int := if total ≤ left then ((left - total : Nat) : Int) else -1
theorem szOut_yes {left total : Nat} (h : total ≤ left) : szOut left total = ((left - total : Nat) : Int) := if_pos h
theorem szOut_no {left total : Nat} (h : left < total) : szOut left total = -1 := if_neg (by omega)
def sumS (l : List ByteArray) (k : Nat) : Nat := ((l.take k).map ByteArray.size).sum
theorem sumS_succ (l : List ByteArray) (k : Nat) (h : k < l.length) : sumS l (k + 1) = sumS l k + (l[k]).size := by
  unfold sumS
  rw [List.take_succ_eq_append_getElem h, List.map_append, List.sum_append]
  simp
theorem sumS_zero (l : List ByteArray) : sumS l 0 = 0 := by simp [sumS]
theorem sumS_mono (l : List ByteArray) (k : Nat) : sumS l k ≤ sumS l l.length := by
  unfold sumS
  conv => rhs; rw [List.take_length, ← List.take_append_drop k l, List.map_append, List.sum_append]
  omega
theorem bulkS_eq (l : List ByteArray) : bulkS l = l.length + sumS l l.length := by
  unfold sumS
  rw [List.take_length]
  induction l with
  | nil => rfl
  | cons s l ih => simp [bulkS, ih]; omega
set_option maxHeartbeats 1000000 in
theorem szStringS_any (l : List ByteArray) (hl : l.length ≤ maxLen) (hs : ∀ s ∈ l, s.size ≤ maxLen) (v : Value) (left : Nat) (hleft : left ≤ 1048576) (w : World) (hr : RowAt w 1 v l.length (strs l)) :
    Calls Tryz.prog 19 #[v, .int .i64 (left : Int)] w fun e w' => e = .returned (.int .i64 (szOut left (bulkS l))) ∧ w = w' := by
  obtain ⟨-, a, cap, rfl, h2⟩ := hr
  have HR := hide h2
  have HS := hide hs
  clear h2 hs
  unfold maxLen at hl
  have HBk := hide (bulkS_eq l)
  by_cases h0 : left < l.length
  · have HO : Hid (szOut left (bulkS l) = -1) := hide (szOut_no (by rw [HBk.out]; omega))
    go_enter Tryz.func19, Tryz.ntmps19
    go_wp2
    go_ret
    rw [HO.out]
    exact ⟨rfl, rfl⟩
  · go_enter Tryz.func19, Tryz.ntmps19
    go_wp2
    go_loopg [1, 5] l.length (fun g lv iv wr => ∃ k m : Nat, k ≤ l.length ∧ iv = .int .i64 (k : Int) ∧ g + k = l.length ∧ lv = .int .i64 (m : Int) ∧ m ≤ 1048576 ∧ Hid (m + l.length + sumS l k = left) ∧ w = wr)
    case atStart => exact ⟨0, left - l.length, Nat.zero_le _, rfl, rfl, by go_num, by omega, hide (by rw [sumS_zero]; omega), rfl⟩
    case round =>
      obtain ⟨k, m, hk, rfl, hg, rfl, hm, HM, rfl⟩ := hrel
      have HG := hide hg
      clear hg
      by_cases hlt : k < l.length
      · rcases HR.out with hn0 | ⟨b, off, rfl, hb, hc⟩
        · omega
        · obtain ⟨x, hx⟩ : ∃ x, x = l[k] := ⟨_, rfl⟩
          have hcell : w.cell? ⟨b, off + k, none⟩ = some (.string x) := by rw [hc k (by omega), strs_at l k hlt, hx]
          have hxs : x.size ≤ 9223372036854775807 := by
            have := HS.out x (by rw [hx]; exact List.getElem_mem hlt)
            unfold maxLen at this
            omega
          have hsum : sumS l (k + 1) = sumS l k + x.size := by rw [hx]; exact sumS_succ l k hlt
          have HSum := hide hsum
          have hk0 : (0 : Int) ≤ (k : Int) := by omega
          have hk1 : (k : Int) < (l.length : Int) := by omega
          clear hc hx hsum
          by_cases hneg : m < x.size
          · have HO : Hid (szOut left (bulkS l) = -1) := hide (szOut_no (by have h1 := HBk.out; have h2 := HM.out; have h3 := HSum.out; have h4 := sumS_mono l (k + 1); omega))
            go_wp2
            go_ret
            rw [HO.out]
            exact ⟨rfl, rfl⟩
          · go_wp2
            go_roundg (gk - 1)
            case measure => have := HG.out; omega
            case rel => exact ⟨k + 1, m - x.size, by omega, by go_num, by have := HG.out; omega, by go_num, by omega, hide (by have h2 := HM.out; have h3 := HSum.out; omega), rfl⟩
      · have HO : Hid (szOut left (bulkS l) = (m : Int)) := hide (by
          have h1 := HBk.out
          have h2 := HM.out
          obtain rfl : k = l.length := by omega
          rw [szOut_yes (by omega)]
          congr 1
          omega)
        go_wp2
        go_ret
        rw [HO.out]
        exact ⟨rfl, rfl⟩
theorem Tryz.infoStrR : (Tryz.prog.info? 9).map (fun i => (i.zero, i.size, i.bytes)) = some (some (.string ⟨#[]⟩), 1, 16) := by kernel_rfl
theorem strs_made (n : Nat) : (madeCells #[Value.string ⟨#[]⟩] n).toList = strs (List.replicate n ⟨#[]⟩) := by simp [toList_madeCells_one, strs]
theorem strs_set (l : List ByteArray) (k : Nat) (x : ByteArray) : (strs l).set k (.string x) = strs (l.set k x) := by rw [strs, strs, List.map_set]
theorem own_n {w : World} {B e sz n m : Nat} {v : Value} {xs ys : List Value} (h : w.ownsRow B e sz v n xs) (hm : n = m) (hx : xs = ys) : w.ownsRow B e sz v m ys := by subst hm hx; exact h
set_option maxHeartbeats 1000000 in
set_option maxRecDepth 100000 in
theorem toStringS_any (l : List ByteArray) (hl : l.length ≤ 1048576) (v : Value) (w : World) (hr : RowAt w 1 v l.length (strs l)) :
    Calls Tryz.prog 26 #[v] w fun e w' => ∃ v', e = .returned v' ∧ w'.ownsRow w.heap.size 9 1 v' l.length (strs l) ∧ Below w.heap.size w w' := by
  obtain ⟨i0, hi, hz0, hz1, hz2⟩ := info_parts Tryz.infoStrR
  obtain ⟨-, a, cap, rfl, h2⟩ := hr
  have HR := hide h2
  clear h2
  go_enter Tryz.func26, Tryz.ntmps26
  go_wp2_with (at_make; refine wpList_make_full _ rfl _ _ 22 rfl w.heap.size 9 i0 (.string ⟨#[]⟩) 1 Tryz.underlying22 hi hz0 hz1 .i64 .i64 _ _ l.length rfl rfl rfl rfl (by rw [hz2]; omega) (by unfold maxLen; omega) (Nat.le_refl _) ?_)
  intro w1 hown1 hg1
  have hb1 : Below w.heap.size w w1 := (Below.refl _ _).grown hg1 (Nat.le_refl _) (fun k hk => by cases hk)
  have hown2 : w1.ownsRow w.heap.size 9 1 (.slice (some ⟨w.heap.size, 0, none⟩) l.length l.length) l.length (strs (List.replicate l.length ⟨#[]⟩)) := own_n hown1 rfl (strs_made _)
  clear hg1 hown1
  go_wp2
  go_loopg [4] l.length (fun q iv wr => ∃ (k : Nat) (m : List ByteArray), k ≤ l.length ∧ iv = .int .i64 (k : Int) ∧ q + k = l.length ∧ wr.ownsRow w.heap.size 9 1 (.slice (some ⟨w.heap.size, 0, none⟩) l.length l.length) l.length (strs m) ∧ Hid (m.length = l.length ∧ m.take k = l.take k) ∧ Below w.heap.size w wr)
  case atStart => exact ⟨0, _, Nat.zero_le _, rfl, rfl, hown2, hide ⟨by simp, by simp⟩, hb1⟩
  case round =>
    obtain ⟨k, m, hk, rfl, hg, hown, HM, hb⟩ := hrel
    have HG := hide hg
    clear hg hown2 hb1
    by_cases hlt : k < l.length
    · rcases HR.out with hn0 | ⟨b, off, rfl, hbl, hc⟩
      · omega
      · obtain ⟨x, hx⟩ : ∃ x, x = l[k] := ⟨_, rfl⟩
        have hcx : wr.cell? ⟨b, off + k, none⟩ = some (.string x) := by rw [hb.cell (by exact hbl), hc k (by omega), strs_at l k hlt, hx]
        obtain ⟨u, hu⟩ : ∃ u, (strs m)[k]? = some u := ⟨_, List.getElem?_eq_getElem (by rw [strs_length, HM.out.1]; exact hlt)⟩
        have hcell : wr.cell? ⟨w.heap.size, k, none⟩ = some u := by rw [hown.cellAt k (by omega), hu]
        have hfz : wr.frozen? ⟨w.heap.size, k, none⟩ = false := hown.frozenAt k
        have HO := hide ((hown.stored k (.string x)).1)
        rw [strs_set m k x] at HO
        have HM2 : Hid ((m.set k x).length = l.length ∧ (m.set k x).take (k + 1) = l.take (k + 1)) := hide (by
          refine ⟨by rw [List.length_set]; exact HM.out.1, ?_⟩
          have hkm : k < m.length := by rw [HM.out.1]; exact hlt
          rw [List.take_succ_eq_append_getElem (by rw [List.length_set]; exact hkm), List.take_succ_eq_append_getElem hlt, List.getElem_set_self, List.take_set_of_le (by omega), HM.out.2, hx])
        have hk0 : (0 : Int) ≤ (k : Int) := by omega
        have hk1 : (k : Int) < (l.length : Int) := by omega
        clear hu hown hx hc
        go_wp2
        go_roundg (gk - 1)
        case measure => have := HG.out; omega
        case rel => exact ⟨k + 1, m.set k x, by omega, by go_num, by have := HG.out; omega, HO.out, HM2, hb.setCell (Nat.le_refl _) _⟩
    · have hml : m = l := by
        have h1 := HM.out.2
        rw [List.take_of_length_le (by rw [HM.out.1]; omega), List.take_of_length_le (by omega)] at h1
        exact h1
      subst hml
      go_wp2
      go_ret
      exact ⟨_, rfl, hown, hb⟩
theorem strs_ne {l m : List ByteArray} {k : Nat} (hk : k < l.length) (hm : k < m.length) (h : l[k] ≠ m[k]) : decide (l = m) = false := by
  simp only [decide_eq_false_iff_not]
  intro e
  subst e
  exact h rfl
theorem ba_beq (x y : ByteArray) : (x.toList == y.toList) = decide (x = y) := by
  rw [ByteArray.toList_eq, ByteArray.toList_eq]
  by_cases h : x = y
  · subst h; simp
  · have hne : ¬ x.data.toList = y.data.toList := fun e => h (ByteArray.ext (Array.toList_inj.1 e))
    rw [decide_eq_false h]
    simpa using hne
set_option maxHeartbeats 1000000 in
set_option maxRecDepth 100000 in
theorem eqStringS_row (l m : List ByteArray) (hl : l.length ≤ 9223372036854775807) (_hm : m.length ≤ 9223372036854775807) (v u : Value) (w : World) (hr : RowAt w 1 v l.length (strs l)) (hq : RowAt w 1 u m.length (strs m)) :
    Calls Tryz.prog 32 #[v, u] w fun e w' => e = .returned (.bool (decide (l = m))) ∧ Below w.heap.size w w' := by
  obtain ⟨-, a, cap, rfl, h2⟩ := hr
  obtain ⟨-, a', cap', rfl, h3⟩ := hq
  have HR := hide h2
  have HQ := hide h3
  clear h2 h3
  by_cases hne : l.length = m.length
  · have HN := hide hne
    rw [← hne]
    clear hne
    go_enter Tryz.func32, Tryz.ntmps32
    go_wp2
    go_loopg [5] l.length (fun q iv wr => ∃ k : Nat, k ≤ l.length ∧ iv = .int .i64 (k : Int) ∧ q + k = l.length ∧ Hid (l.take k = m.take k) ∧ Below w.heap.size w wr)
    case atStart => exact ⟨0, Nat.zero_le _, rfl, rfl, hide (by simp), Below.refl _ _⟩
    case round =>
      obtain ⟨k, hk, rfl, hg, HT, hb⟩ := hrel
      have HG := hide hg
      clear hg
      by_cases hlt : k < l.length
      · rcases HR.out with hn0 | ⟨b, off, rfl, hbl, hc⟩
        · omega
        · rcases HQ.out with hn0 | ⟨b', off', rfl, hbl', hc'⟩
          · have := HN.out; omega
          · have hltm : k < m.length := by have := HN.out; omega
            obtain ⟨x, hx⟩ : ∃ x, x = l[k] := ⟨_, rfl⟩
            obtain ⟨y, hy⟩ : ∃ y, y = m[k] := ⟨_, rfl⟩
            have hcx : wr.cell? ⟨b, off + k, none⟩ = some (.string x) := by rw [hb.cell (by exact hbl), hc k (by omega), strs_at l k hlt, hx]
            have hcy : wr.cell? ⟨b', off' + k, none⟩ = some (.string y) := by rw [hb.cell (by exact hbl'), hc' k (by omega), strs_at m k hltm, hy]
            have HX := hide hx
            have HY := hide hy
            have hk0 : (0 : Int) ≤ (k : Int) := by omega
            have hk1 : (k : Int) < (l.length : Int) := by omega
            clear hc hc' hx hy
            by_cases hxy : x = y
            · have HT2 : Hid (l.take (k + 1) = m.take (k + 1)) := hide (by rw [List.take_succ_eq_append_getElem hlt, List.take_succ_eq_append_getElem hltm, HT.out, ← HX.out, ← HY.out, hxy])
              have hbq := ba_beq x y
              rw [decide_eq_true hxy] at hbq
              clear hxy
              go_wp2
              go_quiet (fail)
              go_wp2
              go_roundg (gk - 1)
              case measure => have := HG.out; omega
              case rel => exact ⟨k + 1, by omega, by go_num, by have := HG.out; omega, HT2, below_drewN hb _⟩
            · have HD := hide (strs_ne hlt hltm (by rw [← HX.out, ← HY.out]; exact hxy))
              have hbq := ba_beq x y
              rw [decide_eq_false hxy] at hbq
              clear hxy
              go_wp2
              go_quiet (fail)
              go_wp2
              go_ret
              rw [HD.out]
              exact ⟨rfl, below_drewN hb _⟩
      · have HD : Hid (decide (l = m) = true) := hide (decide_eq_true (by
          have h1 := HT.out
          rw [List.take_of_length_le (by omega), List.take_of_length_le (by have := HN.out; omega)] at h1
          exact h1))
        go_wp2
        go_ret
        rw [HD.out]
        exact ⟨rfl, hb⟩
  · have HD : Hid (decide (l = m) = false) := hide (decide_eq_false (fun e => hne (by rw [e])))
    have hq1 : ¬ ((l.length : Int) = (m.length : Int)) := by omega
    clear hne
    go_enter Tryz.func32, Tryz.ntmps32
    go_wp2
    go_ret
    rw [HD.out]
    exact ⟨rfl, Below.refl _ _⟩
open Go.RowKit
def puts (l : List (Int × ByteArray)) : List Value := l.flatMap fun p => [.int .i64 p.1, .string p.2]
theorem puts_cons (p : Int × ByteArray) (l : List (Int × ByteArray)) : puts (p :: l) = Value.int .i64 p.1 :: .string p.2 :: puts l := rfl
theorem puts_length (l : List (Int × ByteArray)) : (puts l).length = l.length * 2 := by
  induction l with
  | nil => rfl
  | cons p l ih => rw [puts, List.flatMap_cons, List.length_append]; change 2 + (puts l).length = _; rw [ih, List.length_cons]; omega
theorem puts_at (l : List (Int × ByteArray)) : ∀ k (h : k < l.length), (puts l)[k * 2]? = some (.int .i64 l[k].1) ∧ (puts l)[k * 2 + 1]? = some (.string l[k].2) := by
  induction l with
  | nil => intro k h; simp at h
  | cons p l ih =>
    intro k h
    have e : puts (p :: l) = [Value.int .i64 p.1, .string p.2] ++ puts l := rfl
    rw [e]
    cases k with
    | zero => exact ⟨rfl, rfl⟩
    | succ k =>
      have := ih k (by simpa using h)
      rw [List.getElem?_append_right (by simp; omega), List.getElem?_append_right (by simp; omega)]
      simp only [List.length_cons, List.length_nil, List.getElem_cons_succ]
      rw [show (k + 1) * 2 - (0 + 1 + 1) = k * 2 from by omega, show (k + 1) * 2 + 1 - (0 + 1 + 1) = k * 2 + 1 from by omega]
      exact this
def sumP (l : List (Int × ByteArray)) (k : Nat) : Nat := ((l.take k).map fun p => p.2.size).sum
theorem sumP_succ (l : List (Int × ByteArray)) (k : Nat) (h : k < l.length) : sumP l (k + 1) = sumP l k + (l[k]).2.size := by
  unfold sumP
  rw [List.take_succ_eq_append_getElem h, List.map_append, List.sum_append]
  simp
theorem sumP_zero (l : List (Int × ByteArray)) : sumP l 0 = 0 := by simp [sumP]
theorem sumP_mono (l : List (Int × ByteArray)) (k : Nat) : sumP l k ≤ sumP l l.length := by
  unfold sumP
  conv => rhs; rw [List.take_length, ← List.take_append_drop k l, List.map_append, List.sum_append]
  omega
def bulkP (l : List (Int × ByteArray)) : Nat := l.length + sumP l l.length
set_option maxHeartbeats 400000 in
theorem szPut_any (p : Int) (t : ByteArray) (ht : t.size ≤ 9223372036854775807) (left : Nat) (hleft : left ≤ 1048576) (w : World) :
    Calls Tryz.prog 71 #[.agg #[.int .i64 p, .string t], .int .i64 (left : Int)] w fun e w' => e = .returned (.int .i64 (szOut left t.size)) ∧ Below w.heap.size w w' := by
  by_cases h : t.size ≤ left
  · have HO := hide (szOut_yes h)
    go_enter Tryz.func71, Tryz.ntmps71
    go_wp2
    go_ret
    refine ⟨?_, (Below.refl _ _).alloc (Nat.le_refl _) _⟩
    rw [HO.out]
    simp
    omega
  · have HO := hide (szOut_no (Nat.lt_of_not_le h))
    go_enter Tryz.func71, Tryz.ntmps71
    go_wp2
    go_ret
    rw [HO.out]
    exact ⟨rfl, (Below.refl _ _).alloc (Nat.le_refl _) _⟩
set_option maxHeartbeats 1000000 in
theorem szPutS_any (l : List (Int × ByteArray)) (hl : l.length ≤ maxLen) (hs : ∀ p ∈ l, p.2.size ≤ maxLen) (v : Value) (left : Nat) (hleft : left ≤ 1048576) (w : World) (hr : RowAt w 2 v l.length (puts l)) :
    Calls Tryz.prog 56 #[v, .int .i64 (left : Int)] w fun e w' => e = .returned (.int .i64 (szOut left (bulkP l))) ∧ Below w.heap.size w w' := by
  obtain ⟨-, a, cap, rfl, h2⟩ := hr
  have HR := hide h2
  have HS := hide hs
  clear h2 hs
  unfold maxLen at hl
  have HBk : Hid (bulkP l = l.length + sumP l l.length) := hide rfl
  by_cases h0 : left < l.length
  · have HO : Hid (szOut left (bulkP l) = -1) := hide (szOut_no (by rw [HBk.out]; omega))
    go_enter Tryz.func56, Tryz.ntmps56
    go_wp2
    go_ret
    rw [HO.out]
    exact ⟨rfl, Below.refl _ _⟩
  · go_enter Tryz.func56, Tryz.ntmps56
    go_wp2
    go_loopg [1, 5] l.length (fun g lv iv wr => ∃ k m : Nat, k ≤ l.length ∧ iv = .int .i64 (k : Int) ∧ g + k = l.length ∧ lv = .int .i64 (m : Int) ∧ m ≤ 1048576 ∧ Hid (m + l.length + sumP l k = left) ∧ Below w.heap.size w wr)
    case atStart => exact ⟨0, left - l.length, Nat.zero_le _, rfl, rfl, by go_num, by omega, hide (by rw [sumP_zero]; omega), Below.refl _ _⟩
    case round =>
      obtain ⟨k, m, hk, rfl, hg, rfl, hm, HM, hb⟩ := hrel
      have HG := hide hg
      clear hg
      by_cases hlt : k < l.length
      · rcases HR.out with hn0 | ⟨b, off, rfl, hbl, hc⟩
        · omega
        · obtain ⟨p, hp⟩ : ∃ p, p = l[k].1 := ⟨_, rfl⟩
          obtain ⟨x, hx⟩ : ∃ x, x = l[k].2 := ⟨_, rfl⟩
          have hc0 : wr.cell? ⟨b, off + k * 2, none⟩ = some (.int .i64 p) := by rw [hb.cell (by exact hbl), hc (k * 2) (by omega), (puts_at l k hlt).1, hp]
          have hc1 : wr.cell? ⟨b, off + k * 2 + 1, none⟩ = some (.string x) := by rw [hb.cell (by exact hbl), Nat.add_assoc, hc (k * 2 + 1) (by omega), (puts_at l k hlt).2, hx]
          have hxs : x.size ≤ 9223372036854775807 := by
            have := HS.out l[k] (List.getElem_mem hlt)
            unfold maxLen at this
            rw [hx]; omega
          have hsum : sumP l (k + 1) = sumP l k + x.size := by rw [hx]; exact sumP_succ l k hlt
          have HSum := hide hsum
          have hk0 : (0 : Int) ≤ (k : Int) := by omega
          have hk1 : (k : Int) < (l.length : Int) := by omega
          clear hc hx hp hsum
          by_cases hneg : m < x.size
          · have HO : Hid (szOut left (bulkP l) = -1) := hide (szOut_no (by have h1 := HBk.out; have h2 := HM.out; have h3 := HSum.out; have h4 := sumP_mono l (k + 1); omega))
            have HC := hide (szPut_any p x hxs m hm)
            rw [szOut_no hneg] at HC
            go_wp2_with fail
            refine (HC.out _).mono ?_
            rintro e w2 ⟨rfl, hb2⟩
            go_wp2_with fail
            go_ret
            rw [HO.out]
            exact ⟨rfl, hb.trans (hb2.mono hb.size)⟩
          · have HC := hide (szPut_any p x hxs m hm)
            rw [szOut_yes (by omega)] at HC
            obtain ⟨m', hm'⟩ : ∃ m', m' = m - x.size := ⟨_, rfl⟩
            rw [← hm'] at HC
            have hml : m' ≤ 1048576 := by omega
            have HM2 : Hid (m' + l.length + sumP l (k + 1) = left) := hide (by have h2 := HM.out; have h3 := HSum.out; omega)
            clear hm' hneg
            go_wp2_with fail
            refine (HC.out _).mono ?_
            rintro e w2 ⟨rfl, hb2⟩
            go_wp2_with fail
            go_roundg (gk - 1)
            case measure => have := HG.out; omega
            case rel => exact ⟨k + 1, m', by omega, by go_num, by have := HG.out; omega, rfl, hml, HM2, hb.trans (hb2.mono hb.size)⟩
      · have HO : Hid (szOut left (bulkP l) = (m : Int)) := hide (by
          have h1 := HBk.out
          have h2 := HM.out
          obtain rfl : k = l.length := by omega
          rw [szOut_yes (by omega)]
          congr 1
          omega)
        go_wp2
        go_ret
        rw [HO.out]
        exact ⟨rfl, hb⟩
set_option maxHeartbeats 400000 in
theorem toPut_any (p : Int) (t : ByteArray) (w : World) :
    Calls Tryz.prog 76 #[.agg #[.int .i64 p, .string t]] w fun e w' => e = .returned (.agg #[.int .i64 p, .string t]) ∧ Below w.heap.size w w' := by
  go_enter Tryz.func76, Tryz.ntmps76
  go_wp2
  refine bodyPost_ret (v := .agg #[.int .i64 p, .string t]) (by simp [results, Tryz.results76, go_sem]) rfl ⟨rfl, ?_⟩
  exact (((Below.refl w.heap.size w).alloc (Nat.le_refl _) _).alloc (by simp) _).alloc (by simp; omega) _
theorem Tryz.infoPut : (Tryz.prog.info? 147).map (fun i => (i.zero, i.size, i.bytes)) = some (some (.agg #[.int .i64 0, .string ⟨#[]⟩]), 2, 24) := by kernel_rfl
theorem puts_made (n : Nat) : (madeCells #[Value.int .i64 0, .string ⟨#[]⟩] (n * 2)).toList = puts (List.replicate n (0, ⟨#[]⟩)) := by
  have hlen : (puts (List.replicate n ((0 : Int), (⟨#[]⟩ : ByteArray)))).length = n * 2 := by rw [puts_length, List.length_replicate]
  apply List.ext_getElem?
  intro i
  by_cases hi : i < n * 2
  · have h1 : (madeCells #[Value.int .i64 0, .string ⟨#[]⟩] (n * 2)).toList[i]? = some (#[Value.int .i64 0, .string ⟨#[]⟩][i % 2]!) := by
      simp [madeCells, hi]
    have hk : i / 2 < (List.replicate n ((0 : Int), (⟨#[]⟩ : ByteArray))).length := by rw [List.length_replicate]; omega
    have h2 := puts_at _ (i / 2) hk
    rw [h1]
    rcases Nat.mod_two_eq_zero_or_one i with h | h
    · rw [h, show i = i / 2 * 2 from by omega, h2.1]; simp
    · rw [h, show i = i / 2 * 2 + 1 from by omega, h2.2]; simp
  · rw [List.getElem?_eq_none (by simp [madeCells]; omega), List.getElem?_eq_none (by rw [hlen]; omega)]
theorem puts_set (l : List (Int × ByteArray)) : ∀ (k : Nat) (p : Int) (x : ByteArray), k < l.length → ((puts l).set (k * 2) (.int .i64 p)).set (k * 2 + 1) (.string x) = puts (l.set k (p, x)) := by
  induction l with
  | nil => intro k p x h; simp at h
  | cons q l ih =>
    intro k p x h
    have e : puts (q :: l) = Value.int .i64 q.1 :: .string q.2 :: puts l := rfl
    cases k with
    | zero => rfl
    | succ k =>
      have h2 := ih k p x (by simpa using h)
      rw [List.set_cons_succ, e, show (k + 1) * 2 = k * 2 + 1 + 1 from by omega, puts_cons, ← h2]
      rfl
set_option maxHeartbeats 1000000 in
set_option maxRecDepth 100000 in
theorem toPutS_any (l : List (Int × ByteArray)) (hl : l.length ≤ 1048576) (v : Value) (w : World) (hr : RowAt w 2 v l.length (puts l)) :
    Calls Tryz.prog 61 #[v] w fun e w' => ∃ v', e = .returned v' ∧ w'.ownsRow w.heap.size 147 2 v' l.length (puts l) ∧ Below w.heap.size w w' := by
  obtain ⟨i0, hi, hz0, hz1, hz2⟩ := info_parts Tryz.infoPut
  obtain ⟨-, a, cap, rfl, h2⟩ := hr
  have HR := hide h2
  clear h2
  go_enter Tryz.func61, Tryz.ntmps61
  go_wp2_with (at_make; refine wpList_make_full _ rfl _ _ 43 rfl w.heap.size 147 i0 (.agg #[.int .i64 0, .string ⟨#[]⟩]) 2 Tryz.underlying43 hi hz0 hz1 .i64 .i64 _ _ l.length rfl rfl rfl rfl (by rw [hz2]; omega) (by unfold maxLen; omega) (Nat.le_refl _) ?_)
  intro w1 hown1 hg1
  have hb1 : Below w.heap.size w w1 := (Below.refl _ _).grown hg1 (Nat.le_refl _) (fun k hk => by cases hk)
  have hown2 : w1.ownsRow w.heap.size 147 2 (.slice (some ⟨w.heap.size, 0, none⟩) l.length l.length) l.length (puts (List.replicate l.length (0, ⟨#[]⟩))) := own_n hown1 rfl (puts_made _)
  clear hg1 hown1
  go_wp2
  go_loopg [4] l.length (fun q iv wr => ∃ (k : Nat) (m : List (Int × ByteArray)), k ≤ l.length ∧ iv = .int .i64 (k : Int) ∧ q + k = l.length ∧ wr.ownsRow w.heap.size 147 2 (.slice (some ⟨w.heap.size, 0, none⟩) l.length l.length) l.length (puts m) ∧ Hid (m.length = l.length ∧ m.take k = l.take k) ∧ Below w.heap.size w wr)
  case atStart => exact ⟨0, _, Nat.zero_le _, rfl, rfl, hown2, hide ⟨by simp, by simp⟩, hb1⟩
  case round =>
    obtain ⟨k, m, hk, rfl, hg, hown, HM, hb⟩ := hrel
    have HG := hide hg
    clear hg hown2 hb1
    by_cases hlt : k < l.length
    · rcases HR.out with hn0 | ⟨b, off, rfl, hbl, hc⟩
      · omega
      · obtain ⟨p, hp⟩ : ∃ p, p = l[k].1 := ⟨_, rfl⟩
        obtain ⟨x, hx⟩ : ∃ x, x = l[k].2 := ⟨_, rfl⟩
        have hc0 : wr.cell? ⟨b, off + k * 2, none⟩ = some (.int .i64 p) := by rw [hb.cell (by exact hbl), hc (k * 2) (by omega), (puts_at l k hlt).1, hp]
        have hc1 : wr.cell? ⟨b, off + k * 2 + 1, none⟩ = some (.string x) := by rw [hb.cell (by exact hbl), Nat.add_assoc, hc (k * 2 + 1) (by omega), (puts_at l k hlt).2, hx]
        have hkm : k < m.length := by rw [HM.out.1]; exact hlt
        have HM2 : Hid ((m.set k (p, x)).length = l.length ∧ (m.set k (p, x)).take (k + 1) = l.take (k + 1)) := hide (by
          refine ⟨by rw [List.length_set]; exact HM.out.1, ?_⟩
          rw [List.take_succ_eq_append_getElem (by rw [List.length_set]; exact hkm), List.take_succ_eq_append_getElem hlt, List.getElem_set_self, List.take_set_of_le (by omega), HM.out.2, hp, hx])
        obtain ⟨u0, u1, hu⟩ : ∃ (u0 : Int) (u1 : ByteArray), (puts m)[k * 2]? = some (.int .i64 u0) ∧ (puts m)[k * 2 + 1]? = some (.string u1) := ⟨_, _, puts_at m k hkm⟩
        have HU := hide hu
        have HKm := hide hkm
        have hk0 : (0 : Int) ≤ (k : Int) := by omega
        have hk1 : (k : Int) < (l.length : Int) := by omega
        clear hx hp hc hkm hu
        go_wp2_with fail
        refine (toPut_any p x _).mono ?_
        rintro e w2 ⟨rfl, hb2⟩
        have hown2 := own_stays hown hb2
        have hd0 : w2.cell? ⟨w.heap.size, k * 2, none⟩ = some (.int .i64 u0) := by rw [hown2.cellAt (k * 2) (by omega), HU.out.1]
        have hd1 : w2.cell? ⟨w.heap.size, k * 2 + 1, none⟩ = some (.string u1) := by rw [hown2.cellAt (k * 2 + 1) (by omega), HU.out.2]
        have hf0 : w2.frozen? ⟨w.heap.size, k * 2, none⟩ = false := hown2.frozenAt _
        have hf1 : w2.frozen? ⟨w.heap.size, k * 2 + 1, none⟩ = false := hown2.frozenAt _
        have hb3 : Below w.heap.size w w2 := hb.trans (hb2.mono hb.size)
        have HO := hide (((hown2.stored (k * 2) (.int .i64 p)).1.stored (k * 2 + 1) (.string x)).1)
        rw [puts_set m k p x HKm.out] at HO
        clear hown hb2
        go_wp2_with fail
        go_roundg (gk - 1)
        case measure => have := HG.out; omega
        case rel => exact ⟨k + 1, m.set k (p, x), by omega, by go_num, by have := HG.out; omega, HO.out, HM2, (hb3.setCell (Nat.le_refl _) _).setCell (Nat.le_refl _) _⟩
    · have hml : m = l := by
        have h1 := HM.out.2
        rw [List.take_of_length_le (by rw [HM.out.1]; omega), List.take_of_length_le (by omega)] at h1
        exact h1
      subst hml
      go_wp2
      go_ret
      exact ⟨_, rfl, hown, hb⟩
set_option maxHeartbeats 400000 in
theorem eqPut_any (p q : Int) (t u : ByteArray) (w : World) :
    Calls Tryz.prog 80 #[.agg #[.int .i64 p, .string t], .agg #[.int .i64 q, .string u]] w fun e w' => e = .returned (.bool (decide ((p, t) = (q, u)))) ∧ Below w.heap.size w w' := by
  have hbB : ∀ o o' : Obj, Below w.heap.size w ((w.alloc o).alloc o') := fun o o' => ((Below.refl w.heap.size w).alloc (Nat.le_refl _) _).alloc (by simp) _
  have HB := hide hbB
  clear hbB
  by_cases hp : p = q
  · subst hp
    have hbq := ba_beq t u
    by_cases ht : t = u
    · have HD : Hid (decide ((p, t) = (p, u)) = true) := hide (by subst ht; simp)
      rw [decide_eq_true ht] at hbq
      clear ht
      go_enter Tryz.func80, Tryz.ntmps80
      go_wp2
      go_ret
      rw [HD.out]
      exact ⟨rfl, HB.out _ _⟩
    · have HD : Hid (decide ((p, t) = (p, u)) = false) := hide (by simp [ht])
      rw [decide_eq_false ht] at hbq
      clear ht
      go_enter Tryz.func80, Tryz.ntmps80
      go_wp2
      go_ret
      rw [HD.out]
      exact ⟨rfl, HB.out _ _⟩
  · have HD : Hid (decide ((p, t) = (q, u)) = false) := hide (by simp [hp])
    go_enter Tryz.func80, Tryz.ntmps80
    go_wp2
    go_ret
    rw [HD.out]
    exact ⟨rfl, HB.out _ _⟩
theorem list_ne {α : Type} [DecidableEq α] {l m : List α} {k : Nat} (hk : k < l.length) (hm : k < m.length) (h : l[k] ≠ m[k]) : decide (l = m) = false := by
  simp only [decide_eq_false_iff_not]
  intro e
  subst e
  exact h rfl
set_option maxHeartbeats 2000000 in
set_option maxRecDepth 100000 in
theorem eqPutS_row (l m : List (Int × ByteArray)) (hl : l.length ≤ 9223372036854775807) (_hm : m.length ≤ 9223372036854775807) (v u : Value) (w : World) (hr : RowAt w 2 v l.length (puts l)) (hq : RowAt w 2 u m.length (puts m)) :
    Calls Tryz.prog 67 #[v, u] w fun e w' => e = .returned (.bool (decide (l = m))) ∧ Below w.heap.size w w' := by
  obtain ⟨-, a, cap, rfl, h2⟩ := hr
  obtain ⟨-, a', cap', rfl, h3⟩ := hq
  have HR := hide h2
  have HQ := hide h3
  clear h2 h3
  by_cases hne : l.length = m.length
  · have HN := hide hne
    rw [← hne]
    clear hne
    go_enter Tryz.func67, Tryz.ntmps67
    go_wp2
    go_loopg [5] l.length (fun q iv wr => ∃ k : Nat, k ≤ l.length ∧ iv = .int .i64 (k : Int) ∧ q + k = l.length ∧ Hid (l.take k = m.take k) ∧ Below w.heap.size w wr)
    case atStart => exact ⟨0, Nat.zero_le _, rfl, rfl, hide (by simp), Below.refl _ _⟩
    case round =>
      obtain ⟨k, hk, rfl, hg, HT, hb⟩ := hrel
      have HG := hide hg
      clear hg
      by_cases hlt : k < l.length
      · rcases HR.out with hn0 | ⟨b, off, rfl, hbl, hc⟩
        · omega
        · rcases HQ.out with hn0 | ⟨b', off', rfl, hbl', hc'⟩
          · have := HN.out; omega
          · have hltm : k < m.length := by have := HN.out; omega
            obtain ⟨p, x, hx⟩ : ∃ p x, (p, x) = l[k] := ⟨_, _, rfl⟩
            obtain ⟨q, y, hy⟩ : ∃ q y, (q, y) = m[k] := ⟨_, _, rfl⟩
            have hc0 : wr.cell? ⟨b, off + k * 2, none⟩ = some (.int .i64 p) := by rw [hb.cell (by exact hbl), hc (k * 2) (by omega), (puts_at l k hlt).1, ← hx]
            have hc1 : wr.cell? ⟨b, off + k * 2 + 1, none⟩ = some (.string x) := by rw [hb.cell (by exact hbl), Nat.add_assoc, hc (k * 2 + 1) (by omega), (puts_at l k hlt).2, ← hx]
            have hd0 : wr.cell? ⟨b', off' + k * 2, none⟩ = some (.int .i64 q) := by rw [hb.cell (by exact hbl'), hc' (k * 2) (by omega), (puts_at m k hltm).1, ← hy]
            have hd1 : wr.cell? ⟨b', off' + k * 2 + 1, none⟩ = some (.string y) := by rw [hb.cell (by exact hbl'), Nat.add_assoc, hc' (k * 2 + 1) (by omega), (puts_at m k hltm).2, ← hy]
            have HX := hide hx
            have HY := hide hy
            have hk0 : (0 : Int) ≤ (k : Int) := by omega
            have hk1 : (k : Int) < (l.length : Int) := by omega
            have hbw : b < wr.heap.size := Nat.lt_of_lt_of_le hbl hb.size
            have hbw' : b' < wr.heap.size := Nat.lt_of_lt_of_le hbl' hb.size
            clear hc hc' hx hy
            by_cases hxy : (p, x) = (q, y)
            · have HT2 : Hid (l.take (k + 1) = m.take (k + 1)) := hide (by rw [List.take_succ_eq_append_getElem hlt, List.take_succ_eq_append_getElem hltm, HT.out, ← HX.out, ← HY.out, hxy])
              have HC := hide (eqPut_any p q x y)
              rw [decide_eq_true hxy] at HC
              clear hxy
              go_wp2_with fail
              go_region_held3 (fun wx => wx.cell? ⟨b, off + k * 2, none⟩ = some (.int .i64 p) ∧ wx.cell? ⟨b, off + k * 2 + 1, none⟩ = some (.string x) ∧ wx.cell? ⟨b', off' + k * 2, none⟩ = some (.int .i64 q) ∧ wx.cell? ⟨b', off' + k * 2 + 1, none⟩ = some (.string y)) (first | exact ⟨hc0, hc1, hd0, hd1⟩ | exact hS2) ((go_at_call 80; refine (HC.out _).mono ?_; rintro e w2 ⟨rfl, hb2⟩; have hS2 : w2.cell? ⟨b, off + k * 2, none⟩ = some (.int .i64 p) ∧ w2.cell? ⟨b, off + k * 2 + 1, none⟩ = some (.string x) ∧ w2.cell? ⟨b', off' + k * 2, none⟩ = some (.int .i64 q) ∧ w2.cell? ⟨b', off' + k * 2 + 1, none⟩ = some (.string y) := ⟨(hb2.cell (by exact hbw)).trans hc0, (hb2.cell (by exact hbw)).trans hc1, (hb2.cell (by exact hbw')).trans hd0, (hb2.cell (by exact hbw')).trans hd1⟩))
              all_goals
                have hb3 : Below w.heap.size w w2 := hb.trans ((Below.refl _ _).drew.trans (hb2.mono hb.size))
                clear hb2
                go_wp2_with fail
                go_roundg (gk - 1)
                case measure => have := HG.out; omega
                case rel => exact ⟨k + 1, by omega, by go_num, by have := HG.out; omega, HT2, hb3⟩
            · have HD := hide (list_ne hlt hltm (by rw [← HX.out, ← HY.out]; exact hxy))
              have HC := hide (eqPut_any p q x y)
              rw [decide_eq_false hxy] at HC
              clear hxy
              go_wp2_with fail
              go_region_held3 (fun wx => wx.cell? ⟨b, off + k * 2, none⟩ = some (.int .i64 p) ∧ wx.cell? ⟨b, off + k * 2 + 1, none⟩ = some (.string x) ∧ wx.cell? ⟨b', off' + k * 2, none⟩ = some (.int .i64 q) ∧ wx.cell? ⟨b', off' + k * 2 + 1, none⟩ = some (.string y)) (first | exact ⟨hc0, hc1, hd0, hd1⟩ | exact hS2) ((go_at_call 80; refine (HC.out _).mono ?_; rintro e w2 ⟨rfl, hb2⟩; have hS2 : w2.cell? ⟨b, off + k * 2, none⟩ = some (.int .i64 p) ∧ w2.cell? ⟨b, off + k * 2 + 1, none⟩ = some (.string x) ∧ w2.cell? ⟨b', off' + k * 2, none⟩ = some (.int .i64 q) ∧ w2.cell? ⟨b', off' + k * 2 + 1, none⟩ = some (.string y) := ⟨(hb2.cell (by exact hbw)).trans hc0, (hb2.cell (by exact hbw)).trans hc1, (hb2.cell (by exact hbw')).trans hd0, (hb2.cell (by exact hbw')).trans hd1⟩))
              all_goals
                have hb3 : Below w.heap.size w w2 := hb.trans ((Below.refl _ _).drew.trans (hb2.mono hb.size))
                clear hb2
                go_wp2_with fail
                go_ret
                rw [HD.out]
                exact ⟨rfl, hb3⟩
      · have HD : Hid (decide (l = m) = true) := hide (decide_eq_true (by
          have h1 := HT.out
          rw [List.take_of_length_le (by omega), List.take_of_length_le (by have := HN.out; omega)] at h1
          exact h1))
        go_wp2
        go_ret
        rw [HD.out]
        exact ⟨rfl, hb⟩
  · have HD : Hid (decide (l = m) = false) := hide (decide_eq_false (fun e => hne (by rw [e])))
    have hq1 : ¬ ((l.length : Int) = (m.length : Int)) := by omega
    clear hne
    go_enter Tryz.func67, Tryz.ntmps67
    go_wp2
    go_ret
    rw [HD.out]
    exact ⟨rfl, Below.refl _ _⟩
end Go.Proofs.YtdbpbhemnnffeaaGreatDoor
