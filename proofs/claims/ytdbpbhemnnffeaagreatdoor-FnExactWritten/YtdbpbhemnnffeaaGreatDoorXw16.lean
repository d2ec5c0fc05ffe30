/-
  Facts and contracts that the law's own text rests on, by their texts' names: ImplNode, NodesOf, Down0, ShelfClone, Clone, ImplDiskN.
-/
import Derived.Deep.RegionHeld3
import Derived.Laws.Cover1
import Derived.Test.YtdbpbhemnnffeaaGreatDoorXw2
import Derived.Test.YtdbpbhemnnffeaaGreatDoorXw4
import Derived.LoopIn
import Derived.LoopNIn
import Derived.OwnWalkIn
import Derived.Shelf.Abstract
import Derived.Shelf.RegionOpen
import Derived.TacticsInMore
import Derived.WalkKit
import Derived.Test.YtdbpbhemnnffeaaGreatDoorXw7
import Derived.Shelf.LaysM
import Derived.Shelf.Strconv.Clone
import Derived.Test.YtdbpbhemnnffeaaGreatDoorProg
import Derived.Test.YtdbpbhemnnffeaaGreatDoorXw1
import Derived.Test.YtdbpbhemnnffeaaGreatDoorXw8
namespace Go.Proofs.YtdbpbhemnnffeaaGreatDoor
open Go.RowKit
theorem row_slice {w : World} {sz n : Nat} {v : Value} {xs : List Value} (h : RowAt w sz v n xs) : ∃ a cap, v = .slice a n cap := by
  obtain ⟨-, a, cap, e, -⟩ := h
  exact ⟨a, cap, e⟩
def keysB (ks : List ByteArray) : Bool := decide (∀ i, i < ks.length → keyB ks i = true)
def valsB (vs : List ByteArray) : Bool := decide (∀ i, i < vs.length → (vs.getD i ⟨#[]⟩).size ≤ 24)
def kidsB (cs : List Int) : Bool := decide (∀ i, i < cs.length → kidB cs i = true)
def IdxOf (cs : List Int) (x r : Int) : Prop := (∃ j : Nat, j < cs.length ∧ r = (j : Int) ∧ cs.getD j 0 = x ∧ ∀ i, i < j → cs.getD i 0 ≠ x) ∨ (r = -1 ∧ ∀ j, j < cs.length → cs.getD j 0 ≠ x)
set_option maxHeartbeats 1000000 in
set_option maxRecDepth 100000 in
theorem slicesIndex_any (cs : List Int) (hc : cs.length ≤ 1048576) (x : Int) (v : Value) (w : World) (h : RowAt w 1 v cs.length (ints cs)) :
    Calls Tryz.prog 104 #[v, .int .i64 x] w fun e w' => ∃ r : Int, e = .returned (.int .i64 r) ∧ w = w' ∧ IdxOf cs x r := by
  obtain ⟨a, cap, rfl⟩ := row_slice h
  have HR := hide h
  clear h
  go_enter Tryz.func104, Tryz.ntmps104
  go_wp2_with fail
  go_loopg [8] cs.length (fun q iv wr => ∃ i : Nat, i ≤ cs.length ∧ iv = .int .i64 (i : Int) ∧ q + i = cs.length ∧ Hid (∀ j, j < i → cs.getD j 0 ≠ x) ∧ w = wr)
  case atStart => exact ⟨0, Nat.zero_le _, rfl, rfl, hide (fun j hj => by omega), rfl⟩
  case round =>
    obtain ⟨i, hi, rfl, hg, HA, rfl⟩ := hrel
    have HG := hide hg
    clear hg
    by_cases hlt : i < cs.length
    · obtain ⟨-, a1, cp1, e1, h0 | ⟨bk, ok, e0, hbk, hck⟩⟩ := HR.out
      · omega
      injection e1 with e11 _ e12
      subst e11 e12
      subst e0
      obtain ⟨z, hz⟩ : ∃ z, z = cs.getD i 0 := ⟨_, rfl⟩
      have hzc : w.cell? ⟨bk, ok + i, none⟩ = some (.int .i64 z) := by rw [hck i (by omega), ints_at cs i hlt, hz]; simp [List.getD, hlt]
      have HZ := hide hz
      have hi0 : (0 : Int) ≤ (i : Int) := by omega
      have hi1 : (i : Int) < (cs.length : Int) := by omega
      clear hck hz
      by_cases he : x = z
      · have hd : (x == z) = true := by rw [he]; exact beq_self_eq_true _
        go_wp2_with fail
        go_ret
        exact ⟨_, rfl, rfl, Or.inl ⟨i, hlt, rfl, HZ.out.symm, fun j hj => by rw [← he]; exact HA.out j hj⟩⟩
      · have hd : (x == z) = false := beq_eq_false_iff_ne.2 he
        go_wp2_with fail
        go_roundg (gk - 1)
        case measure => have := HG.out; omega
        case rel => exact ⟨i + 1, by omega, by go_num, by have := HG.out; omega, hide (fun j hj => by
          by_cases e : j = i
          · rw [e, ← HZ.out]; exact fun h => he h.symm
          · exact HA.out j (by omega)), rfl⟩
    · obtain rfl : i = cs.length := by omega
      go_wp2_with fail
      go_ret
      exact ⟨_, rfl, rfl, Or.inr ⟨rfl, HA.out⟩⟩
set_option maxHeartbeats 1000000 in
set_option maxRecDepth 100000 in
theorem implKeysOk_any (ks : List ByteArray) (hk : ks.length ≤ 1048576) (hks : ∀ s ∈ ks, s.size ≤ 1048576) (v : Value) (w : World) (h : RowAt w 1 v ks.length (strs ks)) :
    Calls Tryz.prog 118 #[v] w fun e w' => e = .returned (.bool (keysB ks)) ∧ w = w' := by
  obtain ⟨a, cap, rfl⟩ := row_slice h
  have HR := hide h
  have HSz := hide hks
  clear h hks
  go_enter Tryz.func118, Tryz.ntmps118
  go_wp2_with fail
  go_loopg [7] ks.length (fun q iv wr => ∃ i : Nat, i ≤ ks.length ∧ iv = .int .i64 (i : Int) ∧ q + i = ks.length ∧ Hid (∀ j, j < i → keyB ks j = true) ∧ w = wr)
  case atStart => exact ⟨0, Nat.zero_le _, rfl, rfl, hide (fun j hj => by omega), rfl⟩
  case round =>
    obtain ⟨i, hi, rfl, hg, HA, rfl⟩ := hrel
    have HG := hide hg
    clear hg
    by_cases hlt : i < ks.length
    · obtain ⟨-, a1, cp1, e1, h0 | ⟨bk, ok, e0, hbk, hck⟩⟩ := HR.out
      · omega
      injection e1 with e11 _ e12
      subst e11 e12
      subst e0
      obtain ⟨x, hx⟩ : ∃ x, x = ks.getD i ⟨#[]⟩ := ⟨_, rfl⟩
      have hxc : w.cell? ⟨bk, ok + i, none⟩ = some (.string x) := by rw [hck i (by omega), strs_at ks i hlt, hx]; simp [List.getD, hlt]
      have HX := hide hx
      have hi0 : (0 : Int) ≤ (i : Int) := by omega
      have hi1 : (i : Int) < (ks.length : Int) := by omega
      have hxs : x.size ≤ 1048576 := by rw [hx]; simp only [List.getD, List.getElem?_eq_getElem hlt, Option.getD_some]; exact HSz.out _ (List.getElem_mem hlt)
      by_cases hbig : 24 < x.size
      · have HO : Hid (keysB ks = false) := hide (decide_eq_false (fun hh => by
          have := hh i hlt
          rw [keyB, decide_eq_false (by rw [← HX.out]; omega)] at this
          cases this))
        have dx : decide ((24 : Int) < (x.size : Int)) = true := by simp; omega
        clear hx hck
        go_wp2_with fail
        go_ret
        rw [HO.out]
        exact ⟨rfl, rfl⟩
      · have dx : decide ((24 : Int) < (x.size : Int)) = false := by simp; omega
        by_cases hz0 : i = 0
        · subst hz0
          have HKy : Hid (keyB ks 0 = true) := hide (by rw [keyB, decide_eq_true (by rw [← HX.out]; omega)]; rfl)
          have hxc0 : w.cell? ⟨bk, ok, none⟩ = some (.string x) := hxc
          have hl0 : (0 : Int) < (ks.length : Int) := by omega
          clear hx hck hxc hi0 hi1
          go_wp2_with fail
          go_roundg (gk - 1)
          case measure => have := HG.out; omega
          case rel => exact ⟨0 + 1, by omega, by go_num, by have := HG.out; omega, hide (fun t ht => by rw [show t = 0 from by omega]; exact HKy.out), rfl⟩
        · obtain ⟨j, hj⟩ : ∃ j, i = j + 1 := ⟨i - 1, by omega⟩
          obtain ⟨y, hy⟩ : ∃ y, y = ks.getD j ⟨#[]⟩ := ⟨_, rfl⟩
          have hyc : w.cell? ⟨bk, ok + j, none⟩ = some (.string y) := by rw [hck j (by omega), strs_at ks j (by omega), hy]; simp [List.getD, show j < ks.length by omega]
          have HYy := hide hy
          have hpos : 0 < i := by omega
          have di : decide ((0 : Int) < (i : Int)) = true := decide_eq_true (by omega)
          have hwj : IntKind.i64.wrap ((i : Int) - 1) = (i : Int) - 1 := IntWalk.i64_in _ ⟨by omega, by omega⟩
          have hwk : wrap64 ((i : Int) - 1) = (i : Int) - 1 := wrap64_small _ (by omega) (by omega)
          have hb0 : (0 : Int) ≤ (i : Int) - 1 := by omega
          have hb1 : (i : Int) - 1 < (ks.length : Int) := by omega
          have hb2 : (1 : Int) ≤ (i : Int) := by omega
          have hb3 : (i : Int) < (ks.length : Int) + 1 := by omega
          have hb4 : (i : Int) ≤ (ks.length : Int) := by omega
          have hb5 : 1 ≤ i := by omega
          have hyc1 : w.cell? ⟨bk, ok + ((i : Int) - 1).toNat, none⟩ = some (.string y) := by rw [show ((i : Int) - 1).toNat = j from by omega]; exact hyc
          have hyc2 : w.cell? ⟨bk, ok + (i - 1), none⟩ = some (.string y) := by rw [show i - 1 = j from by omega]; exact hyc
          obtain ⟨lt, hlt2⟩ : ∃ lt, Op.bytesLess y.toList x.toList = lt := ⟨_, rfl⟩
          have hKe : keyB ks i = lt := by
            rw [keyB, decide_eq_true (by rw [← HX.out]; omega), decide_eq_false hz0, hj, Nat.add_sub_cancel, ← hj, ← HX.out, ← HYy.out, hlt2]; rfl
          clear hx hck hy hz0 hj
          cases lt with
          | false =>
            have HO : Hid (keysB ks = false) := hide (decide_eq_false (fun hh => by
              have := hh i hlt
              rw [hKe] at this
              cases this))
            clear hKe
            go_wp2_with fail
            go_ret
            rw [HO.out]
            exact ⟨rfl, rfl⟩
          | true =>
            have HKy := hide hKe
            clear hKe
            go_wp2_with fail
            go_roundg (gk - 1)
            case measure => have := HG.out; omega
            case rel => exact ⟨i + 1, by omega, by go_num, by have := HG.out; omega, hide (fun t ht => by
              by_cases e : t = i
              · rw [e]; exact HKy.out
              · exact HA.out t (by omega)), rfl⟩
    · obtain rfl : i = ks.length := by omega
      have HO : Hid (keysB ks = true) := hide (decide_eq_true HA.out)
      go_wp2_with fail
      go_ret
      rw [HO.out]
      exact ⟨rfl, rfl⟩
set_option maxHeartbeats 1000000 in
set_option maxRecDepth 100000 in
theorem implValsOk_any (vs : List ByteArray) (hk : vs.length ≤ 1048576) (hks : ∀ s ∈ vs, s.size ≤ 1048576) (v : Value) (w : World) (h : RowAt w 1 v vs.length (strs vs)) :
    Calls Tryz.prog 119 #[v] w fun e w' => e = .returned (.bool (valsB vs)) ∧ w = w' := by
  obtain ⟨a, cap, rfl⟩ := row_slice h
  have HR := hide h
  have HSz := hide hks
  clear h hks
  go_enter Tryz.func119, Tryz.ntmps119
  go_wp2_with fail
  go_loopg [7] vs.length (fun q iv wr => ∃ i : Nat, i ≤ vs.length ∧ iv = .int .i64 (i : Int) ∧ q + i = vs.length ∧ Hid (∀ j, j < i → (vs.getD j ⟨#[]⟩).size ≤ 24) ∧ w = wr)
  case atStart => exact ⟨0, Nat.zero_le _, rfl, rfl, hide (fun j hj => by omega), rfl⟩
  case round =>
    obtain ⟨i, hi, rfl, hg, HA, rfl⟩ := hrel
    have HG := hide hg
    clear hg
    by_cases hlt : i < vs.length
    · obtain ⟨-, a1, cp1, e1, h0 | ⟨bk, ok, e0, hbk, hck⟩⟩ := HR.out
      · omega
      injection e1 with e11 _ e12
      subst e11 e12
      subst e0
      obtain ⟨x, hx⟩ : ∃ x, x = vs.getD i ⟨#[]⟩ := ⟨_, rfl⟩
      have hxc : w.cell? ⟨bk, ok + i, none⟩ = some (.string x) := by rw [hck i (by omega), strs_at vs i hlt, hx]; simp [List.getD, hlt]
      have HX := hide hx
      have hi0 : (0 : Int) ≤ (i : Int) := by omega
      have hi1 : (i : Int) < (vs.length : Int) := by omega
      have hxs : x.size ≤ 1048576 := by rw [hx]; simp only [List.getD, List.getElem?_eq_getElem hlt, Option.getD_some]; exact HSz.out _ (List.getElem_mem hlt)
      by_cases hbig : 24 < x.size
      · have HO : Hid (valsB vs = false) := hide (decide_eq_false (fun hh => by
          have := hh i hlt
          rw [← HX.out] at this
          omega))
        have dx : decide ((24 : Int) < (x.size : Int)) = true := by simp; omega
        clear hx hck
        go_wp2_with fail
        go_ret
        rw [HO.out]
        exact ⟨rfl, rfl⟩
      · have dx : decide ((24 : Int) < (x.size : Int)) = false := by simp; omega
        clear hx hck
        go_wp2_with fail
        go_roundg (gk - 1)
        case measure => have := HG.out; omega
        case rel => exact ⟨i + 1, by omega, by go_num, by have := HG.out; omega, hide (fun t ht => by
          by_cases e : t = i
          · rw [e, ← HX.out]; omega
          · exact HA.out t (by omega)), rfl⟩
    · obtain rfl : i = vs.length := by omega
      have HO : Hid (valsB vs = true) := hide (decide_eq_true HA.out)
      go_wp2_with fail
      go_ret
      rw [HO.out]
      exact ⟨rfl, rfl⟩
set_option maxHeartbeats 1000000 in
set_option maxRecDepth 100000 in
theorem implKidsOk_any (cs : List Int) (hc : cs.length ≤ 1048576) (v : Value) (w : World) (h : RowAt w 1 v cs.length (ints cs)) :
    Calls Tryz.prog 120 #[v] w fun e w' => e = .returned (.bool (kidsB cs)) ∧ w = w' := by
  have HC := hide (fun x => slicesIndex_any cs hc x v w h)
  obtain ⟨a, cap, rfl⟩ := row_slice h
  have HR := hide h
  clear h
  go_enter Tryz.func120, Tryz.ntmps120
  go_wp2_with fail
  go_loopg [7] cs.length (fun q iv wr => ∃ i : Nat, i ≤ cs.length ∧ iv = .int .i64 (i : Int) ∧ q + i = cs.length ∧ Hid (∀ j, j < i → kidB cs j = true) ∧ w = wr)
  case atStart => exact ⟨0, Nat.zero_le _, rfl, rfl, hide (fun j hj => by omega), rfl⟩
  case round =>
    obtain ⟨i, hi, rfl, hg, HA, rfl⟩ := hrel
    have HG := hide hg
    clear hg
    by_cases hlt : i < cs.length
    · obtain ⟨-, a1, cp1, e1, h0 | ⟨bk, ok, e0, hbk, hck⟩⟩ := HR.out
      · omega
      injection e1 with e11 _ e12
      subst e11 e12
      subst e0
      obtain ⟨z, hz⟩ : ∃ z, z = cs.getD i 0 := ⟨_, rfl⟩
      have hzc : w.cell? ⟨bk, ok + i, none⟩ = some (.int .i64 z) := by rw [hck i (by omega), ints_at cs i hlt, hz]; simp [List.getD, hlt]
      have HZ := hide hz
      have hi0 : (0 : Int) ≤ (i : Int) := by omega
      have hi1 : (i : Int) < (cs.length : Int) := by omega
      have HCz := hide (HC.out z)
      clear hck hz
      by_cases hlo : z < 2
      · have HO : Hid (kidsB cs = false) := hide (decide_eq_false (fun hh => by
          have := (kid_page (hh i hlt)).1
          rw [← HZ.out] at this
          omega))
        have dx : decide (z < 2) = true := decide_eq_true hlo
        go_wp2_with fail
        go_ret
        rw [HO.out]
        exact ⟨rfl, rfl⟩
      · have dx : decide (z < 2) = false := decide_eq_false hlo
        by_cases hhi : 40 ≤ z
        · have HO : Hid (kidsB cs = false) := hide (decide_eq_false (fun hh => by
            have := (kid_page (hh i hlt)).2
            rw [← HZ.out] at this
            omega))
          have dy : decide (40 ≤ z) = true := decide_eq_true hhi
          go_wp2_with fail
          go_ret
          rw [HO.out]
          exact ⟨rfl, rfl⟩
        · have dy : decide (40 ≤ z) = false := decide_eq_false hhi
          go_wp2_with fail
          refine HCz.out.mono ?_
          rintro e w1 ⟨r, rfl, rfl, hr⟩
          have hkid : kidB cs i = (r == (i : Int)) := by
            rw [kidB, decide_eq_true (by rw [← HZ.out]; omega), Bool.true_and, ← HZ.out]
            rcases hr with ⟨j, hj, rfl, hj2, hj3⟩ | ⟨rfl, hj⟩
            · by_cases e : j = i
              · subst e
                rw [decide_eq_true hj3]; exact (beq_self_eq_true _).symm
              · rw [decide_eq_false, beq_eq_false_iff_ne.2 (by omega)]
                intro hh
                rcases Nat.lt_or_ge j i with h1 | h1
                · exact hh j h1 hj2
                · exact hj3 i (by omega) HZ.out.symm
            · exact absurd HZ.out.symm (hj i hlt)
          clear hr
          cases hb : (r == (i : Int)) with
          | false =>
            have hne : (r != (i : Int)) = true := by rw [bne, hb]; rfl
            rw [hb] at hkid
            have HO : Hid (kidsB cs = false) := hide (decide_eq_false (fun hh => by rw [hh i hlt] at hkid; cases hkid))
            clear hkid hb
            go_wp2_with fail
            go_ret
            rw [HO.out]
            exact ⟨rfl, rfl⟩
          | true =>
            have hne : (r != (i : Int)) = false := by rw [bne, hb]; rfl
            rw [hb] at hkid
            have HK := hide hkid
            clear hkid hb
            go_wp2_with fail
            go_roundg (gk - 1)
            case measure => have := HG.out; omega
            case rel => exact ⟨i + 1, by omega, by go_num, by have := HG.out; omega, hide (fun t ht => by
              by_cases e : t = i
              · rw [e]; exact HK.out
              · exact HA.out t (by omega)), rfl⟩
    · obtain rfl : i = cs.length := by omega
      have HO : Hid (kidsB cs = true) := hide (decide_eq_true HA.out)
      go_wp2_with fail
      go_ret
      rw [HO.out]
      exact ⟨rfl, rfl⟩
theorem node_eq {lf : Bool} {ks vs : List ByteArray} {cs : List Int} : nodeOkB lf ks vs cs = (cntB lf ks.length vs.length cs.length && keysB ks && valsB vs && kidsB cs) := rfl
theorem valsB_nil : valsB [] = true := by decide
theorem kidsB_nil : kidsB [] = true := by decide
set_option maxHeartbeats 2000000 in
set_option maxRecDepth 100000 in
theorem implNodeOk_any (v : Value) (lf : Bool) (ks vs : List ByteArray) (cs : List Int) (hk : ks.length ≤ 1048576) (hv : vs.length ≤ 1048576) (hc : cs.length ≤ 1048576) (hks : ∀ s ∈ ks, s.size ≤ 1048576) (hvs : ∀ s ∈ vs, s.size ≤ 1048576) (w : World) (hd : NodeAt w v lf ks vs cs) :
    Calls Tryz.prog 113 #[v] w fun e w' => e = .returned (.bool (nodeOkB lf ks vs cs)) ∧ Below w.heap.size w w' := by
  obtain ⟨vk, vv, vc, rfl, h1, h2, h3⟩ := hd
  obtain ⟨xk, ck, rfl⟩ := row_slice h1
  obtain ⟨xv, cv, rfl⟩ := row_slice h2
  obtain ⟨xc, cc, rfl⟩ := row_slice h3
  obtain ⟨w0, hw0⟩ : ∃ w0, w0 = w.alloc (Obj.cells #[.bool lf, .slice xk ks.length ck, .slice xv vs.length cv, .slice xc cs.length cc] 129) := ⟨_, rfl⟩
  have hb0 : Below w.heap.size w w0 := by rw [hw0]; exact (Below.refl w.heap.size w).alloc (Nat.le_refl _) _
  have hblk : w0.heap[w.heap.size]? = some (Obj.cells #[.bool lf, .slice xk ks.length ck, .slice xv vs.length cv, .slice xc cs.length cc] 129) := by rw [hw0]; exact heap_alloc_new w _
  have c0 : w0.cell? ⟨w.heap.size, 0, none⟩ = some (.bool lf) := (cell_at hblk 0).1
  have c1 : w0.cell? ⟨w.heap.size, 1, none⟩ = some (.slice xk ks.length ck) := (cell_at hblk 1).1
  have c2 : w0.cell? ⟨w.heap.size, 2, none⟩ = some (.slice xv vs.length cv) := (cell_at hblk 2).1
  have c3 : w0.cell? ⟨w.heap.size, 3, none⟩ = some (.slice xc cs.length cc) := (cell_at hblk 3).1
  have HK := hide (implKeysOk_any ks hk hks _ w0 (row_below h1 hb0))
  have HV := hide (implValsOk_any vs hv hvs _ w0 (row_below h2 hb0))
  have HC := hide (implKidsOk_any cs hc _ w0 (row_below h3 hb0))
  have HB0 := hide hb0
  clear h1 h2 h3 hb0 hblk hks hvs
  by_cases hn1 : ks.length < 1
  · have HO : Hid (nodeOkB lf ks vs cs = false) := hide (node_cnt (by rw [cntB, decide_eq_false (by omega)]; rfl))
    have d1 : decide ((ks.length : Int) < 1) = true := decide_eq_true (by omega)
    clear hn1
    go_enter Tryz.func113, Tryz.ntmps113
    go_wp2_with fail
    go_ret
    rw [HO.out, ← hw0]
    exact ⟨rfl, HB0.out⟩
  · have d1 : decide ((ks.length : Int) < 1) = false := decide_eq_false (by omega)
    by_cases hn4 : 4 < ks.length
    · have HO : Hid (nodeOkB lf ks vs cs = false) := hide (node_cnt (by rw [cntB, decide_eq_false (by omega)]; rfl))
      have d2 : decide ((4 : Int) < (ks.length : Int)) = true := decide_eq_true (by omega)
      clear hn1 hn4
      go_enter Tryz.func113, Tryz.ntmps113
      go_wp2_with fail
      go_ret
      rw [HO.out, ← hw0]
      exact ⟨rfl, HB0.out⟩
    · have d2 : decide ((4 : Int) < (ks.length : Int)) = false := decide_eq_false (by omega)
      have hcn : 1 ≤ ks.length ∧ ks.length ≤ 4 := by omega
      cases hkb : keysB ks with
      | false =>
        rw [hkb] at HK
        have HO : Hid (nodeOkB lf ks vs cs = false) := hide (by rw [node_eq, hkb]; simp)
        clear hn1 hn4 hcn hkb
        go_enter Tryz.func113, Tryz.ntmps113
        go_wp2_with fail
        rw [← hw0]
        clear hw0
        refine HK.out.mono ?_
        rintro e w1 ⟨rfl, rfl⟩
        go_wp2_with fail
        go_ret
        rw [HO.out]
        exact ⟨rfl, HB0.out⟩
      | true =>
        rw [hkb] at HK
        cases lf with
        | true =>
          have hE : nodeOkB true ks vs cs = (decide (vs.length = ks.length ∧ cs.length = 0) && valsB vs) := by
            rw [node_eq, hkb, cntB, decide_eq_true hcn, if_pos rfl]
            by_cases hz : cs.length = 0
            · rw [List.length_eq_zero_iff.1 hz, kidsB_nil]; simp
            · rw [decide_eq_false (fun h => hz h.2)]; rfl
          clear hn1 hn4 hcn hkb
          by_cases hz : cs.length = 0
          · have e1 : ((cs.length : Int) == 0) = true := by rw [hz]; rfl
            by_cases hvl : vs.length = ks.length
            · have e2 : ((vs.length : Int) == (ks.length : Int)) = true := by rw [hvl]; exact beq_self_eq_true _
              have HO : Hid (nodeOkB true ks vs cs = valsB vs) := hide (by rw [hE, decide_eq_true ⟨hvl, hz⟩]; rfl)
              have HZ := hide (⟨hz, hvl⟩ : _ ∧ _)
              clear hE hz hvl
              go_enter Tryz.func113, Tryz.ntmps113
              go_wp2_with fail
              rw [← hw0]
              clear hw0
              refine HK.out.mono ?_
              rintro e w1 ⟨rfl, rfl⟩
              go_wp2_with fail
              refine HV.out.mono ?_
              rintro e w1 ⟨rfl, rfl⟩
              go_wp2_with fail
              go_ret
              rw [HO.out]
              exact ⟨rfl, HB0.out⟩
            · have e2 : ((vs.length : Int) == (ks.length : Int)) = false := beq_eq_false_iff_ne.2 (by omega)
              have HO : Hid (nodeOkB true ks vs cs = false) := hide (by rw [hE, decide_eq_false (fun h => hvl h.1)]; rfl)
              have HZ := hide hz
              clear hE hvl hz
              go_enter Tryz.func113, Tryz.ntmps113
              go_wp2_with fail
              rw [← hw0]
              clear hw0
              refine HK.out.mono ?_
              rintro e w1 ⟨rfl, rfl⟩
              go_wp2_with fail
              go_ret
              rw [HO.out]
              exact ⟨rfl, HB0.out⟩
          · have e1 : ((cs.length : Int) == 0) = false := beq_eq_false_iff_ne.2 (by omega)
            have HO : Hid (nodeOkB true ks vs cs = false) := hide (by rw [hE, decide_eq_false (fun h => hz h.2)]; rfl)
            clear hE hz
            go_enter Tryz.func113, Tryz.ntmps113
            go_wp2_with fail
            rw [← hw0]
            clear hw0
            refine HK.out.mono ?_
            rintro e w1 ⟨rfl, rfl⟩
            go_wp2_with fail
            go_ret
            rw [HO.out]
            exact ⟨rfl, HB0.out⟩
        | false =>
          have hE : nodeOkB false ks vs cs = (decide (cs.length = ks.length ∧ vs.length = 0) && kidsB cs) := by
            rw [node_eq, hkb, cntB, decide_eq_true hcn, if_neg (by decide)]
            by_cases hz : vs.length = 0
            · rw [List.length_eq_zero_iff.1 hz, valsB_nil]; simp
            · rw [decide_eq_false (fun h => hz h.2)]; rfl
          clear hn1 hn4 hcn hkb
          by_cases hz : vs.length = 0
          · have e1 : ((vs.length : Int) == 0) = true := by rw [hz]; rfl
            by_cases hvl : cs.length = ks.length
            · have e2 : ((cs.length : Int) == (ks.length : Int)) = true := by rw [hvl]; exact beq_self_eq_true _
              have HO : Hid (nodeOkB false ks vs cs = kidsB cs) := hide (by rw [hE, decide_eq_true ⟨hvl, hz⟩]; rfl)
              have HZ := hide (⟨hz, hvl⟩ : _ ∧ _)
              clear hE hz hvl
              go_enter Tryz.func113, Tryz.ntmps113
              go_wp2_with fail
              rw [← hw0]
              clear hw0
              refine HK.out.mono ?_
              rintro e w1 ⟨rfl, rfl⟩
              go_wp2_with fail
              refine HC.out.mono ?_
              rintro e w1 ⟨rfl, rfl⟩
              go_wp2_with fail
              go_ret
              rw [HO.out]
              exact ⟨rfl, HB0.out⟩
            · have e2 : ((cs.length : Int) == (ks.length : Int)) = false := beq_eq_false_iff_ne.2 (by omega)
              have HO : Hid (nodeOkB false ks vs cs = false) := hide (by rw [hE, decide_eq_false (fun h => hvl h.1)]; rfl)
              have HZ := hide hz
              clear hE hvl hz
              go_enter Tryz.func113, Tryz.ntmps113
              go_wp2_with fail
              rw [← hw0]
              clear hw0
              refine HK.out.mono ?_
              rintro e w1 ⟨rfl, rfl⟩
              go_wp2_with fail
              go_ret
              rw [HO.out]
              exact ⟨rfl, HB0.out⟩
          · have e1 : ((vs.length : Int) == 0) = false := beq_eq_false_iff_ne.2 (by omega)
            have HO : Hid (nodeOkB false ks vs cs = false) := hide (by rw [hE, decide_eq_false (fun h => hz h.2)]; rfl)
            clear hE hz
            go_enter Tryz.func113, Tryz.ntmps113
            go_wp2_with fail
            rw [← hw0]
            clear hw0
            refine HK.out.mono ?_
            rintro e w1 ⟨rfl, rfl⟩
            go_wp2_with fail
            go_ret
            rw [HO.out]
            exact ⟨rfl, HB0.out⟩
open Go.RowKit Go.Shelf
attribute [local go_sem] Oper.semAt_some
set_option maxHeartbeats 1000000 in
theorem nodesOf_any (vp vl : Value) (root : Int) (w : World) :
    Calls Tryz.prog 65 #[.agg #[vp, vl], .int .i64 root] w fun e w' => e = .returned (.func (.func 78) #[] #[.pointer (some ⟨w.heap.size + 1, 0, none⟩), .pointer (some ⟨w.heap.size, 0, none⟩)]) ∧ w' = (w.alloc (.cells #[vp, vl] 45)).alloc (.cells #[.int .i64 root] 3) := by
  have hmf : ∀ (fn : Fn) (first cap : Array Value) (w : World), (Instr.makeFunc fn first cap).run Tryz.prog w = .ok (.func fn first cap) w := fun _ _ _ _ => rfl
  go_enter Tryz.func65, Tryz.ntmps65
  go_wp2_with fail
  go_ret
  exact ⟨rfl, rfl⟩
open Go.RowKit Go.Shelf
set_option maxHeartbeats 1000000 in
theorem contains_any (cs : List Int) (hc : cs.length ≤ 1048576) (x : Int) (v : Value) (w : World) (h : RowAt w 1 v cs.length (ints cs)) :
    Calls Tryz.prog 89 #[v, .int .i64 x] w fun e w' => e = .returned (.bool (decide (x ∈ cs))) ∧ w = w' := by
  have HR := hide h
  obtain ⟨a, cap, rfl⟩ := row_slice h
  clear h
  go_enter Tryz.func89, Tryz.ntmps89
  go_wp2_with fail
  refine (slicesIndex_any cs hc x _ _ HR.out).mono ?_
  rintro e w1 ⟨r, rfl, rfl, hi⟩
  have hd : decide (0 ≤ r) = decide (x ∈ cs) := by
    rcases hi with ⟨j, hj, rfl, hx, -⟩ | ⟨rfl, hx⟩
    · have hm : x ∈ cs := by
        rw [← hx, List.getD_eq_getElem?_getD, List.getElem?_eq_getElem hj]
        exact List.getElem_mem hj
      simp [hm]
    · have hm : ¬ x ∈ cs := fun hm => by
        obtain ⟨j, hj, e⟩ := List.getElem_of_mem hm
        apply hx j hj
        rw [List.getD_eq_getElem?_getD, List.getElem?_eq_getElem hj]
        exact e
      simp [hm]
  go_wp2_with fail
  go_ret
  exact ⟨rfl, rfl⟩
set_option maxHeartbeats 1000000 in
theorem clip_any (a : Option Addr) (n cap : Nat) (hn : n ≤ cap) (w : World) :
    Calls Tryz.prog 90 #[.slice a n cap] w fun e w' => e = .returned (.slice a n n) ∧ w = w' := by
  go_enter Tryz.func90, Tryz.ntmps90
  go_wp2_with fail
  go_ret
  exact ⟨rfl, rfl⟩
end Go.Proofs.YtdbpbhemnnffeaaGreatDoor
namespace Go.Proofs
open Go.Shelf
def Tryz.laysM316_ren : Go.Shelf.Ren := ⟨fun | 316 => 114 | n => n, fun | 9 => 9 | 3 => 3 | 4 => 4 | 37 => 186 | 0 => 0 | 127 => 198 | 5 => 5 | n => n, fun | n => n⟩
theorem Tryz.laysM316 : Go.Proofs.LaysM.n316 Tryz.prog Tryz.laysM316_ren := {
  mixed := by kernel_rfl
  f316 := Tryz.func114.trans (congrArg some (by kernel_rfl))
  t0 := Tryz.underlying0
  a0 := Tryz.isAgg0
  z0 := Tryz.sizeOf0
  v0 := Tryz.zeroValue0
  t3 := Tryz.underlying3
  a3 := Tryz.isAgg3
  z3 := Tryz.sizeOf3
  v3 := Tryz.zeroValue3
  t4 := Tryz.underlying4
  a4 := Tryz.isAgg4
  z4 := Tryz.sizeOf4
  v4 := Tryz.zeroValue4
  t9 := Tryz.underlying9
  a9 := Tryz.isAgg9
  z9 := Tryz.sizeOf9
  v9 := Tryz.zeroValue9
  t37 := Tryz.underlying186
  a37 := Tryz.isAgg186
  z37 := Tryz.sizeOf186
  v37 := Tryz.zeroValue186
  t127 := Tryz.underlying198
  a127 := Tryz.isAgg198
  z127 := Tryz.sizeOf198
  v127 := Tryz.zeroValue198
  t5 := Tryz.underlying5
  a5 := Tryz.isAgg5
  z5 := Tryz.sizeOf5
  v5 := Tryz.zeroValue5
  i0 := by kernel_rfl
  i3 := by kernel_rfl
  i4 := by kernel_rfl
  i5 := by kernel_rfl
  i9 := by kernel_rfl
  i37 := by kernel_rfl
  i127 := by kernel_rfl }
open Go.RowKit in
theorem Tryz.stringslite_Clone (s : ByteArray) (w : World) (hlim : s.size ≤ 281474976710656) :
    Calls Tryz.prog 114 #[.string s] w fun e w' => e = .returned (.string s) ∧ Below w.heap.size w w' := Any.stringslite_Clone Tryz.laysM316 s w hlim
end Go.Proofs
namespace Go.Proofs.YtdbpbhemnnffeaaGreatDoor
open Go.RowKit
set_option maxHeartbeats 400000 in
theorem clone_any (s : ByteArray) (hs : s.size ≤ 140737488351232) (w : World) :
    Calls Tryz.prog 103 #[.string s] w fun e w' => e = .returned (.string s) ∧ Below w.heap.size w w' := by
  go_enter Tryz.func103, Tryz.ntmps103
  go_wp2_with fail
  refine (Tryz.stringslite_Clone s _ (by omega)).mono ?_
  rintro e w1 ⟨rfl, hb⟩
  go_wp2
  go_ret
  exact ⟨rfl, hb⟩
open Go.RowKit
set_option maxHeartbeats 400000 in
theorem hasPage_any (a : Option Addr) (n cap : Nat) (vl : Value) (page : Int) (w : World) :
    Calls Tryz.prog 102 #[.agg #[.slice a n cap, vl], .int .i64 page] w fun e w' => e = .returned (.bool (decide (0 ≤ page ∧ page < (n : Int)))) ∧ Below w.heap.size w w' := by
  have HB : Hid (∀ o, Below w.heap.size w (w.alloc o)) := hide (fun o => (Below.refl w.heap.size w).alloc (Nat.le_refl _) _)
  by_cases h0 : 0 ≤ page
  · by_cases h1 : page < (n : Int)
    · rw [decide_eq_true (show 0 ≤ page ∧ page < (n : Int) from ⟨h0, h1⟩)]
      have h2 : decide (0 ≤ page) = true := decide_eq_true h0
      have h3 : decide (page < (n : Int)) = true := decide_eq_true h1
      go_enter Tryz.func102, Tryz.ntmps102
      go_wp2
      go_ret
      exact ⟨rfl, HB.out _⟩
    · rw [decide_eq_false (show ¬ (0 ≤ page ∧ page < (n : Int)) from fun h => h1 h.2)]
      have h2 : decide (0 ≤ page) = true := decide_eq_true h0
      have h3 : decide (page < (n : Int)) = false := decide_eq_false h1
      go_enter Tryz.func102, Tryz.ntmps102
      go_wp2
      go_ret
      exact ⟨rfl, HB.out _⟩
  · rw [decide_eq_false (show ¬ (0 ≤ page ∧ page < (n : Int)) from fun h => h0 h.1)]
    have h2 : decide (0 ≤ page) = false := decide_eq_false h0
    go_enter Tryz.func102, Tryz.ntmps102
    go_wp2
    go_ret
    exact ⟨rfl, HB.out _⟩
set_option maxHeartbeats 2000000 in
set_option maxRecDepth 100000 in
theorem implReadPage_any (v : Value) (ps : List ByteArray) (ls : List (Int × ByteArray)) (_hp : ps.length ≤ 1048576) (hl : ls.length ≤ 1048576) (hps : ∀ s ∈ ps, s.size ≤ 1048576) (hls : ∀ p ∈ ls, p.2.size ≤ 1048576) (page : Int) (w : World) (hd : DiskAt w v ps ls) :
    Calls Tryz.prog 88 #[v, .int .i64 page] w fun e w' => e = .returned (.string (readD ps ls page)) ∧ Below w.heap.size w w' := by
  obtain ⟨vp, vl, rfl, h1, h2⟩ := hd
  obtain ⟨x1, c1, rfl⟩ : ∃ a cap, vp = .slice a ps.length cap := by obtain ⟨-, a, cap, e, -⟩ := h1; exact ⟨a, cap, e⟩
  obtain ⟨x2, c2, rfl⟩ : ∃ a cap, vl = .slice a ls.length cap := by obtain ⟨-, a, cap, e, -⟩ := h2; exact ⟨a, cap, e⟩
  have H1 := hide h1
  have H2 := hide h2
  have HPs := hide hps
  have HLs := hide hls
  clear h1 h2 hps hls
  have HC := hide (hasPage_any x1 ps.length c1 (.slice x2 ls.length c2) page)
  obtain ⟨w0, hw0⟩ : ∃ w0, w0 = w.alloc (Obj.cells #[.slice x1 ps.length c1, .slice x2 ls.length c2] 45) := ⟨_, rfl⟩
  have hb0 : Below w.heap.size w w0 := by rw [hw0]; exact (Below.refl w.heap.size w).alloc (Nat.le_refl _) _
  have hblk : w0.heap[w.heap.size]? = some (Obj.cells #[.slice x1 ps.length c1, .slice x2 ls.length c2] 45) := by rw [hw0]; exact heap_alloc_new w _
  have HB0 := hide hb0
  have HBk := hide hblk
  clear hb0 hblk
  by_cases hin : 0 ≤ page ∧ page < (ps.length : Int)
  · rw [decide_eq_true hin] at HC
    go_enter Tryz.func88, Tryz.ntmps88
    go_wp2_with fail
    rw [← hw0]
    clear hw0
    refine (HC.out _).mono ?_
    rintro e w1 ⟨rfl, hb1⟩
    have hblk1 : w1.heap[w.heap.size]? = some (Obj.cells #[.slice x1 ps.length c1, .slice x2 ls.length c2] 45) := (hb1.block _ (Array.getElem?_eq_some_iff.1 HBk.out).1).trans HBk.out
    have HB1 : Hid (Below w.heap.size w w1) := hide (HB0.out.trans (hb1.mono HB0.out.size))
    have cb0 : w1.cell? ⟨w.heap.size, 0, none⟩ = some (.slice x1 ps.length c1) := (cell_at hblk1 0).1
    have cb1 : w1.cell? ⟨w.heap.size, 1, none⟩ = some (.slice x2 ls.length c2) := (cell_at hblk1 1).1
    clear hb1 hblk1
    go_wp2_with fail
    go_loopg [5] ls.length (fun q iv wr => ∃ k : Nat, k ≤ ls.length ∧ iv = .int .i64 ((k : Int) - 1) ∧ q = k ∧ Hid (lateAt ls page ls.length = lateAt ls page k) ∧ w1 = wr)
    case atStart => exact ⟨ls.length, Nat.le_refl _, rfl, rfl, hide rfl, rfl⟩
    case round =>
      obtain ⟨k, hk, rfl, hgk, HL, rfl⟩ := hrel
      have HGk := hide hgk
      clear hgk
      by_cases hk0 : k = 0
      · subst hk0
        have HO : Hid (readD ps ls page = ps.getD page.toNat ⟨#[]⟩) := hide (readD_page (by omega) (by rw [HL.out]; rfl))
        obtain ⟨n, hn⟩ := Int.eq_ofNat_of_zero_le hin.1
        have hnl : n < ps.length := by omega
        obtain ⟨x, hx⟩ : ∃ x, x = ps.getD page.toNat ⟨#[]⟩ := ⟨_, rfl⟩
        rcases H1.out.2 with ⟨a, cap, e, h0 | ⟨b, off, e2, hbl, hc⟩⟩
        · omega
        · injection e with e1 e3 e4
          subst e1 e4
          subst e2
          have hxe : x = ps[n] := by rw [hx, hn]; simp [List.getD, hnl]
          have hcell : w1.cell? ⟨b, off + n, none⟩ = some (.string x) := by
            rw [HB1.out.cell (by exact hbl), hc n (by omega), strs_at ps n hnl, hxe]
          have hxs : x.size ≤ 1048576 := by rw [hxe]; exact HPs.out _ (List.getElem_mem hnl)
          have HCl := hide (clone_any x (by omega))
          rw [← hx] at HO
          subst hn
          have hi0 : (0 : Int) ≤ (n : Int) := by omega
          have hi1 : (n : Int) < (ps.length : Int) := by omega
          clear hx hc hxe
          go_wp2_with fail
          refine (HCl.out _).mono ?_
          rintro e w2 ⟨rfl, hb2⟩
          go_wp2_with fail
          go_ret
          rw [HO.out]
          exact ⟨rfl, HB1.out.trans (hb2.mono HB1.out.size)⟩
      · obtain ⟨j, rfl⟩ : ∃ j, k = j + 1 := ⟨k - 1, by omega⟩
        have hjl : j < ls.length := by omega
        rcases H2.out.2 with ⟨a, cap, e, h0 | ⟨b, off, e2, hbl, hc⟩⟩
        · omega
        · injection e with e1 e3 e4
          subst e1 e4
          subst e2
          obtain ⟨q, t, hqt⟩ : ∃ q t, (q, t) = ls[j] := ⟨_, _, rfl⟩
          have hget : ls[j]? = some (q, t) := by rw [List.getElem?_eq_getElem hjl, hqt]
          have hts : t.size ≤ 1048576 := by have := HLs.out _ (List.getElem_mem hjl); rw [← hqt] at this; exact this
          have hc0 : w1.cell? ⟨b, off + j * 2, none⟩ = some (.int .i64 q) := by rw [HB1.out.cell (by exact hbl), hc (j * 2) (by omega), (puts_at ls j hjl).1, ← hqt]
          have hc1 : w1.cell? ⟨b, off + j * 2 + 1, none⟩ = some (.string t) := by rw [HB1.out.cell (by exact hbl), Nat.add_assoc, hc (j * 2 + 1) (by omega), (puts_at ls j hjl).2, ← hqt]
          have hi0 : (0 : Int) ≤ (j : Int) := by omega
          have hi1 : (j : Int) < (ls.length : Int) := by omega
          have hij : ((j + 1 : Nat) : Int) - 1 = (j : Int) := by omega
          rw [hij]
          have HGet := hide hget
          clear hc hqt hget hij
          by_cases hq : q = page
          · subst hq
            have HO : Hid (readD ps ls q = t) := hide (readD_late (by omega) (by rw [HL.out]; exact lateAt_hit HGet.out))
            have HCl := hide (clone_any t (by omega))
            go_wp2_with fail
            refine (HCl.out _).mono ?_
            rintro e w2 ⟨rfl, hb2⟩
            go_wp2_with fail
            go_ret
            rw [HO.out]
            exact ⟨rfl, HB1.out.trans (hb2.mono HB1.out.size)⟩
          · have HL2 : Hid (lateAt ls page ls.length = lateAt ls page j) := hide (by rw [HL.out]; exact lateAt_miss HGet.out hq)
            go_wp2_with fail
            go_roundg j
            case measure => have := HGk.out; omega
            case rel => exact ⟨j, by omega, by go_num, rfl, HL2, rfl⟩
  · rw [decide_eq_false hin] at HC
    have HO : Hid (readD ps ls page = ⟨#[]⟩) := hide (readD_out (by omega))
    go_enter Tryz.func88, Tryz.ntmps88
    go_wp2_with fail
    rw [← hw0]
    refine (HC.out _).mono ?_
    rintro e w1 ⟨rfl, hb1⟩
    clear hw0
    go_wp2_with fail
    go_ret
    rw [HO.out]
    exact ⟨rfl, HB0.out.trans (hb1.mono HB0.out.size)⟩
end Go.Proofs.YtdbpbhemnnffeaaGreatDoor
