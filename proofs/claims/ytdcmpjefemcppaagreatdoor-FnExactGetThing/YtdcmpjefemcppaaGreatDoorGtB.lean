/-
  Several texts in one. Rows of fields (a name and a kind, two cells an element), and the laws' own helpers over them by contracts: szField, szFieldS, toField, toFieldS, eqField, eqFieldS, markFieldS, heldFieldS. · Rows of values (a number and a text, two cells an element), and the laws' own helpers over them by contracts: szValue, szValueS, toValue, toValueS, eqValue, eqValueS, markValueS, heldValueS. · Plain facts on fields and values, without any program: when a schema is right, when a value is of a kind, the place of a name. · spec's functions over fields and values by contracts: l04Word, SchemaOk, FieldAt, l04Value, KeyText. · spec's functions over values by contracts: l04Value, ThingOk, KeyText. · spec's texts of things by contracts: l04Short, ThingText. · spec.SchemaText by a contract. · Plain facts on schemas and things in bytes: what is read one by one is what was written; when a schema, or a thing, is the one whose bytes these are. No program. · The cursor (Cur) beside the plain facts on things in bytes (ThingRead). · spec.ReadSchema by a contract: it answers the right schema whose bytes these are, or none. · The program's isLetter, isSign and isName by contracts: a text of so many signs of a kind. · The program's functions over fields by contracts: FieldAt, fieldOk, SchemaOk. · The program's ReadSchema by a contract: it answers the right schema whose bytes these are, or none. · The program's keys (markedKey, SchemaKey, ThingKey, IndexKey), CollOk and NameKey, and the specification's, by contracts. · spec.ReadThing by a contract: it answers the right thing whose bytes these are, or none. · The program's functions over values by contracts: valueOk, ThingOk, KeyText. · The program's ReadThing by a contract: it answers the right thing whose bytes these are, or none.
-/
import Derived.Test.YtdcmpjefemcppaaGreatDoorFrame
import Derived.Test.YtdcmpjefemcppaaGreatDoorPlain2
import Derived.Test.YtdcmpjefemcppaaGreatDoorVar
import Derived.Laws.BytesArg
import Derived.Test.YtdcmpjefemcppaaGreatDoorPlain13
import Derived.Test.YtdcmpjefemcppaaGreatDoorStepCall
import Derived.Deep.RegionLaw
import Derived.Test.YtdcmpjefemcppaaGreatDoorCur
import Derived.Test.YtdcmpjefemcppaaGreatDoorAppRow
import Derived.Test.YtdcmpjefemcppaaGreatDoorShelfJoin
import Derived.Test.YtdcmpjefemcppaaGreatDoorShelfIndexByte
namespace Go.Proofs.YtdcmpjefemcppaaGreatDoor
open Go.RowKit

/-- the cells of a row of fields -/
def flds (l : List (ByteArray × Int)) : List Value := l.flatMap fun p => [.string p.1, .int .i64 p.2]

theorem flds_cons (p : ByteArray × Int) (l : List (ByteArray × Int)) : flds (p :: l) = Value.string p.1 :: .int .i64 p.2 :: flds l := rfl

theorem flds_length (l : List (ByteArray × Int)) : (flds l).length = l.length * 2 := by
  induction l with
  | nil => rfl
  | cons p l ih => rw [flds, List.flatMap_cons, List.length_append]; change 2 + (flds l).length = _; rw [ih, List.length_cons]; omega

theorem flds_at (l : List (ByteArray × Int)) : ∀ k (h : k < l.length), (flds l)[k * 2]? = some (.string l[k].1) ∧ (flds l)[k * 2 + 1]? = some (.int .i64 l[k].2) := by
  induction l with
  | nil => intro k h; simp at h
  | cons p l ih =>
    intro k h
    have e : flds (p :: l) = [Value.string p.1, .int .i64 p.2] ++ flds l := rfl
    rw [e]
    cases k with
    | zero => exact ⟨rfl, rfl⟩
    | succ k =>
      have := ih k (by simpa using h)
      rw [List.getElem?_append_right (by simp; omega), List.getElem?_append_right (by simp; omega)]
      simp only [List.length_cons, List.length_nil, List.getElem_cons_succ]
      rw [show (k + 1) * 2 - (0 + 1 + 1) = k * 2 from by omega, show (k + 1) * 2 + 1 - (0 + 1 + 1) = k * 2 + 1 from by omega]
      exact this

/-- the bytes of the first k names -/
def sumF (l : List (ByteArray × Int)) (k : Nat) : Nat := ((l.take k).map fun p => p.1.size).sum

theorem sumF_succ (l : List (ByteArray × Int)) (k : Nat) (h : k < l.length) : sumF l (k + 1) = sumF l k + (l[k]).1.size := by
  unfold sumF
  rw [List.take_succ_eq_append_getElem h, List.map_append, List.sum_append]
  simp

theorem sumF_zero (l : List (ByteArray × Int)) : sumF l 0 = 0 := by simp [sumF]

theorem sumF_mono (l : List (ByteArray × Int)) (k : Nat) : sumF l k ≤ sumF l l.length := by
  unfold sumF
  conv => rhs; rw [List.take_length, ← List.take_append_drop k l, List.map_append, List.sum_append]
  omega

/-- how much a list of fields holds -/
def bulkF (l : List (ByteArray × Int)) : Nat := l.length + sumF l l.length

theorem Tryz.infoFld : (Tryz.prog.info? 73).map (fun i => (i.zero, i.size, i.bytes)) = some (some (.agg #[.string ⟨#[]⟩, .int .i64 0]), 2, 24) := by kernel_rfl

theorem flds_made (n : Nat) : (madeCells #[Value.string ⟨#[]⟩, .int .i64 0] (n * 2)).toList = flds (List.replicate n (⟨#[]⟩, 0)) := by
  have hlen : (flds (List.replicate n ((⟨#[]⟩ : ByteArray), (0 : Int)))).length = n * 2 := by rw [flds_length, List.length_replicate]
  apply List.ext_getElem?
  intro i
  by_cases hi : i < n * 2
  · have h1 : (madeCells #[Value.string ⟨#[]⟩, .int .i64 0] (n * 2)).toList[i]? = some (#[Value.string ⟨#[]⟩, .int .i64 0][i % 2]!) := by
      simp [madeCells, hi]
    have hk : i / 2 < (List.replicate n ((⟨#[]⟩ : ByteArray), (0 : Int))).length := by rw [List.length_replicate]; omega
    have h2 := flds_at _ (i / 2) hk
    rw [h1]
    rcases Nat.mod_two_eq_zero_or_one i with h | h
    · rw [h, show i = i / 2 * 2 from by omega, h2.1]; simp
    · rw [h, show i = i / 2 * 2 + 1 from by omega, h2.2]; simp
  · rw [List.getElem?_eq_none (by simp [madeCells]; omega), List.getElem?_eq_none (by rw [hlen]; omega)]

theorem flds_set (l : List (ByteArray × Int)) : ∀ (k : Nat) (x : ByteArray) (p : Int), k < l.length → ((flds l).set (k * 2) (.string x)).set (k * 2 + 1) (.int .i64 p) = flds (l.set k (x, p)) := by
  induction l with
  | nil => intro k x p h; simp at h
  | cons q l ih =>
    intro k x p h
    have e : flds (q :: l) = Value.string q.1 :: .int .i64 q.2 :: flds l := rfl
    cases k with
    | zero => rfl
    | succ k =>
      have h2 := ih k x p (by simpa using h)
      rw [List.set_cons_succ, e, show (k + 1) * 2 = k * 2 + 1 + 1 from by omega, flds_cons, ← h2]
      rfl

/-- the marks of fields from k on, n of them -/
def marksF (k n : Nat) : List (ByteArray × Int) := (List.range n).map fun i => (markB (k + i * 2), ((k + i * 2 + 1 : Nat) : Int))

theorem marksF_length (k n : Nat) : (marksF k n).length = n := by simp [marksF]

theorem marksF_at (k n i : Nat) (h : i < n) : (flds (marksF k n))[i * 2]? = some (.string (markB (k + i * 2))) ∧ (flds (marksF k n))[i * 2 + 1]? = some (.int .i64 ((k + i * 2 + 1 : Nat) : Int)) := by
  have := flds_at (marksF k n) i (by rw [marksF_length]; exact h)
  simpa [marksF] using this

theorem marksF_of (k n : Nat) (m : List (ByteArray × Int)) (hl : m.length = n) (h : ∀ i, i < n → m[i]? = some (markB (k + i * 2), ((k + i * 2 + 1 : Nat) : Int))) : m = marksF k n := by
  apply List.ext_getElem?
  intro i
  by_cases hi : i < n
  · rw [h i hi]; simp [marksF, hi]
  · rw [List.getElem?_eq_none (by omega), List.getElem?_eq_none (by rw [marksF_length]; omega)]

end Go.Proofs.YtdcmpjefemcppaaGreatDoor

namespace Go.Proofs.YtdcmpjefemcppaaGreatDoor
open Go.RowKit

theorem Tryz.infoVal : (Tryz.prog.info? 52).map (fun i => (i.zero, i.size, i.bytes)) = some (some (.agg #[.int .i64 0, .string ⟨#[]⟩]), 2, 24) := by kernel_rfl

set_option maxHeartbeats 400000 in
theorem eqValue_any (p q : Int) (t u : ByteArray) (w : World) :
    Calls Tryz.prog 25 #[.agg #[.int .i64 p, .string t], .agg #[.int .i64 q, .string u]] w fun e w' => e = .returned (.bool (decide ((p, t) = (q, u)))) ∧ Below w.heap.size w w' := by
  have hbB : ∀ o o' : Obj, Below w.heap.size w ((w.alloc o).alloc o') := fun o o' => ((Below.refl w.heap.size w).alloc (Nat.le_refl _) _).alloc (by simp) _
  have HB := hide hbB
  clear hbB
  by_cases hp : p = q
  · subst hp
    have hbq := ba_beq t u
    by_cases ht : t = u
    · have HD : Hid (decide ((p, t) = (p, u)) = true) := hide (by subst ht; simp)
      rw [decide_eq_true ht] at hbq
      clear ht
      go_enter Tryz.func25, Tryz.ntmps25
      go_wp2
      go_ret
      rw [HD.out]
      exact ⟨rfl, HB.out _ _⟩
    · have HD : Hid (decide ((p, t) = (p, u)) = false) := hide (by simp [ht])
      rw [decide_eq_false ht] at hbq
      clear ht
      go_enter Tryz.func25, Tryz.ntmps25
      go_wp2
      go_ret
      rw [HD.out]
      exact ⟨rfl, HB.out _ _⟩
  · have HD : Hid (decide ((p, t) = (q, u)) = false) := hide (by simp [hp])
    go_enter Tryz.func25, Tryz.ntmps25
    go_wp2
    go_ret
    rw [HD.out]
    exact ⟨rfl, HB.out _ _⟩

set_option maxHeartbeats 2000000 in
set_option maxRecDepth 100000 in
theorem eqValueS_row (l m : List (Int × ByteArray)) (hl : l.length ≤ 9223372036854775807) (_hm : m.length ≤ 9223372036854775807) (v u : Value) (w : World) (hr : RowAt w 2 v l.length (puts l)) (hq : RowAt w 2 u m.length (puts m)) :
    Calls Tryz.prog 8 #[v, u] w fun e w' => e = .returned (.bool (decide (l = m))) ∧ Below w.heap.size w w' := by
  obtain ⟨-, a, cap, rfl, h2⟩ := hr
  obtain ⟨-, a', cap', rfl, h3⟩ := hq
  have HR := hide h2
  have HQ := hide h3
  clear h2 h3
  by_cases hne : l.length = m.length
  · have HN := hide hne
    rw [← hne]
    clear hne
    go_enter Tryz.func8, Tryz.ntmps8
    go_wp2
    go_loopg [5] l.length (fun q iv wr => ∃ k : Nat, k ≤ l.length ∧ iv = .int .i64 (k : Int) ∧ q + k = l.length ∧ Hid (l.take k = m.take k) ∧ Below w.heap.size w wr)
    case atStart => exact ⟨0, Nat.zero_le _, rfl, rfl, hide (by simp), Below.refl _ _⟩
    case round =>
      obtain ⟨k, hk, rfl, hg, HT, hb⟩ := hrel
      have HG := hide hg
      clear hg
      by_cases hlt : k < l.length
      · rcases HR.out with hn0 | ⟨b, off, rfl, hbl, hc⟩
        · omega
        · rcases HQ.out with hn0 | ⟨b', off', rfl, hbl', hc'⟩
          · have := HN.out; omega
          · have hltm : k < m.length := by have := HN.out; omega
            obtain ⟨p, x, hx⟩ : ∃ p x, (p, x) = l[k] := ⟨_, _, rfl⟩
            obtain ⟨q, y, hy⟩ : ∃ q y, (q, y) = m[k] := ⟨_, _, rfl⟩
            have hc0 : wr.cell? ⟨b, off + k * 2, none⟩ = some (.int .i64 p) := by rw [hb.cell (by exact hbl), hc (k * 2) (by omega), (puts_at l k hlt).1, ← hx]
            have hc1 : wr.cell? ⟨b, off + k * 2 + 1, none⟩ = some (.string x) := by rw [hb.cell (by exact hbl), Nat.add_assoc, hc (k * 2 + 1) (by omega), (puts_at l k hlt).2, ← hx]
            have hd0 : wr.cell? ⟨b', off' + k * 2, none⟩ = some (.int .i64 q) := by rw [hb.cell (by exact hbl'), hc' (k * 2) (by omega), (puts_at m k hltm).1, ← hy]
            have hd1 : wr.cell? ⟨b', off' + k * 2 + 1, none⟩ = some (.string y) := by rw [hb.cell (by exact hbl'), Nat.add_assoc, hc' (k * 2 + 1) (by omega), (puts_at m k hltm).2, ← hy]
            have HX := hide hx
            have HY := hide hy
            have hk0 : (0 : Int) ≤ (k : Int) := by omega
            have hk1 : (k : Int) < (l.length : Int) := by omega
            have hbw : b < wr.heap.size := Nat.lt_of_lt_of_le hbl hb.size
            have hbw' : b' < wr.heap.size := Nat.lt_of_lt_of_le hbl' hb.size
            clear hc hc' hx hy
            by_cases hxy : (p, x) = (q, y)
            · have HT2 : Hid (l.take (k + 1) = m.take (k + 1)) := hide (by rw [List.take_succ_eq_append_getElem hlt, List.take_succ_eq_append_getElem hltm, HT.out, ← HX.out, ← HY.out, hxy])
              have HC := hide (eqValue_any p q x y)
              rw [decide_eq_true hxy] at HC
              clear hxy
              go_wp2_with fail
              go_region_held3 (fun wx => wx.cell? ⟨b, off + k * 2, none⟩ = some (.int .i64 p) ∧ wx.cell? ⟨b, off + k * 2 + 1, none⟩ = some (.string x) ∧ wx.cell? ⟨b', off' + k * 2, none⟩ = some (.int .i64 q) ∧ wx.cell? ⟨b', off' + k * 2 + 1, none⟩ = some (.string y)) (first | exact ⟨hc0, hc1, hd0, hd1⟩ | exact hS2) ((go_at_call 25; refine (HC.out _).mono ?_; rintro e w2 ⟨rfl, hb2⟩; have hS2 : w2.cell? ⟨b, off + k * 2, none⟩ = some (.int .i64 p) ∧ w2.cell? ⟨b, off + k * 2 + 1, none⟩ = some (.string x) ∧ w2.cell? ⟨b', off' + k * 2, none⟩ = some (.int .i64 q) ∧ w2.cell? ⟨b', off' + k * 2 + 1, none⟩ = some (.string y) := ⟨(hb2.cell (by exact hbw)).trans hc0, (hb2.cell (by exact hbw)).trans hc1, (hb2.cell (by exact hbw')).trans hd0, (hb2.cell (by exact hbw')).trans hd1⟩))
              all_goals
                have hb3 : Below w.heap.size w w2 := hb.trans ((Below.refl _ _).drew.trans (hb2.mono hb.size))
                clear hb2
                go_wp2_with fail
                go_roundg (gk - 1)
                case measure => have := HG.out; omega
                case rel => exact ⟨k + 1, by omega, by go_num, by have := HG.out; omega, HT2, hb3⟩
            · have HD := hide (list_ne hlt hltm (by rw [← HX.out, ← HY.out]; exact hxy))
              have HC := hide (eqValue_any p q x y)
              rw [decide_eq_false hxy] at HC
              clear hxy
              go_wp2_with fail
              go_region_held3 (fun wx => wx.cell? ⟨b, off + k * 2, none⟩ = some (.int .i64 p) ∧ wx.cell? ⟨b, off + k * 2 + 1, none⟩ = some (.string x) ∧ wx.cell? ⟨b', off' + k * 2, none⟩ = some (.int .i64 q) ∧ wx.cell? ⟨b', off' + k * 2 + 1, none⟩ = some (.string y)) (first | exact ⟨hc0, hc1, hd0, hd1⟩ | exact hS2) ((go_at_call 25; refine (HC.out _).mono ?_; rintro e w2 ⟨rfl, hb2⟩; have hS2 : w2.cell? ⟨b, off + k * 2, none⟩ = some (.int .i64 p) ∧ w2.cell? ⟨b, off + k * 2 + 1, none⟩ = some (.string x) ∧ w2.cell? ⟨b', off' + k * 2, none⟩ = some (.int .i64 q) ∧ w2.cell? ⟨b', off' + k * 2 + 1, none⟩ = some (.string y) := ⟨(hb2.cell (by exact hbw)).trans hc0, (hb2.cell (by exact hbw)).trans hc1, (hb2.cell (by exact hbw')).trans hd0, (hb2.cell (by exact hbw')).trans hd1⟩))
              all_goals
                have hb3 : Below w.heap.size w w2 := hb.trans ((Below.refl _ _).drew.trans (hb2.mono hb.size))
                clear hb2
                go_wp2_with fail
                go_ret
                rw [HD.out]
                exact ⟨rfl, hb3⟩
      · have HD : Hid (decide (l = m) = true) := hide (decide_eq_true (by
          have h1 := HT.out
          rw [List.take_of_length_le (by omega), List.take_of_length_le (by have := HN.out; omega)] at h1
          exact h1))
        go_wp2
        go_ret
        rw [HD.out]
        exact ⟨rfl, hb⟩
  · have HD : Hid (decide (l = m) = false) := hide (decide_eq_false (fun e => hne (by rw [e])))
    have hq1 : ¬ ((l.length : Int) = (m.length : Int)) := by omega
    clear hne
    go_enter Tryz.func8, Tryz.ntmps8
    go_wp2
    go_ret
    rw [HD.out]
    exact ⟨rfl, Below.refl _ _⟩


set_option maxHeartbeats 2000000 in
set_option maxRecDepth 100000 in
theorem markValueS_row (l : List (Int × ByteArray)) (hl : l.length ≤ 1048576) (v : Value) (B k0 : Nat) (hk0 : 0 < k0) (hk1 : k0 ≤ 1048576000) (w : World) (ha : w.ownsRow B 52 2 v l.length (puts l)) :
    Calls Tryz.prog 11 #[v, .int .i64 (k0 : Int)] w fun e w' => e = .returned (.int .i64 ((k0 + l.length * 2 : Nat) : Int)) ∧ w'.ownsRow B 52 2 v l.length (puts (marksP k0 l.length)) ∧ Kept w w' (fun k => v.ownBlock = some k) := by
  obtain ⟨a, cap, rfl⟩ : ∃ a cap, v = .slice a l.length cap := by obtain ⟨-, a, cap, e, -⟩ := row_of_own ha; exact ⟨a, cap, e⟩
  have HA := hide ha
  clear ha
  go_enter Tryz.func11, Tryz.ntmps11
  go_wp2
  go_loopg [1, 5] l.length (fun q kv iv wr => ∃ (k : Nat) (m : List (Int × ByteArray)), k ≤ l.length ∧ kv = .int .i64 ((k0 + k * 2 : Nat) : Int) ∧ iv = .int .i64 (k : Int) ∧ q + k = l.length ∧ Hid (wr.ownsRow B 52 2 (.slice a l.length cap) l.length (puts m)) ∧ Hid (m.length = l.length ∧ ∀ i, i < k → m[i]? = some (((k0 + i * 2 : Nat) : Int), markB (k0 + i * 2 + 1))) ∧ Hid (Kept w wr (fun k => (Value.slice a l.length cap).ownBlock = some k)))
  case atStart => exact ⟨0, l, Nat.zero_le _, rfl, rfl, rfl, HA, hide ⟨rfl, fun i h => by omega⟩, hide (kept_refl _ _)⟩
  case round =>
    obtain ⟨k, m, hk, rfl, rfl, hg, HOwn, HM, HK⟩ := hrel
    have HG := hide hg
    clear hg
    by_cases hlt : k < l.length
    · obtain ⟨g, rfl⟩ : ∃ g, a = some ⟨g, 0, none⟩ := by
        rcases HOwn.out.2 with ⟨e, h0⟩ | ⟨g, c, cur, e, _⟩
        · omega
        · injection e with e1; exact ⟨g, e1⟩
      have hkm : k < m.length := by rw [HM.out.1]; exact hlt
      obtain ⟨u0, u1, hu⟩ : ∃ (u0 : Int) (u1 : ByteArray), (puts m)[k * 2]? = some (.int .i64 u0) ∧ (puts m)[k * 2 + 1]? = some (.string u1) := ⟨_, _, puts_at m k hkm⟩
      have hc0 : wr.cell? ⟨g, k * 2, none⟩ = some (.int .i64 u0) := by rw [HOwn.out.cellAt (k * 2) (by omega), hu.1]
      have hf0 : wr.frozen? ⟨g, k * 2, none⟩ = false := HOwn.out.frozenAt _
      obtain ⟨p, hp⟩ : ∃ p, p = k0 + k * 2 := ⟨_, rfl⟩
      have hp1 : ((k0 + k * 2 : Nat) : Int) = (p : Int) := by rw [hp]
      have hpl : p ≤ 1048576000 + 2097152 := by omega
      have HC := hide (markText_row (p + 1) (by omega) (by omega))
      rw [show ((p + 1 : Nat) : Int) = (p : Int) + 1 from by omega] at HC
      have HOw1 := hide ((HOwn.out.stored (k * 2) (.int .i64 (p : Int))).1)
      have HKm := hide hkm
      have HU := hide hu
      have HP := hide hp
      have hi0 : (0 : Int) ≤ (k : Int) := by omega
      have hi1 : (k : Int) < (l.length : Int) := by omega
      rw [hp1]
      clear hkm hu hp hp1
      go_wp2_with fail
      refine (HC.out _).mono ?_
      rintro e w2 ⟨rfl, hb2⟩
      have hown2 := own_stays HOw1.out hb2
      have hf1 : w2.frozen? ⟨g, k * 2 + 1, none⟩ = false := hown2.frozenAt _
      have hc1 : w2.cell? ⟨g, k * 2 + 1, none⟩ = some (.string u1) := by rw [hown2.cellAt (k * 2 + 1) (by omega), List.getElem?_set_ne (by omega), HU.out.2]
      have HO := hide ((hown2.stored (k * 2 + 1) (.string (markB (p + 1)))).1)
      rw [puts_set m k (p : Int) _ HKm.out] at HO
      have HM2 : Hid ((m.set k ((p : Int), markB (p + 1))).length = l.length ∧ ∀ i, i < k + 1 → (m.set k ((p : Int), markB (p + 1)))[i]? = some (((k0 + i * 2 : Nat) : Int), markB (k0 + i * 2 + 1))) := hide ⟨by rw [List.length_set]; exact HM.out.1, fun i hi => by
        by_cases e : k = i
        · subst e; rw [List.getElem?_set_self HKm.out, HP.out]
        · rw [List.getElem?_set_ne e]; exact HM.out.2 i (by omega)⟩
      have HK2 : Hid (Kept w (w2.setCell ⟨g, k * 2 + 1, none⟩ (.string (markB (p + 1)))) (fun k => (Value.slice (some ⟨g, 0, none⟩) l.length cap).ownBlock = some k)) := hide (kept_trans (kept_trans (kept_trans HK.out (kept_setCell wr g (k * 2) _) (fun j _ h => by rw [h]; rfl)) (kept_of_all hb2 (fun _ => False)) (fun j _ h => h.elim)) (kept_setCell w2 g _ _) (fun j _ h => by rw [h]; rfl))
      clear hb2 hown2
      go_wp2_with fail
      go_roundg (gk - 1)
      case measure => have := HG.out; omega
      case rel => exact ⟨k + 1, _, by omega, by have := HP.out; go_num, by go_num, by have := HG.out; omega, HO, HM2, HK2⟩
    · have hkn : k = l.length := by omega
      have HO : Hid (wr.ownsRow B 52 2 (.slice a l.length cap) l.length (puts (marksP k0 l.length))) := hide (by
        have e : m = marksP k0 l.length := marksP_of k0 l.length m HM.out.1 (fun i hi => HM.out.2 i (by omega))
        rw [← e]; exact HOwn.out)
      have HKn := hide hkn
      clear hkn
      go_wp2_with fail
      go_ret
      exact ⟨by rw [HKn.out]; rfl, HO.out, HK.out⟩

set_option maxHeartbeats 2000000 in
set_option maxRecDepth 100000 in
theorem heldValueS_row (n : Nat) (hn : n ≤ 1048576) (v : Value) (k0 : Nat) (hk0 : 0 < k0) (hk1 : k0 ≤ 1048576000) (w : World) (ha : RowAt w 2 v n (puts (marksP k0 n))) :
    Calls Tryz.prog 12 #[v, .int .i64 (k0 : Int)] w fun e w' => e = .returned (.int .i64 ((k0 + n * 2 : Nat) : Int)) ∧ Below w.heap.size w w' := by
  obtain ⟨-, a, cap, rfl, h2⟩ := ha
  have HR := hide h2
  clear h2
  go_enter Tryz.func12, Tryz.ntmps12
  go_wp2
  go_loopg [1, 5] n (fun q kv iv wr => ∃ k : Nat, k ≤ n ∧ kv = .int .i64 ((k0 + k * 2 : Nat) : Int) ∧ iv = .int .i64 (k : Int) ∧ q + k = n ∧ Below w.heap.size w wr)
  case atStart => exact ⟨0, Nat.zero_le _, rfl, rfl, rfl, Below.refl _ _⟩
  case round =>
    obtain ⟨k, hk, rfl, rfl, hg, hb⟩ := hrel
    have HG := hide hg
    clear hg
    have hBw := hb.size
    by_cases hlt : k < n
    · rcases HR.out with h0 | ⟨g, off, rfl, hglt, hc⟩
      · omega
      · obtain ⟨p, hp⟩ : ∃ p, p = k0 + k * 2 := ⟨_, rfl⟩
        have hp1 : ((k0 + k * 2 : Nat) : Int) = (p : Int) := by rw [hp]
        have hpl : p ≤ 1048576000 + 2097152 := by omega
        have HC := hide (markText_row (p + 1) (by omega) (by omega))
        rw [show ((p + 1 : Nat) : Int) = (p : Int) + 1 from by omega] at HC
        obtain ⟨x, hx⟩ : ∃ x : ByteArray, x = markB (p + 1) := ⟨_, rfl⟩
        have hc0 : wr.cell? ⟨g, off + k * 2, none⟩ = some (.int .i64 (p : Int)) := by rw [hb.cell (by exact hglt), hc (k * 2) (by omega), (marksP_at k0 n k hlt).1, hp1]
        have hc1 : wr.cell? ⟨g, off + k * 2 + 1, none⟩ = some (.string x) := by rw [hb.cell (by exact hglt), Nat.add_assoc, hc (k * 2 + 1) (by omega), (marksP_at k0 n k hlt).2, hx, hp]
        have hi0 : (0 : Int) ≤ (k : Int) := by omega
        have hi1 : (k : Int) < (n : Int) := by omega
        rw [← hx] at HC
        have hgw : g < wr.heap.size := by omega
        have HP := hide hp
        rw [hp1]
        clear hx hc hp hp1
        go_wp2_with fail
        go_region_held3 (fun w' => w'.cell? ⟨g, off + k * 2 + 1, none⟩ = some (.string x)) (first | go_keep | exact hc2) ((go_at_call 30; refine (HC.out _).mono ?_; rintro e w2 ⟨rfl, hbw⟩; have hc2 : w2.cell? ⟨g, off + k * 2 + 1, none⟩ = some (.string x) := (hbw.cell (by exact hgw)).trans hc1))
        all_goals (have hb3 : Below w.heap.size w w2 := hb.trans ((Below.refl _ _).drew.trans (hbw.mono hBw)))
        all_goals clear hbw
        all_goals go_wp2_with fail
        all_goals go_roundg (gk - 1)
        case measure => have := HG.out; omega
        case rel => exact ⟨k + 1, by omega, by have := HP.out; go_num, by go_num, by have := HG.out; omega, hb3⟩
    · have hkn : k = n := by omega
      have HK := hide hkn
      clear hkn
      go_wp2_with fail
      go_ret
      exact ⟨by rw [HK.out]; rfl, hb⟩
end Go.Proofs.YtdcmpjefemcppaaGreatDoor

namespace Go.Proofs.YtdcmpjefemcppaaGreatDoor
open Go.RowKit

/-- a word of small letters -/
def wordB (s : ByteArray) (most : Nat) : Bool := decide (∀ i, i < s.size → 97 ≤ byt s i ∧ byt s i ≤ 122) && decide (1 ≤ s.size ∧ s.size ≤ most)

theorem word_bad {s : ByteArray} {most k : Nat} (hk : k < s.size) (h : ¬ (97 ≤ byt s k ∧ byt s k ≤ 122)) : wordB s most = false := by
  rw [wordB, decide_eq_false (fun hh => h (hh k hk))]; rfl

theorem word_all {s : ByteArray} {most : Nat} (h : ∀ i, i < s.size → 97 ≤ byt s i ∧ byt s i ≤ 122) : wordB s most = decide (1 ≤ s.size ∧ s.size ≤ most) := by
  rw [wordB, decide_eq_true h]; rfl

/-- a field that may be in a schema -/
def fieldB (f : ByteArray × Int) : Bool := wordB f.1 4 && decide (1 ≤ f.2 ∧ f.2 ≤ 2)

/-- when a schema is right -/
def schemaOkB (fs : List (ByteArray × Int)) : Bool := fs.all fieldB && decide (∀ i, i < fs.length → ∀ k, k < i → (fs.getD k (⟨#[]⟩, 0)).1 ≠ (fs.getD i (⟨#[]⟩, 0)).1) && decide (1 ≤ fs.length ∧ fs.length ≤ 3)

theorem schema_field {fs : List (ByteArray × Int)} {k : Nat} (hk : k < fs.length) (h : fieldB fs[k] = false) : schemaOkB fs = false := by
  have : fs.all fieldB = false := by
    rw [List.all_eq_false]
    exact ⟨fs[k], List.getElem_mem hk, by rw [h]; decide⟩
  rw [schemaOkB, this]; rfl

theorem schema_twice {fs : List (ByteArray × Int)} {i k : Nat} (hi : i < fs.length) (hk : k < i) (h : (fs[k]'(by omega)).1 = fs[i].1) : schemaOkB fs = false := by
  have : decide (∀ i, i < fs.length → ∀ k, k < i → (fs.getD k (⟨#[]⟩, 0)).1 ≠ (fs.getD i (⟨#[]⟩, 0)).1) = false := decide_eq_false (fun hh => hh i hi k hk (by simp [List.getD, hi, show k < fs.length by omega]; exact h))
  rw [schemaOkB, this]; simp

theorem schema_all {fs : List (ByteArray × Int)} (h1 : ∀ i (h : i < fs.length), fieldB fs[i] = true) (h2 : ∀ i (h : i < fs.length), ∀ k (hk : k < i), (fs[k]'(by omega)).1 ≠ fs[i].1) : schemaOkB fs = decide (1 ≤ fs.length ∧ fs.length ≤ 3) := by
  have e1 : fs.all fieldB = true := by
    rw [List.all_eq_true]
    intro s hs
    obtain ⟨i, hi, rfl⟩ := List.getElem_of_mem hs
    exact h1 i hi
  have e2 : decide (∀ i, i < fs.length → ∀ k, k < i → (fs.getD k (⟨#[]⟩, 0)).1 ≠ (fs.getD i (⟨#[]⟩, 0)).1) = true := decide_eq_true (fun i hi k hk => by
    have := h2 i hi k hk
    simpa [List.getD, hi, show k < fs.length by omega] using this)
  rw [schemaOkB, e1, e2]; rfl

/-- when a value is of a kind -/
def valueB (kind num : Int) (t : ByteArray) : Bool :=
  if kind = 1 then decide (0 ≤ num ∧ num ≤ 999999) && decide (t = ⟨#[]⟩)
  else decide (∀ i, i < t.size → byt t i ≠ 0) && decide (kind = 2 ∧ num = 0 ∧ t.size ≤ 6)

/-- the place of a name, counted from k on -/
def placeL (name : ByteArray) : Nat → List (ByteArray × Int) → Int
  | _, [] => -1
  | k, f :: l => if f.1 = name then (k : Int) else placeL name (k + 1) l

theorem place_hit {name : ByteArray} {fs : List (ByteArray × Int)} {k : Nat} (hk : k < fs.length) (h : fs[k].1 = name) : placeL name k (fs.drop k) = (k : Int) := by
  rw [List.drop_eq_getElem_cons hk, placeL, if_pos h]

theorem place_miss {name : ByteArray} {fs : List (ByteArray × Int)} {k : Nat} (hk : k < fs.length) (h : fs[k].1 ≠ name) : placeL name k (fs.drop k) = placeL name (k + 1) (fs.drop (k + 1)) := by
  rw [List.drop_eq_getElem_cons hk, placeL, if_neg h]

theorem place_end {name : ByteArray} {fs : List (ByteArray × Int)} {k : Nat} (hk : fs.length ≤ k) : placeL name k (fs.drop k) = -1 := by
  rw [List.drop_eq_nil_of_le hk, placeL]
end Go.Proofs.YtdcmpjefemcppaaGreatDoor

namespace Go.Proofs.YtdcmpjefemcppaaGreatDoor
open Go.RowKit

theorem l01In_all (x a b : Int) (w : World) : Calls Tryz.prog 54 #[.int .i64 x, .int .i64 a, .int .i64 b] w fun e w' => e = .returned (.bool (decide (a ≤ x ∧ x ≤ b))) ∧ w = w' := by
  by_cases h : a ≤ x ∧ x ≤ b
  · rw [decide_eq_true h]; exact l01In_yes x a b w h.1 h.2
  · rw [decide_eq_false h]; exact l01In_no x a b w (by omega)

set_option maxHeartbeats 1000000 in
theorem l04Word_any (s : ByteArray) (hs : s.size ≤ 1048576) (most : Nat) (w : World) :
    Calls Tryz.prog 92 #[.string s, .int .i64 (most : Int)] w fun e w' => e = .returned (.bool (wordB s most)) ∧ w = w' := by
  go_enter Tryz.func92, Tryz.ntmps92
  go_wp2
  go_loopg [5] s.size (fun g iv wr => ∃ k : Nat, k ≤ s.size ∧ iv = .int .i64 (k : Int) ∧ g + k = s.size ∧ Hid (∀ i, i < k → 97 ≤ byt s i ∧ byt s i ≤ 122) ∧ w = wr)
  case atStart => exact ⟨0, Nat.zero_le _, rfl, rfl, hide (fun i h => by omega), rfl⟩
  case round =>
    obtain ⟨k, hk, rfl, hg, HA, rfl⟩ := hrel
    have HG := hide hg
    clear hg
    by_cases hlt : k < s.size
    · obtain ⟨y, hy⟩ : ∃ y, y = byt s k := ⟨_, rfl⟩
      have hyb : y < 256 := by rw [hy]; exact byt_lt s _
      have hs1 : s[k].toNat = y := by rw [hy]; exact byt_eq s _ hlt
      have HY := hide hy
      have hk0 : (0 : Int) ≤ (k : Int) := by omega
      have hk1 : (k : Int) < (s.size : Int) := by omega
      clear hy
      by_cases h1 : y < 97
      · have HO : Hid (wordB s most = false) := hide (word_bad hlt (by rw [← HY.out]; omega))
        have d1 : decide ((y : Int) < 97) = true := by simp; omega
        go_wp2
        go_ret
        rw [HO.out]
        exact ⟨rfl, rfl⟩
      · have d1 : decide ((y : Int) < 97) = false := by simp; omega
        by_cases h2 : 122 < y
        · have HO : Hid (wordB s most = false) := hide (word_bad hlt (by rw [← HY.out]; omega))
          have d2 : decide ((122 : Int) < (y : Int)) = true := by simp; omega
          go_wp2
          go_ret
          rw [HO.out]
          exact ⟨rfl, rfl⟩
        · have d2 : decide ((122 : Int) < (y : Int)) = false := by simp; omega
          have HA2 : Hid (∀ i, i < k + 1 → 97 ≤ byt s i ∧ byt s i ≤ 122) := hide (fun i hi => by
            by_cases e : i = k
            · subst e; rw [← HY.out]; omega
            · exact HA.out i (by omega))
          go_wp2
          go_roundg (gk - 1)
          case measure => have := HG.out; omega
          case rel => exact ⟨k + 1, by omega, by go_num, by have := HG.out; omega, HA2, rfl⟩
    · have HO : Hid (wordB s most = decide (1 ≤ (s.size : Int) ∧ (s.size : Int) ≤ (most : Int))) := hide (by rw [word_all (fun i hi => HA.out i (by omega))]; congr 1; simp; omega)
      have HC := hide (l01In_all (s.size : Int) 1 (most : Int))
      obtain ⟨bb, hbb⟩ : ∃ bb, bb = decide (1 ≤ (s.size : Int) ∧ (s.size : Int) ≤ (most : Int)) := ⟨_, rfl⟩
      rw [← hbb] at HC HO
      clear hbb
      go_wp2_with fail
      refine (HC.out _).mono ?_
      rintro e w2 ⟨rfl, rfl⟩
      go_wp2_with fail
      go_ret
      rw [HO.out]
      exact ⟨rfl, rfl⟩

set_option maxHeartbeats 4000000 in
set_option maxRecDepth 100000 in
theorem specSchemaOk_any (fs : List (ByteArray × Int)) (hl : fs.length ≤ 1048576) (hn : ∀ f ∈ fs, f.1.size ≤ 1048576) (v : Value) (w : World) (hr : RowAt w 2 v fs.length (flds fs)) :
    Calls Tryz.prog 72 #[v] w fun e w' => e = .returned (.bool (schemaOkB fs)) ∧ Below w.heap.size w w' := by
  obtain ⟨-, a, cap, rfl, h2⟩ := hr
  have HR := hide h2
  have HN := hide hn
  clear h2 hn
  go_enter Tryz.func72, Tryz.ntmps72
  go_wp2_with fail
  go_loopg [3] fs.length (fun g iv wr => ∃ i : Nat, i ≤ fs.length ∧ iv = .int .i64 (i : Int) ∧ g + i = fs.length ∧ Hid ((∀ j (h : j < fs.length), j < i → fieldB fs[j] = true) ∧ ∀ j (h : j < fs.length), j < i → ∀ k (hk : k < j), (fs[k]'(by omega)).1 ≠ fs[j].1) ∧ Hid (Below w.heap.size w wr))
  case atStart => exact ⟨0, Nat.zero_le _, rfl, rfl, hide ⟨fun j h h0 => by omega, fun j h h0 => by omega⟩, hide (Below.refl _ _)⟩
  case round =>
    obtain ⟨i, hi, rfl, hg, HA, HB⟩ := hrel
    have HG := hide hg
    obtain ⟨gq, hgq⟩ : ∃ gq, gq = gk := ⟨_, rfl⟩
    have HGQ := hide hgq
    clear hg hgq
    by_cases hlt : i < fs.length
    · rcases HR.out with h0 | ⟨b, off, rfl, hbl, hc⟩
      · omega
      · obtain ⟨x, hx⟩ : ∃ x, x = fs[i].1 := ⟨_, rfl⟩
        obtain ⟨q, hq⟩ : ∃ q, q = fs[i].2 := ⟨_, rfl⟩
        have HC0 : Hid (∀ wx, Below w.heap.size w wx → wx.cell? ⟨b, off + i * 2, none⟩ = some (.string x) ∧ wx.cell? ⟨b, off + i * 2 + 1, none⟩ = some (.int .i64 q)) := hide (fun wx hb => ⟨by rw [hb.cell (by exact hbl), hc (i * 2) (by omega), (flds_at fs i hlt).1, hx], by rw [hb.cell (by exact hbl), Nat.add_assoc, hc (i * 2 + 1) (by omega), (flds_at fs i hlt).2, hq]⟩)
        have HCk : Hid (∀ wx, Below w.heap.size w wx → ∀ k (h : k < fs.length), wx.cell? ⟨b, off + k * 2, none⟩ = some (.string fs[k].1)) := hide (fun wx hb k h => by rw [hb.cell (by exact hbl), hc (k * 2) (by omega), (flds_at fs k h).1])
        have hxs : x.size ≤ 1048576 := by rw [hx]; exact HN.out _ (List.getElem_mem hlt)
        have HX := hide hx
        have HQ := hide hq
        obtain ⟨hc0, hc1⟩ := HC0.out wr HB.out
        have hi0 : (0 : Int) ≤ (i : Int) := by omega
        have hi1 : (i : Int) < (fs.length : Int) := by omega
        have HWd := hide (l04Word_any x hxs 4)
        have HIn := hide (l01In_all q 1 2)
        have HFb : Hid (fieldB fs[i] = (wordB x 4 && decide (1 ≤ q ∧ q ≤ 2))) := hide (by rw [fieldB, ← HX.out, ← HQ.out])
        clear hc hx hq
        cases hwd : wordB x 4 with
        | false =>
          rw [hwd] at HWd HFb
          have HO : Hid (schemaOkB fs = false) := hide (schema_field hlt HFb.out)
          go_wp2_with fail
          refine (HWd.out _).mono ?_
          rintro e w2 ⟨rfl, rfl⟩
          go_wp2_with fail
          go_ret
          rw [HO.out]
          exact ⟨rfl, HB.out⟩
        | true =>
          rw [hwd] at HWd HFb
          cases hkd : decide (1 ≤ q ∧ q ≤ 2) with
          | false =>
            rw [hkd] at HIn HFb
            have HO : Hid (schemaOkB fs = false) := hide (schema_field hlt HFb.out)
            clear hwd hkd
            go_wp2_with fail
            refine (HWd.out _).mono ?_
            rintro e w2 ⟨rfl, rfl⟩
            go_wp2_with fail
            refine (HIn.out _).mono ?_
            rintro e w2 ⟨rfl, rfl⟩
            go_wp2_with fail
            go_ret
            rw [HO.out]
            exact ⟨rfl, HB.out⟩
          | true =>
            rw [hkd] at HIn HFb
            clear hwd hkd
            go_wp2_with fail
            refine (HWd.out _).mono ?_
            rintro e w2 ⟨rfl, rfl⟩
            go_wp2_with fail
            refine (HIn.out _).mono ?_
            rintro e w2 ⟨rfl, rfl⟩
            clear hc0 hc1
            go_wp2_with fail
            go_loopg [4] i (fun g kv wq => ∃ k : Nat, k ≤ i ∧ kv = .int .i64 (k : Int) ∧ g + k = i ∧ Hid (∀ j (h : j < k) (hj : j < fs.length), fs[j].1 ≠ x) ∧ Hid (Below w.heap.size w wq))
            case atStart => exact ⟨0, Nat.zero_le _, rfl, rfl, hide (fun j h => by omega), HB⟩
            case round =>
              obtain ⟨k, hk, rfl, hg, HT, HBy⟩ := hrel
              have HG2 := hide hg
              clear hg
              by_cases hki : k < i
              · obtain ⟨hc0, hc1⟩ := HC0.out wr HBy.out
                have hkl : k < fs.length := by omega
                obtain ⟨y, hy⟩ : ∃ y, y = fs[k].1 := ⟨_, rfl⟩
                have hck : wr.cell? ⟨b, off + k * 2, none⟩ = some (.string y) := by rw [hy]; exact HCk.out wr HBy.out k hkl
                have hk0 : (0 : Int) ≤ (k : Int) := by omega
                have hk1 : (k : Int) < (fs.length : Int) := by omega
                have hk2 : (k : Int) < (i : Int) := by omega
                have HY := hide hy
                have hbq := ba_beq y x
                clear hy hc1
                by_cases hyx : y = x
                · have HO : Hid (schemaOkB fs = false) := hide (schema_twice hlt hki (by rw [← HY.out, ← HX.out]; exact hyx))
                  rw [decide_eq_true hyx] at hbq
                  clear hyx
                  go_wp2_with fail
                  go_quiet (fail)
                  go_wp2_with fail
                  go_ret
                  rw [HO.out]
                  exact ⟨rfl, below_drewN HBy.out _⟩
                · have HT2 : Hid (∀ j (h : j < k + 1) (hj : j < fs.length), fs[j].1 ≠ x) := hide (fun j h hj => by
                    by_cases e : j = k
                    · subst e; rw [← HY.out]; exact hyx
                    · exact HT.out j (by omega) hj)
                  rw [decide_eq_false hyx] at hbq
                  clear hyx
                  go_wp2_with fail
                  go_quiet (fail)
                  have HBz : Hid (Below w.heap.size w (wr.drewN nq)) := hide (below_drewN HBy.out _)
                  go_wp2_with fail
                  go_roundg (gk - 1)
                  case measure => have := HG2.out; omega
                  case rel => exact ⟨k + 1, by omega, by go_num, by have := HG2.out; omega, HT2, HBz⟩
              · have hA := HA.out
                have HA2 : Hid ((∀ j (h : j < fs.length), j < i + 1 → fieldB fs[j] = true) ∧ ∀ j (h : j < fs.length), j < i + 1 → ∀ k (hk : k < j), (fs[k]'(by omega)).1 ≠ fs[j].1) := hide ⟨fun j h hj => by
                  by_cases e : j = i
                  · subst e; exact HFb.out
                  · exact hA.1 j h (by omega), fun j h hj k hk => by
                  by_cases e : j = i
                  · subst e; rw [← HX.out]; exact HT.out k (by omega) (by omega)
                  · exact hA.2 j h (by omega) k hk⟩
                clear hA
                go_wp2_with fail
                go_roundg (gq - 1)
                case measure => have h1 := HGQ.out; have h2 := HG.out; omega
                case rel => exact ⟨i + 1, by omega, by go_num, by have h1 := HGQ.out; have h2 := HG.out; omega, HA2, HBy⟩
    · have HO : Hid (schemaOkB fs = decide (1 ≤ (fs.length : Int) ∧ (fs.length : Int) ≤ 3)) := hide (by
        have hA := HA.out
        rw [schema_all (fun j h => hA.1 j h (by omega)) (fun j h k hk => hA.2 j h (by omega) k hk)]
        congr 1; simp; omega)
      have HC := hide (l01In_all (fs.length : Int) 1 3)
      obtain ⟨bb, hbb⟩ : ∃ bb, bb = decide (1 ≤ (fs.length : Int) ∧ (fs.length : Int) ≤ 3) := ⟨_, rfl⟩
      rw [← hbb] at HC HO
      clear hbb
      go_wp2_with fail
      refine (HC.out _).mono ?_
      rintro e w2 ⟨rfl, rfl⟩
      go_wp2_with fail
      go_ret
      rw [HO.out]
      exact ⟨rfl, HB.out⟩
end Go.Proofs.YtdcmpjefemcppaaGreatDoor

namespace Go.Proofs.YtdcmpjefemcppaaGreatDoor
open Go.RowKit

theorem value_num {num : Int} {t : ByteArray} : valueB 1 num t = (decide (0 ≤ num ∧ num ≤ 999999) && decide (t = ⟨#[]⟩)) := by rw [valueB, if_pos rfl]

theorem value_zero {kind num : Int} {t : ByteArray} {k : Nat} (hk : kind ≠ 1) (h : k < t.size) (h0 : byt t k = 0) : valueB kind num t = false := by
  rw [valueB, if_neg hk, decide_eq_false (fun hh => hh k h h0)]; rfl

theorem value_text {kind num : Int} {t : ByteArray} (hk : kind ≠ 1) (h : ∀ i, i < t.size → byt t i ≠ 0) : valueB kind num t = decide (kind = 2 ∧ num = 0 ∧ t.size ≤ 6) := by
  rw [valueB, if_neg hk, decide_eq_true h]; rfl

set_option maxHeartbeats 2000000 in
set_option maxRecDepth 100000 in
theorem l04Value_any (kind num : Int) (t : ByteArray) (ht : t.size ≤ 1048576) (w : World) :
    Calls Tryz.prog 78 #[.int .i64 kind, .agg #[.int .i64 num, .string t]] w fun e w' => e = .returned (.bool (valueB kind num t)) ∧ Below w.heap.size w w' := by
  obtain ⟨w0, hw0⟩ : ∃ w0, w0 = w.alloc (Obj.cells #[.int .i64 num, .string t] 52) := ⟨_, rfl⟩
  have hb0 : Below w.heap.size w w0 := by rw [hw0]; exact (Below.refl w.heap.size w).alloc (Nat.le_refl _) _
  have hblk : w0.heap[w.heap.size]? = some (Obj.cells #[.int .i64 num, .string t] 52) := by rw [hw0]; exact heap_alloc_new w _
  have HB := hide hb0
  have cb0 : w0.cell? ⟨w.heap.size, 0, none⟩ = some (.int .i64 num) := (cell_at hblk 0).1
  have cb1 : w0.cell? ⟨w.heap.size, 1, none⟩ = some (.string t) := (cell_at hblk 1).1
  clear hb0 hblk
  by_cases hk : kind = 1
  · subst hk
    rw [value_num]
    have HC := hide (l01In_all num 0 999999)
    obtain ⟨b1, hb1⟩ : ∃ b1, b1 = decide (0 ≤ num ∧ num ≤ 999999) := ⟨_, rfl⟩
    rw [← hb1] at HC ⊢
    have hbq : t.toList.isEmpty = decide (t = ⟨#[]⟩) := by
      rw [← ba_beq, show (⟨#[]⟩ : ByteArray).toList = [] from by rw [ByteArray.toList_eq]]
      cases t.toList <;> rfl
    obtain ⟨b2, hb2⟩ : ∃ b2, b2 = decide (t = ⟨#[]⟩) := ⟨_, rfl⟩
    rw [← hb2] at hbq ⊢
    clear hb1 hb2
    cases b1 with
    | false =>
      go_enter Tryz.func78, Tryz.ntmps78
      go_wp2_with fail
      rw [← hw0]
      refine (HC.out _).mono ?_
      rintro e w2 ⟨rfl, rfl⟩
      clear hw0
      go_wp2_with fail
      go_ret
      exact ⟨rfl, HB.out⟩
    | true =>
      go_enter Tryz.func78, Tryz.ntmps78
      go_wp2_with fail
      rw [← hw0]
      refine (HC.out _).mono ?_
      rintro e w2 ⟨rfl, rfl⟩
      clear hw0
      go_wp2_with fail
      go_ret
      exact ⟨by simp, HB.out⟩
  · have hk1 : (kind == 1) = false := by simp [hk]
    have hk2 : decide (kind = 1) = false := by simp [hk]
    have HK := hide hk
    clear hk
    go_enter Tryz.func78, Tryz.ntmps78
    go_wp2_with fail
    rw [← hw0]
    clear hw0 hk1 hk2
    go_loopg [5] t.size (fun g iv wr => ∃ k : Nat, k ≤ t.size ∧ iv = .int .i64 (k : Int) ∧ g + k = t.size ∧ Hid (∀ i, i < k → byt t i ≠ 0) ∧ w0 = wr)
    case atStart => exact ⟨0, Nat.zero_le _, rfl, rfl, hide (fun i h => by omega), rfl⟩
    case round =>
      obtain ⟨k, hk, rfl, hg, HA, rfl⟩ := hrel
      have HG := hide hg
      clear hg
      by_cases hlt : k < t.size
      · obtain ⟨y, hy⟩ : ∃ y, y = byt t k := ⟨_, rfl⟩
        have hyb : y < 256 := by rw [hy]; exact byt_lt t _
        have hs1 : t[k].toNat = y := by rw [hy]; exact byt_eq t _ hlt
        have HY := hide hy
        have hk0 : (0 : Int) ≤ (k : Int) := by omega
        have hk1 : (k : Int) < (t.size : Int) := by omega
        clear hy
        by_cases h1 : y = 0
        · have HO : Hid (valueB kind num t = false) := hide (value_zero HK.out hlt (by rw [← HY.out]; exact h1))
          have d1 : ((y : Int) == 0) = true := by simp [h1]
          have d2 : decide ((y : Int) = 0) = true := by simp [h1]
          clear h1
          go_wp2_with fail
          go_ret
          rw [HO.out]
          exact ⟨rfl, HB.out⟩
        · have d1 : ((y : Int) == 0) = false := by simp [h1]
          have d2 : decide ((y : Int) = 0) = false := by simp [h1]
          have HA2 : Hid (∀ i, i < k + 1 → byt t i ≠ 0) := hide (fun i hi => by
            by_cases e : i = k
            · subst e; rw [← HY.out]; exact h1
            · exact HA.out i (by omega))
          go_wp2_with fail
          go_roundg (gk - 1)
          case measure => have := HG.out; omega
          case rel => exact ⟨k + 1, by omega, by go_num, by have := HG.out; omega, HA2, rfl⟩
      · have HO : Hid (valueB kind num t = decide (kind = 2 ∧ num = 0 ∧ t.size ≤ 6)) := hide (value_text HK.out (fun i hi => HA.out i (by omega)))
        by_cases h2 : kind = 2
        · have d1 : (kind == 2) = true := by simp [h2]
          by_cases h3 : num = 0
          · have d2 : (num == 0) = true := by simp [h3]
            by_cases h4 : t.size ≤ 6
            · have d3 : decide ((t.size : Int) ≤ 6) = true := by simp; omega
              rw [decide_eq_true ⟨h2, h3, h4⟩] at HO
              clear h2 h3
              go_wp2_with fail
              go_ret
              rw [HO.out]
              exact ⟨rfl, HB.out⟩
            · have d3 : decide ((t.size : Int) ≤ 6) = false := by simp; omega
              rw [decide_eq_false (fun h => h4 h.2.2)] at HO
              clear h2 h3
              go_wp2_with fail
              go_ret
              rw [HO.out]
              exact ⟨rfl, HB.out⟩
          · have d2 : (num == 0) = false := by simp [h3]
            rw [decide_eq_false (fun h => h3 h.2.1)] at HO
            clear h2 h3
            go_wp2_with fail
            go_ret
            rw [HO.out]
            exact ⟨rfl, HB.out⟩
        · have d1 : (kind == 2) = false := by simp [h2]
          rw [decide_eq_false (fun h => h2 h.1)] at HO
          clear h2
          go_wp2_with fail
          go_ret
          rw [HO.out]
          exact ⟨rfl, HB.out⟩

/-- when a thing is right -/
def thingOkB (fs : List (ByteArray × Int)) (vs : List (Int × ByteArray)) : Bool := schemaOkB fs && decide (vs.length = fs.length) && decide (∀ i, i < vs.length → valueB (fs.getD i (⟨#[]⟩, 0)).2 (vs.getD i (0, ⟨#[]⟩)).1 (vs.getD i (0, ⟨#[]⟩)).2 = true)

theorem thing_schema {fs : List (ByteArray × Int)} {vs : List (Int × ByteArray)} (h : schemaOkB fs = false) : thingOkB fs vs = false := by rw [thingOkB, h]; rfl

theorem thing_len {fs : List (ByteArray × Int)} {vs : List (Int × ByteArray)} (h : vs.length ≠ fs.length) : thingOkB fs vs = false := by rw [thingOkB, decide_eq_false h]; simp

theorem thing_bad {fs : List (ByteArray × Int)} {vs : List (Int × ByteArray)} {k : Nat} (hk : k < vs.length) (hf : k < fs.length) (h : valueB fs[k].2 vs[k].1 vs[k].2 = false) : thingOkB fs vs = false := by
  rw [thingOkB, decide_eq_false (fun hh : ∀ i, i < vs.length → _ => by have := hh k hk; simp [List.getD, hk, hf] at this; rw [h] at this; cases this)]; simp

theorem thing_all {fs : List (ByteArray × Int)} {vs : List (Int × ByteArray)} (h0 : schemaOkB fs = true) (h1 : vs.length = fs.length) (h : ∀ i (hi : i < vs.length) (hf : i < fs.length), valueB fs[i].2 vs[i].1 vs[i].2 = true) : thingOkB fs vs = true := by
  rw [thingOkB, h0, decide_eq_true h1, decide_eq_true (fun i hi => by have := h i hi (by omega); simpa [List.getD, hi, show i < fs.length by omega] using this)]; rfl

set_option maxHeartbeats 2000000 in
set_option maxRecDepth 100000 in
theorem specThingOk_any (fs : List (ByteArray × Int)) (vs : List (Int × ByteArray)) (hl : fs.length ≤ 1048576) (hn : ∀ f ∈ fs, f.1.size ≤ 1048576) (_hl2 : vs.length ≤ 1048576) (hn2 : ∀ f ∈ vs, f.2.size ≤ 1048576) (v u : Value) (w : World) (hr : RowAt w 2 v fs.length (flds fs)) (hu : RowAt w 2 u vs.length (puts vs)) :
    Calls Tryz.prog 57 #[v, u] w fun e w' => e = .returned (.bool (thingOkB fs vs)) ∧ Below w.heap.size w w' := by
  have HS := hide (fun wx h => specSchemaOk_any fs hl hn v wx h)
  have HRv := hide hr
  have HRu := hide hu
  obtain ⟨-, a, cap, rfl, h2⟩ := hr
  obtain ⟨-, a', cap', rfl, h3⟩ := hu
  have HR := hide h2
  have HQ := hide h3
  have HN2 := hide hn2
  clear h2 h3 hn hn2
  cases hsk : schemaOkB fs with
  | false =>
    rw [hsk] at HS
    have HO := hide (thing_schema (vs := vs) hsk)
    clear hsk
    go_enter Tryz.func57, Tryz.ntmps57
    go_wp2_with fail
    refine (HS.out _ HRv.out).mono ?_
    rintro e w1 ⟨rfl, hb⟩
    go_wp2_with fail
    go_ret
    rw [HO.out]
    exact ⟨rfl, hb⟩
  | true =>
    rw [hsk] at HS
    have HSk := hide hsk
    clear hsk
    by_cases hne : vs.length = fs.length
    · have HNe := hide hne
      have d1 : ((vs.length : Int) != (fs.length : Int)) = false := by rw [hne]; simp
      go_enter Tryz.func57, Tryz.ntmps57
      go_wp2_with fail
      refine (HS.out _ HRv.out).mono ?_
      rintro e w1 ⟨rfl, hb⟩
      have HB1 := hide hb
      clear hb hne
      go_wp2_with fail
      clear d1
      go_loopg [5] vs.length (fun g iv wr => ∃ k : Nat, k ≤ vs.length ∧ iv = .int .i64 (k : Int) ∧ g + k = vs.length ∧ Hid (∀ i (hi : i < vs.length) (hf : i < fs.length), i < k → valueB fs[i].2 vs[i].1 vs[i].2 = true) ∧ Hid (Below w.heap.size w wr))
      case atStart => exact ⟨0, Nat.zero_le _, rfl, rfl, hide (fun i h hf h0 => by omega), HB1⟩
      case round =>
        obtain ⟨k, hk, rfl, hg, HA, HB⟩ := hrel
        have HG := hide hg
        clear hg
        by_cases hlt : k < vs.length
        · have hlf : k < fs.length := by have := HNe.out; omega
          rcases HR.out with h0 | ⟨b, off, rfl, hbl, hc⟩
          · omega
          · rcases HQ.out with h0 | ⟨b', off', rfl, hbl', hc'⟩
            · omega
            · obtain ⟨q, hq⟩ : ∃ q, q = fs[k].2 := ⟨_, rfl⟩
              obtain ⟨p, hp⟩ : ∃ p, p = vs[k].1 := ⟨_, rfl⟩
              obtain ⟨x, hx⟩ : ∃ x, x = vs[k].2 := ⟨_, rfl⟩
              have hc1 : wr.cell? ⟨b, off + k * 2 + 1, none⟩ = some (.int .i64 q) := by rw [HB.out.cell (by exact hbl), Nat.add_assoc, hc (k * 2 + 1) (by omega), (flds_at fs k hlf).2, hq]
              have hd0 : wr.cell? ⟨b', off' + k * 2, none⟩ = some (.int .i64 p) := by rw [HB.out.cell (by exact hbl'), hc' (k * 2) (by omega), (puts_at vs k hlt).1, hp]
              have hd1 : wr.cell? ⟨b', off' + k * 2 + 1, none⟩ = some (.string x) := by rw [HB.out.cell (by exact hbl'), Nat.add_assoc, hc' (k * 2 + 1) (by omega), (puts_at vs k hlt).2, hx]
              have hxs : x.size ≤ 1048576 := by rw [hx]; exact HN2.out _ (List.getElem_mem hlt)
              have HV := hide (l04Value_any q p x hxs)
              have HQP := hide (⟨hq, hp, hx⟩ : q = fs[k].2 ∧ p = vs[k].1 ∧ x = vs[k].2)
              have hbw : b < wr.heap.size := Nat.lt_of_lt_of_le hbl HB.out.size
              have hbw' : b' < wr.heap.size := Nat.lt_of_lt_of_le hbl' HB.out.size
              have hk0 : (0 : Int) ≤ (k : Int) := by omega
              have hk1 : (k : Int) < (fs.length : Int) := by omega
              have hk2 : (k : Int) < (vs.length : Int) := by omega
              clear hc hc' hq hp hx
              cases hvb : valueB q p x with
              | false =>
                rw [hvb] at HV
                have HO : Hid (thingOkB fs vs = false) := hide (thing_bad hlt hlf (by rw [← HQP.out.1, ← HQP.out.2.1, ← HQP.out.2.2]; exact hvb))
                clear hvb
                go_wp2_with fail
                go_region_held3 (fun wx => wx.cell? ⟨b, off + k * 2 + 1, none⟩ = some (.int .i64 q) ∧ wx.cell? ⟨b', off' + k * 2, none⟩ = some (.int .i64 p) ∧ wx.cell? ⟨b', off' + k * 2 + 1, none⟩ = some (.string x)) (first | exact ⟨hc1, hd0, hd1⟩ | exact hS2) ((go_at_call 78; refine (HV.out _).mono ?_; rintro e w2 ⟨rfl, hb2⟩; have hS2 : w2.cell? ⟨b, off + k * 2 + 1, none⟩ = some (.int .i64 q) ∧ w2.cell? ⟨b', off' + k * 2, none⟩ = some (.int .i64 p) ∧ w2.cell? ⟨b', off' + k * 2 + 1, none⟩ = some (.string x) := ⟨(hb2.cell (by exact hbw)).trans hc1, (hb2.cell (by exact hbw')).trans hd0, (hb2.cell (by exact hbw')).trans hd1⟩))
                have hb3 : Below w.heap.size w w2 := HB.out.trans ((Below.refl _ _).drew.trans (hb2.mono HB.out.size))
                clear hb2 hS2 hc1 hd0 hd1
                go_wp2_with fail
                go_ret
                rw [HO.out]
                exact ⟨rfl, hb3⟩
              | true =>
                rw [hvb] at HV
                have HA2 : Hid (∀ i (hi : i < vs.length) (hf : i < fs.length), i < k + 1 → valueB fs[i].2 vs[i].1 vs[i].2 = true) := hide (fun i hi hf h => by
                  by_cases e : i = k
                  · subst e; rw [← HQP.out.1, ← HQP.out.2.1, ← HQP.out.2.2]; exact hvb
                  · exact HA.out i hi hf (by omega))
                clear hvb
                go_wp2_with fail
                go_region_held3 (fun wx => wx.cell? ⟨b, off + k * 2 + 1, none⟩ = some (.int .i64 q) ∧ wx.cell? ⟨b', off' + k * 2, none⟩ = some (.int .i64 p) ∧ wx.cell? ⟨b', off' + k * 2 + 1, none⟩ = some (.string x)) (first | exact ⟨hc1, hd0, hd1⟩ | exact hS2) ((go_at_call 78; refine (HV.out _).mono ?_; rintro e w2 ⟨rfl, hb2⟩; have hS2 : w2.cell? ⟨b, off + k * 2 + 1, none⟩ = some (.int .i64 q) ∧ w2.cell? ⟨b', off' + k * 2, none⟩ = some (.int .i64 p) ∧ w2.cell? ⟨b', off' + k * 2 + 1, none⟩ = some (.string x) := ⟨(hb2.cell (by exact hbw)).trans hc1, (hb2.cell (by exact hbw')).trans hd0, (hb2.cell (by exact hbw')).trans hd1⟩))
                have hb3 : Below w.heap.size w w2 := HB.out.trans ((Below.refl _ _).drew.trans (hb2.mono HB.out.size))
                have HB3 := hide hb3
                clear hb2 hb3 hS2 hc1 hd0 hd1
                go_wp2_with fail
                go_roundg (gk - 1)
                case measure => have := HG.out; omega
                case rel => exact ⟨k + 1, by omega, by go_num, by have := HG.out; omega, HA2, HB3⟩
        · have HO : Hid (thingOkB fs vs = true) := hide (thing_all HSk.out HNe.out (fun i hi hf => HA.out i hi hf (by omega)))
          go_wp2_with fail
          go_ret
          rw [HO.out]
          exact ⟨rfl, HB.out⟩
    · have HO := hide (thing_len hne)
      have d1 : ((vs.length : Int) != (fs.length : Int)) = true := by simp; omega
      go_enter Tryz.func57, Tryz.ntmps57
      go_wp2_with fail
      refine (HS.out _ HRv.out).mono ?_
      rintro e w1 ⟨rfl, hb⟩
      go_wp2_with fail
      go_ret
      rw [HO.out]
      exact ⟨rfl, hb⟩

theorem digits (n : Nat) (hn : n ≤ 999999) : ∃ a1 a3 a4 : Nat, a1 = n / 65536 ∧ a3 = n / 256 % 256 ∧ a4 = n % 256 ∧ a1 < 256 ∧ a3 < 256 ∧ a4 < 256 ∧ (n : Int) / 65536 = (a1 : Int) ∧ (n : Int) / 256 % 256 = (a3 : Int) ∧ (n : Int) % 256 = (a4 : Int) :=
  ⟨n / 65536, n / 256 % 256, n % 256, rfl, rfl, rfl, by omega, Nat.mod_lt _ (by omega), Nat.mod_lt _ (by omega), rfl, rfl, rfl⟩

theorem own3 (w : World) (a b c : Nat) (ha : a < 256) (hb : b < 256) (hc : c < 256) : (w.alloc (Obj.cells #[.int .u8 (a : Int), .int .u8 (b : Int), .int .u8 (c : Int)] 5)).ownsRow w.heap.size 5 1 (.slice (some ⟨w.heap.size, 0, none⟩) 3 3) [UInt8.ofNat a, UInt8.ofNat b, UInt8.ofNat c].length (Lib.byteCells [UInt8.ofNat a, UInt8.ofNat b, UInt8.ofNat c]) := by
  have h := World.ownsRow_lit (base := w.heap.size) (e := 5) (size := 1) w #[.int .u8 (a : Int), .int .u8 (b : Int), .int .u8 (c : Int)] 3 (Nat.le_refl _) (by unfold maxLen; omega) rfl
  have e : Lib.byteCells [UInt8.ofNat a, UInt8.ofNat b, UInt8.ofNat c] = [.int .u8 (a : Int), .int .u8 (b : Int), .int .u8 (c : Int)] := by
    simp only [Lib.byteCells, List.map_cons, List.map_nil, toNat_ofNat8 _ ha, toNat_ofNat8 _ hb, toNat_ofNat8 _ hc]
  rw [e]
  exact h

/-- the key of a value of a kind -/
def keyT (kind num : Int) (t : ByteArray) : ByteArray := if kind = 1 then ⟨#[UInt8.ofNat (num.toNat / 65536), UInt8.ofNat (num.toNat / 256 % 256), UInt8.ofNat (num.toNat % 256)]⟩ else t ++ ⟨#[0]⟩

def keyO (kind num : Int) (t : ByteArray) : ByteArray := if valueB kind num t = true then keyT kind num t else ⟨#[]⟩

end Go.Proofs.YtdcmpjefemcppaaGreatDoor

namespace Go.Proofs.YtdcmpjefemcppaaGreatDoor
open Go.RowKit

theorem shortB_size (s : ByteArray) : (shortB s).size ≤ s.size + 5 := by
  have h := (vtext_length s.size).2
  rw [shortB, ByteArray.size_append]
  have e : (⟨(vtext s.size).toArray⟩ : ByteArray).size = (vtext s.size).length := List.size_toArray
  omega

set_option maxHeartbeats 400000 in
theorem l04Short_any (s : ByteArray) (h : s.size ≤ 20000) (w : World) :
    Calls Tryz.prog 59 #[.string s] w fun e w' => e = .returned (.string (shortB s)) ∧ Below w.heap.size w w' := by
  have hlen := (vtext_length s.size).2
  have HO : Hid (shortB s = ⟨(vtext s.size).toArray⟩ ++ s) := hide rfl
  go_enter Tryz.func59, Tryz.ntmps59
  go_wp2_with fail
  refine (l01Var_any s.size (by omega) (by omega) _).mono ?_
  rintro e w2 ⟨rfl, hb⟩
  rw [Int.toNat_natCast]
  go_wp2
  go_ret
  rw [HO.out]
  exact ⟨rfl, hb⟩

/-- a value in bytes -/
def valueT (kind num : Int) (t : ByteArray) : ByteArray := if kind = 1 then ⟨(vtext num.toNat).toArray⟩ else shortB t

theorem valueT_size {kind num : Int} {t : ByteArray} (h : valueB kind num t = true) : (valueT kind num t).size ≤ 11 := by
  unfold valueT
  split
  · have h := (vtext_length num.toNat).2
    have e : (⟨(vtext num.toNat).toArray⟩ : ByteArray).size = (vtext num.toNat).length := List.size_toArray
    omega
  · next hk =>
    rw [valueB, if_neg hk, Bool.and_eq_true, decide_eq_true_eq, decide_eq_true_eq] at h
    have := shortB_size t
    have := h.2.2.2
    omega

/-- the bytes of the first k values -/
def thingK (fs : List (ByteArray × Int)) (vs : List (Int × ByteArray)) : Nat → ByteArray
  | 0 => ⟨#[]⟩
  | k + 1 => thingK fs vs k ++ valueT (fs.getD k (⟨#[]⟩, 0)).2 (vs.getD k (0, ⟨#[]⟩)).1 (vs.getD k (0, ⟨#[]⟩)).2

theorem thingK_succ {fs : List (ByteArray × Int)} {vs : List (Int × ByteArray)} {k : Nat} (hv : k < vs.length) (hf : k < fs.length) : thingK fs vs (k + 1) = thingK fs vs k ++ valueT fs[k].2 vs[k].1 vs[k].2 := by
  rw [thingK]; simp [List.getD, hv, hf]

theorem thing_yes {fs : List (ByteArray × Int)} {vs : List (Int × ByteArray)} (h : thingOkB fs vs = true) : schemaOkB fs = true ∧ vs.length = fs.length ∧ fs.length ≤ 3 ∧ ∀ i (hi : i < vs.length) (hf : i < fs.length), valueB fs[i].2 vs[i].1 vs[i].2 = true := by
  rw [thingOkB, Bool.and_eq_true, Bool.and_eq_true, decide_eq_true_eq, decide_eq_true_eq] at h
  obtain ⟨⟨h1, h2⟩, h3⟩ := h
  refine ⟨h1, h2, ?_, fun i hi hf => by have := h3 i hi; simpa [List.getD, hi, hf] using this⟩
  rw [schemaOkB, Bool.and_eq_true, decide_eq_true_eq] at h1
  exact h1.2.2

theorem thingK_size {fs : List (ByteArray × Int)} {vs : List (Int × ByteArray)} (h : thingOkB fs vs = true) (k : Nat) (hk : k ≤ vs.length) : (thingK fs vs k).size ≤ 11 * k := by
  obtain ⟨-, h2, -, h4⟩ := thing_yes h
  induction k with
  | zero => exact Nat.le_refl _
  | succ k ih =>
    have := ih (by omega)
    have hv := valueT_size (h4 k (by omega) (by omega))
    rw [thingK_succ (by omega) (by omega), ByteArray.size_append]
    omega

def thingO (fs : List (ByteArray × Int)) (vs : List (Int × ByteArray)) : ByteArray := if thingOkB fs vs = true then thingK fs vs vs.length else ⟨#[]⟩

set_option maxHeartbeats 2000000 in
set_option maxRecDepth 100000 in
theorem specThingText_any (fs : List (ByteArray × Int)) (vs : List (Int × ByteArray)) (hl : fs.length ≤ 1048576) (hn : ∀ f ∈ fs, f.1.size ≤ 1048576) (hl2 : vs.length ≤ 1048576) (hn2 : ∀ f ∈ vs, f.2.size ≤ 1048576) (v u : Value) (w : World) (hr : RowAt w 2 v fs.length (flds fs)) (hu : RowAt w 2 u vs.length (puts vs)) :
    Calls Tryz.prog 39 #[v, u] w fun e w' => e = .returned (.tuple #[.string (thingO fs vs), .bool (thingOkB fs vs)]) ∧ Below w.heap.size w w' := by
  have HS := hide (fun wx h h' => specThingOk_any fs vs hl hn hl2 hn2 v u wx h h')
  have HRv := hide hr
  have HRu := hide hu
  obtain ⟨-, a, cap, rfl, h2⟩ := hr
  obtain ⟨-, a', cap', rfl, h3⟩ := hu
  have HR := hide h2
  have HQ := hide h3
  clear h2 h3 hn hn2
  cases hok : thingOkB fs vs with
  | false =>
    rw [hok] at HS
    have HO : Hid (thingO fs vs = ⟨#[]⟩) := hide (by rw [thingO, hok]; rfl)
    clear hok
    go_enter Tryz.func39, Tryz.ntmps39
    go_wp2_with fail
    refine (HS.out _ HRv.out HRu.out).mono ?_
    rintro e w1 ⟨rfl, hb⟩
    go_wp2_with fail
    go_ret2
    rw [HO.out]
    exact ⟨rfl, hb⟩
  | true =>
    rw [hok] at HS
    have HOk := hide hok
    have HY := hide (thing_yes hok)
    have HO : Hid (thingO fs vs = thingK fs vs vs.length) := hide (by rw [thingO, hok]; rfl)
    clear hok
    go_enter Tryz.func39, Tryz.ntmps39
    go_wp2_with fail
    refine (HS.out _ HRv.out HRu.out).mono ?_
    rintro e w1 ⟨rfl, hb⟩
    have HB1 := hide hb
    clear hb
    go_wp2_with fail
    go_loopg [6, 7] vs.length (fun g sv iv wr => ∃ k : Nat, k ≤ vs.length ∧ sv = .string (thingK fs vs k) ∧ iv = .int .i64 (k : Int) ∧ g + k = vs.length ∧ Hid (Below w.heap.size w wr))
    case atStart => exact ⟨0, Nat.zero_le _, rfl, rfl, rfl, HB1⟩
    case round =>
      obtain ⟨k, hk, rfl, rfl, hg, HB⟩ := hrel
      have HG := hide hg
      clear hg
      by_cases hlt : k < vs.length
      · have hlf : k < fs.length := by have := HY.out.2.1; omega
        rcases HR.out with h0 | ⟨b, off, rfl, hbl, hc⟩
        · omega
        · rcases HQ.out with h0 | ⟨b', off', rfl, hbl', hc'⟩
          · omega
          · obtain ⟨q, hq⟩ : ∃ q, q = fs[k].2 := ⟨_, rfl⟩
            obtain ⟨p, hp⟩ : ∃ p, p = vs[k].1 := ⟨_, rfl⟩
            obtain ⟨x, hx⟩ : ∃ x, x = vs[k].2 := ⟨_, rfl⟩
            have hc1 : wr.cell? ⟨b, off + k * 2 + 1, none⟩ = some (.int .i64 q) := by rw [HB.out.cell (by exact hbl), Nat.add_assoc, hc (k * 2 + 1) (by omega), (flds_at fs k hlf).2, hq]
            have hd0 : wr.cell? ⟨b', off' + k * 2, none⟩ = some (.int .i64 p) := by rw [HB.out.cell (by exact hbl'), hc' (k * 2) (by omega), (puts_at vs k hlt).1, hp]
            have hd1 : wr.cell? ⟨b', off' + k * 2 + 1, none⟩ = some (.string x) := by rw [HB.out.cell (by exact hbl'), Nat.add_assoc, hc' (k * 2 + 1) (by omega), (puts_at vs k hlt).2, hx]
            have hvb : valueB q p x = true := by rw [hq, hp, hx]; exact HY.out.2.2.2 k hlt hlf
            have hsz : (thingK fs vs k).size ≤ 100 := by have h1 := thingK_size HOk.out k hk; have h2 := HY.out.2.1; have h3 := HY.out.2.2.1; omega
            have HK : Hid (thingK fs vs (k + 1) = thingK fs vs k ++ valueT q p x) := hide (by rw [thingK_succ hlt hlf, hq, hp, hx])
            have hvz := valueT_size hvb
            obtain ⟨s, hs⟩ : ∃ s, s = thingK fs vs k := ⟨_, rfl⟩
            rw [← hs] at HK hsz ⊢
            have hk0 : (0 : Int) ≤ (k : Int) := by omega
            have hk1 : (k : Int) < (fs.length : Int) := by omega
            have hk2 : (k : Int) < (vs.length : Int) := by omega
            clear hc hc' hq hp hx hs
            by_cases hq1 : q = 1
            · subst hq1
              rw [value_num, Bool.and_eq_true, decide_eq_true_eq] at hvb
              have HV := hide (l01Var_any p hvb.1.1 (by omega))
              rw [valueT, if_pos rfl] at HK hvz
              obtain ⟨z, hz⟩ : ∃ z : ByteArray, z = ⟨(vtext p.toNat).toArray⟩ := ⟨_, rfl⟩
              rw [← hz] at HK HV hvz
              clear hvb hz
              go_wp2_with fail
              refine (HV.out _).mono ?_
              rintro e w2 ⟨rfl, hb2⟩
              have HB2 : Hid (Below w.heap.size w w2) := hide (HB.out.trans (hb2.mono HB.out.size))
              clear hb2 hc1 hd0 hd1
              go_wp2_with fail
              go_roundg (gk - 1)
              case measure => have := HG.out; omega
              case rel => exact ⟨k + 1, by omega, by rw [HK.out], by go_num, by have := HG.out; omega, HB2⟩
            · have hx6 : x.size ≤ 20000 := by
                rw [valueB, if_neg hq1, Bool.and_eq_true, decide_eq_true_eq, decide_eq_true_eq] at hvb
                have := hvb.2.2.2
                omega
              have HV := hide (l04Short_any x hx6)
              rw [valueT, if_neg hq1] at HK hvz
              obtain ⟨z, hz⟩ : ∃ z : ByteArray, z = shortB x := ⟨_, rfl⟩
              rw [← hz] at HK HV hvz
              have d1 : (q == 1) = false := by simp [hq1]
              have d2 : decide (q = 1) = false := by simp [hq1]
              clear hvb hz hq1
              go_wp2_with fail
              refine (HV.out _).mono ?_
              rintro e w2 ⟨rfl, hb2⟩
              have HB2 : Hid (Below w.heap.size w w2) := hide (HB.out.trans (hb2.mono HB.out.size))
              clear hb2 hc1 hd0 hd1
              go_wp2_with fail
              go_roundg (gk - 1)
              case measure => have := HG.out; omega
              case rel => exact ⟨k + 1, by omega, by rw [HK.out], by go_num, by have := HG.out; omega, HB2⟩
      · obtain rfl : k = vs.length := by omega
        go_wp2_with fail
        go_ret2
        rw [HO.out]
        exact ⟨rfl, HB.out⟩
end Go.Proofs.YtdcmpjefemcppaaGreatDoor

namespace Go.Proofs.YtdcmpjefemcppaaGreatDoor
open Go.RowKit

theorem wrapByte (a b : Nat) (h : b = a % 256) : IntKind.u8.wrap (a : Int) = (b : Int) := by
  subst h
  simp [IntKind.wrap, IntKind.signed, IntKind.bits]

/-- one byte as a text -/
def byteT (q : Int) : ByteArray := ⟨#[UInt8.ofNat q.toNat]⟩

/-- the bytes of the first k fields -/
def schemaK (fs : List (ByteArray × Int)) : Nat → ByteArray
  | 0 => ⟨#[]⟩
  | k + 1 => schemaK fs k ++ byteT (fs.getD k (⟨#[]⟩, 0)).2 ++ shortB (fs.getD k (⟨#[]⟩, 0)).1

theorem schemaK_succ {fs : List (ByteArray × Int)} {k : Nat} (hf : k < fs.length) : schemaK fs (k + 1) = schemaK fs k ++ byteT fs[k].2 ++ shortB fs[k].1 := by
  rw [schemaK]; simp [List.getD, hf]

theorem schema_yes {fs : List (ByteArray × Int)} (h : schemaOkB fs = true) : 1 ≤ fs.length ∧ fs.length ≤ 3 ∧ ∀ i (hf : i < fs.length), fs[i].1.size ≤ 4 ∧ (fs[i].2 = 1 ∨ fs[i].2 = 2) := by
  rw [schemaOkB] at h
  simp only [Bool.and_eq_true, decide_eq_true_eq] at h
  obtain ⟨⟨h1, -⟩, h3⟩ := h
  refine ⟨h3.1, h3.2, fun i hf => ?_⟩
  rw [List.all_eq_true] at h1
  have := h1 _ (List.getElem_mem hf)
  rw [fieldB, wordB, Bool.and_eq_true, Bool.and_eq_true, decide_eq_true_eq, decide_eq_true_eq, decide_eq_true_eq] at this
  exact ⟨this.1.2.2, by omega⟩

theorem schemaK_size {fs : List (ByteArray × Int)} (h : schemaOkB fs = true) (k : Nat) (hk : k ≤ fs.length) : (schemaK fs k).size ≤ 10 * k := by
  obtain ⟨-, -, h4⟩ := schema_yes h
  induction k with
  | zero => exact Nat.le_refl _
  | succ k ih =>
    have h1 := ih (by omega)
    have h2 := (h4 k (by omega)).1
    have h3 := shortB_size fs[k].1
    have h5 : (byteT fs[k].2).size = 1 := rfl
    rw [schemaK_succ (by omega), ByteArray.size_append, ByteArray.size_append]
    omega

def schemaO (fs : List (ByteArray × Int)) : ByteArray := if schemaOkB fs = true then schemaK fs fs.length else ⟨#[]⟩

theorem own1 (w : World) (a : Nat) (ha : a < 256) : (w.alloc (Obj.cells #[.int .u8 (a : Int)] 5)).ownsRow w.heap.size 5 1 (.slice (some ⟨w.heap.size, 0, none⟩) 1 1) [UInt8.ofNat a].length (Lib.byteCells [UInt8.ofNat a]) := by
  have h := World.ownsRow_lit (base := w.heap.size) (e := 5) (size := 1) w #[.int .u8 (a : Int)] 1 (Nat.le_refl _) (by unfold maxLen; omega) rfl
  have e : Lib.byteCells [UInt8.ofNat a] = [.int .u8 (a : Int)] := by simp only [Lib.byteCells, List.map_cons, List.map_nil, toNat_ofNat8 _ ha]
  rw [e]
  exact h

theorem byte_text (w : World) (a : Nat) (ha : a < 256) : (convert 85 9 (.slice (some ⟨w.heap.size, 0, none⟩) 1 1)).run Tryz.prog (w.alloc (Obj.cells #[.int .u8 (a : Int)] 5)) = .ok (.string (byteT (a : Int))) (w.alloc (Obj.cells #[.int .u8 (a : Int)] 5)) :=
  string_own (P := Tryz.prog) Tryz.underlying85 Tryz.underlying5 Tryz.underlying9 (own1 w a ha)

theorem byte_text2 (w w2 : World) (a : Nat) (ha : a < 256) (hb : Below (w.alloc (Obj.cells #[.int .u8 (a : Int)] 5)).heap.size (w.alloc (Obj.cells #[.int .u8 (a : Int)] 5)) w2) : (convert 85 9 (.slice (some ⟨w.heap.size, 0, none⟩) 1 1)).run Tryz.prog w2 = .ok (.string (byteT (a : Int))) w2 :=
  string_own (P := Tryz.prog) Tryz.underlying85 Tryz.underlying5 Tryz.underlying9 (own_stays (own1 w a ha) hb)

set_option maxHeartbeats 4000000 in
set_option maxRecDepth 100000 in
theorem specSchemaText_any (fs : List (ByteArray × Int)) (hl : fs.length ≤ 1048576) (hn : ∀ f ∈ fs, f.1.size ≤ 1048576) (v : Value) (w : World) (hr : RowAt w 2 v fs.length (flds fs)) :
    Calls Tryz.prog 51 #[v] w fun e w' => e = .returned (.tuple #[.string (schemaO fs), .bool (schemaOkB fs)]) ∧ Below w.heap.size w w' := by
  have HS := hide (fun wx h => specSchemaOk_any fs hl hn v wx h)
  have HRv := hide hr
  obtain ⟨-, a, cap, rfl, h2⟩ := hr
  have HR := hide h2
  clear h2 hn
  cases hok : schemaOkB fs with
  | false =>
    rw [hok] at HS
    have HO : Hid (schemaO fs = ⟨#[]⟩) := hide (by rw [schemaO, hok]; rfl)
    clear hok
    go_enter Tryz.func51, Tryz.ntmps51
    go_wp2_with fail
    refine (HS.out _ HRv.out).mono ?_
    rintro e w1 ⟨rfl, hb⟩
    go_wp2_with fail
    go_ret2
    rw [HO.out]
    exact ⟨rfl, hb⟩
  | true =>
    rw [hok] at HS
    have HOk := hide hok
    have HY := hide (schema_yes hok)
    have HO : Hid (schemaO fs = schemaK fs fs.length) := hide (by rw [schemaO, hok]; rfl)
    clear hok
    go_enter Tryz.func51, Tryz.ntmps51
    go_wp2_with fail
    refine (HS.out _ HRv.out).mono ?_
    rintro e w1 ⟨rfl, hb⟩
    have HB1 := hide hb
    clear hb
    go_wp2_with fail
    go_loopg [4, 5] fs.length (fun g sv iv wr => ∃ k : Nat, k ≤ fs.length ∧ sv = .string (schemaK fs k) ∧ iv = .int .i64 (k : Int) ∧ g + k = fs.length ∧ Hid (Below w.heap.size w wr))
    case atStart => exact ⟨0, Nat.zero_le _, rfl, rfl, rfl, HB1⟩
    case round =>
      obtain ⟨k, hk, rfl, rfl, hg, HB⟩ := hrel
      have HG := hide hg
      clear hg
      by_cases hlt : k < fs.length
      · rcases HR.out with h0 | ⟨b, off, rfl, hbl, hc⟩
        · omega
        · obtain ⟨x, hx⟩ : ∃ x, x = fs[k].1 := ⟨_, rfl⟩
          have hkd := (HY.out.2.2 k hlt).2
          obtain ⟨qn, hqn, hq⟩ : ∃ qn : Nat, (qn : Int) = fs[k].2 ∧ qn < 256 := by
            rcases hkd with h | h
            · exact ⟨1, h.symm, by omega⟩
            · exact ⟨2, h.symm, by omega⟩
          have hc0 : wr.cell? ⟨b, off + k * 2, none⟩ = some (.string x) := by rw [HB.out.cell (by exact hbl), hc (k * 2) (by omega), (flds_at fs k hlt).1, hx]
          have hc1 : wr.cell? ⟨b, off + k * 2 + 1, none⟩ = some (.int .i64 (qn : Int)) := by rw [HB.out.cell (by exact hbl), Nat.add_assoc, hc (k * 2 + 1) (by omega), (flds_at fs k hlt).2, hqn]
          have hx4 : x.size ≤ 4 := by rw [hx]; exact (HY.out.2.2 k hlt).1
          have hsz : (schemaK fs k).size ≤ 100 := by have h1 := schemaK_size HOk.out k hk; have h2 := HY.out.2.1; omega
          have HK : Hid (schemaK fs (k + 1) = schemaK fs k ++ byteT (qn : Int) ++ shortB x) := hide (by rw [schemaK_succ hlt, hqn, hx])
          obtain ⟨s, hs⟩ : ∃ s, s = schemaK fs k := ⟨_, rfl⟩
          rw [← hs] at HK hsz ⊢
          have HV := hide (l04Short_any x (by omega))
          have hz5 := shortB_size x
          obtain ⟨z, hz⟩ : ∃ z, z = shortB x := ⟨_, rfl⟩
          rw [← hz] at HK HV hz5
          obtain ⟨kb, hkb⟩ : ∃ kb, kb = byteT (qn : Int) := ⟨_, rfl⟩
          have hkz : kb.size = 1 := by rw [hkb]; rfl
          have HT1 := hide (fun wx => byte_text wx qn hq)
          have HT2 := hide (fun wx w2 h => byte_text2 wx w2 qn hq h)
          rw [← hkb] at HK HT1 HT2
          have hT := HT2.out wr (wr.alloc (Obj.cells #[.int .u8 (qn : Int)] 5)).drew (Below.refl _ _).drew
          have hm : IntKind.u8.wrap (qn : Int) = (qn : Int) := wrapByte _ _ (by omega)
          have hs1 : ¬ 9223372036854775807 < s.size + 1 := by omega
          have hs2 : ¬ 9223372036854775807 < s.size + 1 + z.size := by omega
          have hbw : b < wr.heap.size := Nat.lt_of_lt_of_le hbl HB.out.size
          have hk0 : (0 : Int) ≤ (k : Int) := by omega
          have hk1 : (k : Int) < (fs.length : Int) := by omega
          have ca0 : ∀ o, (wr.alloc o).drew.cell? ⟨b, off + k * 2, none⟩ = some (.string x) := fun o => (((Below.refl wr.heap.size wr).alloc (Nat.le_refl _) o).drew.cell (by exact hbw)).trans hc0
          have ca1 : ∀ o, (wr.alloc o).drew.cell? ⟨b, off + k * 2 + 1, none⟩ = some (.int .i64 (qn : Int)) := fun o => (((Below.refl wr.heap.size wr).alloc (Nat.le_refl _) o).drew.cell (by exact hbw)).trans hc1
          clear hc hx hkd hqn hs hz hkb
          go_wp2_with fail
          go_region_law (first | (refine step_call1 _ ?_ 59 Tryz.f59 Tryz.func59 ?_ ?_ (.tmp 29) #[9] ?_ (.string x) ?_ _ (HV.out (wr.alloc (Obj.cells #[.int .u8 (qn : Int)] 5)).drew) ?_; exact rfl; decide; exact Option.some_ne_none _; exact rfl; exact rfl; rintro e w2 ⟨rfl, hb2⟩; refine ⟨_, rfl, ?_⟩; have hT2 := HT2.out wr w2 ((Below.refl _ _).drew.trans hb2); have hb3 : Below wr.heap.size wr w2 := ((Below.refl _ _).alloc (Nat.le_refl _) _).drew.trans (hb2.mono (by show _ ≤ (wr.alloc _).heap.size; simp)); have ce0 : w2.cell? ⟨b, off + k * 2, none⟩ = some (.string x) := (hb3.cell (by exact hbw)).trans hc0; have ce1 : w2.cell? ⟨b, off + k * 2 + 1, none⟩ = some (.int .i64 (qn : Int)) := (hb3.cell (by exact hbw)).trans hc1) | (refine step_call1 _ ?_ 59 Tryz.f59 Tryz.func59 ?_ ?_ (.tmp 29) #[9] ?_ (.string x) ?_ _ (HV.out wr.drew) ?_; exact rfl; decide; exact Option.some_ne_none _; exact rfl; exact rfl; rintro e w2 ⟨rfl, hb2⟩; refine ⟨_, rfl, ?_⟩; have hT3 := HT1.out w2; have hb3 : Below wr.heap.size wr w2 := (Below.refl _ _).drew.trans hb2; have ce0 : w2.cell? ⟨b, off + k * 2, none⟩ = some (.string x) := (hb3.cell (by exact hbw)).trans hc0; have ce1 : w2.cell? ⟨b, off + k * 2 + 1, none⟩ = some (.int .i64 (qn : Int)) := (hb3.cell (by exact hbw)).trans hc1))
          all_goals
            have HB3 := hide (HB.out.trans (hb3.mono HB.out.size))
            have HZ3 : Hid (w.heap.size ≤ w2.heap.size) := hide (Nat.le_trans HB.out.size hb3.size)
            clear hb2 hb3 ce0 ce1 hc0 hc1 ca0 ca1 hT hm
            try clear hT2
            try clear hT3
            go_wp2_with fail
            go_roundg (gk - 1)
            case measure => have := HG.out; omega
            case rel => exact ⟨k + 1, by omega, by rw [HK.out], by go_num, by have := HG.out; omega, hide (by first | exact HB3.out | exact HB3.out.alloc HZ3.out _)⟩
      · obtain rfl : k = fs.length := by omega
        go_wp2_with fail
        go_ret2
        rw [HO.out]
        exact ⟨rfl, HB.out⟩
end Go.Proofs.YtdcmpjefemcppaaGreatDoor

namespace Go.Proofs.YtdcmpjefemcppaaGreatDoor
open Go.RowKit

theorem schemaK_app (fs gs : List (ByteArray × Int)) : ∀ k, k ≤ fs.length → schemaK (fs ++ gs) k = schemaK fs k
  | 0, _ => rfl
  | k + 1, h => by
    rw [schemaK_succ (show k < (fs ++ gs).length by simp; omega), schemaK_succ (show k < fs.length by omega), schemaK_app fs gs k (by omega), List.getElem_append_left (show k < fs.length by omega)]

/-- a schema in bytes -/
def schT (fs : List (ByteArray × Int)) : ByteArray := schemaK fs fs.length

theorem schT_snoc (fs : List (ByteArray × Int)) (f : ByteArray × Int) : schT (fs ++ [f]) = schT fs ++ byteT f.2 ++ shortB f.1 := by
  unfold schT
  rw [List.length_append, List.length_singleton, schemaK_succ (by simp), schemaK_app fs [f] fs.length (Nat.le_refl _)]
  simp

theorem schT_more : ∀ (gs fs : List (ByteArray × Int)), ∃ X, schT (fs ++ gs) = schT fs ++ X
  | [], fs => ⟨⟨#[]⟩, by rw [List.append_nil]; exact (ByteArray.append_empty).symm⟩
  | g :: gs, fs => by
    obtain ⟨X, hX⟩ := schT_more gs (fs ++ [g])
    rw [List.append_assoc, List.singleton_append] at hX
    exact ⟨byteT g.2 ++ shortB g.1 ++ X, by rw [hX, schT_snoc]; simp only [ByteArray.append_assoc]⟩

/-- the right schema whose bytes these are -/
def IsSch (t : ByteArray) (fs : List (ByteArray × Int)) : Prop := schemaOkB fs = true ∧ schT fs = t

/-- what was read so far is the beginning of the one that there is, if there is one -/
def SchTry (t : ByteArray) (fs : List (ByteArray × Int)) (p : Nat) : Prop := ∀ gs, IsSch t gs → (∃ l, gs = fs ++ l) ∧ p = (schT fs).size

theorem schTry_nil (t : ByteArray) : SchTry t [] 0 := fun gs _ => ⟨⟨gs, rfl⟩, rfl⟩

theorem byteT_size (q : Int) : (byteT q).size = 1 := rfl

/-- the next field of the one that there is -/
theorem sch_next {t : ByteArray} {fs gs : List (ByteArray × Int)} {p : Nat} (h : SchTry t fs p) (hp : p < t.size) (hg : IsSch t gs) :
    ∃ g l, gs = fs ++ g :: l ∧ g.2 = (byt t p : Int) ∧ rdS t (p + 1) = some (g.1, (schT (fs ++ [g])).size) := by
  obtain ⟨⟨l, hl⟩, rfl⟩ := h gs hg
  cases l with
  | nil => rw [List.append_nil] at hl; subst hl; rw [hg.2] at hp; omega
  | cons g l =>
    refine ⟨g, l, hl, ?_⟩
    obtain ⟨X, hX⟩ := schT_more l (fs ++ [g])
    rw [List.append_assoc, List.singleton_append, ← hl, hg.2, schT_snoc] at hX
    have hy := (schema_yes hg.1).2.2 fs.length (by rw [hl]; simp)
    simp only [hl, List.getElem_append_right (Nat.le_refl _), Nat.sub_self, List.getElem_cons_zero] at hy
    have hsz := byteT_size g.2
    constructor
    · have e : byt t (schT fs).size = (byteT g.2)[0].toNat := by
        have ht : (schT fs).size < t.size := hp
        rw [← byt_eq t _ ht]
        have hX' : t = schT fs ++ byteT g.2 ++ (shortB g.1 ++ X) := by rw [hX]; simp only [ByteArray.append_assoc]
        have h1 := extract_cat (schT fs) (byteT g.2) (shortB g.1 ++ X)
        rw [← hX', hsz] at h1
        have h2 : (t.extract (schT fs).size ((schT fs).size + 1))[0]'(by rw [h1]; rw [hsz]; omega) = (byteT g.2)[0] := by congr 1
        rw [← h2, ByteArray.getElem_extract]
        simp
      rw [e]
      rcases hy.2 with h | h <;> rw [h] <;> rfl
    · have := rdS_at t (schT fs ++ byteT g.2) g.1 X (by omega) hX
      rw [ByteArray.size_append, hsz] at this
      rw [schT_snoc]
      exact this

theorem schTry_none {t : ByteArray} {fs : List (ByteArray × Int)} {p : Nat} (h : SchTry t fs p) (hp : p < t.size) (hr : rdS t (p + 1) = none) : ∀ gs, ¬ IsSch t gs := fun gs hg => by
  obtain ⟨g, l, -, -, h3⟩ := sch_next h hp hg
  rw [hr] at h3
  cases h3

theorem schTry_some {t x : ByteArray} {fs : List (ByteArray × Int)} {p q : Nat} (h : SchTry t fs p) (hp : p < t.size) (hr : rdS t (p + 1) = some (x, q)) : SchTry t (fs ++ [(x, (byt t p : Int))]) q := fun gs hg => by
  obtain ⟨g, l, h1, h2, h3⟩ := sch_next h hp hg
  rw [hr] at h3
  simp only [Option.some.injEq, Prod.mk.injEq] at h3
  have hgx : g = (x, (byt t p : Int)) := Prod.ext h3.1.symm h2
  rw [← hgx]
  exact ⟨⟨l, by rw [h1]; simp⟩, h3.2⟩

/-- no more than three -/
theorem schTry_full {t : ByteArray} {fs : List (ByteArray × Int)} {p : Nat} (h : SchTry t fs p) (hp : p < t.size) (hf : 3 ≤ fs.length) : ∀ gs, ¬ IsSch t gs := fun gs hg => by
  obtain ⟨g, l, h1, -, -⟩ := sch_next h hp hg
  have := (schema_yes hg.1).2.1
  rw [h1] at this
  simp at this
  omega

/-- at the end what was read is the one -/
theorem schTry_end {t : ByteArray} {fs : List (ByteArray × Int)} {p : Nat} (h : SchTry t fs p) (hp : t.size ≤ p) : ∀ gs, IsSch t gs → gs = fs := fun gs hg => by
  obtain ⟨⟨l, hl⟩, rfl⟩ := h gs hg
  cases l with
  | nil => rw [hl, List.append_nil]
  | cons g l =>
    exfalso
    obtain ⟨X, hX⟩ := schT_more l (fs ++ [g])
    rw [List.append_assoc, List.singleton_append, ← hl, hg.2, schT_snoc] at hX
    have := congrArg ByteArray.size hX
    rw [ByteArray.size_append, ByteArray.size_append, ByteArray.size_append, byteT_size] at this
    omega

/-- what was read so far is what was written so far -/
def SchHas (t : ByteArray) (fs : List (ByteArray × Int)) (p : Nat) : Prop := p ≤ t.size ∧ schT fs = t.extract 0 p ∧ ∀ f ∈ fs, f.1.size ≤ 20000

theorem schHas_nil (t : ByteArray) : SchHas t [] 0 := ⟨Nat.zero_le _, by
  apply ByteArray.ext
  apply Array.toList_inj.1
  rw [Lib.extract_data]; rfl, fun f h => by simp at h⟩

theorem byte_at (t : ByteArray) (p : Nat) (hp : p < t.size) : t.extract p (p + 1) = byteT (byt t p : Int) := by
  have h := extract_bytes t p 1 (by omega)
  apply ByteArray.ext
  apply Array.toList_inj.1
  rw [h, byteT, Int.toNat_natCast]
  rfl

theorem schHas_some {t x : ByteArray} {fs : List (ByteArray × Int)} {p q : Nat} (h : SchHas t fs p) (hp : p < t.size) (hr : rdS t (p + 1) = some (x, q)) : SchHas t (fs ++ [(x, (byt t p : Int))]) q := by
  obtain ⟨h1, h2, h3, h4⟩ := rdS_back hr
  refine ⟨h2, ?_, fun f hf => ?_⟩
  · rw [schT_snoc, h.2.1, ← h4, ← byte_at t p hp, ← extract_two t 0 p (p + 1) (by omega) (by omega), ← extract_two t 0 (p + 1) q (by omega) (by omega)]
  · rcases List.mem_append.1 hf with hf | hf
    · exact h.2.2 f hf
    · obtain rfl := List.mem_singleton.1 hf
      exact h3

theorem extract_all (t : ByteArray) (p : Nat) (h : t.size ≤ p) : t.extract 0 p = t := by
  apply ByteArray.ext
  apply Array.toList_inj.1
  rw [Lib.extract_data, List.drop_zero, List.take_of_length_le (by rw [ba_len]; omega)]

/-- the answer of ReadSchema -/
def ReadSch (t : ByteArray) (fs : List (ByteArray × Int)) (ok : Bool) : Prop := (ok = true ∧ IsSch t fs ∧ ∀ gs, IsSch t gs → gs = fs) ∨ (ok = false ∧ fs = [] ∧ ∀ gs, ¬ IsSch t gs)

theorem readSch_one {t : ByteArray} {fs gs : List (ByteArray × Int)} {ok ko : Bool} (h : ReadSch t fs ok) (k : ReadSch t gs ko) : fs = gs ∧ ok = ko := by
  rcases h with ⟨h1, h2, h3⟩ | ⟨h1, h2, h3⟩ <;> rcases k with ⟨k1, k2, k3⟩ | ⟨k1, k2, k3⟩
  · exact ⟨k3 _ h2, by rw [h1, k1]⟩
  · exact absurd h2 (k3 _)
  · exact absurd k2 (h3 _)
  · exact ⟨by rw [h2, k2], by rw [h1, k1]⟩

/-! things -/
theorem thingK_app (fs : List (ByteArray × Int)) (vs us : List (Int × ByteArray)) : ∀ k, k ≤ vs.length → thingK fs (vs ++ us) k = thingK fs vs k
  | 0, _ => rfl
  | k + 1, h => by
    rw [thingK, thingK, thingK_app fs vs us k (by omega)]
    have : (vs ++ us).getD k (0, ⟨#[]⟩) = vs.getD k (0, ⟨#[]⟩) := by
      simp only [List.getD_eq_getElem?_getD, List.getElem?_append_left (show k < vs.length by omega)]
    rw [this]

/-- a thing in bytes -/
def thT (fs : List (ByteArray × Int)) (vs : List (Int × ByteArray)) : ByteArray := thingK fs vs vs.length

theorem thT_snoc (fs : List (ByteArray × Int)) (vs : List (Int × ByteArray)) (u : Int × ByteArray) : thT fs (vs ++ [u]) = thT fs vs ++ valueT (fs.getD vs.length (⟨#[]⟩, 0)).2 u.1 u.2 := by
  unfold thT
  rw [List.length_append, List.length_singleton, thingK, thingK_app fs vs [u] vs.length (Nat.le_refl _)]
  simp

theorem thT_more (fs : List (ByteArray × Int)) : ∀ (us vs : List (Int × ByteArray)), ∃ X, thT fs (vs ++ us) = thT fs vs ++ X
  | [], vs => ⟨⟨#[]⟩, by rw [List.append_nil]; exact (ByteArray.append_empty).symm⟩
  | u :: us, vs => by
    obtain ⟨X, hX⟩ := thT_more fs us (vs ++ [u])
    rw [List.append_assoc, List.singleton_append] at hX
    exact ⟨_, by rw [hX, thT_snoc, ByteArray.append_assoc]⟩

/-- the right thing whose bytes these are -/
def IsTh (fs : List (ByteArray × Int)) (t : ByteArray) (vs : List (Int × ByteArray)) : Prop := thingOkB fs vs = true ∧ thT fs vs = t

def ThTry (fs : List (ByteArray × Int)) (t : ByteArray) (vs : List (Int × ByteArray)) (p : Nat) : Prop := ∀ us, IsTh fs t us → (∃ l, us = vs ++ l) ∧ p = (thT fs vs).size

theorem thTry_nil (fs : List (ByteArray × Int)) (t : ByteArray) : ThTry fs t [] 0 := fun us _ => ⟨⟨us, rfl⟩, rfl⟩

/-- what is read at p for a field of a kind -/
def rdVal (kind : Int) (t : ByteArray) (p : Nat) : Option ((Int × ByteArray) × Nat) := if kind = 1 then (rdV t p).map fun x => (((x.1 : Nat), ⟨#[]⟩), x.2) else (rdS t p).map fun x => ((0, x.1), x.2)

theorem rdVal_at {kind : Int} {t A X : ByteArray} {u : Int × ByteArray} (hv : valueB kind u.1 u.2 = true) (ht : t = A ++ valueT kind u.1 u.2 ++ X) : rdVal kind t A.size = some (u, (A ++ valueT kind u.1 u.2).size) := by
  obtain ⟨num, x⟩ := u
  by_cases hk : kind = 1
  · subst hk
    rw [value_num, Bool.and_eq_true, decide_eq_true_eq, decide_eq_true_eq] at hv
    obtain ⟨⟨h0, h1⟩, h2⟩ := hv
    obtain ⟨n, hn⟩ := Int.eq_ofNat_of_zero_le h0
    simp only at hn h1 h2 ht
    subst hn h2
    rw [valueT, if_pos rfl, Int.toNat_natCast] at ht ⊢
    rw [rdVal, if_pos rfl, rdV_at t A X n (by omega) ht]
    rfl
  · have hv' := hv
    rw [valueB, if_neg hk, Bool.and_eq_true, decide_eq_true_eq, decide_eq_true_eq] at hv'
    obtain ⟨-, -, h0, h6⟩ := hv'
    simp only at h0 h6 ht
    subst h0
    rw [valueT, if_neg hk] at ht ⊢
    rw [rdVal, if_neg hk, rdS_at t A x X (by omega) ht]
    rfl

theorem th_next {fs : List (ByteArray × Int)} {t : ByteArray} {vs us : List (Int × ByteArray)} {p : Nat} (h : ThTry fs t vs p) (hk : vs.length < fs.length) (hg : IsTh fs t us) :
    ∃ u l, us = vs ++ u :: l ∧ rdVal fs[vs.length].2 t p = some (u, (thT fs (vs ++ [u])).size) := by
  obtain ⟨⟨l, hl⟩, rfl⟩ := h us hg
  obtain ⟨-, h2, -, h4⟩ := thing_yes hg.1
  cases l with
  | nil => rw [List.append_nil] at hl; subst hl; omega
  | cons u l =>
    refine ⟨u, l, hl, ?_⟩
    obtain ⟨X, hX⟩ := thT_more fs l (vs ++ [u])
    have hgd : fs.getD vs.length (⟨#[]⟩, 0) = fs[vs.length] := by simp [List.getD, hk]
    rw [List.append_assoc, List.singleton_append, ← hl, hg.2, thT_snoc, hgd] at hX
    have hv := h4 vs.length (by rw [hl]; simp) hk
    simp only [hl, List.getElem_append_right (Nat.le_refl _), Nat.sub_self, List.getElem_cons_zero] at hv
    rw [thT_snoc, hgd]
    exact rdVal_at hv hX

theorem thTry_none {fs : List (ByteArray × Int)} {t : ByteArray} {vs : List (Int × ByteArray)} {p : Nat} (h : ThTry fs t vs p) (hk : vs.length < fs.length) (hr : rdVal fs[vs.length].2 t p = none) : ∀ us, ¬ IsTh fs t us := fun us hg => by
  obtain ⟨u, l, -, h3⟩ := th_next h hk hg
  rw [hr] at h3
  cases h3

theorem thTry_some {fs : List (ByteArray × Int)} {t : ByteArray} {vs : List (Int × ByteArray)} {p q : Nat} {u : Int × ByteArray} (h : ThTry fs t vs p) (hk : vs.length < fs.length) (hr : rdVal fs[vs.length].2 t p = some (u, q)) : ThTry fs t (vs ++ [u]) q := fun us hg => by
  obtain ⟨g, l, h1, h3⟩ := th_next h hk hg
  rw [hr] at h3
  simp only [Option.some.injEq, Prod.mk.injEq] at h3
  obtain ⟨rfl, h5⟩ := h3
  exact ⟨⟨l, by rw [h1]; simp⟩, h5⟩

theorem thTry_end {fs : List (ByteArray × Int)} {t : ByteArray} {vs : List (Int × ByteArray)} {p : Nat} (h : ThTry fs t vs p) (hk : fs.length ≤ vs.length) : ∀ us, IsTh fs t us → us = vs ∧ p = t.size := fun us hg => by
  obtain ⟨⟨l, hl⟩, rfl⟩ := h us hg
  obtain ⟨-, h2, -, -⟩ := thing_yes hg.1
  have h3 := h2
  rw [hl, List.length_append] at h3
  have : l = [] := List.eq_nil_of_length_eq_zero (by omega)
  subst this
  rw [List.append_nil] at hl
  exact ⟨hl, by rw [← hg.2, hl]⟩

def ThHas (fs : List (ByteArray × Int)) (t : ByteArray) (vs : List (Int × ByteArray)) (p : Nat) : Prop := p ≤ t.size ∧ thT fs vs = t.extract 0 p ∧ ∀ u ∈ vs, u.2.size ≤ 20000

theorem thHas_nil (fs : List (ByteArray × Int)) (t : ByteArray) : ThHas fs t [] 0 := ⟨Nat.zero_le _, (schHas_nil t).2.1, fun f h => by simp at h⟩

theorem rdVal_back {kind : Int} {t : ByteArray} {p q : Nat} {u : Int × ByteArray} (h : rdVal kind t p = some (u, q)) : p < q ∧ q ≤ t.size ∧ u.2.size ≤ 20000 ∧ t.extract p q = valueT kind u.1 u.2 := by
  unfold rdVal at h
  split at h
  · next hk =>
    rw [Option.map_eq_some_iff] at h
    obtain ⟨⟨n, r⟩, h1, h2⟩ := h
    obtain ⟨h3, h4, h5, h6⟩ := rdV_back h1
    simp only [Prod.mk.injEq] at h2
    obtain ⟨rfl, rfl⟩ := h2
    exact ⟨h3, h4, Nat.zero_le _, by rw [h6, valueT, if_pos hk, Int.toNat_natCast]⟩
  · next hk =>
    rw [Option.map_eq_some_iff] at h
    obtain ⟨⟨x, r⟩, h1, h2⟩ := h
    obtain ⟨h3, h4, h5, h6⟩ := rdS_back h1
    simp only [Prod.mk.injEq] at h2
    obtain ⟨rfl, rfl⟩ := h2
    exact ⟨h3, h4, h5, by rw [h6, valueT, if_neg hk]⟩

theorem thHas_some {fs : List (ByteArray × Int)} {t : ByteArray} {vs : List (Int × ByteArray)} {p q : Nat} {u : Int × ByteArray} (h : ThHas fs t vs p) (hk : vs.length < fs.length) (hr : rdVal fs[vs.length].2 t p = some (u, q)) : ThHas fs t (vs ++ [u]) q := by
  obtain ⟨h1, h2, h3, h4⟩ := rdVal_back hr
  refine ⟨h2, ?_, fun f hf => ?_⟩
  · rw [thT_snoc, h.2.1, show fs.getD vs.length (⟨#[]⟩, 0) = fs[vs.length] from by simp [List.getD, hk], ← h4, ← extract_two t 0 p q (by omega) (by omega)]
  · rcases List.mem_append.1 hf with hf | hf
    · exact h.2.2 f hf
    · obtain rfl := List.mem_singleton.1 hf
      exact h3

/-- the answer of ReadThing -/
def ReadTh (fs : List (ByteArray × Int)) (t : ByteArray) (vs : List (Int × ByteArray)) (ok : Bool) : Prop := (ok = true ∧ IsTh fs t vs ∧ ∀ us, IsTh fs t us → us = vs) ∨ (ok = false ∧ vs = [] ∧ ∀ us, ¬ IsTh fs t us)

theorem readTh_one {fs : List (ByteArray × Int)} {t : ByteArray} {vs us : List (Int × ByteArray)} {ok ko : Bool} (h : ReadTh fs t vs ok) (k : ReadTh fs t us ko) : vs = us ∧ ok = ko := by
  rcases h with ⟨h1, h2, h3⟩ | ⟨h1, h2, h3⟩ <;> rcases k with ⟨k1, k2, k3⟩ | ⟨k1, k2, k3⟩
  · exact ⟨k3 _ h2, by rw [h1, k1]⟩
  · exact absurd h2 (k3 _)
  · exact absurd k2 (h3 _)
  · exact ⟨by rw [h2, k2], by rw [h1, k1]⟩
end Go.Proofs.YtdcmpjefemcppaaGreatDoor



namespace Go.Proofs.YtdcmpjefemcppaaGreatDoor
open Go.RowKit

theorem flds_snoc (l : List (ByteArray × Int)) (f : ByteArray × Int) : flds l ++ flds [f] = flds (l ++ [f]) := by simp [flds]

theorem fld_new (w : World) (x : ByteArray) (q : Int) : RowAt (w.alloc (Obj.cells #[.string x, .int .i64 q] 73)) 2 (.slice (some ⟨w.heap.size, 0, none⟩) 1 1) 1 (flds [(x, q)]) := by
  refine ⟨rfl, _, _, rfl, Or.inr ⟨w.heap.size, 0, rfl, by simp, fun j hj => ?_⟩⟩
  rw [Nat.zero_add, (cell_at (heap_alloc_new w _) j).1]
  simp [flds]

theorem fld_at (w : World) (n : Nat) (hn : n = w.heap.size) (x : ByteArray) (q : Int) : RowAt (w.alloc (Obj.cells #[.string x, .int .i64 q] 73)) 2 (.slice (some ⟨n, 0, none⟩) 1 1) 1 (flds [(x, q)]) := by
  subst hn; exact fld_new w x q

theorem flds_one (l : List (ByteArray × Int)) : ∀ y ∈ flds l, y.oneCell' = true := fun y hy => by
  obtain ⟨p, _, hp⟩ := List.mem_flatMap.1 hy
  simp at hp
  rcases hp with rfl | rfl <;> rfl

theorem own_flds0 (w : World) (B : Nat) (hB : B ≤ w.heap.size) : (w.alloc (Obj.cells #[] 73)).ownsRow B 73 2 (.slice (some ⟨w.heap.size, 0, none⟩) 0 0) ([] : List (ByteArray × Int)).length (flds []) := by
  simpa [flds] using World.ownsRow_lit (base := B) (e := 73) (size := 2) w #[] 0 hB (by unfold maxLen; omega) (by simp)

/-- the next field, by the cursor -/
theorem sch_round {t : ByteArray} (ht : t.size ≤ 1048576) {fs : List (ByteArray × Int)} {p : Nat} (h : SchTry t fs p) (hp : p < t.size) (g : Nat) : ∃ (x : ByteArray) (q : Nat) (bad : Bool),
    (∀ wx, CurT wx g t (p + 1) false → Calls Tryz.prog 38 #[.pointer (some ⟨g, 0, none⟩)] wx fun e w' => e = .returned (.string x) ∧ CurT w' g t q bad ∧ wx.grownBy w' (some g)) ∧
    x.size ≤ 20000 ∧ q ≤ 1048576 ∧ SchTry t (fs ++ [(x, (byt t p : Int))]) q ∧ (bad = true → ∀ gs, ¬ IsSch t gs) := by
  cases ho : rdS t (p + 1) with
  | none =>
    have hn := schTry_none h hp ho
    exact ⟨⟨#[]⟩, p + 1, true, fun wx hc => l04ReadShort_bad g t ht (p + 1) false (Or.inr ho) wx hc, Nat.zero_le _, by omega, fun gs hg => absurd hg (hn gs), fun _ => hn⟩
  | some r =>
    obtain ⟨x, q⟩ := r
    obtain ⟨h1, h2, h3, -⟩ := rdS_back ho
    exact ⟨x, q, false, fun wx hc => l04ReadShort_good g t ht (p + 1) x q ho wx hc, h3, by omega, schTry_some h hp ho, fun e => by cases e⟩

theorem cur_moved {w : World} {g p : Nat} {t : ByteArray} {bad : Bool} (h : CurT w g t p bad) (o : Obj) : CurT ((w.setCell ⟨g, 1, none⟩ (.int .i64 ((p : Int) + 1))).alloc o) g t (p + 1) bad ∧ w.grownBy ((w.setCell ⟨g, 1, none⟩ (.int .i64 ((p : Int) + 1))).alloc o) (some g) ∧ ((w.setCell ⟨g, 1, none⟩ (.int .i64 ((p : Int) + 1))).alloc o).heap[w.heap.size]? = some o := by
  have hgl := curT_lt h
  have h1 : (w.setCell ⟨g, 1, none⟩ (.int .i64 ((p : Int) + 1))).heap[g]? = some (.cells #[.string t, .int .i64 ((p : Int) + 1), .bool bad] 71 (0, 0)) := heap_setCell_same w g 1 _ _ _ h
  refine ⟨(Below.heap_alloc _ o g (by simpa using hgl)).trans h1, grown_alloc (grown_setCell w g 1 _) o, ?_⟩
  have := heap_alloc_new (w.setCell ⟨g, 1, none⟩ (.int .i64 ((p : Int) + 1))) o
  simpa using this

theorem curT_grown {w w' : World} {g p : Nat} {t : ByteArray} {bad : Bool} {row : Option Nat} (h : CurT w g t p bad) (hg : w.grownBy w' row) (hne : some g ≠ row) : CurT w' g t p bad := (hg.block g (curT_lt h) hne).trans h

set_option maxHeartbeats 4000000 in
set_option maxRecDepth 100000 in
theorem specReadSchema_any (t : ByteArray) (ht : t.size ≤ 1048576) (w : World) :
    Calls Tryz.prog 33 #[.string t] w fun e w' => ∃ v fs ok, e = .returned (.tuple #[v, .bool ok]) ∧ w'.ownsRow w.heap.size 73 2 v fs.length (flds fs) ∧ ReadSch t fs ok ∧ Below w.heap.size w w' := by
  obtain ⟨i0, hi, hz0, hz1, hz2⟩ := info_parts Tryz.infoFld
  obtain ⟨w1, hw1⟩ : ∃ w1, w1 = w.alloc (Obj.cells #[.string t, .int .i64 0, .bool false] 71) := ⟨_, rfl⟩
  have hb1 : Below w.heap.size w w1 := by rw [hw1]; exact (Below.refl w.heap.size w).alloc (Nat.le_refl _) _
  have hs1 : w1.heap.size = w.heap.size + 1 := by rw [hw1]; simp
  have hcu : CurT w1 w.heap.size t 0 false := by rw [hw1]; exact heap_alloc_new w _
  have HSt : Hid (∀ o, CurT (w1.alloc o) w.heap.size t 0 false ∧ Below w.heap.size w (w1.alloc o)) := hide (fun o => ⟨(Below.heap_alloc w1 o w.heap.size (by omega)).trans hcu, hb1.alloc hb1.size _⟩)
  have hOw := own_flds0 w1 (w.heap.size + 1) (by omega)
  rw [hs1] at hOw
  have HOw := hide hOw
  clear hb1 hcu hOw hs1
  go_enter Tryz.func33, Tryz.ntmps33
  go_wp2_with fail
  rw [← hw1]
  clear hw1
  go_loopg [5] 4 (fun q ov wr => ∃ (fs : List (ByteArray × Int)) (p : Nat) (bad : Bool), fs.length ≤ 4 ∧ q + fs.length = 4 ∧ wr.ownsRow (w.heap.size + 1) 73 2 ov fs.length (flds fs) ∧ CurT wr w.heap.size t p bad ∧ Hid (Below w.heap.size w wr) ∧ p ≤ 1048576 ∧ Hid (∀ f ∈ fs, f.1.size ≤ 1048576) ∧ Hid (SchTry t fs p ∧ (bad = true → ∀ gs, ¬ IsSch t gs)))
  case atStart => exact ⟨[], 0, false, by simp, rfl, HOw.out, (HSt.out _).1, hide (HSt.out _).2, by omega, hide (fun f h => by simp at h), hide ⟨schTry_nil t, fun h => by cases h⟩⟩
  case round =>
    obtain ⟨fs, p, bad, hfl, hgk, hown, hcu, HB, hp, HN, HT⟩ := hrel
    have HG := hide hgk
    have HCu := hide hcu
    have HOn := hide hown
    have hgl := curT_lt hcu
    have c1 : wr.cell? ⟨w.heap.size, 1, none⟩ = some (.int .i64 (p : Int)) := (cell_at hcu 1).1
    have f1 := (cell_at hcu 1).2
    have c2 : wr.cell? ⟨w.heap.size, 2, none⟩ = some (.bool bad) := (cell_at hcu 2).1
    obtain ⟨a, cap, hov⟩ : ∃ a cap, u5 = .slice a fs.length cap := by obtain ⟨-, a, cap, e, -⟩ := row_of_own hown; exact ⟨a, cap, e⟩
    subst hov
    clear hgk hcu hown
    by_cases hmore : p < t.size ∧ bad = false ∧ fs.length ≤ 3
    · obtain ⟨h1, rfl, h3⟩ := hmore
      obtain ⟨y, hy⟩ : ∃ y, y = byt t p := ⟨_, rfl⟩
      have hyb : y < 256 := by rw [hy]; exact byt_lt t _
      have hs1 : t[p].toNat = y := by rw [hy]; exact byt_eq t _ h1
      have HY := hide hy
      have hp0 : (0 : Int) ≤ (p : Int) := by omega
      have hp1 : (p : Int) < (t.size : Int) := by omega
      have d3 : decide ((fs.length : Int) ≤ 3) = true := by simp; omega
      clear hy
      obtain ⟨x, q, bad2, HCall, hx, hq, HT2⟩ := sch_round ht HT.out.1 h1 w.heap.size
      rw [← HY.out] at HT2
      have HCl := hide HCall
      have HT3 := hide HT2
      obtain ⟨wx, hwx⟩ : ∃ wx, wx = (wr.setCell ⟨w.heap.size, 1, none⟩ (.int .i64 ((p : Int) + 1))).alloc (Obj.cells #[.string ⟨#[]⟩, .int .i64 (y : Int)] 73) := ⟨_, rfl⟩
      have hmv := cur_moved HCu.out (Obj.cells #[.string ⟨#[]⟩, .int .i64 (y : Int)] 73)
      rw [← hwx] at hmv
      have HMv := hide hmv
      clear HCall HT2 hmv
      go_wp2_with fail
      rw [← hwx]
      clear hwx hs1 c1 c2 f1 hp0 hp1 d3
      refine (HCl.out _ HMv.out.1).mono ?_
      rintro e w2 ⟨rfl, hcu2, hg2⟩
      have hg12 := grown_trans HMv.out.2.1 hg2
      have hne : wr.heap.size ≠ w.heap.size := by omega
      have hF2 : w2.heap[wr.heap.size]? = some (Obj.cells #[.string ⟨#[]⟩, .int .i64 (y : Int)] 73) := (hg2.block _ (Array.getElem?_eq_some_iff.1 HMv.out.2.2).1 (by simpa using hne)).trans HMv.out.2.2
      have hF3 : (w2.setCell ⟨wr.heap.size, 0, none⟩ (.string x)).heap[wr.heap.size]? = some (.cells #[.string x, .int .i64 (y : Int)] 73 (0, 0)) := heap_setCell_same w2 wr.heap.size 0 _ _ _ hF2
      have e0 : w2.frozen? ⟨wr.heap.size, 0, none⟩ = false := (cell_at hF2 0).2
      have e0c : w2.cell? ⟨wr.heap.size, 0, none⟩ = some (.string ⟨#[]⟩) := (cell_at hF2 0).1
      obtain ⟨w3, hw3⟩ : ∃ w3, w3 = w2.setCell ⟨wr.heap.size, 0, none⟩ (.string x) := ⟨_, rfl⟩
      rw [← hw3] at hF3
      have e1c : w2.cell? ⟨wr.heap.size, 1, none⟩ = some (.int .i64 (y : Int)) := (cell_at hF2 1).1
      have hg3 : w2.grownBy w3 (some wr.heap.size) := by rw [hw3]; exact grown_setCell _ _ _ _
      have HS3 : Hid (w2.heap.size = w3.heap.size) := hide (by rw [hw3]; simp)
      have hlt0 := HOn.out.lt
      have hown2 := HOn.out.kept hg12 (Or.inr (fun e => by have := (hlt0 _ e).1; omega))
      have hown3 := hown2.kept hg3 (Or.inr (fun e => by have := (hlt0 _ e).2; omega))
      have hsz2 := hg12.size
      have HSz3 := hg3.size
      have HB3 : Hid (Below w.heap.size w w3) := hide ((HB.out.grown hg12 HB.out.size (fun k hk => by injection hk with hk; omega)).grown hg3 (by omega) (fun k hk => by injection hk with hk; omega))
      have HCu3 : Hid (CurT w3 w.heap.size t q bad2) := hide (curT_grown hcu2 hg3 (by simpa using Ne.symm hne))
      have HO3 := hide hown3
      have HLt : Hid (∀ k, Value.ownBlock (.slice a fs.length cap) = some k → w.heap.size + 1 ≤ k) := hide (fun k hk => (hlt0 k hk).1)
      have hs3 : w.heap.size + 1 ≤ w3.heap.size := by omega
      clear hcu2 hg2 hg12 hF2 hF3 hlt0 hown2 hown3 hg3 hsz2 HSz3 hne
      go_wp2_with (at_builtin; (rw [← hw3]; refine wpList_append_row _ rfl _ _ 41 rfl (w.heap.size + 1) 73 i0 (.agg #[.string ⟨#[]⟩, .int .i64 0]) 2 24 Tryz.underlying41 hi hz0 hz1 hz2 rfl (by decide) _ _ _ rfl (HO3.out.alloc _) _ 1 (flds [(x, (y : Int))]) rfl (fld_at w3 w2.heap.size HS3.out x (y : Int)) (flds_one _) ?_ ?_ ?_ ?_))
      · unfold maxLen; omega
      · omega
      · simp; omega
      intro y6 d6 w6 hown6 hg6
      rw [← hw3] at hg6
      have hown7 : w6.ownsRow (w.heap.size + 1) 73 2 (.slice y6 (fs.length + 1) d6) (fs ++ [(x, (y : Int))]).length (flds (fs ++ [(x, (y : Int))])) := by
        rw [← flds_snoc, List.length_append]
        exact hown6
      have hg36 := grown_trans (World.grownBy_alloc w3 _ _) hg6
      have HB6 : Hid (Below w.heap.size w w6) := hide (HB3.out.grown hg36 HB3.out.size (fun k hk => by have := HLt.out k hk; omega))
      have hcu6 : CurT w6 w.heap.size t q bad2 := curT_grown HCu3.out hg36 (fun e => by have := HLt.out _ e.symm; omega)
      clear hown6 hg6 hg36 e0 e0c e1c hw3
      go_wp2_with fail
      go_roundg (gk - 1)
      case measure => have := HG.out; omega
      case rel => exact ⟨fs ++ [(x, (y : Int))], q, bad2, by simp; omega, by have := HG.out; simp; omega, hown7, hcu6, HB6, hq, hide (fun f hf => by
        rcases List.mem_append.1 hf with hf | hf
        · exact HN.out f hf
        · obtain rfl := List.mem_singleton.1 hf
          exact Nat.le_trans hx (by omega)), HT3⟩
    · by_cases h1 : p < t.size
      · cases bad with
        | true =>
          have d1 : decide ((p : Int) < (t.size : Int)) = true := by simp; omega
          clear hmore
          have HSp := hide (specSchemaText_any fs (by omega) HN.out (.slice a fs.length cap) wr (row_of_own HOn.out))
          have HNo : Hid (∀ gs, ¬ IsSch t gs) := hide (HT.out.2 rfl)
          go_wp2_with fail
          refine HSp.out.mono ?_
          rintro e w2 ⟨rfl, hb2⟩
          have HB2 : Hid (Below w.heap.size w w2) := hide (HB.out.trans (hb2.mono HB.out.size))
          have k2 : w2.cell? ⟨w.heap.size, 2, none⟩ = some (.bool true) := (hb2.cell (by exact hgl)).trans c2
          clear hb2 c1 c2 f1
          go_wp2_with fail
          go_ret2
          exact ⟨_, [], false, rfl, own_flds0 _ _ HB2.out.size, Or.inr ⟨rfl, rfl, HNo.out⟩, HB2.out.alloc HB2.out.size _⟩
        | false =>
          have h3 : 3 < fs.length := by
            by_cases h3 : fs.length ≤ 3
            · exact absurd ⟨h1, rfl, h3⟩ hmore
            · omega
          have HE : Hid (∀ gs, IsSch t gs → gs = fs) := hide (fun gs hg => absurd hg (schTry_full HT.out.1 h1 (by omega) gs))
          have d1 : decide ((p : Int) < (t.size : Int)) = true := by simp; omega
          have d3 : decide ((fs.length : Int) ≤ 3) = false := by simp; omega
          clear hmore
          have HSp := hide (specSchemaText_any fs (by omega) HN.out (.slice a fs.length cap) wr (row_of_own HOn.out))
          cases hok : schemaOkB fs with
          | false =>
            rw [hok] at HSp
            have HNo : Hid (∀ gs, ¬ IsSch t gs) := hide (fun gs hg => by
              have := HE.out gs hg
              subst this
              rw [hg.1] at hok; cases hok)
            clear hok
            go_wp2_with fail
            refine HSp.out.mono ?_
            rintro e w2 ⟨rfl, hb2⟩
            have HB2 : Hid (Below w.heap.size w w2) := hide (HB.out.trans (hb2.mono HB.out.size))
            have k2 : w2.cell? ⟨w.heap.size, 2, none⟩ = some (.bool false) := (hb2.cell (by exact hgl)).trans c2
            clear hb2 c1 c2 f1
            go_wp2_with fail
            go_ret2
            exact ⟨_, [], false, rfl, own_flds0 _ _ HB2.out.size, Or.inr ⟨rfl, rfl, HNo.out⟩, HB2.out.alloc HB2.out.size _⟩
          | true =>
            have hso : schemaO fs = schT fs := by rw [schemaO, if_pos hok, schT]
            rw [hok, hso] at HSp
            have hbq := ba_beq (schT fs) t
            by_cases hst : schT fs = t
            · have HYs : Hid (IsSch t fs) := hide ⟨hok, hst⟩
              rw [decide_eq_true hst] at hbq
              obtain ⟨bk, hbk⟩ : ∃ bk, bk = schT fs := ⟨_, rfl⟩
              rw [← hbk] at hbq HSp
              clear hok hso hst hbk
              go_wp2_with fail
              refine HSp.out.mono ?_
              rintro e w2 ⟨rfl, hb2⟩
              have HB2 : Hid (Below w.heap.size w w2) := hide (HB.out.trans (hb2.mono HB.out.size))
              have HO2 := hide (own_stays HOn.out hb2)
              have k2 : w2.cell? ⟨w.heap.size, 2, none⟩ = some (.bool false) := (hb2.cell (by exact hgl)).trans c2
              clear hb2 c1 c2 f1
              go_wp2_with fail
              go_ret2
              exact ⟨_, fs, true, rfl, own_down HO2.out (by omega), Or.inl ⟨rfl, HYs.out, HE.out⟩, HB2.out⟩
            · have HNo : Hid (∀ gs, ¬ IsSch t gs) := hide (fun gs hg => by
                have := HE.out gs hg
                subst this
                exact hst hg.2)
              rw [decide_eq_false hst] at hbq
              obtain ⟨bk, hbk⟩ : ∃ bk, bk = schT fs := ⟨_, rfl⟩
              rw [← hbk] at hbq HSp
              clear hok hso hst hbk
              go_wp2_with fail
              refine HSp.out.mono ?_
              rintro e w2 ⟨rfl, hb2⟩
              have HB2 : Hid (Below w.heap.size w w2) := hide (HB.out.trans (hb2.mono HB.out.size))
              have k2 : w2.cell? ⟨w.heap.size, 2, none⟩ = some (.bool false) := (hb2.cell (by exact hgl)).trans c2
              clear hb2 c1 c2 f1
              go_wp2_with fail
              go_ret2
              exact ⟨_, [], false, rfl, own_flds0 _ _ HB2.out.size, Or.inr ⟨rfl, rfl, HNo.out⟩, HB2.out.alloc HB2.out.size _⟩
      · have HE : Hid (∀ gs, IsSch t gs → gs = fs) := hide (schTry_end HT.out.1 (by omega))
        have d1 : decide ((p : Int) < (t.size : Int)) = false := by simp; omega
        clear hmore
        cases bad with
        | true =>
          have HSp := hide (specSchemaText_any fs (by omega) HN.out (.slice a fs.length cap) wr (row_of_own HOn.out))
          have HNo : Hid (∀ gs, ¬ IsSch t gs) := hide (HT.out.2 rfl)
          go_wp2_with fail
          refine HSp.out.mono ?_
          rintro e w2 ⟨rfl, hb2⟩
          have HB2 : Hid (Below w.heap.size w w2) := hide (HB.out.trans (hb2.mono HB.out.size))
          have k2 : w2.cell? ⟨w.heap.size, 2, none⟩ = some (.bool true) := (hb2.cell (by exact hgl)).trans c2
          clear hb2 c1 c2 f1
          go_wp2_with fail
          go_ret2
          exact ⟨_, [], false, rfl, own_flds0 _ _ HB2.out.size, Or.inr ⟨rfl, rfl, HNo.out⟩, HB2.out.alloc HB2.out.size _⟩
        | false =>
          have HSp := hide (specSchemaText_any fs (by omega) HN.out (.slice a fs.length cap) wr (row_of_own HOn.out))
          cases hok : schemaOkB fs with
          | false =>
            rw [hok] at HSp
            have HNo : Hid (∀ gs, ¬ IsSch t gs) := hide (fun gs hg => by
              have := HE.out gs hg
              subst this
              rw [hg.1] at hok; cases hok)
            clear hok
            go_wp2_with fail
            refine HSp.out.mono ?_
            rintro e w2 ⟨rfl, hb2⟩
            have HB2 : Hid (Below w.heap.size w w2) := hide (HB.out.trans (hb2.mono HB.out.size))
            have k2 : w2.cell? ⟨w.heap.size, 2, none⟩ = some (.bool false) := (hb2.cell (by exact hgl)).trans c2
            clear hb2 c1 c2 f1
            go_wp2_with fail
            go_ret2
            exact ⟨_, [], false, rfl, own_flds0 _ _ HB2.out.size, Or.inr ⟨rfl, rfl, HNo.out⟩, HB2.out.alloc HB2.out.size _⟩
          | true =>
            have hso : schemaO fs = schT fs := by rw [schemaO, if_pos hok, schT]
            rw [hok, hso] at HSp
            have hbq := ba_beq (schT fs) t
            by_cases hst : schT fs = t
            · have HYs : Hid (IsSch t fs) := hide ⟨hok, hst⟩
              rw [decide_eq_true hst] at hbq
              obtain ⟨bk, hbk⟩ : ∃ bk, bk = schT fs := ⟨_, rfl⟩
              rw [← hbk] at hbq HSp
              clear hok hso hst hbk
              go_wp2_with fail
              refine HSp.out.mono ?_
              rintro e w2 ⟨rfl, hb2⟩
              have HB2 : Hid (Below w.heap.size w w2) := hide (HB.out.trans (hb2.mono HB.out.size))
              have HO2 := hide (own_stays HOn.out hb2)
              have k2 : w2.cell? ⟨w.heap.size, 2, none⟩ = some (.bool false) := (hb2.cell (by exact hgl)).trans c2
              clear hb2 c1 c2 f1
              go_wp2_with fail
              go_ret2
              exact ⟨_, fs, true, rfl, own_down HO2.out (by omega), Or.inl ⟨rfl, HYs.out, HE.out⟩, HB2.out⟩
            · have HNo : Hid (∀ gs, ¬ IsSch t gs) := hide (fun gs hg => by
                have := HE.out gs hg
                subst this
                exact hst hg.2)
              rw [decide_eq_false hst] at hbq
              obtain ⟨bk, hbk⟩ : ∃ bk, bk = schT fs := ⟨_, rfl⟩
              rw [← hbk] at hbq HSp
              clear hok hso hst hbk
              go_wp2_with fail
              refine HSp.out.mono ?_
              rintro e w2 ⟨rfl, hb2⟩
              have HB2 : Hid (Below w.heap.size w w2) := hide (HB.out.trans (hb2.mono HB.out.size))
              have k2 : w2.cell? ⟨w.heap.size, 2, none⟩ = some (.bool false) := (hb2.cell (by exact hgl)).trans c2
              clear hb2 c1 c2 f1
              go_wp2_with fail
              go_ret2
              exact ⟨_, [], false, rfl, own_flds0 _ _ HB2.out.size, Or.inr ⟨rfl, rfl, HNo.out⟩, HB2.out.alloc HB2.out.size _⟩
end Go.Proofs.YtdcmpjefemcppaaGreatDoor

namespace Go.Proofs.YtdcmpjefemcppaaGreatDoor
open Go.RowKit

/-- a letter -/
def letB (y : Nat) : Bool := decide (97 ≤ y ∧ y ≤ 122)

/-- a letter or a figure -/
def sigB (y : Nat) : Bool := decide ((97 ≤ y ∧ y ≤ 122) ∨ (48 ≤ y ∧ y ≤ 57))

/-- a text of 1 to most signs of a kind -/
def nameB (p : Nat → Bool) (s : ByteArray) (most : Nat) : Bool := decide (∀ i, i < s.size → p (byt s i) = true) && decide (1 ≤ s.size ∧ s.size ≤ most)

theorem name_bad {p : Nat → Bool} {s : ByteArray} {most k : Nat} (hk : k < s.size) (h : p (byt s k) = false) : nameB p s most = false := by
  rw [nameB, decide_eq_false (fun hh => by have := hh k hk; rw [h] at this; cases this)]; rfl

theorem name_all {p : Nat → Bool} {s : ByteArray} {most : Nat} (h : ∀ i, i < s.size → p (byt s i) = true) : nameB p s most = decide (1 ≤ s.size ∧ s.size ≤ most) := by
  rw [nameB, decide_eq_true h]; rfl

theorem name_word (s : ByteArray) (most : Nat) : nameB letB s most = wordB s most := by
  simp [nameB, wordB, letB]

theorem isLetter_any (y : Nat) (hy : y < 256) (w : World) : Calls Tryz.prog 90 #[.int .u8 (y : Int)] w fun e w' => e = .returned (.bool (letB y)) ∧ w = w' := by
  by_cases h1 : 97 ≤ y
  · have d1 : decide ((97 : Int) ≤ (y : Int)) = true := by simp; omega
    by_cases h2 : y ≤ 122
    · have d2 : decide ((y : Int) ≤ 122) = true := by simp; omega
      have HO : Hid (letB y = true) := hide (by rw [letB, decide_eq_true ⟨h1, h2⟩])
      go_enter Tryz.func90, Tryz.ntmps90
      go_wp2
      go_ret
      rw [HO.out]
      exact ⟨rfl, rfl⟩
    · have d2 : decide ((y : Int) ≤ 122) = false := by simp; omega
      have HO : Hid (letB y = false) := hide (by rw [letB, decide_eq_false (fun h => h2 h.2)])
      go_enter Tryz.func90, Tryz.ntmps90
      go_wp2
      go_ret
      rw [HO.out]
      exact ⟨rfl, rfl⟩
  · have d1 : decide ((97 : Int) ≤ (y : Int)) = false := by simp; omega
    have HO : Hid (letB y = false) := hide (by rw [letB, decide_eq_false (fun h => h1 h.1)])
    go_enter Tryz.func90, Tryz.ntmps90
    go_wp2
    go_ret
    rw [HO.out]
    exact ⟨rfl, rfl⟩

set_option maxHeartbeats 1000000 in
set_option maxRecDepth 100000 in
theorem isName_letter (s : ByteArray) (hs : s.size ≤ 1048576) (most : Nat) (w : World) :
    Calls Tryz.prog 89 #[.string s, .int .i64 (most : Int), .func (.func 90) #[] #[]] w fun e w' => e = .returned (.bool (nameB letB s most)) ∧ w = w' := by
  by_cases h1 : s.size < 1
  · have HO : Hid (nameB letB s most = false) := hide (by rw [nameB, decide_eq_false (show ¬ (1 ≤ s.size ∧ s.size ≤ most) from by omega)]; simp)
    have d1 : decide ((s.size : Int) < 1) = true := by simp; omega
    go_enter Tryz.func89, Tryz.ntmps89
    go_wp2
    go_ret
    rw [HO.out]
    exact ⟨rfl, rfl⟩
  · have d1 : decide ((s.size : Int) < 1) = false := by simp; omega
    by_cases h2 : most < s.size
    · have HO : Hid (nameB letB s most = false) := hide (by rw [nameB, decide_eq_false (show ¬ (1 ≤ s.size ∧ s.size ≤ most) from by omega)]; simp)
      have d2 : decide ((most : Int) < (s.size : Int)) = true := by simp; omega
      go_enter Tryz.func89, Tryz.ntmps89
      go_wp2
      go_ret
      rw [HO.out]
      exact ⟨rfl, rfl⟩
    · have d2 : decide ((most : Int) < (s.size : Int)) = false := by simp; omega
      go_enter Tryz.func89, Tryz.ntmps89
      go_wp2
      clear d1 d2
      go_loopg [7] s.size (fun g iv wr => ∃ k : Nat, k ≤ s.size ∧ iv = .int .i64 (k : Int) ∧ g + k = s.size ∧ Hid (∀ i, i < k → letB (byt s i) = true) ∧ w = wr)
      case atStart => exact ⟨0, Nat.zero_le _, rfl, rfl, hide (fun i h => by omega), rfl⟩
      case round =>
        obtain ⟨k, hk, rfl, hg, HA, rfl⟩ := hrel
        have HG := hide hg
        clear hg
        by_cases hlt : k < s.size
        · obtain ⟨y, hy⟩ : ∃ y, y = byt s k := ⟨_, rfl⟩
          have hyb : y < 256 := by rw [hy]; exact byt_lt s _
          have hs1 : s[k].toNat = y := by rw [hy]; exact byt_eq s _ hlt
          have HY := hide hy
          have hk0 : (0 : Int) ≤ (k : Int) := by omega
          have hk1 : (k : Int) < (s.size : Int) := by omega
          have HC := hide (isLetter_any y hyb w)
          clear hy
          by_cases g1 : letB y = true
          · rw [g1] at HC
            have HA2 : Hid (∀ i, i < k + 1 → letB (byt s i) = true) := hide (fun i hi => by
              by_cases e : i = k
              · subst e; rw [← HY.out]; exact g1
              · exact HA.out i (by omega))
            clear g1
            go_wp2_with (go_at_call 90; refine HC.out.mono ?_; rintro e w1 ⟨rfl, rfl⟩)
            go_roundg (gk - 1)
            case measure => have := HG.out; omega
            case rel => exact ⟨k + 1, by omega, by go_num, by have := HG.out; omega, HA2, rfl⟩
          · have g1 : letB y = false := by simpa using g1
            rw [g1] at HC
            have HO : Hid (nameB letB s most = false) := hide (name_bad hlt (by rw [← HY.out]; exact g1))
            clear g1
            go_wp2_with (go_at_call 90; refine HC.out.mono ?_; rintro e w1 ⟨rfl, rfl⟩)
            go_ret
            rw [HO.out]
            exact ⟨rfl, rfl⟩
        · have HO : Hid (nameB letB s most = true) := hide (by rw [name_all (fun i hi => HA.out i (by omega)), decide_eq_true (by omega)])
          go_wp2
          go_ret
          rw [HO.out]
          exact ⟨rfl, rfl⟩

end Go.Proofs.YtdcmpjefemcppaaGreatDoor

namespace Go.Proofs.YtdcmpjefemcppaaGreatDoor
open Go.RowKit

set_option maxHeartbeats 1000000 in
set_option maxRecDepth 100000 in
theorem implFieldAt_any (fs : List (ByteArray × Int)) (_hl : fs.length ≤ 1048576) (name : ByteArray) (v : Value) (w : World) (hr : RowAt w 2 v fs.length (flds fs)) :
    Calls Tryz.prog 69 #[v, .string name] w fun e w' => e = .returned (.int .i64 (placeL name 0 fs)) ∧ Below w.heap.size w w' := by
  obtain ⟨-, a, cap, rfl, h2⟩ := hr
  have HR := hide h2
  clear h2
  go_enter Tryz.func69, Tryz.ntmps69
  go_wp2
  go_loopg [9] fs.length (fun g iv wr => ∃ k : Nat, k ≤ fs.length ∧ iv = .int .i64 (k : Int) ∧ g + k = fs.length ∧ Hid (placeL name 0 fs = placeL name k (fs.drop k)) ∧ Hid (Below w.heap.size w wr))
  case atStart => exact ⟨0, Nat.zero_le _, rfl, rfl, hide rfl, hide (Below.refl _ _)⟩
  case round =>
    obtain ⟨k, hk, rfl, hg, HA, HB⟩ := hrel
    have HG := hide hg
    clear hg
    by_cases hlt : k < fs.length
    · rcases HR.out with h0 | ⟨b, off, rfl, hbl, hc⟩
      · omega
      · obtain ⟨x, hx⟩ : ∃ x, x = fs[k].1 := ⟨_, rfl⟩
        obtain ⟨q, hq⟩ : ∃ q, q = fs[k].2 := ⟨_, rfl⟩
        have hc0 : wr.cell? ⟨b, off + k * 2, none⟩ = some (.string x) := by rw [HB.out.cell (by exact hbl), hc (k * 2) (by omega), (flds_at fs k hlt).1, hx]
        have hc1 : wr.cell? ⟨b, off + k * 2 + 1, none⟩ = some (.int .i64 q) := by rw [HB.out.cell (by exact hbl), Nat.add_assoc, hc (k * 2 + 1) (by omega), (flds_at fs k hlt).2, hq]
        have hk0 : (0 : Int) ≤ (k : Int) := by omega
        have hk1 : (k : Int) < (fs.length : Int) := by omega
        have HX := hide hx
        have HB2 : Hid (∀ o, Below w.heap.size w (wr.alloc o)) := hide (fun o => HB.out.alloc HB.out.size _)
        clear hc hx hq
        have hbq := ba_beq x name
        by_cases hxn : x = name
        · have HO : Hid (placeL name 0 fs = (k : Int)) := hide (by rw [HA.out]; exact place_hit hlt (by rw [← HX.out]; exact hxn))
          rw [decide_eq_true hxn] at hbq
          clear hxn
          go_wp2
          go_ret
          rw [HO.out]
          exact ⟨rfl, HB2.out _⟩
        · have HA2 : Hid (placeL name 0 fs = placeL name (k + 1) (fs.drop (k + 1))) := hide (by rw [HA.out]; exact place_miss hlt (by rw [← HX.out]; exact hxn))
          rw [decide_eq_false hxn] at hbq
          clear hxn
          go_wp2
          go_roundg (gk - 1)
          case measure => have := HG.out; omega
          case rel => exact ⟨k + 1, by omega, by go_num, by have := HG.out; omega, HA2, hide (HB2.out _)⟩
    · have HO : Hid (placeL name 0 fs = -1) := hide (by rw [HA.out]; exact place_end (by omega))
      go_wp2
      go_ret
      rw [HO.out]
      exact ⟨rfl, HB.out⟩

theorem field_word (s : ByteArray) (q : Int) : fieldB (s, q) = (nameB letB s 4 && (decide (q = 1) || decide (q = 2))) := by
  rw [name_word, fieldB]
  congr 1
  by_cases e1 : q = 1
  · subst e1; rfl
  · by_cases e2 : q = 2
    · subst e2; rfl
    · rw [decide_eq_false e1, decide_eq_false e2, decide_eq_false (show ¬ (1 ≤ (s, q).2 ∧ (s, q).2 ≤ 2) from by show ¬ (1 ≤ q ∧ q ≤ 2); omega)]; rfl

set_option maxHeartbeats 1000000 in
set_option maxRecDepth 100000 in
theorem fieldOk_any (s : ByteArray) (q : Int) (hs : s.size ≤ 1048576) (w : World) :
    Calls Tryz.prog 68 #[.agg #[.string s, .int .i64 q]] w fun e w' => e = .returned (.bool (fieldB (s, q))) ∧ Below w.heap.size w w' := by
  obtain ⟨w0, hw0⟩ : ∃ w0, w0 = w.alloc (Obj.cells #[.string s, .int .i64 q] 73) := ⟨_, rfl⟩
  have hb0 : Below w.heap.size w w0 := by rw [hw0]; exact (Below.refl w.heap.size w).alloc (Nat.le_refl _) _
  have hblk : w0.heap[w.heap.size]? = some (Obj.cells #[.string s, .int .i64 q] 73) := by rw [hw0]; exact heap_alloc_new w _
  have HB := hide hb0
  have cb0 : w0.cell? ⟨w.heap.size, 0, none⟩ = some (.string s) := (cell_at hblk 0).1
  have cb1 : w0.cell? ⟨w.heap.size, 1, none⟩ = some (.int .i64 q) := (cell_at hblk 1).1
  rw [hw0] at cb0 cb1 HB
  clear hb0 hblk hw0
  have HC := hide (isName_letter s hs 4)
  have HF := hide (field_word s q)
  by_cases h1 : nameB letB s 4 = true
  · rw [h1] at HC HF
    clear h1
    by_cases e1 : q = 1
    · subst e1
      have HO : Hid (fieldB (s, 1) = true) := hide (by rw [HF.out]; rfl)
      go_enter Tryz.func68, Tryz.ntmps68
      go_wp2_with (go_at_call 89; refine (HC.out _).mono ?_; rintro e w1 ⟨rfl, rfl⟩)
      go_ret
      rw [HO.out]
      exact ⟨rfl, HB.out⟩
    · have n1 : (q == 1) = false := by simp [e1]
      have n2 : decide (q = 1) = false := by simp [e1]
      by_cases e2 : q = 2
      · subst e2
        have HO : Hid (fieldB (s, 2) = true) := hide (by rw [HF.out]; rfl)
        go_enter Tryz.func68, Tryz.ntmps68
        go_wp2_with (go_at_call 89; refine (HC.out _).mono ?_; rintro e w1 ⟨rfl, rfl⟩)
        go_ret
        rw [HO.out]
        exact ⟨rfl, HB.out⟩
      · have n3 : (q == 2) = false := by simp [e2]
        have n4 : decide (q = 2) = false := by simp [e2]
        have HO : Hid (fieldB (s, q) = false) := hide (by rw [HF.out, n2, n4]; rfl)
        go_enter Tryz.func68, Tryz.ntmps68
        go_wp2_with (go_at_call 89; refine (HC.out _).mono ?_; rintro e w1 ⟨rfl, rfl⟩)
        go_ret
        rw [HO.out]
        exact ⟨rfl, HB.out⟩
  · have h1 : nameB letB s 4 = false := by simpa using h1
    rw [h1] at HC HF
    have HO : Hid (fieldB (s, q) = false) := hide (by rw [HF.out]; rfl)
    clear h1
    go_enter Tryz.func68, Tryz.ntmps68
    go_wp2_with (go_at_call 89; refine (HC.out _).mono ?_; rintro e w1 ⟨rfl, rfl⟩)
    go_ret
    rw [HO.out]
    exact ⟨rfl, HB.out⟩

theorem place_ge {name : ByteArray} : ∀ (l : List (ByteArray × Int)) (k : Nat), placeL name k l = -1 ∨ (k : Int) ≤ placeL name k l
  | [], _ => Or.inl rfl
  | f :: l, k => by
    rw [placeL]
    split
    · exact Or.inr (Int.le_refl _)
    · rcases place_ge l (k + 1) with h | h
      · exact Or.inl h
      · exact Or.inr (by omega)

theorem place_first {fs : List (ByteArray × Int)} {name : ByteArray} (k : Nat) (hk : k ≤ fs.length) (h : ∀ j (hj : j < k), (fs[j]'(by omega)).1 ≠ name) : placeL name 0 fs = placeL name k (fs.drop k) := by
  induction k with
  | zero => rfl
  | succ k ih => rw [ih (by omega) (fun j hj => h j (by omega))]; exact place_miss (by omega) (h k (by omega))

/-- the first place of a name is its own just when it is not ahead -/
theorem place_own {fs : List (ByteArray × Int)} {i : Nat} (hi : i < fs.length) : placeL fs[i].1 0 fs = (i : Int) ↔ ∀ k (hk : k < i), (fs[k]'(by omega)).1 ≠ fs[i].1 := by
  constructor
  · intro h
    by_cases hall : ∀ k (hk : k < i), (fs[k]'(by omega)).1 ≠ fs[i].1
    · exact hall
    · exfalso
      have key : ∀ (l : List (ByteArray × Int)) (c k : Nat) (hk : k < l.length), l[k].1 = fs[i].1 → placeL fs[i].1 c l ≤ (c + k : Nat) := by
        intro l
        induction l with
        | nil => intro c k hk; simp at hk
        | cons f l ih =>
          intro c k hk he
          rw [placeL]
          split
          · omega
          · next hne =>
            cases k with
            | zero => exact absurd he hne
            | succ k =>
              have := ih (c + 1) k (by simpa using hk) (by simpa using he)
              omega
      simp only [Classical.not_forall, Decidable.not_not] at hall
      obtain ⟨k, hk, he⟩ := hall
      have := key fs 0 k (by omega) he
      omega
  · intro h
    rw [place_first i (by omega) h]
    exact place_hit hi rfl

theorem schema_len {fs : List (ByteArray × Int)} (h : ¬ (1 ≤ fs.length ∧ fs.length ≤ 3)) : schemaOkB fs = false := by
  rw [schemaOkB, decide_eq_false h]; simp

set_option maxHeartbeats 2000000 in
set_option maxRecDepth 100000 in
theorem implSchemaOk_any (fs : List (ByteArray × Int)) (hl : fs.length ≤ 1048576) (hn : ∀ f ∈ fs, f.1.size ≤ 1048576) (v : Value) (w : World) (hr : RowAt w 2 v fs.length (flds fs)) :
    Calls Tryz.prog 47 #[v] w fun e w' => e = .returned (.bool (schemaOkB fs)) ∧ Below w.heap.size w w' := by
  have HF := hide (fun name wx h => implFieldAt_any fs hl name v wx h)
  have HRv := hide hr
  obtain ⟨-, a, cap, rfl, h2⟩ := hr
  have HR := hide h2
  have HN := hide hn
  clear h2 hn
  by_cases h1 : fs.length < 1
  · have HO := hide (schema_len (fs := fs) (by omega))
    have d1 : decide ((fs.length : Int) < 1) = true := by simp; omega
    clear h1
    go_enter Tryz.func47, Tryz.ntmps47
    go_wp2_with fail
    go_ret
    rw [HO.out]
    exact ⟨rfl, Below.refl _ _⟩
  · have d1 : decide ((fs.length : Int) < 1) = false := by simp; omega
    by_cases h2 : 3 < fs.length
    · have HO := hide (schema_len (fs := fs) (by omega))
      have d2 : decide ((3 : Int) < (fs.length : Int)) = true := by simp; omega
      go_enter Tryz.func47, Tryz.ntmps47
      go_wp2_with fail
      go_ret
      rw [HO.out]
      exact ⟨rfl, Below.refl _ _⟩
    · have d2 : decide ((3 : Int) < (fs.length : Int)) = false := by simp; omega
      have HL : Hid (1 ≤ fs.length ∧ fs.length ≤ 3) := hide (by omega)
      clear h1 h2
      go_enter Tryz.func47, Tryz.ntmps47
      go_wp2_with fail
      clear d1 d2
      go_loopg [15] fs.length (fun g iv wr => ∃ i : Nat, i ≤ fs.length ∧ iv = .int .i64 (i : Int) ∧ g + i = fs.length ∧ Hid ((∀ j (h : j < fs.length), j < i → fieldB fs[j] = true) ∧ ∀ j (h : j < fs.length), j < i → ∀ k (hk : k < j), (fs[k]'(by omega)).1 ≠ fs[j].1) ∧ Hid (Below w.heap.size w wr))
      case atStart => exact ⟨0, Nat.zero_le _, rfl, rfl, hide ⟨fun j h h0 => by omega, fun j h h0 => by omega⟩, hide (Below.refl _ _)⟩
      case round =>
        obtain ⟨i, hi, rfl, hg, HA, HB⟩ := hrel
        have HG := hide hg
        clear hg
        by_cases hlt : i < fs.length
        · rcases HR.out with h0 | ⟨b, off, rfl, hbl, hc⟩
          · omega
          · obtain ⟨x, hx⟩ : ∃ x, x = fs[i].1 := ⟨_, rfl⟩
            obtain ⟨q, hq⟩ : ∃ q, q = fs[i].2 := ⟨_, rfl⟩
            have hc0 : wr.cell? ⟨b, off + i * 2, none⟩ = some (.string x) := by rw [HB.out.cell (by exact hbl), hc (i * 2) (by omega), (flds_at fs i hlt).1, hx]
            have hc1 : wr.cell? ⟨b, off + i * 2 + 1, none⟩ = some (.int .i64 q) := by rw [HB.out.cell (by exact hbl), Nat.add_assoc, hc (i * 2 + 1) (by omega), (flds_at fs i hlt).2, hq]
            have hxs : x.size ≤ 1048576 := by rw [hx]; exact HN.out _ (List.getElem_mem hlt)
            have hi0 : (0 : Int) ≤ (i : Int) := by omega
            have hi1 : (i : Int) < (fs.length : Int) := by omega
            have HX : Hid ((x, q) = fs[i]) := hide (by rw [hx, hq])
            have HX1 := hide hx
            have HFo := hide (fieldOk_any x q hxs)
            have HFa := hide (fun wx h => HF.out x wx h)
            obtain ⟨wa, hwa⟩ : ∃ wa, wa = wr.alloc (Obj.cells #[.string x, .int .i64 q] 73) := ⟨_, rfl⟩
            have HVa : Hid (wa.heap[wr.heap.size]? = some (Obj.cells #[.string x, .int .i64 q] 73)) := hide (by rw [hwa]; exact heap_alloc_new wr _)
            have HWa : Hid (Below w.heap.size w wa) := hide (by rw [hwa]; exact HB.out.alloc HB.out.size _)
            clear hc hx hq
            cases hfb : fieldB (x, q) with
            | false =>
              rw [hfb] at HFo
              have HO : Hid (schemaOkB fs = false) := hide (schema_field hlt (by rw [← HX.out]; exact hfb))
              clear hfb
              go_wp2_with fail
              rw [← hwa]
              refine (HFo.out _).mono ?_
              rintro e w2 ⟨rfl, hb2⟩
              have HB2 : Hid (Below w.heap.size w w2) := hide (HWa.out.trans (hb2.mono HWa.out.size))
              clear hb2 hwa hc0 hc1
              go_wp2_with fail
              go_ret
              rw [HO.out]
              exact ⟨rfl, HB2.out⟩
            | true =>
              rw [hfb] at HFo
              have HFb := hide hfb
              clear hfb
              by_cases hp : placeL x 0 fs = (i : Int)
              · rw [hp] at HFa
                have HA2 : Hid ((∀ j (h : j < fs.length), j < i + 1 → fieldB fs[j] = true) ∧ ∀ j (h : j < fs.length), j < i + 1 → ∀ k (hk : k < j), (fs[k]'(by omega)).1 ≠ fs[j].1) := hide ⟨fun j h hj => by
                  by_cases e : j = i
                  · subst e; rw [← HX.out]; exact HFb.out
                  · exact HA.out.1 j h (by omega), fun j h hj k hk => by
                  by_cases e : j = i
                  · subst e; exact (place_own hlt).1 (by rw [← HX1.out]; exact hp) k hk
                  · exact HA.out.2 j h (by omega) k hk⟩
                clear hp
                go_wp2_with fail
                rw [← hwa]
                refine (HFo.out _).mono ?_
                rintro e w2 ⟨rfl, hb2⟩
                have HB2 : Hid (Below w.heap.size w w2) := hide (HWa.out.trans (hb2.mono HWa.out.size))
                have cv0 : w2.cell? ⟨wr.heap.size, 0, none⟩ = some (.string x) := (cell_at ((hb2.block _ (Array.getElem?_eq_some_iff.1 HVa.out).1).trans HVa.out) 0).1
                clear hb2 hwa hc0 hc1
                go_wp2_with fail
                refine (HFa.out _ (row_below HRv.out HB2.out)).mono ?_
                rintro e w3 ⟨rfl, hb3⟩
                have HB3 : Hid (Below w.heap.size w w3) := hide (HB2.out.trans (hb3.mono HB2.out.size))
                clear hb3 cv0
                go_wp2_with fail
                go_roundg (gk - 1)
                case measure => have := HG.out; omega
                case rel => exact ⟨i + 1, by omega, by go_num, by have := HG.out; omega, HA2, HB3⟩
              · obtain ⟨p, hpp⟩ : ∃ p, p = placeL x 0 fs := ⟨_, rfl⟩
                rw [← hpp] at hp HFa
                have d1 : (p != (i : Int)) = true := by simp [hp]
                have HO : Hid (schemaOkB fs = false) := hide (by
                  by_cases hall : ∀ k (hk : k < i), (fs[k]'(by omega)).1 ≠ fs[i].1
                  · exact absurd (by rw [hpp, HX1.out]; exact (place_own hlt).2 hall) hp
                  · simp only [Classical.not_forall, Decidable.not_not] at hall
                    obtain ⟨k, hk, he⟩ := hall
                    exact schema_twice hlt hk he)
                clear hp hpp
                go_wp2_with fail
                rw [← hwa]
                refine (HFo.out _).mono ?_
                rintro e w2 ⟨rfl, hb2⟩
                have HB2 : Hid (Below w.heap.size w w2) := hide (HWa.out.trans (hb2.mono HWa.out.size))
                have cv0 : w2.cell? ⟨wr.heap.size, 0, none⟩ = some (.string x) := (cell_at ((hb2.block _ (Array.getElem?_eq_some_iff.1 HVa.out).1).trans HVa.out) 0).1
                clear hb2 hwa hc0 hc1
                go_wp2_with fail
                refine (HFa.out _ (row_below HRv.out HB2.out)).mono ?_
                rintro e w3 ⟨rfl, hb3⟩
                have HB3 : Hid (Below w.heap.size w w3) := hide (HB2.out.trans (hb3.mono HB2.out.size))
                clear hb3 cv0
                go_wp2_with fail
                go_ret
                rw [HO.out]
                exact ⟨rfl, HB3.out⟩
        · have HO : Hid (schemaOkB fs = true) := hide (by
            have hA := HA.out
            rw [schema_all (fun j h => hA.1 j h (by omega)) (fun j h k hk => hA.2 j h (by omega) k hk)]
            exact decide_eq_true HL.out)
          go_wp2_with fail
          go_ret
          rw [HO.out]
          exact ⟨rfl, HB.out⟩
end Go.Proofs.YtdcmpjefemcppaaGreatDoor

namespace Go.Proofs.YtdcmpjefemcppaaGreatDoor
open Go.RowKit

set_option maxHeartbeats 4000000 in
set_option maxRecDepth 100000 in
theorem implReadSchema_any (t : ByteArray) (ht : t.size ≤ 1048576) (w : World) :
    Calls Tryz.prog 42 #[.string t] w fun e w' => ∃ v fs ok, e = .returned (.tuple #[v, .bool ok]) ∧ w'.ownsRow w.heap.size 73 2 v fs.length (flds fs) ∧ ReadSch t fs ok ∧ Below w.heap.size w w' := by
  obtain ⟨i0, hi, hz0, hz1, hz2⟩ := info_parts Tryz.infoFld
  have HOw := hide (own_flds0 w w.heap.size (Nat.le_refl _))
  have HB0 : Hid (∀ o, Below w.heap.size w (w.alloc o)) := hide (fun o => (Below.refl w.heap.size w).alloc (Nat.le_refl _) _)
  go_enter Tryz.func42, Tryz.ntmps42
  go_wp2_with fail
  go_loopg [4, 5] t.size (fun r ov pv wr => ∃ (fs : List (ByteArray × Int)) (p : Nat), fs.length ≤ 3 ∧ p ≤ t.size ∧ pv = .int .i64 (p : Int) ∧ r + p = t.size ∧ wr.ownsRow w.heap.size 73 2 ov fs.length (flds fs) ∧ Hid (Below w.heap.size w wr) ∧ Hid (SchTry t fs p ∧ SchHas t fs p))
  case atStart => exact ⟨[], 0, by simp, by omega, rfl, by omega, HOw.out, hide (HB0.out _), hide ⟨schTry_nil t, schHas_nil t⟩⟩
  case round =>
    obtain ⟨fs, p, hfl, hp, rfl, hgk, hown, HB, HT⟩ := hrel
    have HG := hide hgk
    have HOn := hide hown
    have hws := HB.out.size
    obtain ⟨a, cap, hov⟩ : ∃ a cap, u4 = .slice a fs.length cap := by obtain ⟨-, a, cap, e, -⟩ := row_of_own hown; exact ⟨a, cap, e⟩
    subst hov
    clear hgk hown
    by_cases h1 : p < t.size
    · have HC := hide (implReadShort_rd t ht (p + 1))
      have hcast : ((p + 1 : Nat) : Int) = (p : Int) + 1 := by omega
      rw [hcast] at HC
      cases ho : rdS t (p + 1) with
      | none =>
        rw [ho, tupS] at HC
        have HNo : Hid (∀ gs, ¬ IsSch t gs) := hide (schTry_none HT.out.1 h1 ho)
        clear ho
        go_wp2_with fail
        refine (HC.out _).mono ?_
        rintro e w2 ⟨rfl, hb2⟩
        have HB2 : Hid (Below w.heap.size w w2) := hide (HB.out.trans (hb2.mono HB.out.size))
        clear hb2
        go_wp2_with fail
        go_ret2
        exact ⟨_, [], false, rfl, own_flds0 _ _ HB2.out.size, Or.inr ⟨rfl, rfl, HNo.out⟩, HB2.out.alloc HB2.out.size _⟩
      | some r =>
        obtain ⟨x, q⟩ := r
        rw [ho, tupS] at HC
        obtain ⟨k1, k2, -, -⟩ := rdS_back ho
        by_cases h3 : fs.length = 3
        · have HNo : Hid (∀ gs, ¬ IsSch t gs) := hide (schTry_full HT.out.1 h1 (by omega))
          have d3 : ((fs.length : Int) == 3) = true := by rw [h3]; rfl
          clear ho
          go_wp2_with fail
          refine (HC.out _).mono ?_
          rintro e w2 ⟨rfl, hb2⟩
          have HB2 : Hid (Below w.heap.size w w2) := hide (HB.out.trans (hb2.mono HB.out.size))
          clear hb2
          go_wp2_with fail
          go_ret2
          exact ⟨_, [], false, rfl, own_flds0 _ _ HB2.out.size, Or.inr ⟨rfl, rfl, HNo.out⟩, HB2.out.alloc HB2.out.size _⟩
        · have d3 : ((fs.length : Int) == 3) = false := by simp; omega
          have d3' : decide (fs.length = 3) = false := by simp; omega
          obtain ⟨y, hy⟩ : ∃ y, y = byt t p := ⟨_, rfl⟩
          have hyb : y < 256 := by rw [hy]; exact byt_lt t _
          have hs1 : t[p].toNat = y := by rw [hy]; exact byt_eq t _ h1
          have HT2 : Hid (SchTry t (fs ++ [(x, (y : Int))]) q ∧ SchHas t (fs ++ [(x, (y : Int))]) q) := hide (by rw [hy]; exact ⟨schTry_some HT.out.1 h1 ho, schHas_some HT.out.2 h1 ho⟩)
          have hp0 : (0 : Int) ≤ (p : Int) := by omega
          have hp1 : (p : Int) < (t.size : Int) := by omega
          clear ho hy
          go_wp2_with fail
          refine (HC.out _).mono ?_
          rintro e w2 ⟨rfl, hb2⟩
          have HB2 : Hid (Below w.heap.size w w2) := hide (HB.out.trans (hb2.mono HB.out.size))
          have HO2 := hide (own_stays HOn.out hb2)
          have hws2 := HB2.out.size
          clear hb2
          go_wp2_with (at_builtin; (refine wpList_append_row _ rfl _ _ 41 rfl w.heap.size 73 i0 (.agg #[.string ⟨#[]⟩, .int .i64 0]) 2 24 Tryz.underlying41 hi hz0 hz1 hz2 rfl (by decide) _ _ _ rfl (HO2.out.alloc _) _ 1 (flds [(x, (y : Int))]) rfl (fld_new w2 x (y : Int)) (flds_one _) ?_ ?_ ?_ ?_))
          · unfold maxLen; omega
          · omega
          · simp; omega
          intro y6 d6 w6 hown6 hg6
          have hown7 : w6.ownsRow w.heap.size 73 2 (.slice y6 (fs.length + 1) d6) (fs ++ [(x, (y : Int))]).length (flds (fs ++ [(x, (y : Int))])) := by
            rw [← flds_snoc, List.length_append]
            exact hown6
          have HB6 : Hid (Below w.heap.size w w6) := hide ((HB2.out.alloc hws2 _).grown hg6 (by simp; omega) (fun k hk => (HO2.out.lt k hk).1))
          clear hown6 hg6
          go_wp2_with fail
          go_roundg (gk - (q - p))
          case measure => have := HG.out; omega
          case rel => exact ⟨fs ++ [(x, (y : Int))], q, by simp; omega, k2, rfl, by have := HG.out; omega, hown7, HB6, HT2⟩
    · have HE : Hid (∀ gs, IsSch t gs → gs = fs) := hide (schTry_end HT.out.1 (by omega))
      have HTx : Hid (schT fs = t) := hide (by rw [HT.out.2.2.1, extract_all t p (by omega)])
      have HSp := hide (implSchemaOk_any fs (by omega) (fun f hf => Nat.le_trans (HT.out.2.2.2 f hf) (by omega)) (.slice a fs.length cap) wr (row_of_own HOn.out))
      cases hok : schemaOkB fs with
      | false =>
        rw [hok] at HSp
        have HNo : Hid (∀ gs, ¬ IsSch t gs) := hide (fun gs hg => by
          have := HE.out gs hg
          subst this
          rw [hg.1] at hok; cases hok)
        clear hok
        go_wp2_with fail
        refine HSp.out.mono ?_
        rintro e w2 ⟨rfl, hb2⟩
        have HB2 : Hid (Below w.heap.size w w2) := hide (HB.out.trans (hb2.mono HB.out.size))
        clear hb2
        go_wp2_with fail
        go_ret2
        exact ⟨_, [], false, rfl, own_flds0 _ _ HB2.out.size, Or.inr ⟨rfl, rfl, HNo.out⟩, HB2.out.alloc HB2.out.size _⟩
      | true =>
        rw [hok] at HSp
        have HYs : Hid (IsSch t fs) := hide ⟨hok, HTx.out⟩
        clear hok
        go_wp2_with fail
        refine HSp.out.mono ?_
        rintro e w2 ⟨rfl, hb2⟩
        have HB2 : Hid (Below w.heap.size w w2) := hide (HB.out.trans (hb2.mono HB.out.size))
        have HO2 := hide (own_stays HOn.out hb2)
        clear hb2
        go_wp2_with fail
        go_ret2
        exact ⟨_, fs, true, rfl, HO2.out, Or.inl ⟨rfl, HYs.out, HE.out⟩, HB2.out⟩

/-- the program's value, its place behind it, and whether it is one -/
def tupVal : Option ((Int × ByteArray) × Nat) → Value
  | some (u, q) => .tuple #[.agg #[.int .i64 u.1, .string u.2], .int .i64 (q : Int), .bool true]
  | none => .tuple #[.agg #[.int .i64 0, .string ⟨#[]⟩], .int .i64 0, .bool false]

theorem two_sets {w : World} {g : Nat} {a b u0 u1 : Value} {T : TypeId} (h : w.heap[g]? = some (.cells #[a, b] T (0, 0))) : ((w.setCell ⟨g, 0, none⟩ u0).setCell ⟨g, 1, none⟩ u1).heap[g]? = some (.cells #[u0, u1] T (0, 0)) :=
  heap_setCell_same (w.setCell ⟨g, 0, none⟩ u0) g 1 _ _ _ (heap_setCell_same w g 0 _ _ _ h)

set_option maxHeartbeats 1000000 in
set_option maxRecDepth 100000 in
theorem readValue_any (kind : Int) (t : ByteArray) (ht : t.size ≤ 1048576) (p : Nat) (w : World) :
    Calls Tryz.prog 48 #[.int .i64 kind, .string t, .int .i64 (p : Int)] w fun e w' => e = .returned (tupVal (rdVal kind t p)) ∧ Below w.heap.size w w' := by
  obtain ⟨w0, hw0⟩ : ∃ w0, w0 = w.alloc (Obj.cells #[.int .i64 0, .string ⟨#[]⟩] 52) := ⟨_, rfl⟩
  have HB : Hid (Below w.heap.size w w0) := hide (by rw [hw0]; exact (Below.refl w.heap.size w).alloc (Nat.le_refl _) _)
  have HBk : Hid (w0.heap[w.heap.size]? = some (Obj.cells #[.int .i64 0, .string ⟨#[]⟩] 52)) := hide (by rw [hw0]; exact heap_alloc_new w _)
  by_cases hk : kind = 1
  · subst hk
    have HC := hide (implReadVar_rd t ht p)
    rw [rdVal, if_pos rfl]
    cases ho : rdV t p with
    | none =>
      rw [ho, tupV] at HC
      simp only [Option.map_none, tupVal]
      clear ho
      go_enter Tryz.func48, Tryz.ntmps48
      go_wp2_with fail
      rw [← hw0]
      refine (HC.out _).mono ?_
      rintro e w1 ⟨rfl, hb1⟩
      have hblk1 := (hb1.block _ (Array.getElem?_eq_some_iff.1 HBk.out).1).trans HBk.out
      have hfin := two_sets (u0 := .int .i64 0) (u1 := .string ⟨#[]⟩) hblk1
      have z0 := (cell_at hfin 0).1
      have z1 := (cell_at hfin 1).1
      have HZ := hide (⟨z0, z1⟩ : _ ∧ _)
      have r0 : w1.cell? ⟨w.heap.size, 0, none⟩ = some (.int .i64 0) := (cell_at hblk1 0).1
      have r1 : w1.cell? ⟨w.heap.size, 1, none⟩ = some (.string ⟨#[]⟩) := (cell_at hblk1 1).1
      have q0 := (cell_at hblk1 0).2
      have q1 := (cell_at hblk1 1).2
      have HB1 : Hid (Below w.heap.size w w1) := hide (HB.out.trans (hb1.mono HB.out.size))
      clear hw0 hfin z0 z1 hblk1 hb1
      go_wp2_with fail
      have z0 := HZ.out.1
      have z1 := HZ.out.2
      exact bodyPost_ret (v := .tuple #[.agg #[.int .i64 0, .string ⟨#[]⟩], .int .i64 0, .bool false]) (by simp [results, Tryz.results48, go_sem, z0, z1]) rfl ⟨rfl, (HB1.out.setCell (Nat.le_refl _) _).setCell (Nat.le_refl _) _⟩
    | some r =>
      obtain ⟨n, q⟩ := r
      rw [ho, tupV] at HC
      simp only [Option.map_some, tupVal]
      clear ho
      go_enter Tryz.func48, Tryz.ntmps48
      go_wp2_with fail
      rw [← hw0]
      refine (HC.out _).mono ?_
      rintro e w1 ⟨rfl, hb1⟩
      have hblk1 := (hb1.block _ (Array.getElem?_eq_some_iff.1 HBk.out).1).trans HBk.out
      have hfin := two_sets (u0 := .int .i64 (n : Int)) (u1 := .string ⟨#[]⟩) hblk1
      have z0 := (cell_at hfin 0).1
      have z1 := (cell_at hfin 1).1
      have HZ := hide (⟨z0, z1⟩ : _ ∧ _)
      have r0 : w1.cell? ⟨w.heap.size, 0, none⟩ = some (.int .i64 0) := (cell_at hblk1 0).1
      have r1 : w1.cell? ⟨w.heap.size, 1, none⟩ = some (.string ⟨#[]⟩) := (cell_at hblk1 1).1
      have q0 := (cell_at hblk1 0).2
      have q1 := (cell_at hblk1 1).2
      have HB1 : Hid (Below w.heap.size w w1) := hide (HB.out.trans (hb1.mono HB.out.size))
      clear hw0 hfin z0 z1 hblk1 hb1
      go_wp2_with fail
      have z0 := HZ.out.1
      have z1 := HZ.out.2
      exact bodyPost_ret (v := .tuple #[.agg #[.int .i64 (n : Int), .string ⟨#[]⟩], .int .i64 (q : Int), .bool true]) (by simp [results, Tryz.results48, go_sem, z0, z1]) rfl ⟨rfl, (HB1.out.setCell (Nat.le_refl _) _).setCell (Nat.le_refl _) _⟩
  · have HC := hide (implReadShort_rd t ht p)
    have d1 : (kind == 1) = false := by simp [hk]
    have d2 : decide (kind = 1) = false := by simp [hk]
    rw [rdVal, if_neg hk]
    clear hk
    cases ho : rdS t p with
    | none =>
      rw [ho, tupS] at HC
      simp only [Option.map_none, tupVal]
      clear ho
      go_enter Tryz.func48, Tryz.ntmps48
      go_wp2_with fail
      rw [← hw0]
      refine (HC.out _).mono ?_
      rintro e w1 ⟨rfl, hb1⟩
      have hblk1 := (hb1.block _ (Array.getElem?_eq_some_iff.1 HBk.out).1).trans HBk.out
      have hfin := two_sets (u0 := .int .i64 0) (u1 := .string ⟨#[]⟩) hblk1
      have z0 := (cell_at hfin 0).1
      have z1 := (cell_at hfin 1).1
      have HZ := hide (⟨z0, z1⟩ : _ ∧ _)
      have r0 : w1.cell? ⟨w.heap.size, 0, none⟩ = some (.int .i64 0) := (cell_at hblk1 0).1
      have r1 : w1.cell? ⟨w.heap.size, 1, none⟩ = some (.string ⟨#[]⟩) := (cell_at hblk1 1).1
      have q0 := (cell_at hblk1 0).2
      have q1 := (cell_at hblk1 1).2
      have HB1 : Hid (Below w.heap.size w w1) := hide (HB.out.trans (hb1.mono HB.out.size))
      clear hw0 hfin z0 z1 hblk1 hb1
      go_wp2_with fail
      have z0 := HZ.out.1
      have z1 := HZ.out.2
      exact bodyPost_ret (v := .tuple #[.agg #[.int .i64 0, .string ⟨#[]⟩], .int .i64 0, .bool false]) (by simp [results, Tryz.results48, go_sem, z0, z1]) rfl ⟨rfl, (HB1.out.setCell (Nat.le_refl _) _).setCell (Nat.le_refl _) _⟩
    | some r =>
      obtain ⟨x, q⟩ := r
      rw [ho, tupS] at HC
      simp only [Option.map_some, tupVal]
      clear ho
      go_enter Tryz.func48, Tryz.ntmps48
      go_wp2_with fail
      rw [← hw0]
      refine (HC.out _).mono ?_
      rintro e w1 ⟨rfl, hb1⟩
      have hblk1 := (hb1.block _ (Array.getElem?_eq_some_iff.1 HBk.out).1).trans HBk.out
      have hfin := two_sets (u0 := .int .i64 0) (u1 := .string x) hblk1
      have z0 := (cell_at hfin 0).1
      have z1 := (cell_at hfin 1).1
      have HZ := hide (⟨z0, z1⟩ : _ ∧ _)
      have r0 : w1.cell? ⟨w.heap.size, 0, none⟩ = some (.int .i64 0) := (cell_at hblk1 0).1
      have r1 : w1.cell? ⟨w.heap.size, 1, none⟩ = some (.string ⟨#[]⟩) := (cell_at hblk1 1).1
      have q0 := (cell_at hblk1 0).2
      have q1 := (cell_at hblk1 1).2
      have HB1 : Hid (Below w.heap.size w w1) := hide (HB.out.trans (hb1.mono HB.out.size))
      clear hw0 hfin z0 z1 hblk1 hb1
      go_wp2_with fail
      have z0 := HZ.out.1
      have z1 := HZ.out.2
      exact bodyPost_ret (v := .tuple #[.agg #[.int .i64 0, .string x], .int .i64 (q : Int), .bool true]) (by simp [results, Tryz.results48, go_sem, z0, z1]) rfl ⟨rfl, (HB1.out.setCell (Nat.le_refl _) _).setCell (Nat.le_refl _) _⟩
end Go.Proofs.YtdcmpjefemcppaaGreatDoor

namespace Go.Proofs.YtdcmpjefemcppaaGreatDoor
open Go.RowKit

/-- the byte s and a collection -/
def schK (c : ByteArray) : ByteArray := ⟨#[115]⟩ ++ c

/-- the byte o, a collection, the byte 0, a key -/
def thgK (c k : ByteArray) : ByteArray := ⟨#[111]⟩ ++ c ++ ⟨#[0]⟩ ++ k

/-- the byte i, a collection, the byte 0, a field, the byte 0, an order, a key -/
def idxK (c f o k : ByteArray) : ByteArray := ⟨#[105]⟩ ++ c ++ ⟨#[0]⟩ ++ f ++ ⟨#[0]⟩ ++ o ++ k

theorem ba_of (l : List UInt8) (J : ByteArray) (h : l = J.data.toList) : (⟨l.toArray⟩ : ByteArray) = J := by
  cases J with | mk d => subst h; simp

theorem ba_list (a b : ByteArray) : (a ++ b).data.toList = a.data.toList ++ b.data.toList := by simp

theorem join_1 (x : ByteArray) : (⟨(Lib.join ([x].map (·.data.toList)) (⟨#[0]⟩ : ByteArray).data.toList).toArray⟩ : ByteArray) = x :=
  ba_of _ _ (by simp [Lib.join, List.intercalate])

theorem join_2 (x y : ByteArray) : (⟨(Lib.join ([x, y].map (·.data.toList)) (⟨#[0]⟩ : ByteArray).data.toList).toArray⟩ : ByteArray) = x ++ ⟨#[0]⟩ ++ y :=
  ba_of _ _ (by rw [ba_list, ba_list]; simp [Lib.join, List.intercalate])

theorem join_3 (x y z : ByteArray) : (⟨(Lib.join ([x, y, z].map (·.data.toList)) (⟨#[0]⟩ : ByteArray).data.toList).toArray⟩ : ByteArray) = x ++ ⟨#[0]⟩ ++ y ++ ⟨#[0]⟩ ++ z :=
  ba_of _ _ (by rw [ba_list, ba_list, ba_list, ba_list]; simp [Lib.join, List.intercalate])

theorem size_of {l : List UInt8} {J : ByteArray} (h : (⟨l.toArray⟩ : ByteArray) = J) : l.length = J.size := by
  subst h; simp [ByteArray.size]

theorem ba_assoc (a b c : ByteArray) : a ++ (b ++ c) = a ++ b ++ c := by
  rw [ByteArray.append_assoc]

theorem markedKey_any (m : ByteArray) (bk o c : Nat) (xs : List ByteArray) (J : ByteArray) (w : World) (hcells : ∀ (j : Nat) x, xs[j]? = some x → w.cell? ⟨bk, o + j, none⟩ = some (.string x))
    (hbk : bk < w.heap.size) (hN : xs.length ≤ 1000) (hcap : xs.length ≤ c) (hJ : (⟨(Lib.join (xs.map (·.data.toList)) (⟨#[0]⟩ : ByteArray).data.toList).toArray⟩ : ByteArray) = J) (hs : J.size ≤ 10000000) (hm : m.size ≤ 10) :
    Calls Tryz.prog 46 #[.string m, .slice (some ⟨bk, o, none⟩) xs.length c] w fun e w' => e = .returned (.string (m ++ J)) ∧ Below w.heap.size w w' := by
  have HC := hide (Tryz.strings_Join bk o c xs ⟨#[0]⟩ w hcells hbk (by omega) hcap (by rw [size_of hJ]; omega))
  rw [hJ] at HC
  have ha : ∀ wx : World, (Op.stringOp .add m J).run Tryz.prog wx = .ok (.string (m ++ J)) wx := fun wx => run_string_add_sum wx _ _ (by omega)
  clear hcells hbk hcap hJ
  obtain ⟨n, hn⟩ : ∃ n, n = xs.length := ⟨_, rfl⟩
  rw [← hn] at HC hN ⊢
  clear hn
  go_enter Tryz.func46, Tryz.ntmps46
  go_wp2_with (go_at_call 67; refine HC.out.mono ?_; rintro e w1 ⟨rfl, hb⟩; have HB := hide hb; clear hb)
  go_ret
  exact ⟨rfl, HB.out⟩

theorem implSchemaKey_any (c : ByteArray) (hc : c.size ≤ 1048576) (w : World) :
    Calls Tryz.prog 41 #[.string c] w fun e w' => e = .returned (.string (schK c)) ∧ Below w.heap.size w w' := by
  obtain ⟨w0, hw0⟩ : ∃ w0, w0 = w.alloc (Obj.cells #[.string c] 9) := ⟨_, rfl⟩
  have hblk : w0.heap[w.heap.size]? = some (Obj.cells #[.string c] 9) := by rw [hw0]; exact heap_alloc_new w _
  have HB : Hid (Below w.heap.size w w0) := hide (by rw [hw0]; exact (Below.refl w.heap.size w).alloc (Nat.le_refl _) _)
  have hsz : w0.heap.size = w.heap.size + 1 := by rw [hw0]; simp
  have HC := hide (markedKey_any ⟨#[115]⟩ w.heap.size 0 1 [c] c w0 (fun j x h => by
    match j, h with
    | 0, h => cases h; exact (cell_at hblk 0).1) (by omega) (by simp) (by simp) (join_1 c) (by omega) (by decide))
  rw [hw0] at HC HB
  clear hw0 hblk hsz
  go_enter Tryz.func41, Tryz.ntmps41
  go_wp2_with (go_at_call 46; refine HC.out.mono ?_; rintro e w1 ⟨rfl, hb⟩; have HB1 := hide hb; clear hb)
  go_ret
  exact ⟨rfl, HB.out.trans (HB1.out.mono HB.out.size)⟩

theorem implThingKey_any (c k : ByteArray) (hc : c.size ≤ 1048576) (hk : k.size ≤ 1048576) (w : World) :
    Calls Tryz.prog 23 #[.string c, .string k] w fun e w' => e = .returned (.string (thgK c k)) ∧ Below w.heap.size w w' := by
  obtain ⟨w0, hw0⟩ : ∃ w0, w0 = w.alloc (Obj.cells #[.string c, .string k] 9) := ⟨_, rfl⟩
  have hblk : w0.heap[w.heap.size]? = some (Obj.cells #[.string c, .string k] 9) := by rw [hw0]; exact heap_alloc_new w _
  have HB : Hid (Below w.heap.size w w0) := hide (by rw [hw0]; exact (Below.refl w.heap.size w).alloc (Nat.le_refl _) _)
  have hsz : w0.heap.size = w.heap.size + 1 := by rw [hw0]; simp
  have HC := hide (markedKey_any ⟨#[111]⟩ w.heap.size 0 2 [c, k] (c ++ ⟨#[0]⟩ ++ k) w0 (fun j x h => by
    match j, h with
    | 0, h => cases h; exact (cell_at hblk 0).1
    | 1, h => cases h; exact (cell_at hblk 1).1) (by omega) (by simp) (by simp) (join_2 c k) (by rw [ByteArray.size_append, ByteArray.size_append]; show c.size + 1 + k.size ≤ _; omega) (by decide))
  rw [hw0] at HC HB
  clear hw0 hblk hsz
  have HE : Hid ((⟨#[111]⟩ : ByteArray) ++ (c ++ ⟨#[0]⟩ ++ k) = thgK c k) := hide (by rw [thgK, ba_assoc, ba_assoc])
  go_enter Tryz.func23, Tryz.ntmps23
  go_wp2_with (go_at_call 46; refine HC.out.mono ?_; rintro e w1 ⟨rfl, hb⟩; have HB1 := hide hb; clear hb)
  go_ret
  rw [← HE.out]
  exact ⟨rfl, HB.out.trans (HB1.out.mono HB.out.size)⟩

theorem specSchemaKey_any (c : ByteArray) (hc : c.size ≤ 1048576) (w : World) :
    Calls Tryz.prog 32 #[.string c] w fun e w' => e = .returned (.string (schK c)) ∧ w = w' := by
  have ha : ∀ wx : World, (Op.stringOp .add ⟨#[115]⟩ c).run Tryz.prog wx = .ok (.string (⟨#[115]⟩ ++ c)) wx := fun wx => run_string_add_sum wx _ _ (by show 1 + c.size ≤ _; omega)
  go_enter Tryz.func32, Tryz.ntmps32
  go_wp2
  go_ret
  exact ⟨rfl, rfl⟩

theorem specThingKey_any (c k : ByteArray) (hc : c.size ≤ 1048576) (hk : k.size ≤ 1048576) (w : World) :
    Calls Tryz.prog 17 #[.string c, .string k] w fun e w' => e = .returned (.string (thgK c k)) ∧ w = w' := by
  have ha1 : ∀ wx : World, (Op.stringOp .add ⟨#[111]⟩ c).run Tryz.prog wx = .ok (.string (⟨#[111]⟩ ++ c)) wx := fun wx => run_string_add_sum wx _ _ (by show 1 + c.size ≤ _; omega)
  have ha2 : ∀ wx : World, (Op.stringOp .add (⟨#[111]⟩ ++ c) ⟨#[0]⟩).run Tryz.prog wx = .ok (.string (⟨#[111]⟩ ++ c ++ ⟨#[0]⟩)) wx := fun wx => run_string_add_sum wx _ _ (by rw [ByteArray.size_append]; show 1 + c.size + 1 ≤ _; omega)
  have ha3 : ∀ wx : World, (Op.stringOp .add (⟨#[111]⟩ ++ c ++ ⟨#[0]⟩) k).run Tryz.prog wx = .ok (.string (⟨#[111]⟩ ++ c ++ ⟨#[0]⟩ ++ k)) wx := fun wx => run_string_add_sum wx _ _ (by rw [ByteArray.size_append, ByteArray.size_append]; show 1 + c.size + 1 + k.size ≤ _; omega)
  go_enter Tryz.func17, Tryz.ntmps17
  go_wp2
  go_ret
  exact ⟨rfl, rfl⟩

end Go.Proofs.YtdcmpjefemcppaaGreatDoor

namespace Go.Proofs.YtdcmpjefemcppaaGreatDoor
open Go.RowKit

theorem vals_snoc (l : List (Int × ByteArray)) (f : Int × ByteArray) : puts l ++ puts [f] = puts (l ++ [f]) := by simp [puts]

theorem val_at (w : World) (n : Nat) (hn : n = w.heap.size) (q : Int) (x : ByteArray) : RowAt (w.alloc (Obj.cells #[.int .i64 q, .string x] 52)) 2 (.slice (some ⟨n, 0, none⟩) 1 1) 1 (puts [(q, x)]) := by
  subst hn
  refine ⟨rfl, _, _, rfl, Or.inr ⟨w.heap.size, 0, rfl, by simp, fun j hj => ?_⟩⟩
  rw [Nat.zero_add, (cell_at (heap_alloc_new w _) j).1]
  simp [puts]

theorem vals_one (l : List (Int × ByteArray)) : ∀ y ∈ puts l, y.oneCell' = true := fun y hy => by
  obtain ⟨p, _, hp⟩ := List.mem_flatMap.1 hy
  simp at hp
  rcases hp with rfl | rfl <;> rfl

theorem own_vals0 (w : World) (B : Nat) (hB : B ≤ w.heap.size) : (w.alloc (Obj.cells #[] 52)).ownsRow B 52 2 (.slice (some ⟨w.heap.size, 0, none⟩) 0 0) ([] : List (Int × ByteArray)).length (puts []) := by
  simpa [puts] using World.ownsRow_lit (base := B) (e := 52) (size := 2) w #[] 0 hB (by unfold maxLen; omega) (by simp)

/-- what a round of reading leaves -/
def ThRound (fs : List (ByteArray × Int)) (t : ByteArray) (vs : List (Int × ByteArray)) (u : Int × ByteArray) (q : Nat) (bad : Bool) : Prop := u.2.size ≤ 20000 ∧ q ≤ 1048576 ∧ ThTry fs t (vs ++ [u]) q ∧ (bad = true → ∀ us, ¬ IsTh fs t us)

theorem th_round1 {fs : List (ByteArray × Int)} {t : ByteArray} (ht : t.size ≤ 1048576) {vs : List (Int × ByteArray)} {p : Nat} {bad : Bool} (hp : p ≤ 1048576) (h : ThTry fs t vs p) (hb : bad = true → ∀ us, ¬ IsTh fs t us) (hk : vs.length < fs.length) (hk1 : fs[vs.length].2 = 1) (g : Nat) : ∃ (n : Int) (q : Nat) (bad2 : Bool),
    (∀ wx, CurT wx g t p bad → Calls Tryz.prog 37 #[.pointer (some ⟨g, 0, none⟩)] wx fun e w' => e = .returned (.int .i64 n) ∧ CurT w' g t q bad2 ∧ wx.grownBy w' (some g)) ∧ ThRound fs t vs (n, ⟨#[]⟩) q bad2 := by
  by_cases hbad : bad = true
  · exact ⟨0, p, true, fun wx hc => l04Var_bad g t ht p bad (Or.inl hbad) wx hc, Nat.zero_le _, hp, fun us hg => absurd hg (hb hbad us), fun _ => hb hbad⟩
  · obtain rfl : bad = false := by cases bad; rfl; exact absurd rfl hbad
    cases ho : rdV t p with
    | none =>
      have hn := thTry_none h hk (by rw [hk1, rdVal, if_pos rfl, ho]; rfl)
      exact ⟨0, p, true, fun wx hc => l04Var_bad g t ht p false (Or.inr ho) wx hc, Nat.zero_le _, hp, fun us hg => absurd hg (hn us), fun _ => hn⟩
    | some r =>
      obtain ⟨n, q⟩ := r
      obtain ⟨h1, h2, h3, -⟩ := rdV_back ho
      exact ⟨n, q, false, fun wx hc => l04Var_good g t ht p n q ho wx hc, Nat.zero_le _, by omega, thTry_some h hk (by rw [hk1, rdVal, if_pos rfl, ho]; rfl), fun e => by cases e⟩

theorem th_round2 {fs : List (ByteArray × Int)} {t : ByteArray} (ht : t.size ≤ 1048576) {vs : List (Int × ByteArray)} {p : Nat} {bad : Bool} (hp : p ≤ 1048576) (h : ThTry fs t vs p) (hb : bad = true → ∀ us, ¬ IsTh fs t us) (hk : vs.length < fs.length) (hk1 : ¬ fs[vs.length].2 = 1) (g : Nat) : ∃ (x : ByteArray) (q : Nat) (bad2 : Bool),
    (∀ wx, CurT wx g t p bad → Calls Tryz.prog 38 #[.pointer (some ⟨g, 0, none⟩)] wx fun e w' => e = .returned (.string x) ∧ CurT w' g t q bad2 ∧ wx.grownBy w' (some g)) ∧ ThRound fs t vs (0, x) q bad2 := by
  by_cases hbad : bad = true
  · exact ⟨⟨#[]⟩, p, true, fun wx hc => l04ReadShort_bad g t ht p bad (Or.inl hbad) wx hc, Nat.zero_le _, hp, fun us hg => absurd hg (hb hbad us), fun _ => hb hbad⟩
  · obtain rfl : bad = false := by cases bad; rfl; exact absurd rfl hbad
    cases ho : rdS t p with
    | none =>
      have hn := thTry_none h hk (by rw [rdVal, if_neg hk1, ho]; rfl)
      exact ⟨⟨#[]⟩, p, true, fun wx hc => l04ReadShort_bad g t ht p false (Or.inr ho) wx hc, Nat.zero_le _, hp, fun us hg => absurd hg (hn us), fun _ => hn⟩
    | some r =>
      obtain ⟨x, q⟩ := r
      obtain ⟨h1, h2, h3, -⟩ := rdS_back ho
      exact ⟨x, q, false, fun wx hc => l04ReadShort_good g t ht p x q ho wx hc, h3, by omega, thTry_some h hk (by rw [rdVal, if_neg hk1, ho]; rfl), fun e => by cases e⟩

set_option maxHeartbeats 4000000 in
set_option maxRecDepth 100000 in
theorem specReadThing_any (fs : List (ByteArray × Int)) (hl : fs.length ≤ 1048576) (hn : ∀ f ∈ fs, f.1.size ≤ 1048576) (t : ByteArray) (ht : t.size ≤ 1048576) (v : Value) (w : World) (hr : RowAt w 2 v fs.length (flds fs)) :
    Calls Tryz.prog 18 #[v, .string t] w fun e w' => ∃ u vs ok, e = .returned (.tuple #[u, .bool ok]) ∧ w'.ownsRow w.heap.size 52 2 u vs.length (puts vs) ∧ ReadTh fs t vs ok ∧ Below w.heap.size w w' := by
  obtain ⟨i0, hi, hz0, hz1, hz2⟩ := info_parts Tryz.infoVal
  have HRv := hide hr
  obtain ⟨-, fa, fcap, rfl, h2⟩ := hr
  have HR := hide h2
  have HNf := hide hn
  clear h2 hn
  obtain ⟨w1, hw1⟩ : ∃ w1, w1 = w.alloc (Obj.cells #[.string t, .int .i64 0, .bool false] 71) := ⟨_, rfl⟩
  have hb1 : Below w.heap.size w w1 := by rw [hw1]; exact (Below.refl w.heap.size w).alloc (Nat.le_refl _) _
  have hs1 : w1.heap.size = w.heap.size + 1 := by rw [hw1]; simp
  have hcu : CurT w1 w.heap.size t 0 false := by rw [hw1]; exact heap_alloc_new w _
  have HSt : Hid (∀ o, CurT (w1.alloc o) w.heap.size t 0 false ∧ Below w.heap.size w (w1.alloc o)) := hide (fun o => ⟨(Below.heap_alloc w1 o w.heap.size (by omega)).trans hcu, hb1.alloc hb1.size _⟩)
  have hOw := own_vals0 w1 (w.heap.size + 1) (by omega)
  rw [hs1] at hOw
  have HOw := hide hOw
  clear hb1 hcu hOw hs1
  go_enter Tryz.func18, Tryz.ntmps18
  go_wp2_with fail
  rw [← hw1]
  clear hw1
  go_loopg [7, 8] fs.length (fun q ov iv wr => ∃ (vs : List (Int × ByteArray)) (p : Nat) (bad : Bool), vs.length ≤ fs.length ∧ vs.length ≤ 10 ∧ iv = .int .i64 (vs.length : Int) ∧ q + vs.length = fs.length ∧ wr.ownsRow (w.heap.size + 1) 52 2 ov vs.length (puts vs) ∧ CurT wr w.heap.size t p bad ∧ Hid (Below w.heap.size w wr) ∧ p ≤ 1048576 ∧ Hid (∀ f ∈ vs, f.2.size ≤ 1048576) ∧ Hid (ThTry fs t vs p ∧ (bad = true → ∀ us, ¬ IsTh fs t us)))
  case atStart => exact ⟨[], 0, false, by simp, by simp, rfl, rfl, HOw.out, (HSt.out _).1, hide (HSt.out _).2, by omega, hide (fun f h => by simp at h), hide ⟨thTry_nil fs t, fun h => by cases h⟩⟩
  case round =>
    obtain ⟨vs, p, bad, hvl, hv10, rfl, hgk, hown, hcu, HB, hp, HN, HT⟩ := hrel
    have HG := hide hgk
    have HCu := hide hcu
    have HOn := hide hown
    have hgl := curT_lt hcu
    have c1 : wr.cell? ⟨w.heap.size, 1, none⟩ = some (.int .i64 (p : Int)) := (cell_at hcu 1).1
    have c2 : wr.cell? ⟨w.heap.size, 2, none⟩ = some (.bool bad) := (cell_at hcu 2).1
    obtain ⟨a, cap, hov⟩ : ∃ a cap, u7 = .slice a vs.length cap := by obtain ⟨-, a, cap, e, -⟩ := row_of_own hown; exact ⟨a, cap, e⟩
    subst hov
    have HVl := hide hvl
    clear hgk hcu hown hvl
    by_cases hlf : vs.length < fs.length
    · by_cases h10 : vs.length < 10
      · rcases HR.out with h0 | ⟨b, off, rfl, hbl, hc⟩
        · omega
        · obtain ⟨k, hkk⟩ : ∃ k, k = fs[vs.length].2 := ⟨_, rfl⟩
          have hf1 : wr.cell? ⟨b, off + vs.length * 2 + 1, none⟩ = some (.int .i64 k) := by rw [HB.out.cell (by exact hbl), Nat.add_assoc, hc (vs.length * 2 + 1) (by omega), (flds_at fs vs.length hlf).2, hkk]
          have hf1 : ∀ o, (wr.alloc o).cell? ⟨b, off + vs.length * 2 + 1, none⟩ = some (.int .i64 k) := fun o => (World.cell?_of_block (Below.heap_alloc wr o b (Nat.lt_of_lt_of_le hbl HB.out.size))).trans hf1
          have hi0 : (0 : Int) ≤ (vs.length : Int) := by omega
          have hi1 : (vs.length : Int) < (fs.length : Int) := by omega
          have d10 : decide ((vs.length : Int) < 10) = true := by simp; omega
          obtain ⟨wx, hwx⟩ : ∃ wx, wx = wr.alloc (Obj.cells #[.int .i64 0, .string ⟨#[]⟩] 52) := ⟨_, rfl⟩
          have hmv : CurT wx w.heap.size t p bad ∧ wr.grownBy wx (some w.heap.size) ∧ wx.heap[wr.heap.size]? = some (Obj.cells #[.int .i64 0, .string ⟨#[]⟩] 52) := by
            rw [hwx]
            exact ⟨(Below.heap_alloc wr _ _ hgl).trans HCu.out, World.grownBy_alloc wr _ _, heap_alloc_new wr _⟩
          have HMv := hide hmv
          clear hmv hc
          by_cases hk1 : k = 1
          · obtain ⟨x, q, bad2, HCall, HT2⟩ := th_round1 ht hp HT.out.1 HT.out.2 hlf (by rw [← hkk]; exact hk1) w.heap.size
            subst hk1
            have HCl := hide HCall
            have HT3 := hide HT2
            clear HCall HT2 hkk
            go_wp2_with fail
            rw [← hwx]
            clear hwx c1 c2 hf1 d10 hi0 hi1
            refine (HCl.out _ HMv.out.1).mono ?_
            rintro e w2 ⟨rfl, hcu2, hg2⟩
            have hg12 := grown_trans HMv.out.2.1 hg2
            have hne : wr.heap.size ≠ w.heap.size := by omega
            have hF2 : w2.heap[wr.heap.size]? = some (Obj.cells #[.int .i64 0, .string ⟨#[]⟩] 52) := (hg2.block _ (Array.getElem?_eq_some_iff.1 HMv.out.2.2).1 (by simpa using hne)).trans HMv.out.2.2
            have e0 : w2.frozen? ⟨wr.heap.size, 0, none⟩ = false := (cell_at hF2 0).2
            have e0c : w2.cell? ⟨wr.heap.size, 0, none⟩ = some (.int .i64 0) := (cell_at hF2 0).1
            have e1c : w2.cell? ⟨wr.heap.size, 1, none⟩ = some (.string ⟨#[]⟩) := (cell_at hF2 1).1
            obtain ⟨w3, hw3⟩ : ∃ w3, w3 = w2.setCell ⟨wr.heap.size, 0, none⟩ (.int .i64 x) := ⟨_, rfl⟩
            have hg3 : w2.grownBy w3 (some wr.heap.size) := by rw [hw3]; exact grown_setCell _ _ _ _
            have HS3 : Hid (w2.heap.size = w3.heap.size) := hide (by rw [hw3]; simp)
            have hlt0 := HOn.out.lt
            have hown2 := HOn.out.kept hg12 (Or.inr (fun e => by have := (hlt0 _ e).1; omega))
            have hown3 := hown2.kept hg3 (Or.inr (fun e => by have := (hlt0 _ e).2; omega))
            have hsz2 := hg12.size
            have HSz3 := hg3.size
            have HB3 : Hid (Below w.heap.size w w3) := hide ((HB.out.grown hg12 HB.out.size (fun k hk => by injection hk with hk; omega)).grown hg3 (by omega) (fun k hk => by injection hk with hk; omega))
            have HCu3 : Hid (CurT w3 w.heap.size t q bad2) := hide (curT_grown hcu2 hg3 (by simpa using Ne.symm hne))
            have HO3 := hide hown3
            have HLt : Hid (∀ k, Value.ownBlock (.slice a vs.length cap) = some k → w.heap.size + 1 ≤ k) := hide (fun k hk => (hlt0 k hk).1)
            have hs3 : w.heap.size + 1 ≤ w3.heap.size := by omega
            clear hcu2 hg2 hg12 hF2 hlt0 hown2 hown3 hg3 hsz2 HSz3 hne
            go_wp2_with (at_builtin; (rw [← hw3]; refine wpList_append_row _ rfl _ _ 27 rfl (w.heap.size + 1) 52 i0 (.agg #[.int .i64 0, .string ⟨#[]⟩]) 2 24 Tryz.underlying27 hi hz0 hz1 hz2 rfl (by decide) _ _ _ rfl (HO3.out.alloc _) _ 1 (puts [(x, (⟨#[]⟩ : ByteArray))]) rfl (val_at w3 w2.heap.size HS3.out x ⟨#[]⟩) (vals_one _) ?_ ?_ ?_ ?_))
            · unfold maxLen; omega
            · omega
            · simp; omega
            intro y6 d6 w6 hown6 hg6
            rw [← hw3] at hg6
            have hown7 : w6.ownsRow (w.heap.size + 1) 52 2 (.slice y6 (vs.length + 1) d6) (vs ++ [(x, (⟨#[]⟩ : ByteArray))]).length (puts (vs ++ [(x, (⟨#[]⟩ : ByteArray))])) := by
              rw [← vals_snoc, List.length_append]
              exact hown6
            have hg36 := grown_trans (World.grownBy_alloc w3 _ _) hg6
            have HB6 : Hid (Below w.heap.size w w6) := hide (HB3.out.grown hg36 HB3.out.size (fun k hk => by have := HLt.out k hk; omega))
            have hcu6 : CurT w6 w.heap.size t q bad2 := curT_grown HCu3.out hg36 (fun e => by have := HLt.out _ e.symm; omega)
            clear hown6 hg6 hg36 e0 e0c e1c hw3
            go_wp2_with fail
            go_roundg (gk - 1)
            case measure => have := HG.out; omega
            case rel => exact ⟨vs ++ [(x, (⟨#[]⟩ : ByteArray))], q, bad2, by simp; omega, by simp; omega, by rw [List.length_append]; go_num, by have := HG.out; simp; omega, hown7, hcu6, HB6, HT3.out.2.1, hide (fun f hf => by
              rcases List.mem_append.1 hf with hf | hf
              · exact HN.out f hf
              · obtain rfl := List.mem_singleton.1 hf
                exact Nat.le_trans HT3.out.1 (by omega)), hide HT3.out.2.2⟩
          · obtain ⟨x, q, bad2, HCall, HT2⟩ := th_round2 ht hp HT.out.1 HT.out.2 hlf (by rw [← hkk]; exact hk1) w.heap.size
            have dk : (k == 1) = false := by simp [hk1]
            have dk2 : decide (k = 1) = false := by simp [hk1]
            clear hk1
            have HCl := hide HCall
            have HT3 := hide HT2
            clear HCall HT2 hkk
            go_wp2_with fail
            rw [← hwx]
            clear hwx c1 c2 hf1 d10 hi0 hi1
            refine (HCl.out _ HMv.out.1).mono ?_
            rintro e w2 ⟨rfl, hcu2, hg2⟩
            have hg12 := grown_trans HMv.out.2.1 hg2
            have hne : wr.heap.size ≠ w.heap.size := by omega
            have hF2 : w2.heap[wr.heap.size]? = some (Obj.cells #[.int .i64 0, .string ⟨#[]⟩] 52) := (hg2.block _ (Array.getElem?_eq_some_iff.1 HMv.out.2.2).1 (by simpa using hne)).trans HMv.out.2.2
            have e0 : w2.frozen? ⟨wr.heap.size, 1, none⟩ = false := (cell_at hF2 1).2
            have e0c : w2.cell? ⟨wr.heap.size, 0, none⟩ = some (.int .i64 0) := (cell_at hF2 0).1
            have e1c : w2.cell? ⟨wr.heap.size, 1, none⟩ = some (.string ⟨#[]⟩) := (cell_at hF2 1).1
            obtain ⟨w3, hw3⟩ : ∃ w3, w3 = w2.setCell ⟨wr.heap.size, 1, none⟩ (.string x) := ⟨_, rfl⟩
            have hg3 : w2.grownBy w3 (some wr.heap.size) := by rw [hw3]; exact grown_setCell _ _ _ _
            have HS3 : Hid (w2.heap.size = w3.heap.size) := hide (by rw [hw3]; simp)
            have hlt0 := HOn.out.lt
            have hown2 := HOn.out.kept hg12 (Or.inr (fun e => by have := (hlt0 _ e).1; omega))
            have hown3 := hown2.kept hg3 (Or.inr (fun e => by have := (hlt0 _ e).2; omega))
            have hsz2 := hg12.size
            have HSz3 := hg3.size
            have HB3 : Hid (Below w.heap.size w w3) := hide ((HB.out.grown hg12 HB.out.size (fun k hk => by injection hk with hk; omega)).grown hg3 (by omega) (fun k hk => by injection hk with hk; omega))
            have HCu3 : Hid (CurT w3 w.heap.size t q bad2) := hide (curT_grown hcu2 hg3 (by simpa using Ne.symm hne))
            have HO3 := hide hown3
            have HLt : Hid (∀ k, Value.ownBlock (.slice a vs.length cap) = some k → w.heap.size + 1 ≤ k) := hide (fun k hk => (hlt0 k hk).1)
            have hs3 : w.heap.size + 1 ≤ w3.heap.size := by omega
            clear hcu2 hg2 hg12 hF2 hlt0 hown2 hown3 hg3 hsz2 HSz3 hne
            go_wp2_with (at_builtin; (rw [← hw3]; refine wpList_append_row _ rfl _ _ 27 rfl (w.heap.size + 1) 52 i0 (.agg #[.int .i64 0, .string ⟨#[]⟩]) 2 24 Tryz.underlying27 hi hz0 hz1 hz2 rfl (by decide) _ _ _ rfl (HO3.out.alloc _) _ 1 (puts [(0, x)]) rfl (val_at w3 w2.heap.size HS3.out 0 x) (vals_one _) ?_ ?_ ?_ ?_))
            · unfold maxLen; omega
            · omega
            · simp; omega
            intro y6 d6 w6 hown6 hg6
            rw [← hw3] at hg6
            have hown7 : w6.ownsRow (w.heap.size + 1) 52 2 (.slice y6 (vs.length + 1) d6) (vs ++ [(0, x)]).length (puts (vs ++ [(0, x)])) := by
              rw [← vals_snoc, List.length_append]
              exact hown6
            have hg36 := grown_trans (World.grownBy_alloc w3 _ _) hg6
            have HB6 : Hid (Below w.heap.size w w6) := hide (HB3.out.grown hg36 HB3.out.size (fun k hk => by have := HLt.out k hk; omega))
            have hcu6 : CurT w6 w.heap.size t q bad2 := curT_grown HCu3.out hg36 (fun e => by have := HLt.out _ e.symm; omega)
            clear hown6 hg6 hg36 e0 e0c e1c hw3
            go_wp2_with fail
            go_roundg (gk - 1)
            case measure => have := HG.out; omega
            case rel => exact ⟨vs ++ [(0, x)], q, bad2, by simp; omega, by simp; omega, by rw [List.length_append]; go_num, by have := HG.out; simp; omega, hown7, hcu6, HB6, HT3.out.2.1, hide (fun f hf => by
              rcases List.mem_append.1 hf with hf | hf
              · exact HN.out f hf
              · obtain rfl := List.mem_singleton.1 hf
                exact Nat.le_trans HT3.out.1 (by omega)), hide HT3.out.2.2⟩
      · have HE : Hid (∀ us, IsTh fs t us → us = vs) := hide (fun us hg => by
          have := (thing_yes hg.1).2.2.1
          omega)
        have d1 : decide ((vs.length : Int) < (fs.length : Int)) = true := by simp; omega
        have d10 : decide ((vs.length : Int) < 10) = false := by simp; omega
        cases bad with
        | true =>
          have HSp := hide (specThingText_any fs vs hl HNf.out (by omega) HN.out (.slice fa fs.length fcap) (.slice a vs.length cap) wr (row_below HRv.out HB.out) (row_of_own HOn.out))
          have HNo : Hid (∀ us, ¬ IsTh fs t us) := hide (HT.out.2 rfl)
          go_wp2_with fail
          refine HSp.out.mono ?_
          rintro e w2 ⟨rfl, hb2⟩
          have HB2 : Hid (Below w.heap.size w w2) := hide (HB.out.trans (hb2.mono HB.out.size))
          have k2 : w2.cell? ⟨w.heap.size, 2, none⟩ = some (.bool true) := (hb2.cell (by exact hgl)).trans c2
          clear hb2 c1 c2
          go_wp2_with fail
          go_ret2
          exact ⟨_, [], false, rfl, own_vals0 _ _ HB2.out.size, Or.inr ⟨rfl, rfl, HNo.out⟩, HB2.out.alloc HB2.out.size _⟩
        | false =>
          have HSp := hide (specThingText_any fs vs hl HNf.out (by omega) HN.out (.slice fa fs.length fcap) (.slice a vs.length cap) wr (row_below HRv.out HB.out) (row_of_own HOn.out))
          cases hok : thingOkB fs vs with
          | false =>
            rw [hok] at HSp
            have HNo : Hid (∀ us, ¬ IsTh fs t us) := hide (fun us hg => by
              have := HE.out us hg
              subst this
              rw [hg.1] at hok; cases hok)
            clear hok
            go_wp2_with fail
            refine HSp.out.mono ?_
            rintro e w2 ⟨rfl, hb2⟩
            have HB2 : Hid (Below w.heap.size w w2) := hide (HB.out.trans (hb2.mono HB.out.size))
            have k2 : w2.cell? ⟨w.heap.size, 2, none⟩ = some (.bool false) := (hb2.cell (by exact hgl)).trans c2
            clear hb2 c1 c2
            go_wp2_with fail
            go_ret2
            exact ⟨_, [], false, rfl, own_vals0 _ _ HB2.out.size, Or.inr ⟨rfl, rfl, HNo.out⟩, HB2.out.alloc HB2.out.size _⟩
          | true =>
            have hso : thingO fs vs = thT fs vs := by rw [thingO, if_pos hok, thT]
            rw [hok, hso] at HSp
            have hbq := ba_beq (thT fs vs) t
            by_cases hst : thT fs vs = t
            · have HYs : Hid (IsTh fs t vs) := hide ⟨hok, hst⟩
              rw [decide_eq_true hst] at hbq
              obtain ⟨bk, hbk⟩ : ∃ bk, bk = thT fs vs := ⟨_, rfl⟩
              rw [← hbk] at hbq HSp
              clear hok hso hst hbk
              go_wp2_with fail
              refine HSp.out.mono ?_
              rintro e w2 ⟨rfl, hb2⟩
              have HB2 : Hid (Below w.heap.size w w2) := hide (HB.out.trans (hb2.mono HB.out.size))
              have HO2 := hide (own_stays HOn.out hb2)
              have k2 : w2.cell? ⟨w.heap.size, 2, none⟩ = some (.bool false) := (hb2.cell (by exact hgl)).trans c2
              clear hb2 c1 c2
              go_wp2_with fail
              go_ret2
              exact ⟨_, vs, true, rfl, own_down HO2.out (by omega), Or.inl ⟨rfl, HYs.out, HE.out⟩, HB2.out⟩
            · have HNo : Hid (∀ us, ¬ IsTh fs t us) := hide (fun us hg => by
                have := HE.out us hg
                subst this
                exact hst hg.2)
              rw [decide_eq_false hst] at hbq
              obtain ⟨bk, hbk⟩ : ∃ bk, bk = thT fs vs := ⟨_, rfl⟩
              rw [← hbk] at hbq HSp
              clear hok hso hst hbk
              go_wp2_with fail
              refine HSp.out.mono ?_
              rintro e w2 ⟨rfl, hb2⟩
              have HB2 : Hid (Below w.heap.size w w2) := hide (HB.out.trans (hb2.mono HB.out.size))
              have k2 : w2.cell? ⟨w.heap.size, 2, none⟩ = some (.bool false) := (hb2.cell (by exact hgl)).trans c2
              clear hb2 c1 c2
              go_wp2_with fail
              go_ret2
              exact ⟨_, [], false, rfl, own_vals0 _ _ HB2.out.size, Or.inr ⟨rfl, rfl, HNo.out⟩, HB2.out.alloc HB2.out.size _⟩
    · have HE : Hid (∀ us, IsTh fs t us → us = vs) := hide (fun us hg => (thTry_end HT.out.1 (by omega) us hg).1)
      have d1 : decide ((vs.length : Int) < (fs.length : Int)) = false := by simp; omega
      cases bad with
      | true =>
        have HSp := hide (specThingText_any fs vs hl HNf.out (by omega) HN.out (.slice fa fs.length fcap) (.slice a vs.length cap) wr (row_below HRv.out HB.out) (row_of_own HOn.out))
        have HNo : Hid (∀ us, ¬ IsTh fs t us) := hide (HT.out.2 rfl)
        go_wp2_with fail
        refine HSp.out.mono ?_
        rintro e w2 ⟨rfl, hb2⟩
        have HB2 : Hid (Below w.heap.size w w2) := hide (HB.out.trans (hb2.mono HB.out.size))
        have k2 : w2.cell? ⟨w.heap.size, 2, none⟩ = some (.bool true) := (hb2.cell (by exact hgl)).trans c2
        clear hb2 c1 c2
        go_wp2_with fail
        go_ret2
        exact ⟨_, [], false, rfl, own_vals0 _ _ HB2.out.size, Or.inr ⟨rfl, rfl, HNo.out⟩, HB2.out.alloc HB2.out.size _⟩
      | false =>
        have HSp := hide (specThingText_any fs vs hl HNf.out (by omega) HN.out (.slice fa fs.length fcap) (.slice a vs.length cap) wr (row_below HRv.out HB.out) (row_of_own HOn.out))
        cases hok : thingOkB fs vs with
        | false =>
          rw [hok] at HSp
          have HNo : Hid (∀ us, ¬ IsTh fs t us) := hide (fun us hg => by
            have := HE.out us hg
            subst this
            rw [hg.1] at hok; cases hok)
          clear hok
          go_wp2_with fail
          refine HSp.out.mono ?_
          rintro e w2 ⟨rfl, hb2⟩
          have HB2 : Hid (Below w.heap.size w w2) := hide (HB.out.trans (hb2.mono HB.out.size))
          have k2 : w2.cell? ⟨w.heap.size, 2, none⟩ = some (.bool false) := (hb2.cell (by exact hgl)).trans c2
          clear hb2 c1 c2
          go_wp2_with fail
          go_ret2
          exact ⟨_, [], false, rfl, own_vals0 _ _ HB2.out.size, Or.inr ⟨rfl, rfl, HNo.out⟩, HB2.out.alloc HB2.out.size _⟩
        | true =>
          have hso : thingO fs vs = thT fs vs := by rw [thingO, if_pos hok, thT]
          rw [hok, hso] at HSp
          have hbq := ba_beq (thT fs vs) t
          by_cases hst : thT fs vs = t
          · have HYs : Hid (IsTh fs t vs) := hide ⟨hok, hst⟩
            rw [decide_eq_true hst] at hbq
            obtain ⟨bk, hbk⟩ : ∃ bk, bk = thT fs vs := ⟨_, rfl⟩
            rw [← hbk] at hbq HSp
            clear hok hso hst hbk
            go_wp2_with fail
            refine HSp.out.mono ?_
            rintro e w2 ⟨rfl, hb2⟩
            have HB2 : Hid (Below w.heap.size w w2) := hide (HB.out.trans (hb2.mono HB.out.size))
            have HO2 := hide (own_stays HOn.out hb2)
            have k2 : w2.cell? ⟨w.heap.size, 2, none⟩ = some (.bool false) := (hb2.cell (by exact hgl)).trans c2
            clear hb2 c1 c2
            go_wp2_with fail
            go_ret2
            exact ⟨_, vs, true, rfl, own_down HO2.out (by omega), Or.inl ⟨rfl, HYs.out, HE.out⟩, HB2.out⟩
          · have HNo : Hid (∀ us, ¬ IsTh fs t us) := hide (fun us hg => by
              have := HE.out us hg
              subst this
              exact hst hg.2)
            rw [decide_eq_false hst] at hbq
            obtain ⟨bk, hbk⟩ : ∃ bk, bk = thT fs vs := ⟨_, rfl⟩
            rw [← hbk] at hbq HSp
            clear hok hso hst hbk
            go_wp2_with fail
            refine HSp.out.mono ?_
            rintro e w2 ⟨rfl, hb2⟩
            have HB2 : Hid (Below w.heap.size w w2) := hide (HB.out.trans (hb2.mono HB.out.size))
            have k2 : w2.cell? ⟨w.heap.size, 2, none⟩ = some (.bool false) := (hb2.cell (by exact hgl)).trans c2
            clear hb2 c1 c2
            go_wp2_with fail
            go_ret2
            exact ⟨_, [], false, rfl, own_vals0 _ _ HB2.out.size, Or.inr ⟨rfl, rfl, HNo.out⟩, HB2.out.alloc HB2.out.size _⟩
end Go.Proofs.YtdcmpjefemcppaaGreatDoor

namespace Go.Proofs.YtdcmpjefemcppaaGreatDoor
open Go.RowKit

theorem ixb_neg : ∀ (l : List UInt8) (c : UInt8), Lib.indexByte l c < 0 ↔ ∀ b ∈ l, b ≠ c
  | [], c => by simp [Lib.indexByte]
  | b :: l, c => by
    have ih := ixb_neg l c
    have hge := Lib.indexByte_ge l c
    by_cases hb : b = c
    · subst hb
      simp [Lib.indexByte]
    · have hb' : (b == c) = false := by simp [hb]
      rw [Lib.indexByte, hb']
      constructor
      · intro h x hx
        have h2 : Lib.indexByte l c < 0 := by
          by_cases e : Lib.indexByte l c = -1
          · omega
          · have e' : (Lib.indexByte l c == -1) = false := by simp [e]
            rw [e'] at h
            simp at h
            omega
        rcases List.mem_cons.1 hx with rfl | hx
        · exact hb
        · exact ih.1 h2 x hx
      · intro h
        have h2 := ih.2 (fun x hx => h x (List.mem_cons_of_mem _ hx))
        have e : Lib.indexByte l c = -1 := by omega
        rw [e]
        simp

theorem zero_free (t : ByteArray) : (Lib.indexByte t.data.toList (Int.toNat 0).toUInt8 < 0) ↔ ∀ i, i < t.size → byt t i ≠ 0 := by
  rw [ixb_neg]
  have hl : t.data.toList.length = t.size := by rw [Array.length_toList]; rfl
  have hat : ∀ i (h : i < t.size), (t.data.toList[i]'(by omega)).toNat = byt t i := fun i h => by rw [← byt_eq t i h]; simp; rfl
  constructor
  · intro h i hi h0
    have := h _ (List.getElem_mem (show i < t.data.toList.length by omega))
    apply this
    apply UInt8.toNat_inj.1
    rw [hat i hi, h0]; rfl
  · intro h b hb
    obtain ⟨i, hi, rfl⟩ := List.getElem_of_mem hb
    intro e
    apply h i (by omega)
    rw [← hat i (by omega), e]; rfl

theorem text_nil {t : ByteArray} (h : t.toList = []) : t = ⟨#[]⟩ := by
  rw [ByteArray.toList_eq] at h
  apply ByteArray.ext
  exact Array.toList_inj.1 h

theorem num_v1 {num : Int} {t : ByteArray} (h : t.toList = []) (h2 : ¬ num < 0) : valueB 1 num t = decide (num ≤ 999999) := by
  rw [value_num, decide_eq_true (text_nil h), Bool.and_true]
  congr 1
  simp; omega

theorem num_v2 {num : Int} {t : ByteArray} (h2 : num < 0) : valueB 1 num t = false := by
  rw [value_num, decide_eq_false (by omega)]; rfl

theorem num_v3 {num : Int} {t : ByteArray} (h : ¬ t.toList = []) : valueB 1 num t = false := by
  rw [value_num, decide_eq_false (show ¬ (t = ⟨#[]⟩) from fun e => h (by rw [e, ByteArray.toList_eq])), Bool.and_false]

set_option maxHeartbeats 2000000 in
set_option maxRecDepth 100000 in
theorem valueOk_any (kind num : Int) (t : ByteArray) (ht : t.size ≤ 1048576) (w : World) :
    Calls Tryz.prog 71 #[.int .i64 kind, .agg #[.int .i64 num, .string t]] w fun e w' => e = .returned (.bool (valueB kind num t)) ∧ Below w.heap.size w w' := by
  obtain ⟨w0, hw0⟩ : ∃ w0, w0 = w.alloc (Obj.cells #[.int .i64 num, .string t] 52) := ⟨_, rfl⟩
  have hb0 : Below w.heap.size w w0 := by rw [hw0]; exact (Below.refl w.heap.size w).alloc (Nat.le_refl _) _
  have hblk : w0.heap[w.heap.size]? = some (Obj.cells #[.int .i64 num, .string t] 52) := by rw [hw0]; exact heap_alloc_new w _
  have HB := hide hb0
  have cb0 : w0.cell? ⟨w.heap.size, 0, none⟩ = some (.int .i64 num) := (cell_at hblk 0).1
  have cb1 : w0.cell? ⟨w.heap.size, 1, none⟩ = some (.string t) := (cell_at hblk 1).1
  clear hb0 hblk
  obtain ⟨r, hr⟩ : ∃ r, r = valueB kind num t := ⟨_, rfl⟩
  have HR := hide hr
  rw [← hr]
  clear hr
  by_cases hk : kind = 1
  · subst hk
    go_enter Tryz.func71, Tryz.ntmps71
    go_wp2_with fail
    all_goals rw [← hw0]
    all_goals go_ret
    all_goals refine ⟨?_, HB.out⟩
    all_goals rw [HR.out]
    · rw [num_v1 (by assumption) (by omega)]; rfl
    · rw [num_v2 (by omega)]; rfl
    · rw [num_v3 (by assumption)]; rfl
  · have d1 : (kind == 1) = false := by simp [hk]
    have d1' : ((1 : Int) == kind) = false := by simp; omega
    by_cases hk2 : kind = 2
    · subst hk2
      have HV : Hid (r = (decide (∀ i, i < t.size → byt t i ≠ 0) && decide (num = 0 ∧ t.size ≤ 6))) := hide (by rw [HR.out, valueB, if_neg (by omega)]; simp)
      have HIx := hide (Tryz.strings_IndexByte t 0)
      have HZ := hide (zero_free t)
      clear HR
      by_cases h0 : num = 0
      · subst h0
        by_cases h6 : t.size ≤ 6
        · have d6 : decide ((t.size : Int) ≤ 6) = true := by simp; omega
          obtain ⟨ix, hix⟩ : ∃ ix, ix = Lib.indexByte t.data.toList (Int.toNat 0).toUInt8 := ⟨_, rfl⟩
          rw [← hix] at HIx HZ
          have HV2 : Hid (r = decide (ix < 0)) := hide (by
            rw [HV.out, decide_eq_true (show (0 : Int) = 0 ∧ t.size ≤ 6 from ⟨rfl, h6⟩), Bool.and_true]
            exact decide_eq_decide.2 HZ.out.symm)
          clear HV HZ hix
          go_enter Tryz.func71, Tryz.ntmps71
          go_wp2_with fail
          rw [← hw0]
          refine (HIx.out _).mono ?_
          rintro e w2 ⟨rfl, rfl⟩
          clear hw0
          go_wp2_with fail
          go_ret
          rw [HV2.out]
          exact ⟨rfl, HB.out⟩
        · have d6 : decide ((t.size : Int) ≤ 6) = false := by simp; omega
          have HV2 : Hid (r = false) := hide (by
            rw [HV.out, decide_eq_false (show ¬ ((0 : Int) = 0 ∧ t.size ≤ 6) from fun h => h6 h.2), Bool.and_false])
          clear HV HZ
          go_enter Tryz.func71, Tryz.ntmps71
          go_wp2_with fail
          rw [← hw0]
          go_ret
          rw [HV2.out]
          exact ⟨rfl, HB.out⟩
      · have HV2 : Hid (r = false) := hide (by
          rw [HV.out, decide_eq_false (show ¬ (num = 0 ∧ t.size ≤ 6) from fun h => h0 h.1), Bool.and_false])
        have dn : (num == 0) = false := by simp [h0]
        clear HV HZ
        go_enter Tryz.func71, Tryz.ntmps71
        go_wp2_with fail
        rw [← hw0]
        go_ret
        rw [HV2.out]
        exact ⟨rfl, HB.out⟩
    · have d2 : (kind == 2) = false := by simp [hk2]
      have d2' : ((2 : Int) == kind) = false := by simp; omega
      have HV2 : Hid (r = false) := hide (by rw [HR.out, valueB, if_neg hk, decide_eq_false (show ¬ (kind = 2 ∧ num = 0 ∧ t.size ≤ 6) from fun h => hk2 h.1), Bool.and_false])
      go_enter Tryz.func71, Tryz.ntmps71
      go_wp2_with fail
      rw [← hw0]
      go_ret
      rw [HV2.out]
      exact ⟨rfl, HB.out⟩

set_option maxHeartbeats 4000000 in
set_option maxRecDepth 100000 in
theorem implThingOk_any (fs : List (ByteArray × Int)) (vs : List (Int × ByteArray)) (hl : fs.length ≤ 1048576) (hn : ∀ f ∈ fs, f.1.size ≤ 1048576) (_hl2 : vs.length ≤ 1048576) (hn2 : ∀ f ∈ vs, f.2.size ≤ 1048576) (v u : Value) (w : World) (hr : RowAt w 2 v fs.length (flds fs)) (hu : RowAt w 2 u vs.length (puts vs)) :
    Calls Tryz.prog 49 #[v, u] w fun e w' => e = .returned (.bool (thingOkB fs vs)) ∧ Below w.heap.size w w' := by
  have HS := hide (fun wx h => implSchemaOk_any fs hl hn v wx h)
  have HRv := hide hr
  obtain ⟨-, a, cap, rfl, h2⟩ := hr
  obtain ⟨-, a', cap', rfl, h3⟩ := hu
  have HR := hide h2
  have HQ := hide h3
  have HN2 := hide hn2
  clear h2 h3 hn hn2
  cases hsk : schemaOkB fs with
  | false =>
    rw [hsk] at HS
    have HO := hide (thing_schema (vs := vs) hsk)
    clear hsk
    go_enter Tryz.func49, Tryz.ntmps49
    go_wp2_with fail
    refine (HS.out _ HRv.out).mono ?_
    rintro e w1 ⟨rfl, hb⟩
    go_wp2_with fail
    go_ret
    rw [HO.out]
    exact ⟨rfl, hb⟩
  | true =>
    rw [hsk] at HS
    have HSk := hide hsk
    clear hsk
    by_cases hne : vs.length = fs.length
    · have HNe := hide hne
      have d1 : ((vs.length : Int) != (fs.length : Int)) = false := by rw [hne]; simp
      go_enter Tryz.func49, Tryz.ntmps49
      go_wp2_with fail
      refine (HS.out _ HRv.out).mono ?_
      rintro e w1 ⟨rfl, hb⟩
      have HB1 := hide hb
      clear hb hne
      go_wp2_with fail
      clear d1
      go_loopg [19] fs.length (fun g iv wr => ∃ k : Nat, k ≤ fs.length ∧ iv = .int .i64 (k : Int) ∧ g + k = fs.length ∧ Hid (∀ i (hi : i < vs.length) (hf : i < fs.length), i < k → valueB fs[i].2 vs[i].1 vs[i].2 = true) ∧ Hid (Below w.heap.size w wr))
      case atStart => exact ⟨0, Nat.zero_le _, rfl, rfl, hide (fun i h hf h0 => by omega), HB1⟩
      case round =>
        obtain ⟨k, hk, rfl, hg, HA, HB⟩ := hrel
        have HG := hide hg
        clear hg
        by_cases hlf : k < fs.length
        · have hlt : k < vs.length := by have := HNe.out; omega
          rcases HR.out with h0 | ⟨b, off, rfl, hbl, hc⟩
          · omega
          · rcases HQ.out with h0 | ⟨b', off', rfl, hbl', hc'⟩
            · omega
            · obtain ⟨y, hy⟩ : ∃ y, y = fs[k].1 := ⟨_, rfl⟩
              obtain ⟨q, hq⟩ : ∃ q, q = fs[k].2 := ⟨_, rfl⟩
              obtain ⟨p, hp⟩ : ∃ p, p = vs[k].1 := ⟨_, rfl⟩
              obtain ⟨x, hx⟩ : ∃ x, x = vs[k].2 := ⟨_, rfl⟩
              have hc0 : wr.cell? ⟨b, off + k * 2, none⟩ = some (.string y) := by rw [HB.out.cell (by exact hbl), hc (k * 2) (by omega), (flds_at fs k hlf).1, hy]
              have hc1 : wr.cell? ⟨b, off + k * 2 + 1, none⟩ = some (.int .i64 q) := by rw [HB.out.cell (by exact hbl), Nat.add_assoc, hc (k * 2 + 1) (by omega), (flds_at fs k hlf).2, hq]
              have hxs : x.size ≤ 1048576 := by rw [hx]; exact HN2.out _ (List.getElem_mem hlt)
              have HV := hide (valueOk_any q p x hxs)
              have HQP := hide (⟨hq, hp, hx⟩ : q = fs[k].2 ∧ p = vs[k].1 ∧ x = vs[k].2)
              obtain ⟨wa, hwa⟩ : ∃ wa, wa = wr.alloc (Obj.cells #[.string y, .int .i64 q] 73) := ⟨_, rfl⟩
              have hblk : wa.heap[wr.heap.size]? = some (Obj.cells #[.string y, .int .i64 q] 73) := by rw [hwa]; exact heap_alloc_new wr _
              have HWa : Hid (Below w.heap.size w wa) := hide (by rw [hwa]; exact HB.out.alloc HB.out.size _)
              have hf1 : wa.cell? ⟨wr.heap.size, 1, none⟩ = some (.int .i64 q) := (cell_at hblk 1).1
              have hd0 : wa.cell? ⟨b', off' + k * 2, none⟩ = some (.int .i64 p) := by rw [HWa.out.cell (by exact hbl'), hc' (k * 2) (by omega), (puts_at vs k hlt).1, hp]
              have hd1 : wa.cell? ⟨b', off' + k * 2 + 1, none⟩ = some (.string x) := by rw [HWa.out.cell (by exact hbl'), Nat.add_assoc, hc' (k * 2 + 1) (by omega), (puts_at vs k hlt).2, hx]
              have hk0 : (0 : Int) ≤ (k : Int) := by omega
              have hk1 : (k : Int) < (fs.length : Int) := by omega
              have hk2 : (k : Int) < (vs.length : Int) := by omega
              have hnw := Nat.lt_of_lt_of_le hbl' HWa.out.size
              have hnf : wr.heap.size < wa.heap.size := (Array.getElem?_eq_some_iff.1 hblk).1
              clear hc hc' hq hp hx hy hblk
              cases hvb : valueB q p x with
              | false =>
                rw [hvb] at HV
                have HO : Hid (thingOkB fs vs = false) := hide (thing_bad hlt hlf (by rw [← HQP.out.1, ← HQP.out.2.1, ← HQP.out.2.2]; exact hvb))
                clear hvb
                go_wp2_with fail
                rw [← hwa]
                clear hwa hc0 hc1
                go_region_held3 (fun wx => wx.cell? ⟨wr.heap.size, 1, none⟩ = some (.int .i64 q) ∧ wx.cell? ⟨b', off' + k * 2, none⟩ = some (.int .i64 p) ∧ wx.cell? ⟨b', off' + k * 2 + 1, none⟩ = some (.string x)) (first | exact ⟨hf1, hd0, hd1⟩ | exact hS2) ((go_at_call 71; refine (HV.out _).mono ?_; rintro e w2 ⟨rfl, hb2⟩; have hS2 : w2.cell? ⟨wr.heap.size, 1, none⟩ = some (.int .i64 q) ∧ w2.cell? ⟨b', off' + k * 2, none⟩ = some (.int .i64 p) ∧ w2.cell? ⟨b', off' + k * 2 + 1, none⟩ = some (.string x) := ⟨(hb2.cell (by exact hnf)).trans hf1, (hb2.cell (by exact hnw)).trans hd0, (hb2.cell (by exact hnw)).trans hd1⟩))
                have hb3 : Below w.heap.size w w2 := HWa.out.trans ((Below.refl _ _).drew.trans (hb2.mono HWa.out.size))
                clear hb2 hS2 hf1 hd0 hd1
                go_wp2_with fail
                go_ret
                rw [HO.out]
                exact ⟨rfl, hb3⟩
              | true =>
                rw [hvb] at HV
                have HA2 : Hid (∀ i (hi : i < vs.length) (hf : i < fs.length), i < k + 1 → valueB fs[i].2 vs[i].1 vs[i].2 = true) := hide (fun i hi hf h => by
                  by_cases e : i = k
                  · subst e; rw [← HQP.out.1, ← HQP.out.2.1, ← HQP.out.2.2]; exact hvb
                  · exact HA.out i hi hf (by omega))
                clear hvb
                go_wp2_with fail
                rw [← hwa]
                clear hwa hc0 hc1
                go_region_held3 (fun wx => wx.cell? ⟨wr.heap.size, 1, none⟩ = some (.int .i64 q) ∧ wx.cell? ⟨b', off' + k * 2, none⟩ = some (.int .i64 p) ∧ wx.cell? ⟨b', off' + k * 2 + 1, none⟩ = some (.string x)) (first | exact ⟨hf1, hd0, hd1⟩ | exact hS2) ((go_at_call 71; refine (HV.out _).mono ?_; rintro e w2 ⟨rfl, hb2⟩; have hS2 : w2.cell? ⟨wr.heap.size, 1, none⟩ = some (.int .i64 q) ∧ w2.cell? ⟨b', off' + k * 2, none⟩ = some (.int .i64 p) ∧ w2.cell? ⟨b', off' + k * 2 + 1, none⟩ = some (.string x) := ⟨(hb2.cell (by exact hnf)).trans hf1, (hb2.cell (by exact hnw)).trans hd0, (hb2.cell (by exact hnw)).trans hd1⟩))
                have hb3 : Below w.heap.size w w2 := HWa.out.trans ((Below.refl _ _).drew.trans (hb2.mono HWa.out.size))
                have HB3 := hide hb3
                clear hb2 hb3 hS2 hf1 hd0 hd1
                go_wp2_with fail
                go_roundg (gk - 1)
                case measure => have := HG.out; omega
                case rel => exact ⟨k + 1, by omega, by go_num, by have := HG.out; omega, HA2, HB3⟩
        · have HO : Hid (thingOkB fs vs = true) := hide (thing_all HSk.out HNe.out (fun i hi hf => HA.out i hi hf (by omega)))
          go_wp2_with fail
          go_ret
          rw [HO.out]
          exact ⟨rfl, HB.out⟩
    · have HO := hide (thing_len hne)
      have d1 : ((vs.length : Int) != (fs.length : Int)) = true := by simp; omega
      go_enter Tryz.func49, Tryz.ntmps49
      go_wp2_with fail
      refine (HS.out _ HRv.out).mono ?_
      rintro e w1 ⟨rfl, hb⟩
      go_wp2_with fail
      go_ret
      rw [HO.out]
      exact ⟨rfl, hb⟩

end Go.Proofs.YtdcmpjefemcppaaGreatDoor

namespace Go.Proofs.YtdcmpjefemcppaaGreatDoor
open Go.RowKit

set_option maxHeartbeats 4000000 in
set_option maxRecDepth 100000 in
theorem implReadThing_any (fs : List (ByteArray × Int)) (hl : fs.length ≤ 1048576) (hn : ∀ f ∈ fs, f.1.size ≤ 1048576) (t : ByteArray) (ht : t.size ≤ 1048576) (v : Value) (w : World) (hr : RowAt w 2 v fs.length (flds fs)) :
    Calls Tryz.prog 24 #[v, .string t] w fun e w' => ∃ u vs ok, e = .returned (.tuple #[u, .bool ok]) ∧ w'.ownsRow w.heap.size 52 2 u vs.length (puts vs) ∧ ReadTh fs t vs ok ∧ Below w.heap.size w w' := by
  obtain ⟨i0, hi, hz0, hz1, hz2⟩ := info_parts Tryz.infoVal
  have HS := hide (implSchemaOk_any fs hl hn v w hr)
  have HRv := hide hr
  obtain ⟨-, fa, fcap, rfl, h2⟩ := hr
  have HR := hide h2
  have HNf := hide hn
  clear h2 hn
  cases hsk : schemaOkB fs with
  | false =>
    rw [hsk] at HS
    have HNo : Hid (∀ us, ¬ IsTh fs t us) := hide (fun us hg => by
      have := (thing_yes hg.1).1
      rw [hsk] at this; cases this)
    clear hsk
    go_enter Tryz.func24, Tryz.ntmps24
    go_wp2_with fail
    refine HS.out.mono ?_
    rintro e w2 ⟨rfl, hb2⟩
    have HB2 := hide hb2
    clear hb2
    go_wp2_with fail
    go_ret2
    exact ⟨_, [], false, rfl, own_vals0 _ _ HB2.out.size, Or.inr ⟨rfl, rfl, HNo.out⟩, HB2.out.alloc HB2.out.size _⟩
  | true =>
    rw [hsk] at HS
    have HY := hide (schema_yes hsk)
    clear hsk
    go_enter Tryz.func24, Tryz.ntmps24
    go_wp2_with fail
    refine HS.out.mono ?_
    rintro e w1 ⟨rfl, hb1⟩
    have HB1 := hide hb1
    have HOw := hide (own_vals0 w1 w.heap.size hb1.size)
    have HBa : Hid (∀ o, Below w.heap.size w (w1.alloc o)) := hide (fun o => hb1.alloc hb1.size _)
    clear hb1
    go_wp2_with fail
    go_loopg [6, 7, 20] fs.length (fun r ov pv iv wr => ∃ (vs : List (Int × ByteArray)) (p : Nat), vs.length ≤ fs.length ∧ p ≤ t.size ∧ pv = .int .i64 (p : Int) ∧ iv = .int .i64 (vs.length : Int) ∧ r + vs.length = fs.length ∧ wr.ownsRow w.heap.size 52 2 ov vs.length (puts vs) ∧ Hid (Below w.heap.size w wr) ∧ Hid (ThTry fs t vs p ∧ ThHas fs t vs p))
    case atStart => exact ⟨[], 0, by simp, by omega, rfl, rfl, rfl, HOw.out, hide (HBa.out _), hide ⟨thTry_nil fs t, thHas_nil fs t⟩⟩
    case round =>
      obtain ⟨vs, p, hvl, hp, rfl, rfl, hgk, hown, HB, HT⟩ := hrel
      have HG := hide hgk
      have HOn := hide hown
      have hws := HB.out.size
      have h3 := HY.out.2.1
      obtain ⟨a, cap, hov⟩ : ∃ a cap, u6 = .slice a vs.length cap := by obtain ⟨-, a, cap, e, -⟩ := row_of_own hown; exact ⟨a, cap, e⟩
      subst hov
      clear hgk hown
      by_cases hlf : vs.length < fs.length
      · rcases HR.out with h0 | ⟨b, off, rfl, hbl, hc⟩
        · omega
        · obtain ⟨k, hkk⟩ : ∃ k, k = fs[vs.length].2 := ⟨_, rfl⟩
          obtain ⟨y, hy⟩ : ∃ y, y = fs[vs.length].1 := ⟨_, rfl⟩
          have hf0 : wr.cell? ⟨b, off + vs.length * 2, none⟩ = some (.string y) := by rw [HB.out.cell (by exact hbl), hc (vs.length * 2) (by omega), (flds_at fs vs.length hlf).1, hy]
          have hf1 : wr.cell? ⟨b, off + vs.length * 2 + 1, none⟩ = some (.int .i64 k) := by rw [HB.out.cell (by exact hbl), Nat.add_assoc, hc (vs.length * 2 + 1) (by omega), (flds_at fs vs.length hlf).2, hkk]
          have hi0 : (0 : Int) ≤ (vs.length : Int) := by omega
          have hi1 : (vs.length : Int) < (fs.length : Int) := by omega
          have HC := hide (readValue_any k t ht p)
          obtain ⟨wa, hwa⟩ : ∃ wa, wa = wr.alloc (Obj.cells #[.string y, .int .i64 k] 73) := ⟨_, rfl⟩
          have HWb : Hid (Below wr.heap.size wr wa) := hide (by rw [hwa]; exact (Below.refl _ _).alloc (Nat.le_refl _) _)
          clear hc hy
          cases ho : rdVal k t p with
          | none =>
            rw [ho, tupVal] at HC
            have HNo : Hid (∀ us, ¬ IsTh fs t us) := hide (thTry_none HT.out.1 hlf (by rw [← hkk]; exact ho))
            clear ho hkk
            go_wp2_with fail
            rw [← hwa]
            refine (HC.out _).mono ?_
            rintro e w2 ⟨rfl, hb2⟩
            have hbx : Below wr.heap.size wr w2 := HWb.out.trans (hb2.mono HWb.out.size)
            have HB2 : Hid (Below w.heap.size w w2) := hide (HB.out.trans (hbx.mono HB.out.size))
            clear hb2 hbx hwa hf0 hf1
            have HB3 : Hid (∀ o, Below w.heap.size w (w2.alloc o)) := hide (fun o => HB2.out.alloc HB2.out.size _)
            go_wp2_with fail
            go_ret2
            exact ⟨_, [], false, rfl, by simpa using own_vals0 (w2.alloc _) _ (HB3.out _).size, Or.inr ⟨rfl, rfl, HNo.out⟩, (HB3.out _).alloc (HB3.out _).size _⟩
          | some r =>
            obtain ⟨⟨un, ux⟩, q⟩ := r
            rw [ho, tupVal] at HC
            obtain ⟨k1, k2, -, -⟩ := rdVal_back ho
            have HT2 : Hid (ThTry fs t (vs ++ [(un, ux)]) q ∧ ThHas fs t (vs ++ [(un, ux)]) q) := hide ⟨thTry_some HT.out.1 hlf (by rw [← hkk]; exact ho), thHas_some HT.out.2 hlf (by rw [← hkk]; exact ho)⟩
            clear ho hkk
            go_wp2_with fail
            rw [← hwa]
            refine (HC.out _).mono ?_
            rintro e w2 ⟨rfl, hb2⟩
            have hbx : Below wr.heap.size wr w2 := HWb.out.trans (hb2.mono HWb.out.size)
            have HB2 : Hid (Below w.heap.size w w2) := hide (HB.out.trans (hbx.mono HB.out.size))
            have HO2 := hide (own_stays HOn.out hbx)
            have hws2 := HB2.out.size
            clear hb2 hbx hwa hf0 hf1
            obtain ⟨w3, hw3⟩ : ∃ w3, w3 = w2.alloc (Obj.cells #[.int .i64 un, .string ux] 52) := ⟨_, rfl⟩
            have HS3 : Hid (w2.heap.size + 1 = w3.heap.size) := hide (by rw [hw3]; simp)
            have HO3 : Hid (w3.ownsRow w.heap.size 52 2 (.slice a vs.length cap) vs.length (puts vs)) := hide (by rw [hw3]; exact HO2.out.alloc _)
            have HB3 : Hid (Below w.heap.size w w3) := hide (by rw [hw3]; exact HB2.out.alloc hws2 _)
            have hs3 := HB3.out.size
            go_wp2_with (at_builtin; (rw [← hw3]; refine wpList_append_row _ rfl _ _ 27 rfl w.heap.size 52 i0 (.agg #[.int .i64 0, .string ⟨#[]⟩]) 2 24 Tryz.underlying27 hi hz0 hz1 hz2 rfl (by decide) _ _ _ rfl (HO3.out.alloc _) _ 1 (puts [(un, ux)]) rfl (val_at w3 (w2.heap.size + 1) HS3.out un ux) (vals_one _) ?_ ?_ ?_ ?_))
            · unfold maxLen; omega
            · omega
            · simp; omega
            intro y6 d6 w6 hown6 hg6
            try rw [← hw3] at hg6
            have hown7 : w6.ownsRow w.heap.size 52 2 (.slice y6 (vs.length + 1) d6) (vs ++ [(un, ux)]).length (puts (vs ++ [(un, ux)])) := by
              rw [← vals_snoc, List.length_append]
              exact hown6
            have HB6 : Hid (Below w.heap.size w w6) := hide ((HB3.out.alloc hs3 _).grown hg6 (by simp; omega) (fun k hk => (HO3.out.lt k hk).1))
            clear hown6 hg6 hw3
            go_wp2_with fail
            go_roundg (gk - 1)
            case measure => have := HG.out; omega
            case rel => exact ⟨vs ++ [(un, ux)], q, by simp; omega, k2, rfl, by rw [List.length_append]; go_num, by have := HG.out; simp; omega, hown7, HB6, HT2⟩
      · have HE : Hid (∀ us, IsTh fs t us → us = vs ∧ p = t.size) := hide (thTry_end HT.out.1 (by omega))
        have HSp := hide (implThingOk_any fs vs hl HNf.out (by omega) (fun f hf => Nat.le_trans (HT.out.2.2.2 f hf) (by omega)) (.slice fa fs.length fcap) (.slice a vs.length cap) wr (row_below HRv.out HB.out) (row_of_own HOn.out))
        by_cases hpe : p = t.size
        · have HTx : Hid (thT fs vs = t) := hide (by rw [HT.out.2.2.1, extract_all t p (by omega)])
          have de : ((p : Int) != (t.size : Int)) = false := by rw [hpe]; simp
          cases hok : thingOkB fs vs with
          | false =>
            rw [hok] at HSp
            have HNo : Hid (∀ us, ¬ IsTh fs t us) := hide (fun us hg => by
              have := (HE.out us hg).1
              subst this
              rw [hg.1] at hok; cases hok)
            clear hok hpe
            go_wp2_with fail
            refine HSp.out.mono ?_
            rintro e w2 ⟨rfl, hb2⟩
            have HB2 : Hid (Below w.heap.size w w2) := hide (HB.out.trans (hb2.mono HB.out.size))
            clear hb2
            go_wp2_with fail
            go_ret2
            exact ⟨_, [], false, rfl, own_vals0 _ _ HB2.out.size, Or.inr ⟨rfl, rfl, HNo.out⟩, HB2.out.alloc HB2.out.size _⟩
          | true =>
            rw [hok] at HSp
            have HYs : Hid (IsTh fs t vs) := hide ⟨hok, HTx.out⟩
            clear hok hpe
            go_wp2_with fail
            refine HSp.out.mono ?_
            rintro e w2 ⟨rfl, hb2⟩
            have HB2 : Hid (Below w.heap.size w w2) := hide (HB.out.trans (hb2.mono HB.out.size))
            have HO2 := hide (own_stays HOn.out hb2)
            clear hb2
            go_wp2_with fail
            go_ret2
            exact ⟨_, vs, true, rfl, HO2.out, Or.inl ⟨rfl, HYs.out, fun us hg => (HE.out us hg).1⟩, HB2.out⟩
        · have HNo : Hid (∀ us, ¬ IsTh fs t us) := hide (fun us hg => hpe (HE.out us hg).2)
          have de : ((p : Int) != (t.size : Int)) = true := by simp; omega
          clear hpe
          go_wp2_with fail
          go_ret2
          exact ⟨_, [], false, rfl, own_vals0 _ _ HB.out.size, Or.inr ⟨rfl, rfl, HNo.out⟩, HB.out.alloc HB.out.size _⟩
end Go.Proofs.YtdcmpjefemcppaaGreatDoor
