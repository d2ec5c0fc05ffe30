/-
  Facts and contracts that the law's own text rests on, by their texts' names: EvRowN, ScrPlain, SpecLines, Sep, SepCells, StepCall, TwoWays, EvLawN, Marks.
-/
import Derived.Test.YtmmepgincbngeaaDoorRs3
import Derived.Test.YtmmepgincbngeaaDoorRs1
import Derived.Deep.RegionHeld
import Derived.Deep.MidRow
import Derived.Test.YtmmepgincbngeaaDoorRs2
import Derived.Deep.RegionHeld3
import Derived.Deep.Cut
import Derived.BigQuiet
import Derived.Deep.DrawnRows
import Derived.Deep.QuietTactic
import Derived.Laws.OwnMore
namespace Go.Proofs.YtmmepgincbngeaaDoor
open Go.RowKit
structure Evt where
  kind : Int
  id : Int
  key : ByteArray
  val : ByteArray
  stage : Int
  left : List Bool
  torn : Int
def EvAt (w : World) (v : Value) (e : Evt) : Prop := ∃ a cap, v = .agg #[.int .i64 e.kind, .int .i64 e.id, .string e.key, .string e.val, .int .i64 e.stage, .slice a e.left.length cap, .int .i64 e.torn] ∧ RowAt w 1 (.slice a e.left.length cap) e.left.length (bools e.left)
theorem ev_below {w w' : World} {v : Value} {e : Evt} (h : EvAt w v e) (hb : Below w.heap.size w w') : EvAt w' v e := by
  obtain ⟨a, cap, h1, h2⟩ := h
  exact ⟨a, cap, h1, row_below h2 hb⟩
def Evt.ok (e : Evt) : Bool := decide (1 ≤ e.kind ∧ e.kind ≤ 10) && decide (1 ≤ e.id ∧ e.id ≤ 9) && decide (e.key.size ≤ 30) && decide (e.val.size ≤ 30) && decide (0 ≤ e.stage ∧ e.stage ≤ 1) && decide (e.left.length ≤ 60) && decide (-1 ≤ e.torn ∧ e.torn ≤ 60)
set_option maxHeartbeats 4000000 in
set_option maxRecDepth 100000 in
theorem specEventOk_any (v : Value) (e : Evt) (h1 : e.key.size ≤ maxLen) (h2 : e.val.size ≤ maxLen) (h3 : e.left.length ≤ maxLen) (w : World) (hd : EvAt w v e) :
    Calls Tryd.prog 26 #[v] w fun r w' => r = .returned (.bool e.ok) ∧ Below w.heap.size w w' := by
  obtain ⟨a, cap, rfl, -⟩ := hd
  obtain ⟨kind, id, key, val, stage, lft, torn⟩ := e
  dsimp only at h1 h2 h3 ⊢
  unfold maxLen at h1 h2 h3
  have HOk : Hid (Evt.ok ⟨kind, id, key, val, stage, lft, torn⟩ = (decide (1 ≤ kind ∧ kind ≤ 10) && decide (1 ≤ id ∧ id ≤ 9) && decide (key.size ≤ 30) && decide (val.size ≤ 30) && decide (0 ≤ stage ∧ stage ≤ 1) && decide (lft.length ≤ 60) && decide (-1 ≤ torn ∧ torn ≤ 60))) := hide rfl
  obtain ⟨ok, hok⟩ : ∃ b, b = Evt.ok ⟨kind, id, key, val, stage, lft, torn⟩ := ⟨_, rfl⟩
  rw [← hok] at HOk ⊢
  obtain ⟨ll, hll⟩ : ∃ n, n = lft.length := ⟨_, rfl⟩
  rw [← hll] at HOk h3 ⊢
  have HI0 := hide (fun wx => in_dec kind 1 10 wx)
  have HI1 := hide (fun wx => in_dec id 1 9 wx)
  have HI4 := hide (fun wx => in_dec stage 0 1 wx)
  have HI6 := hide (fun wx => in_dec torn (-1) 60 wx)
  clear hok hll
  by_cases g0 : 1 ≤ kind ∧ kind ≤ 10
  rotate_left
  · rw [decide_eq_false g0] at HI0 HOk
    have HO : Hid (ok = false) := hide (by rw [HOk.out]; simp)
    clear g0
    go_enter Tryd.func26, Tryd.ntmps26
    go_wp2_with fail
    refine (HI0.out _).mono ?_
    rintro e w0 ⟨rfl, rfl⟩
    go_wp2_with fail
    go_ret
    rw [HO.out]
    exact ⟨rfl, (Below.refl _ _).alloc (Nat.le_refl _) _⟩
  rw [decide_eq_true g0] at HI0 HOk
  clear g0
  by_cases g1 : 1 ≤ id ∧ id ≤ 9
  rotate_left
  · rw [decide_eq_false g1] at HI1 HOk
    have HO : Hid (ok = false) := hide (by rw [HOk.out]; simp)
    clear g1
    go_enter Tryd.func26, Tryd.ntmps26
    go_wp2_with fail
    refine (HI0.out _).mono ?_
    rintro e w0 ⟨rfl, rfl⟩
    go_wp2_with fail
    refine (HI1.out _).mono ?_
    rintro e w1 ⟨rfl, rfl⟩
    go_wp2_with fail
    go_ret
    rw [HO.out]
    exact ⟨rfl, (Below.refl _ _).alloc (Nat.le_refl _) _⟩
  rw [decide_eq_true g1] at HI1 HOk
  clear g1
  by_cases g2 : key.size ≤ 30
  rotate_left
  · rw [decide_eq_false g2] at HOk
    have d2 : decide ((key.size : Int) ≤ 30) = false := by simp; omega
    have HO : Hid (ok = false) := hide (by rw [HOk.out]; simp)
    clear g2
    go_enter Tryd.func26, Tryd.ntmps26
    go_wp2_with fail
    refine (HI0.out _).mono ?_
    rintro e w0 ⟨rfl, rfl⟩
    go_wp2_with fail
    refine (HI1.out _).mono ?_
    rintro e w1 ⟨rfl, rfl⟩
    go_wp2_with fail
    go_ret
    rw [HO.out]
    exact ⟨rfl, (Below.refl _ _).alloc (Nat.le_refl _) _⟩
  rw [decide_eq_true g2] at HOk
  have d2 : decide ((key.size : Int) ≤ 30) = true := by simp; omega
  clear g2
  by_cases g3 : val.size ≤ 30
  rotate_left
  · rw [decide_eq_false g3] at HOk
    have d3 : decide ((val.size : Int) ≤ 30) = false := by simp; omega
    have HO : Hid (ok = false) := hide (by rw [HOk.out]; simp)
    clear g3
    go_enter Tryd.func26, Tryd.ntmps26
    go_wp2_with fail
    refine (HI0.out _).mono ?_
    rintro e w0 ⟨rfl, rfl⟩
    go_wp2_with fail
    refine (HI1.out _).mono ?_
    rintro e w1 ⟨rfl, rfl⟩
    go_wp2_with fail
    go_ret
    rw [HO.out]
    exact ⟨rfl, (Below.refl _ _).alloc (Nat.le_refl _) _⟩
  rw [decide_eq_true g3] at HOk
  have d3 : decide ((val.size : Int) ≤ 30) = true := by simp; omega
  clear g3
  by_cases g4 : 0 ≤ stage ∧ stage ≤ 1
  rotate_left
  · rw [decide_eq_false g4] at HI4 HOk
    have HO : Hid (ok = false) := hide (by rw [HOk.out]; simp)
    clear g4
    go_enter Tryd.func26, Tryd.ntmps26
    go_wp2_with fail
    refine (HI0.out _).mono ?_
    rintro e w0 ⟨rfl, rfl⟩
    go_wp2_with fail
    refine (HI1.out _).mono ?_
    rintro e w1 ⟨rfl, rfl⟩
    go_wp2_with fail
    refine (HI4.out _).mono ?_
    rintro e w4 ⟨rfl, rfl⟩
    go_wp2_with fail
    go_ret
    rw [HO.out]
    exact ⟨rfl, (Below.refl _ _).alloc (Nat.le_refl _) _⟩
  rw [decide_eq_true g4] at HI4 HOk
  clear g4
  by_cases g5 : ll ≤ 60
  rotate_left
  · rw [decide_eq_false g5] at HOk
    have d5 : decide ((ll : Int) ≤ 60) = false := by simp; omega
    have HO : Hid (ok = false) := hide (by rw [HOk.out]; simp)
    clear g5
    go_enter Tryd.func26, Tryd.ntmps26
    go_wp2_with fail
    refine (HI0.out _).mono ?_
    rintro e w0 ⟨rfl, rfl⟩
    go_wp2_with fail
    refine (HI1.out _).mono ?_
    rintro e w1 ⟨rfl, rfl⟩
    go_wp2_with fail
    refine (HI4.out _).mono ?_
    rintro e w4 ⟨rfl, rfl⟩
    go_wp2_with fail
    go_ret
    rw [HO.out]
    exact ⟨rfl, (Below.refl _ _).alloc (Nat.le_refl _) _⟩
  rw [decide_eq_true g5] at HOk
  have d5 : decide ((ll : Int) ≤ 60) = true := by simp; omega
  clear g5
  by_cases g6 : -1 ≤ torn ∧ torn ≤ 60
  rotate_left
  · rw [decide_eq_false g6] at HI6 HOk
    have HO : Hid (ok = false) := hide (by rw [HOk.out]; simp)
    clear g6
    go_enter Tryd.func26, Tryd.ntmps26
    go_wp2_with fail
    refine (HI0.out _).mono ?_
    rintro e w0 ⟨rfl, rfl⟩
    go_wp2_with fail
    refine (HI1.out _).mono ?_
    rintro e w1 ⟨rfl, rfl⟩
    go_wp2_with fail
    refine (HI4.out _).mono ?_
    rintro e w4 ⟨rfl, rfl⟩
    go_wp2_with fail
    refine (HI6.out _).mono ?_
    rintro e w6 ⟨rfl, rfl⟩
    go_wp2_with fail
    go_ret
    rw [HO.out]
    exact ⟨rfl, (Below.refl _ _).alloc (Nat.le_refl _) _⟩
  rw [decide_eq_true g6] at HI6 HOk
  clear g6
  have HO : Hid (ok = true) := hide HOk.out
  go_enter Tryd.func26, Tryd.ntmps26
  go_wp2_with fail
  refine (HI0.out _).mono ?_
  rintro e w0 ⟨rfl, rfl⟩
  go_wp2_with fail
  refine (HI1.out _).mono ?_
  rintro e w1 ⟨rfl, rfl⟩
  go_wp2_with fail
  refine (HI4.out _).mono ?_
  rintro e w4 ⟨rfl, rfl⟩
  go_wp2_with fail
  refine (HI6.out _).mono ?_
  rintro e w6 ⟨rfl, rfl⟩
  go_wp2_with fail
  go_ret
  rw [HO.out]
  exact ⟨rfl, (Below.refl _ _).alloc (Nat.le_refl _) _⟩
open Go.RowKit
def splitL : List UInt8 → List (List UInt8)
  | [] => []
  | b :: r => if b = 10 then [] :: splitL r else match splitL r with
    | [] => [[b]]
    | x :: xs => (b :: x) :: xs
theorem splitL_no : ∀ (l : List UInt8), (∀ b ∈ l, b ≠ 10) → l ≠ [] → splitL l = [l]
  | [], _, h => absurd rfl h
  | [b], h, _ => by rw [splitL, if_neg (h b (by simp))]; rfl
  | b :: c :: r, h, _ => by
    rw [splitL, if_neg (h b (by simp)), splitL_no (c :: r) (fun x hx => h x (List.mem_cons_of_mem _ hx)) (by simp)]
theorem splitL_nl : ∀ (a r : List UInt8), (∀ b ∈ a, b ≠ 10) → splitL (a ++ 10 :: r) = a :: splitL r
  | [], r, _ => by rw [List.nil_append, splitL, if_pos rfl]
  | b :: a, r, h => by
    rw [List.cons_append, splitL, if_neg (h b (by simp)), splitL_nl a r (fun x hx => h x (by simp [hx]))]
def rest (s : ByteArray) (b : Nat) : List (List UInt8) := splitL (s.data.toList.drop b)
def linesOf (s : ByteArray) : List (List UInt8) := splitL s.data.toList
theorem cutL_mem (s : ByteArray) (b k : Nat) (hk : k ≤ s.size) (h : ∀ i, b ≤ i → i < k → byt s i ≠ 10) : ∀ x ∈ cutL s b k, x ≠ 10 := by
  intro x hx e
  rw [cutL_eq] at hx
  obtain ⟨i, hi, he⟩ := List.getElem_of_mem hx
  have hl : s.data.toList.length = s.size := by rw [Array.length_toList]; rfl
  have hi2 : i < k - b := by rw [List.length_take] at hi; omega
  rw [List.getElem_take, List.getElem_drop] at he
  refine h (b + i) (by omega) (by omega) ?_
  rw [← byt_eq s (b + i) (by omega)]
  have h2 : s[b + i]'(by omega) = x := by rw [← he]; simp; rfl
  rw [h2, e]
  rfl
theorem rest_nl (s : ByteArray) (b k : Nat) (hb : b ≤ k) (hk : k < s.size) (hno : ∀ i, b ≤ i → i < k → byt s i ≠ 10) (h10 : byt s k = 10) : rest s b = cutL s b k :: rest s (k + 1) := by
  have e : s.data.toList.drop b = cutL s b k ++ 10 :: s.data.toList.drop (k + 1) := by
    rw [cutL_eq]
    conv => lhs; rw [← List.take_append_drop (k - b) (s.data.toList.drop b)]
    rw [List.drop_drop, show b + (k - b) = k from by omega, drop_byt s k hk, h10]
    rfl
  rw [rest, e, splitL_nl _ _ (cutL_mem s b k (by omega) hno)]
  rfl
theorem rest_end (s : ByteArray) (b : Nat) (hb : b < s.size) (hno : ∀ i, b ≤ i → i < s.size → byt s i ≠ 10) : rest s b = [cutL s b s.size] := by
  have hl : s.data.toList.length = s.size := by rw [Array.length_toList]; rfl
  have e : s.data.toList.drop b = cutL s b s.size := by
    rw [cutL_eq, List.take_of_length_le (by rw [List.length_drop]; omega)]
  rw [rest, e]
  exact splitL_no _ (cutL_mem s b s.size (Nat.le_refl _) hno) (fun h => by have := cutL_length s b s.size (by omega) (Nat.le_refl _); rw [h] at this; simp at this; omega)
theorem rest_none (s : ByteArray) : rest s s.size = [] := by
  have hl : s.data.toList.length = s.size := by rw [Array.length_toList]; rfl
  rw [rest, List.drop_of_length_le (by omega)]
  rfl
theorem splitL_len : ∀ l : List UInt8, (splitL l).length ≤ l.length
  | [] => Nat.le_refl _
  | b :: r => by
    have ih := splitL_len r
    rw [splitL]
    by_cases h : b = 10
    · rw [if_pos h]; simp; omega
    · rw [if_neg h]
      cases e : splitL r with
      | nil => simp
      | cons x xs => rw [e] at ih; simp at ih ⊢; omega
theorem splitL_size : ∀ (l : List UInt8), ∀ x ∈ splitL l, x.length ≤ l.length
  | [], x, h => by simp [splitL] at h
  | b :: r, x, h => by
    have ih := splitL_size r
    rw [splitL] at h
    by_cases hb : b = 10
    · rw [if_pos hb] at h
      rcases List.mem_cons.1 h with rfl | h
      · simp
      · have := ih x h; simp; omega
    · rw [if_neg hb] at h
      cases e : splitL r with
      | nil => rw [e] at h; simp at h; subst h; simp
      | cons y ys =>
        rw [e] at h ih
        rcases List.mem_cons.1 h with rfl | h
        · have := ih y (by simp); simp; omega
        · have := ih x (by simp [h]); simp; omega
noncomputable def decO (l : List UInt8) : Option Int := by
  classical exact if okD ⟨l.toArray⟩ then some (valD ⟨l.toArray⟩ l.length : Int) else none
def bitsO (l : List UInt8) : Option (List Bool) := if l = [45] then some [] else if l.all (fun b => b == 48 || b == 49) = true then some (l.map (· == 49)) else none
def kws : List (List UInt8) := [[98, 101, 103, 105, 110], [112, 117, 116], [100, 114, 111, 112], [101, 110, 100], [115, 116, 111, 112], [114, 101, 97, 100], [103, 101, 116], [99, 108, 111, 115, 101], [112, 97, 99, 107], [102, 97, 108, 108]]
def kns : List Nat := [1, 3, 2, 1, 1, 2, 3, 2, 1, 3]
def isKw (p : List (List UInt8)) (i : Nat) : Bool := decide (p.getD 0 [] = kws.getD i []) && decide (p.length = kns.getD i 0)
def evt0 (i : Nat) : Evt := ⟨(i : Int) + 1, 1, ⟨#[]⟩, ⟨#[]⟩, 0, [], -1⟩
noncomputable def evAt (p : List (List UInt8)) : Nat → Option Evt
  | 1 => some { evt0 1 with key := ⟨(p.getD 1 []).toArray⟩, val := ⟨(p.getD 2 []).toArray⟩ }
  | 2 => some { evt0 2 with key := ⟨(p.getD 1 []).toArray⟩ }
  | 5 => (decO (p.getD 1 [])).map fun n => { evt0 5 with id := n }
  | 6 => (decO (p.getD 1 [])).map fun n => { evt0 6 with id := n, key := ⟨(p.getD 2 []).toArray⟩ }
  | 7 => (decO (p.getD 1 [])).map fun n => { evt0 7 with id := n }
  | 9 => (decO (p.getD 1 [])).bind fun n => (bitsO (p.getD 2 [])).map fun bs => { evt0 9 with stage := n, left := bs }
  | i => some (evt0 i)
noncomputable def evOf (p : List (List UInt8)) : Option Evt := ((List.range 10).find? (isKw p)).bind (evAt p)
def pgw : List UInt8 := [112, 97, 103, 101, 115]
noncomputable def pagesO (p : List (List UInt8)) : Option Int := if p.length = 2 ∧ p.getD 0 [] = pgw then (decO (p.getD 1 [])).bind fun n => if 4 ≤ n ∧ n ≤ 40 then some n else none else none
noncomputable def scrGo : List (List UInt8) → Nat → Int → List Evt → Int × List Evt × Int
  | [], _, pg, out => if pg = 0 then (0, [], 1) else (pg, out, 0)
  | l :: r, i, pg, out =>
    if (partsOut ⟨l.toArray⟩).2 = false then (0, [], (i : Int) + 1)
    else if (partsOut ⟨l.toArray⟩).1 = [] ∨ ((partsOut ⟨l.toArray⟩).1.getD 0 []).getD 0 0 = 35 then scrGo r (i + 1) pg out
    else if pg = 0 then match pagesO (partsOut ⟨l.toArray⟩).1 with
      | some n => scrGo r (i + 1) n out
      | none => (0, [], (i : Int) + 1)
    else match evOf (partsOut ⟨l.toArray⟩).1 with
      | some e => if e.ok = true ∧ out.length ≠ 70 then scrGo r (i + 1) pg (out ++ [e]) else (0, [], (i : Int) + 1)
      | none => (0, [], (i : Int) + 1)
noncomputable def scrO (s : ByteArray) : Int × List Evt × Int := if 3000 < s.size ∨ 90 < (linesOf s).length then (0, [], -1) else scrGo (linesOf s) 0 0 []
open Go.RowKit
set_option maxHeartbeats 4000000 in
set_option maxRecDepth 100000 in
theorem specLines_any (s : ByteArray) (hs : s.size ≤ 1048576) (w : World) :
    Calls Tryd.prog 21 #[.string s] w fun e w' => ∃ v, e = .returned v ∧ w'.ownsRow w.heap.size 9 1 v (linesOf s).length (strVs (linesOf s)) ∧ Below w.heap.size w w' := by
  obtain ⟨i0, hi, hz0, hz1, hz2⟩ := info_parts Tryd.infoString
  go_enter Tryd.func21, Tryd.ntmps21
  go_wp2
  go_loopg [3, 4, 5] s.size (fun g v bv iv wr => ∃ (k b : Nat) (D : List (List UInt8)), k ≤ s.size ∧ b ≤ k ∧ bv = .int .i64 (b : Int) ∧ iv = .int .i64 (k : Int) ∧ g + k = s.size ∧ D.length ≤ k ∧ Hid (∀ i, b ≤ i → i < k → byt s i ≠ 10) ∧ Hid (D ++ rest s b = linesOf s) ∧ wr.ownsRow w.heap.size 9 1 v D.length (strVs D) ∧ Below w.heap.size w wr)
  case atStart => exact ⟨0, 0, [], by omega, by omega, rfl, rfl, by omega, by simp, hide (fun i h1 h2 => by omega), hide rfl, own_none w w.heap.size (Nat.le_refl _), (Below.refl _ _).alloc (Nat.le_refl _) _⟩
  case round =>
    obtain ⟨k, b, D, hk, hbk, rfl, rfl, hg, hDk, HN, HT, hown, hb⟩ := hrel
    have HG := hide hg
    clear hg
    have hB := hb.size
    by_cases hlt : k < s.size
    · obtain ⟨y, hy⟩ : ∃ y, y = byt s k := ⟨_, rfl⟩
      have hyb : y < 256 := by rw [hy]; exact byt_lt s _
      have hs1 : s[k].toNat = y := by rw [hy]; exact byt_eq s _ hlt
      have HY := hide hy
      clear hy
      by_cases hnl : y = 10
      · have hyn : ((y : Int) == 10) = true := by rw [beq_iff_eq]; omega
        have HT2 : Hid (D ++ [cutL s b k] ++ rest s (k + 1) = linesOf s) := hide (by rw [← HT.out, rest_nl s b k hbk hlt HN.out (by rw [← HY.out]; exact hnl)]; simp)
        have hsl : ∀ wx : World, (Instr.slice 9 (.string s) (some (.int .i64 (b : Int))) (some (.int .i64 (k : Int))) none).run Tryd.prog wx = .ok (.string (s.extract b k)) wx := fun wx => by
          have := run_slice_string (P := Tryd.prog) wx 9 s .i64 .i64 (b : Int) (k : Int) Tryd.underlying9 (by omega) (by omega) (by omega)
          rw [this, Int.toNat_natCast, Int.toNat_natCast]
        clear hnl
        go_wp2_with (at_builtin; refine wpList_append_own _ rfl _ _ 50 rfl w.heap.size 9 i0 (.string ByteArray.empty) 1 16 Tryd.underlying50 hi hz0 hz1 hz2 rfl (by decide) _ _ _ rfl (hown.alloc _) ⟨wr.heap.size, 0, none⟩ 1 1 [.string (s.extract b k)] rfl rfl ?c1 ?c2 ?c3 ?c4 ?c5 ?_)
        case c1 => exact one_str _ _
        case c2 => intro u hu; simp at hu; subst hu; rfl
        case c3 => unfold maxLen; omega
        case c4 => omega
        case c5 => simp; omega
        intro v' w1 hown' hgrow _
        have hb1 : Below w.heap.size w w1 := below_grow hb hB hown ((Below.refl _ _).alloc hB _) hgrow
        have hown2 : w1.ownsRow w.heap.size 9 1 v' (D ++ [cutL s b k]).length (strVs (D ++ [cutL s b k])) := own_snocS rfl (by rw [strV_cut]; exact hown')
        clear hown' hgrow hown hb
        go_wp2
        go_roundg (gk - 1)
        case measure => have := HG.out; omega
        case rel => exact ⟨k + 1, k + 1, D ++ [cutL s b k], by omega, by omega, by go_num, by go_num, by have := HG.out; omega, by simp; omega, hide (fun i h1 h2 => by omega), HT2, hown2, hb1⟩
      · have hyn : ((y : Int) == 10) = false := by rw [beq_eq_false_iff_ne]; omega
        have HN2 : Hid (∀ i, b ≤ i → i < k + 1 → byt s i ≠ 10) := hide (fun i h1 h2 => by by_cases e : i = k; (rw [e, ← HY.out]; exact hnl); exact HN.out i h1 (by omega))
        clear hnl
        go_wp2
        go_roundg (gk - 1)
        case measure => have := HG.out; omega
        case rel => exact ⟨k + 1, b, D, by omega, by omega, rfl, by go_num, by have := HG.out; omega, by omega, HN2, HT, hown, hb⟩
    · obtain rfl : k = s.size := by omega
      by_cases hw : b < s.size
      · have HT2 : Hid (D ++ [cutL s b s.size] = linesOf s) := hide (by rw [← HT.out, rest_end s b hw HN.out])
        have hsl : ∀ wx : World, (Instr.slice 9 (.string s) (some (.int .i64 (b : Int))) none none).run Tryd.prog wx = .ok (.string (s.extract b s.size)) wx := fun wx => by
          have := run_slice_string_from_if (P := Tryd.prog) wx 9 s .i64 (b : Int) Tryd.underlying9
          rw [this, if_pos ⟨by omega, by omega⟩, Int.toNat_natCast]
        go_wp2_with (at_builtin; refine wpList_append_own _ rfl _ _ 50 rfl w.heap.size 9 i0 (.string ByteArray.empty) 1 16 Tryd.underlying50 hi hz0 hz1 hz2 rfl (by decide) _ _ _ rfl (hown.alloc _) ⟨wr.heap.size, 0, none⟩ 1 1 [.string (s.extract b s.size)] rfl rfl ?d1 ?d2 ?d3 ?d4 ?d5 ?_)
        case d1 => exact one_str _ _
        case d2 => intro u hu; simp at hu; subst hu; rfl
        case d3 => unfold maxLen; omega
        case d4 => omega
        case d5 => simp; omega
        intro v' w1 hown' hgrow _
        have hb1 : Below w.heap.size w w1 := below_grow hb hB hown ((Below.refl _ _).alloc hB _) hgrow
        have hown2 : w1.ownsRow w.heap.size 9 1 v' (D ++ [cutL s b s.size]).length (strVs (D ++ [cutL s b s.size])) := own_snocS rfl (by rw [strV_cut]; exact hown')
        clear hown' hgrow hown hb
        go_wp2
        go_ret
        rw [← HT2.out]
        exact ⟨_, rfl, hown2, hb1⟩
      · have HT2 : Hid (D = linesOf s) := hide (by rw [← HT.out, show b = s.size by omega, rest_none, List.append_nil])
        go_wp2
        go_ret
        rw [← HT2.out]
        exact ⟨_, rfl, hown, hb⟩
open Go.RowKit
structure Ast where
  F : Nat → Prop
  P : World → Prop
  loc : ∀ W W', P W → (∀ k, F k → W'.heap[k]? = W.heap[k]?) → P W'
def cellA (g : Nat) (o : Obj) : Ast := ⟨fun k => k = g, fun W => W.heap[g]? = some o, fun _ _ h hk => (hk g rfl).trans h⟩
def rowA (B e sz : Nat) (v : Value) (n : Nat) (xs : List Value) : Ast := ⟨fun k => v.ownBlock = some k, fun W => W.ownsRow B e sz v n xs, fun W W' h hk => by
  refine ⟨h.1, ?_⟩
  rcases h.2 with ⟨rfl, hn⟩ | ⟨g, cap, cur, rfl, hg, hh, rest⟩
  · exact Or.inl ⟨rfl, hn⟩
  · exact Or.inr ⟨g, cap, cur, rfl, hg, (hk g rfl).trans hh, rest⟩⟩
def Sep (B : Nat) (W : World) (l : List Ast) : Prop := (∀ A ∈ l, A.P W ∧ ∀ k, A.F k → B ≤ k ∧ k < W.heap.size) ∧ l.Pairwise (fun A A' => ∀ k, A.F k → ¬ A'.F k)
theorem sep_nil (B : Nat) (W : World) : Sep B W [] := ⟨fun _ h => (by cases h), List.Pairwise.nil⟩
theorem sep_get {B : Nat} {W : World} {l : List Ast} (h : Sep B W l) (i : Nat) {A : Ast} (hi : l[i]? = some A) : A.P W := (h.1 A (List.mem_of_getElem? hi)).1
theorem sep_lt {B : Nat} {W : World} {l : List Ast} (h : Sep B W l) (i : Nat) {A : Ast} (hi : l[i]? = some A) : ∀ k, A.F k → B ≤ k ∧ k < W.heap.size := (h.1 A (List.mem_of_getElem? hi)).2
theorem sep_apart {B : Nat} {W : World} {l : List Ast} (h : Sep B W l) (i j : Nat) {A A' : Ast} (hi : l[i]? = some A) (hj : l[j]? = some A') (hne : i ≠ j) : ∀ k, A.F k → ¬ A'.F k := by
  obtain ⟨hi1, rfl⟩ := List.getElem?_eq_some_iff.1 hi
  obtain ⟨hj1, rfl⟩ := List.getElem?_eq_some_iff.1 hj
  rcases Nat.lt_or_gt_of_ne hne with h1 | h1
  · exact List.pairwise_iff_getElem.1 h.2 i j hi1 hj1 h1
  · exact fun k ha hb => List.pairwise_iff_getElem.1 h.2 j i hj1 hi1 h1 k hb ha
theorem sep_agree {B : Nat} {W W' : World} {l : List Ast} (h : Sep B W l) (hs : W.heap.size ≤ W'.heap.size) (hk : ∀ A ∈ l, ∀ k, A.F k → W'.heap[k]? = W.heap[k]?) : Sep B W' l :=
  ⟨fun A hA => ⟨A.loc W W' (h.1 A hA).1 (hk A hA), fun k hF => ⟨((h.1 A hA).2 k hF).1, Nat.lt_of_lt_of_le ((h.1 A hA).2 k hF).2 hs⟩⟩, h.2⟩
theorem sep_below {B : Nat} {W W' : World} {l : List Ast} (h : Sep B W l) (hb : Below W.heap.size W W') : Sep B W' l :=
  sep_agree h hb.size (fun A hA k hF => hb.block k ((h.1 A hA).2 k hF).2)
theorem sep_drew {B : Nat} {W : World} {l : List Ast} (h : Sep B W l) : Sep B W.drew l := sep_below h (Below.refl _ _).drew
theorem sep_alloc {B : Nat} {W : World} {l : List Ast} (h : Sep B W l) (o : Obj) : Sep B (W.alloc o) l := sep_below h ((Below.refl _ _).alloc (Nat.le_refl _) o)
theorem sep_cons {B : Nat} {W : World} {A : Ast} {l : List Ast} : Sep B W (A :: l) ↔ (A.P W ∧ ∀ k, A.F k → B ≤ k ∧ k < W.heap.size) ∧ (∀ A' ∈ l, ∀ k, A.F k → ¬ A'.F k) ∧ Sep B W l := by
  constructor
  · rintro ⟨h1, h2⟩
    obtain ⟨h3, h4⟩ := List.pairwise_cons.1 h2
    exact ⟨h1 A List.mem_cons_self, h3, fun A' h => h1 A' (List.mem_cons_of_mem _ h), h4⟩
  · rintro ⟨h1, h2, h3, h4⟩
    refine ⟨fun A' h => ?_, List.pairwise_cons.2 ⟨h2, h4⟩⟩
    rcases List.mem_cons.1 h with rfl | h
    · exact h1
    · exact h3 A' h
theorem sep_add {B : Nat} {W W' : World} {l : List Ast} (h : Sep B W l) (hb : Below W.heap.size W W') (A : Ast) (hP : A.P W') (hF : ∀ k, A.F k → W.heap.size ≤ k ∧ k < W'.heap.size) (hB : B ≤ W.heap.size) : Sep B W' (A :: l) :=
  sep_cons.2 ⟨⟨hP, fun k hk => ⟨Nat.le_trans hB (hF k hk).1, (hF k hk).2⟩⟩, fun A' hA' k hk hk' => by have := ((h.1 A' hA').2 k hk').2; have := (hF k hk).1; omega, sep_below h hb⟩
theorem sep_new {B : Nat} {W : World} {l : List Ast} (h : Sep B W l) (o : Obj) (hB : B ≤ W.heap.size) : Sep B (W.alloc o) (cellA W.heap.size o :: l) :=
  sep_add h ((Below.refl _ _).alloc (Nat.le_refl _) o) (cellA W.heap.size o) (heap_alloc_new W o) (fun k hk => by have hk : k = W.heap.size := hk; subst hk; exact ⟨Nat.le_refl _, by simp⟩) hB
theorem sep_set {B : Nat} {W W' : World} {l : List Ast} (h : Sep B W l) (i : Nat) {A : Ast} (hi : l[i]? = some A) (hk : Kept W W' A.F) (A' : Ast) (hP : A'.P W') (hF : ∀ k, A'.F k → (A.F k ∨ W.heap.size ≤ k) ∧ k < W'.heap.size) (hB : B ≤ W.heap.size) : Sep B W' (l.set i A') := by
  obtain ⟨hi1, hie⟩ := List.getElem?_eq_some_iff.1 hi
  have hap : ∀ (j : Nat) (hj : j < l.length), j ≠ i → ∀ k, A'.F k → ¬ l[j].F k := fun j hj hne k ha hb => by
    rcases (hF k ha).1 with h1 | h1
    · exact sep_apart h i j hi (List.getElem?_eq_getElem hj) (fun e => hne e.symm) k h1 hb
    · have := (sep_lt h j (List.getElem?_eq_getElem hj) k hb).2; omega
  refine ⟨fun X hX => ?_, ?_⟩
  · obtain ⟨j, hj, rfl⟩ := List.getElem_of_mem hX
    rw [List.length_set] at hj
    rw [List.getElem_set]
    split
    · refine ⟨hP, fun k hk' => ⟨?_, (hF k hk').2⟩⟩
      rcases (hF k hk').1 with h1 | h1
      · exact (sep_lt h i hi k h1).1
      · omega
    · rename_i hne
      have h1 := h.1 l[j] (List.getElem_mem hj)
      have h2 : ∀ k, l[j].F k → ¬ A.F k := sep_apart h j i (List.getElem?_eq_getElem hj) hi (fun e => hne e.symm)
      exact ⟨l[j].loc W W' h1.1 (fun k hF' => hk.2.2.2.2 k (h1.2 k hF').2 (h2 k hF')), fun k hF' => ⟨(h1.2 k hF').1, Nat.lt_of_lt_of_le (h1.2 k hF').2 hk.2.2.2.1⟩⟩
  · refine List.pairwise_iff_getElem.2 fun p q hp hq hpq => ?_
    rw [List.length_set] at hp hq
    rw [List.getElem_set, List.getElem_set]
    split
    · rename_i e
      subst e
      rw [if_neg (by omega)]
      exact hap q hq (by omega)
    · rename_i e
      split
      · rename_i e2
        subst e2
        exact fun k ha hb => hap p hp (by omega) k hb ha
      · exact List.pairwise_iff_getElem.1 h.2 p q hp hq hpq
theorem sep_store {B : Nat} {W : World} {l : List Ast} (h : Sep B W l) (i : Nat) {g : Nat} {cs : Array Value} {T : TypeId} (hi : l[i]? = some (cellA g (.cells cs T (0, 0)))) (off : Nat) (v : Value) : Sep B (W.setCell ⟨g, off, none⟩ v) (l.set i (cellA g (.cells (cs.setIfInBounds off v) T (0, 0)))) := by
  have h1 : W.heap[g]? = some (.cells cs T (0, 0)) := sep_get h i hi
  have h2 := sep_lt h i hi g rfl
  refine sep_set h i hi (kept_setCell W g off v) _ (heap_setCell_same W g off cs T v h1) (fun k hk => ⟨Or.inl hk, ?_⟩) (Nat.le_of_lt (Nat.lt_of_le_of_lt h2.1 h2.2))
  have hk : k = g := hk
  subst hk
  simpa using h2.2
theorem sep_grow {B : Nat} {W W0 W' : World} {l : List Ast} (h : Sep B W l) (hb : Below W.heap.size W W0) (i : Nat) {B' e sz n n' : Nat} {v : Value} {xs xs' : List Value} (hi : l[i]? = some (rowA B' e sz v n xs)) (hgr : W0.grownBy W' v.ownBlock) {b c : Nat} (hown : W'.ownsRow B' e sz (.slice (some ⟨b, 0, none⟩) n' c) n' xs') (hbb : v.ownBlock = some b ∨ W.heap.size ≤ b) (hB : B ≤ W.heap.size) : Sep B W' (l.set i (rowA B' e sz (.slice (some ⟨b, 0, none⟩) n' c) n' xs')) := by
  refine sep_set h i hi ⟨hgr.os.trans hb.os, hgr.tape.trans hb.tape, hgr.output.trans hb.output, Nat.le_trans hb.size hgr.size, fun j hj hn => (hgr.block j (Nat.lt_of_lt_of_le hj hb.size) (fun e => hn e.symm)).trans (hb.block j hj)⟩ _ hown (fun k hk => ⟨?_, (hown.lt k hk).2⟩) hB
  injection hk with hk
  have hk : b = k := hk
  subst hk
  exact hbb
theorem grown_below {B : Nat} {W W0 W' : World} {v : Value} {B' e sz n : Nat} {xs : List Value} (hb : Below W.heap.size W W0) (hgr : W0.grownBy W' v.ownBlock) (ho : W.ownsRow B' e sz v n xs) (hB : B ≤ B') (hBW : B ≤ W.heap.size) : Below B W W' :=
  ⟨hgr.os.trans hb.os, hgr.tape.trans hb.tape, hgr.output.trans hb.output, Nat.le_trans hb.size hgr.size, fun k hk => (hgr.block k (Nat.lt_of_lt_of_le (Nat.lt_of_lt_of_le hk hBW) hb.size) (fun e => by have := (ho.lt k e.symm).1; omega)).trans (hb.block k (Nat.lt_of_lt_of_le hk hBW))⟩
open Go.RowKit
def overL : List Value → Nat → List Value → List Value
  | cs, _, [] => cs
  | cs, o, v :: r => overL (cs.set o v) (o + 1) r
def over : Array Value → Nat → List Value → Array Value
  | cs, _, [] => cs
  | cs, o, v :: r => over (cs.setIfInBounds o v) (o + 1) r
theorem over_list : ∀ (vs : List Value) (cs : Array Value) (o : Nat), (over cs o vs).toList = overL cs.toList o vs
  | [], _, _ => rfl
  | v :: r, cs, o => by
    rw [over, overL, over_list r, Array.toList_setIfInBounds]
theorem overL_all : ∀ (vs pre cs : List Value), vs.length = cs.length → overL (pre ++ cs) pre.length vs = pre ++ vs
  | [], pre, cs, h => by
    rw [List.eq_nil_of_length_eq_zero h.symm]
    rfl
  | v :: r, pre, [], h => by simp at h
  | v :: r, pre, c :: cs, h => by
    have ih := overL_all r (pre ++ [v]) cs (by simpa using h)
    rw [overL, List.set_append_right _ _ (Nat.le_refl _), Nat.sub_self, List.set_cons_zero]
    rw [List.length_append, List.length_singleton, List.append_assoc, List.append_assoc] at ih
    exact ih
theorem set_same {α : Type} {l : List α} {i : Nat} {x : α} (h : l[i]? = some x) : l.set i x = l := by
  obtain ⟨hi, rfl⟩ := List.getElem?_eq_some_iff.1 h
  exact List.set_getElem_self hi
theorem sep_cells {B : Nat} : ∀ (vs : List Value) (off : Nat) {W : World} {l : List Ast} (_ : Sep B W l) (i : Nat) {g : Nat} {cs : Array Value} {T : TypeId} (_ : l[i]? = some (cellA g (.cells cs T (0, 0)))), Sep B (W.setCells g off vs) (l.set i (cellA g (.cells (over cs off vs) T (0, 0))))
  | [], off, W, l, h, i, g, cs, T, hi => by
    rw [show over cs off [] = cs from rfl, set_same hi]
    exact h
  | v :: r, off, W, l, h, i, g, cs, T, hi => by
    have hlt : i < l.length := (List.getElem?_eq_some_iff.1 hi).1
    have h2 := sep_cells r (off + 1) (sep_store h i hi off v) i (g := g) (cs := cs.setIfInBounds off v) (T := T) (by rw [List.getElem?_set_self hlt])
    rw [List.set_set] at h2
    exact h2
theorem sep_cellsTo {B : Nat} {W : World} {l : List Ast} (h : Sep B W l) (i : Nat) {g : Nat} {cs : Array Value} {T : TypeId} (hi : l[i]? = some (cellA g (.cells cs T (0, 0)))) (off : Nat) (vs : List Value) (cs' : Array Value) (he : overL cs.toList off vs = cs'.toList) : Sep B (W.setCells g off vs) (l.set i (cellA g (.cells cs' T (0, 0)))) := by
  have e : over cs off vs = cs' := Array.toList_inj.1 (by rw [over_list]; exact he)
  subst e
  exact sep_cells vs off h i hi
theorem sep_cellsAll {B : Nat} {W : World} {l : List Ast} (h : Sep B W l) (i : Nat) {g : Nat} {cs : Array Value} {T : TypeId} (hi : l[i]? = some (cellA g (.cells cs T (0, 0)))) (cs' : Array Value) (hn : cs'.size = cs.size) : Sep B (W.setCells g 0 cs'.toList) (l.set i (cellA g (.cells cs' T (0, 0)))) :=
  sep_cellsTo h i hi 0 cs'.toList cs' (overL_all cs'.toList [] cs.toList (by simpa using hn))
theorem below_cells {B : Nat} {W0 : World} {g : Nat} (hg : B ≤ g) : ∀ (vs : List Value) (o : Nat) (W : World), Below B W0 W → Below B W0 (W.setCells g o vs)
  | [], _, _, h => h
  | v :: r, o, _, h => below_cells hg r (o + 1) _ (h.setCell (p := ⟨g, o, none⟩) hg v)
theorem size_cells (g : Nat) : ∀ (vs : List Value) (o : Nat) (W : World), (W.setCells g o vs).heap.size = W.heap.size
  | [], _, _ => rfl
  | v :: r, o, W => by rw [World.setCells, size_cells g r (o + 1)]; simp
theorem there_of {W : World} {g : Nat} {cs : Array Value} {T : TypeId} (h : W.heap[g]? = some (.cells cs T (0, 0))) (o n : Nat) (hn : o + n ≤ cs.size) : W.there g o n := fun j hj => by
  refine ⟨?_, (cell_at h (o + j)).2⟩
  rw [(cell_at h (o + j)).1, Array.getElem?_eq_getElem (by omega)]
  rfl
theorem wpList_loadL {P : Program} {ops : Array Oper} {rest : List Oper} {op : Oper} {a : Act} {w : World} {Q : Exit → Act → World → Prop} (hgd : op.guard = none) (ty : TypeId) (x : Operand) (ho : op.op = .load ty x)
    (b o : Nat) (hx : a.eval x = .pointer (some ⟨b, o, none⟩)) (cs : Array Value) (hc : w.rangeAt b o cs.toList) (d : TypeDesc)
    (hu : P.underlying ty = some d) (hd : d.isRow = true) (hi : (P.info? ty).map (·.size) = some cs.size)
    (h : wpList P ops Q rest (a.put op.dst (.agg cs)) w) : wpList P ops Q (op :: rest) a w :=
  wpList_load_mid hgd ty x ho b o hx cs.toList d hc hu hd (by rw [hi, Array.length_toList]) (by rw [Array.toArray_toList]; exact h)
theorem wpList_loadW {P : Program} {ops : Array Oper} {rest : List Oper} {op : Oper} {a : Act} {w : World} {Q : Exit → Act → World → Prop} (hw : Region.wanted op (yielded ops a.tmps) = true) (ty : TypeId) (x : Operand) (ho : op.op = .load ty x)
    (b o : Nat) (hx : a.eval x = .pointer (some ⟨b, o, none⟩)) (cs : Array Value) (hc : w.rangeAt b o cs.toList) (d : TypeDesc)
    (hu : P.underlying ty = some d) (hd : d.isRow = true) (hi : (P.info? ty).map (·.size) = some cs.size)
    (h : wpList P ops Q rest (a.put op.dst (.agg cs)) w) : wpList P ops Q (op :: rest) a w := by
  refine wpList_step fun K hK => ?_
  rw [if_pos hw]
  refine wp_load_mid ty x ho b o hx cs.toList d hc hu hd (by rw [hi, Array.length_toList]) ?_
  rw [Array.toArray_toList]
  exact hK _ _ h
theorem wpList_storeL {P : Program} {ops : Array Oper} {rest : List Oper} {op : Oper} {a : Act} {w w' : World} {Q : Exit → Act → World → Prop} (hgd : op.guard = none) (ty : TypeId) (x y : Operand) (ho : op.op = .store ty x y)
    (b o : Nat) (cs : Array Value) (hx : a.eval x = .pointer (some ⟨b, o, none⟩)) (hy : a.eval y = .agg cs)
    (ht : w.there b o cs.size) (hi : (P.info? ty).map (·.size) = some cs.size) (h1 : cs.toList.all (·.oneCell') = true) (hw : w.setCells b o cs.toList = w')
    (h : wpList P ops Q rest (a.put op.dst undef) w') : wpList P ops Q (op :: rest) a w := by
  subst hw
  exact wpList_store_mid hgd ty x y ho b o cs hx hy ht hi (by rw [← Array.all_toList]; exact h1) h
theorem step_storeL {P : Program} {ops : Array Oper} {o : Oper} {a : Act} {K : Act → World → Prop} {Q : Exit → Act → World → Prop} {E : Prop} {W W' : World} (hgd : o.guard = none) (ty : TypeId) (x y : Operand) (ho : o.op = .store ty x y)
    (b off : Nat) (cs : Array Value) (hx : a.eval x = .pointer (some ⟨b, off, none⟩)) (hy : a.eval y = .agg cs)
    (ht : W.there b off cs.size) (hi : (P.info? ty).map (·.size) = some cs.size) (h1 : cs.toList.all (·.oneCell') = true) (hw : W.setCells b off cs.toList = W')
    (h : K (a.put o.dst undef) W') : if Region.wanted o (yielded ops a.tmps) = true then Oper.wp P o a W K Q else E := by
  have hw' : Region.wanted o (yielded ops a.tmps) = true := by simp [Region.wanted, hgd]
  rw [if_pos hw']
  subst hw
  exact wp_store_mid ty x y ho b off cs hx hy ht hi (by rw [← Array.all_toList]; exact h1) h
theorem yields_loadL {P : Program} {ops : Array Oper} {S : World → Prop} {op : Oper} {a : Act} (hw : Region.wanted op (yielded ops a.tmps) = true) (ty : TypeId) (x : Operand) (ho : op.op = .load ty x)
    (b o : Nat) (hx : a.eval x = .pointer (some ⟨b, o, none⟩)) (cs : Array Value) (d : TypeDesc) (hS : ∀ w, S w → w.rangeAt b o cs.toList)
    (hu : P.underlying ty = some d) (hd : d.isRow = true) (hi : (P.info? ty).map (·.size) = some cs.size) : YieldsIf P ops S op (.agg cs) a := by
  have h := yieldsIf_load_mid (ops := ops) hw ty x ho b o hx cs.toList d hS hu hd (by rw [hi, Array.length_toList])
  rw [Array.toArray_toList] at h
  exact h
theorem range_all {W : World} {g : Nat} {cs : Array Value} {T : TypeId} (h : W.heap[g]? = some (.cells cs T (0, 0))) : W.rangeAt g 0 cs.toList := fun j v hv => by
  rw [(cell_at h (0 + j)).1, Nat.zero_add]
  simpa using hv
theorem run_agg {P : Program} {w : World} {b : Nat} {ty : TypeId} {cs : Array Value} {d : TypeDesc} (hc : w.rangeAt b 0 cs.toList) (hu : P.underlying ty = some d) (hd : d.isRow = true) (hi : (P.info? ty).map (·.size) = some cs.size) : (loadVar ty ⟨b, 0, none⟩).run P w = .ok (.agg cs) w := by
  have h := run_loadVar_mid w b 0 ty cs.toList d hc hu hd (by rw [hi, Array.length_toList])
  rw [Array.toArray_toList] at h
  exact h
theorem results_ct {P : Program} {fn : Func} {t u : Tmp} {ty : TypeId} (h : fn.results = #[.cell t ty, .tmp u]) {tmps : Array Value} {w : World} {b : Nat} (hp : tmps.getD t undef = .pointer (some ⟨b, 0, none⟩)) {cs : Array Value} {x : Value} (hx : tmps.getD u undef = x) (hl : (loadVar ty ⟨b, 0, none⟩).run P w = .ok (.agg cs) w) : (results fn tmps).run P w = .ok (.tuple #[.agg cs, x]) w := by
  simp only [Array.getD_eq_getD_getElem?] at hp hx
  simp [results, h, hp, hx, asAddr, hl]
open Go.RowKit
theorem step_call2 {P : Program} (w : World) {ops : Array Oper} {o : Oper} {a : Act} {K : Act → World → Prop} {Q : Exit → Act → World → Prop} {E : Prop} (hgd : o.guard = none) (f : FuncId) (fn : Func) (hfn : P.funcs[f]? = some fn) (hname : ¬ fn.name = "runtime.NumGoroutine") (hbody : ¬ fn.body = none) (s x : Operand) (ts : Array TypeId)
    (ho : o.op = .call { callee := .value (.func f), args := #[s, x], argTypes := ts }) (u v : Value) (hs : a.eval s = u) (hx : a.eval x = v)
    (R : Ending → World → Prop) (hc : Calls P f #[u, v] w R) (hR : ∀ e w', R e w' → ∃ r, e = .returned r ∧ K (a.put o.dst r) w') :
    if Region.wanted o (yielded ops a.tmps) = true then Oper.wp P o a w K Q else E := by
  have hw : Region.wanted o (yielded ops a.tmps) = true := by simp [Region.wanted, hgd]
  rw [if_pos hw]
  unfold Oper.wp execOp
  have hf : a.eval (.func f) = .func (.func f) #[] #[] := rfl
  simp only [ho, resolve, invoke, hf, Deferred.ofValue, callFunc, Sem.run_bind, Sem.run_pure, Result.andThen_ok, List.map_toArray, List.map_cons, List.map_nil, hs, hx]
  simp [go_sem, hfn, hname, hbody]
  refine hc.mono ?_
  intro e w' h
  obtain ⟨r, rfl, hk⟩ := hR e w' h
  exact hk
theorem step_call1 {P : Program} (w : World) {ops : Array Oper} {o : Oper} {a : Act} {K : Act → World → Prop} {Q : Exit → Act → World → Prop} {E : Prop} (hgd : o.guard = none) (f : FuncId) (fn : Func) (hfn : P.funcs[f]? = some fn) (hname : ¬ fn.name = "runtime.NumGoroutine") (hbody : ¬ fn.body = none) (s : Operand) (ts : Array TypeId)
    (ho : o.op = .call { callee := .value (.func f), args := #[s], argTypes := ts }) (u : Value) (hs : a.eval s = u)
    (R : Ending → World → Prop) (hc : Calls P f #[u] w R) (hR : ∀ e w', R e w' → ∃ r, e = .returned r ∧ K (a.put o.dst r) w') :
    if Region.wanted o (yielded ops a.tmps) = true then Oper.wp P o a w K Q else E := by
  have hw : Region.wanted o (yielded ops a.tmps) = true := by simp [Region.wanted, hgd]
  rw [if_pos hw]
  unfold Oper.wp execOp
  have hf : a.eval (.func f) = .func (.func f) #[] #[] := rfl
  simp only [ho, resolve, invoke, hf, Deferred.ofValue, callFunc, Sem.run_bind, Sem.run_pure, Result.andThen_ok, List.map_toArray, List.map_cons, List.map_nil, hs]
  simp [go_sem, hfn, hname, hbody]
  refine hc.mono ?_
  intro e w' h
  obtain ⟨r, rfl, hk⟩ := hR e w' h
  exact hk
open Go.RowKit
theorem takeW {P : Program} {md : Region.Mode} {ops : Array Oper} {Q : Exit → Act → World → Prop} {S : World → Prop} (i d : Nat) {oi : Oper} (v : Value) {fuel : Nat} {listed : Array Bool} {a : Act} {w : World} (hi : ops[i]? = some oi) (hd : oi.dst = some d)
    (hs : Region.noSelect ops = true) (hf : Region.free md ops listed i = true) (hr : (Region.ready md ops listed).contains i = true)
    (hQ : ∀ c a w, Q (.panic c) (a.put oi.dst v) w → Q (.panic c) a w) (hy : YieldsIf P ops S oi v a) (hS : S w)
    (h : wpAnyH P md ops Q S fuel (listed.setIfInBounds i true) ⟨a.tmps.setIfInBounds d v, a.defers⟩ w) : wpAnyH P md ops Q S (fuel + 1) listed a w :=
  wpAnyH_take hi hs hf hr hQ hy hS (by rw [hd]; exact h)
open Go.RowKit
theorem Tryd.sizeEvI : (Tryd.prog.info? 35).map (·.size) = some 7 := by kernel_rfl
set_option maxHeartbeats 2000000 in
set_option maxRecDepth 100000 in
theorem eqEvent_same (v u : Value) (e : Evt) (hl : e.left.length ≤ 1048576) (w : World) (hd : EvAt w v e) (hu : EvAt w u e) :
    Calls Tryd.prog 27 #[v, u] w fun x w' => x = .returned (.bool true) ∧ Below w.heap.size w w' := by
  obtain ⟨a, cap, rfl, hr⟩ := hd
  obtain ⟨a2, cap2, rfl, hr2⟩ := hu
  obtain ⟨kind, id, key, val, stage, lft, torn⟩ := e
  dsimp only at hl hr hr2 ⊢
  have HEq := hide (fun wx (hb : Below w.heap.size w wx) => eqBoolS_row lft lft (by omega) (by omega) (.slice a lft.length cap) (.slice a2 lft.length cap2) wx (row_below hr hb) (row_below hr2 hb))
  rw [decide_eq_true rfl] at HEq
  obtain ⟨n, hn⟩ : ∃ n, lft.length = n := ⟨_, rfl⟩
  rw [hn] at HEq ⊢
  clear hr hr2 hn hl
  have hs2 := sep_new (sep_new (sep_nil w.heap.size w) (Obj.cells #[.int .i64 kind, .int .i64 id, .string key, .string val, .int .i64 stage, .slice a n cap, .int .i64 torn] 35) (Nat.le_refl _)) (Obj.cells #[.int .i64 kind, .int .i64 id, .string key, .string val, .int .i64 stage, .slice a2 n cap2, .int .i64 torn] 35) (by simp)
  rw [World.size_alloc] at hs2
  obtain ⟨w2, hw2⟩ : ∃ w2, w2 = (w.alloc (Obj.cells #[.int .i64 kind, .int .i64 id, .string key, .string val, .int .i64 stage, .slice a n cap, .int .i64 torn] 35)).alloc (Obj.cells #[.int .i64 kind, .int .i64 id, .string key, .string val, .int .i64 stage, .slice a2 n cap2, .int .i64 torn] 35) := ⟨_, rfl⟩
  have HB2 : Hid (Below w.heap.size w w2) := hide (by rw [hw2]; exact ((Below.refl w.heap.size w).alloc (Nat.le_refl _) _).alloc (by simp) _)
  rw [← hw2] at hs2
  have HS2 := hide hs2
  have HE := hide hw2
  clear hs2 hw2
  go_enter Tryd.func27, Tryd.ntmps27
  go_wp2_with fail
  rw [← HE.out]
  clear HE
  refine (HEq.out _ HB2.out).mono ?_
  rintro e w3 ⟨rfl, hb⟩
  have hs3 := sep_below HS2.out hb
  have e6 := (cell_at (sep_get hs3 1 rfl : w3.heap[w.heap.size]? = some (Obj.cells #[.int .i64 kind, .int .i64 id, .string key, .string val, .int .i64 stage, .slice a n cap, .int .i64 torn] 35)) 6).1
  have f6 := (cell_at (sep_get hs3 0 rfl : w3.heap[w.heap.size + 1]? = some (Obj.cells #[.int .i64 kind, .int .i64 id, .string key, .string val, .int .i64 stage, .slice a2 n cap2, .int .i64 torn] 35)) 6).1
  have HB3 : Hid (Below w.heap.size w w3) := hide (HB2.out.trans (hb.mono HB2.out.size))
  clear hs3 hb HS2 HB2
  go_wp2_with fail
  go_ret
  exact ⟨rfl, HB3.out⟩
open Go.RowKit
attribute [local go_sem ↓] Go.wp_at_zero Go.wp_at_succ
def markL (k : Nat) : List UInt8 := 109 :: decF 20 k
set_option maxHeartbeats 1000000 in
set_option maxRecDepth 100000 in
theorem markText_any (n : Nat) (h0 : 0 < n) (h1 : n ≤ 9223372036854775807) (w : World) :
    Calls Tryd.prog 28 #[.int .i64 (n : Int)] w fun e w' => e = .returned (strV (markL n)) ∧ Below w.heap.size w w' := by
  have hnn : decide ((n : Int) ≤ 0) = false := by simp; omega
  go_enter Tryd.func28, Tryd.ntmps28
  go_wp2
  go_loopg [0, 3] 20 (fun g nv sv wr => ∃ (m : Nat) (t : ByteArray), nv = .int .i64 (m : Int) ∧ sv = .string t ∧ m ≤ 9223372036854775807 ∧ t.size ≤ 20 - g ∧ g ≤ 20 ∧ Hid (m < 10 ^ g) ∧ Hid (∃ L : List UInt8, t = ⟨L.toArray⟩ ∧ decF g m ++ L = decF 20 n) ∧ Below w.heap.size w wr)
  case atStart => exact ⟨n, ⟨#[]⟩, rfl, rfl, h1, Nat.le_refl 0, by omega, hide (pow20 n (by omega)), hide ⟨[], rfl, by simp⟩, Below.refl _ _⟩
  case round =>
    obtain ⟨m, t, rfl, rfl, hm, hts, hg20, HF, HL, hb⟩ := hrel
    have hB := hb.size
    by_cases hz : m = 0
    · have HE : Hid ((⟨#[109]⟩ ++ t : ByteArray) = ⟨(markL n).toArray⟩) := hide (by
        obtain ⟨L, hL, hd⟩ := HL.out
        rw [hz, decF_zero, List.nil_append] at hd
        rw [hL, hd, str_cons]; rfl)
      have hmz : ¬ 0 < m := by omega
      clear hz
      go_wp2
      go_ret
      refine ⟨?_, hb⟩
      rw [strV, ← HE.out]; rfl
    · have hmz : 0 < m := by omega
      obtain ⟨q, hq, hf', hdec⟩ := decF_step gk m hz HF.out
      obtain ⟨f, hf⟩ : ∃ f, f = 48 + m % 10 := ⟨_, rfl⟩
      have hf256 : f < 256 := by omega
      have hfi : (48 : Int) + (m : Int) % 10 = (f : Int) := by omega
      have hso := string_one wr f hf256
      have HQ := hide hq
      have HF' := hide hf'
      have HD : Hid (∃ L : List UInt8, (⟨#[UInt8.ofNat f]⟩ ++ t : ByteArray) = ⟨L.toArray⟩ ∧ decF q (m / 10) ++ L = decF 20 n) := hide (by
        obtain ⟨L, hL, hd⟩ := HL.out
        refine ⟨UInt8.ofNat f :: L, by rw [hL, str_cons], ?_⟩
        rw [← hd, hdec, hf, List.append_assoc]; rfl)
      have hg1 : 1 ≤ gk := by omega
      clear hq hf' hdec hf hz
      go_wp2
      go_roundg q
      case measure => have := HQ.out; omega
      case rel => exact ⟨m / 10, ⟨#[UInt8.ofNat f]⟩ ++ t, by go_num, rfl, by omega, by have := HQ.out; have h1 : (⟨#[UInt8.ofNat f]⟩ : ByteArray).size = 1 := rfl; rw [ByteArray.size_append, h1]; omega, by have := HQ.out; omega, HF', HD, hb.alloc hB _⟩
end Go.Proofs.YtmmepgincbngeaaDoor
