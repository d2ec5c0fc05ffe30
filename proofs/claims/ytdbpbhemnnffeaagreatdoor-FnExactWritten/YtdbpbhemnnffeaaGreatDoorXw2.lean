/-
  Facts and contracts that the law's own text rests on, by their texts' names: Plain2, Plain3, Frame, IntRow, Node, FreeRow.
-/
import Derived.Test.YtdbpbhemnnffeaaGreatDoorXw1
import Derived.Deep.LoopGhost
import Derived.Laws.Concat
import Derived.WalkSmall
import Derived.WalkSpells
namespace Go.Proofs.YtdbpbhemnnffeaaGreatDoor
open Go.RowKit
def byt (s : ByteArray) (i : Nat) : Nat := if h : i < s.size then s[i].toNat else 0
theorem byt_lt (s : ByteArray) (i : Nat) : byt s i < 256 := by
  unfold byt
  split
  · exact UInt8.toNat_lt _
  · omega
theorem byt_eq (s : ByteArray) (i : Nat) (h : i < s.size) : s[i].toNat = byt s i := by simp [byt, h]
def accN (b : Nat → Nat) : Nat → Nat
  | 0 => 0
  | j + 1 => accN b j + b j % 128 * 128 ^ j
theorem accN_lt (b : Nat → Nat) (j : Nat) : accN b j < 128 ^ j := by
  induction j with
  | zero => simp [accN]
  | succ j ih =>
    have h1 : b j % 128 * 128 ^ j ≤ 127 * 128 ^ j := Nat.mul_le_mul_right _ (by omega)
    simp only [accN, Nat.pow_succ]
    omega
theorem accN_shift (b : Nat → Nat) (j : Nat) : accN b (j + 1) = b 0 % 128 + 128 * accN (fun i => b (i + 1)) j := by
  induction j with
  | zero => simp [accN]
  | succ j ih =>
    rw [accN, ih]
    simp only [accN, Nat.mul_add, Nat.pow_succ]
    have : b (j + 1) % 128 * (128 ^ j * 128) = 128 * (b (j + 1) % 128 * 128 ^ j) := by
      rw [← Nat.mul_assoc, Nat.mul_comm]
    omega
def rvGo (b : Nat → Nat) (len : Nat) : Nat → Nat → Option (Nat × Nat)
  | 0, _ => none
  | f + 1, j => if j < len then (if b j < 128 then (if accN b (j + 1) ≤ 1000000000 ∧ (b j ≠ 0 ∨ j = 0) then some (accN b (j + 1), j + 1) else none) else rvGo b len f (j + 1)) else none
def bytesTo (b : Nat → Nat) : Nat → List UInt8
  | 0 => []
  | j + 1 => UInt8.ofNat (b 0) :: bytesTo (fun i => b (i + 1)) j
theorem bytesTo_length (b : Nat → Nat) (j : Nat) : (bytesTo b j).length = j := by
  induction j generalizing b with
  | zero => rfl
  | succ j ih => simp [bytesTo, ih]
theorem bytesTo_snoc (b : Nat → Nat) (j : Nat) : bytesTo b (j + 1) = bytesTo b j ++ [UInt8.ofNat (b j)] := by
  induction j generalizing b with
  | zero => rfl
  | succ j ih => rw [bytesTo, ih]; rfl
theorem accN_pos (b : Nat → Nat) (j : Nat) (hl : b j < 128) (h : b j ≠ 0) : 1 ≤ accN b (j + 1) := by
  have : 1 ≤ b j % 128 * 128 ^ j := Nat.mul_pos (by omega) (Nat.pow_pos (by omega))
  simp only [accN]
  omega
theorem venc_bytes (f j : Nat) (b : Nat → Nat) (hjf : j ≤ f) (hb : ∀ i, b i < 256) (hi : ∀ i, i < j → 128 ≤ b i) (hl : b j < 128) (h : b j ≠ 0 ∨ j = 0) :
    venc f (accN b (j + 1)) = bytesTo b (j + 1) := by
  induction j generalizing b f with
  | zero =>
    have e : accN b (0 + 1) = b 0 := by simp [accN]; omega
    rw [e, venc_last _ _ hl]; rfl
  | succ j ih =>
    cases f with
    | zero => omega
    | succ f =>
      have hp := accN_pos (fun i => b (i + 1)) j hl (by omega)
      have h0 := hi 0 (by omega)
      have hb0 := hb 0
      rw [accN_shift, venc, if_neg (by omega)]
      have e1 : (b 0 % 128 + 128 * accN (fun i => b (i + 1)) (j + 1)) % 128 + 128 = b 0 := by omega
      have e2 : (b 0 % 128 + 128 * accN (fun i => b (i + 1)) (j + 1)) / 128 = accN (fun i => b (i + 1)) (j + 1) := by omega
      rw [e1, e2, ih f (fun i => b (i + 1)) (by omega) (fun i => hb _) (fun i h => hi _ (by omega)) hl (by omega)]
      rfl
theorem venc_short (f n j : Nat) (hj : 1 ≤ j) (h : n < 128 ^ j) : (venc f n).length ≤ j := by
  induction j generalizing f n with
  | zero => omega
  | succ j ih =>
    cases f with
    | zero => simp [venc]
    | succ f =>
      unfold venc
      split
      · simp
      · rename_i hn
        have hq : n / 128 < 128 ^ j := by
          rw [Nat.pow_succ] at h
          exact Nat.div_lt_of_lt_mul (by rw [Nat.mul_comm]; exact h)
        have hj1 : 1 ≤ j := by
          cases j with
          | zero => simp at hq; omega
          | succ j => omega
        have := ih f (n / 128) hj1 hq
        simp; omega
theorem vtext_iff (j : Nat) (b : Nat → Nat) (hj : j ≤ 4) (hb : ∀ i, b i < 256) (hi : ∀ i, i < j → 128 ≤ b i) (hl : b j < 128) :
    vtext (accN b (j + 1)) = bytesTo b (j + 1) ↔ (b j ≠ 0 ∨ j = 0) := by
  constructor
  · intro e
    by_cases h : b j ≠ 0 ∨ j = 0
    · exact h
    · exfalso
      have h0 : b j = 0 := by omega
      have hj1 : 1 ≤ j := by omega
      have e1 : accN b (j + 1) = accN b j := by simp [accN, h0]
      have h2 := venc_short 4 (accN b (j + 1)) j hj1 (by rw [e1]; exact accN_lt b j)
      have h3 := congrArg List.length e
      rw [bytesTo_length] at h3
      unfold vtext at h3
      omega
  · exact venc_bytes 4 j b hj hb hi hl
theorem pow_7 (j : Nat) : (2 : Int) ^ (7 * j) = ((128 ^ j : Nat) : Int) := by
  rw [Int.pow_mul]; norm_cast
theorem digit_le (y j : Nat) (hj : j < 5) : y % 128 * 128 ^ j ≤ 34091302912 := by
  have h1 : 128 ^ j ≤ 128 ^ 4 := Nat.pow_le_pow_right (by omega) (by omega)
  have h2 : y % 128 * 128 ^ j ≤ 127 * 128 ^ 4 := Nat.mul_le_mul (by omega) h1
  simpa using h2
theorem rvGo_next (b : Nat → Nat) (len j : Nat) (hj : j < 5) (hl : j < len) (h : 128 ≤ b j) : rvGo b len (5 - (j + 1)) (j + 1) = rvGo b len (5 - j) j := by
  have e : 5 - j = (5 - (j + 1)) + 1 := by omega
  rw [e, rvGo, if_pos hl, if_neg (by omega)]
theorem rvGo_end (b : Nat → Nat) (len j : Nat) (h : j = 5 ∨ len ≤ j) : rvGo b len (5 - j) j = none := by
  cases e : 5 - j with
  | zero => rfl
  | succ f => rw [rvGo, if_neg (by omega)]
theorem rvGo_hit (b : Nat → Nat) (len j : Nat) (hj : j < 5) (hl : j < len) (h : b j < 128) (h1 : accN b (j + 1) ≤ 1000000000) (h2 : b j ≠ 0 ∨ j = 0) : rvGo b len (5 - j) j = some (accN b (j + 1), j + 1) := by
  have e : 5 - j = (5 - (j + 1)) + 1 := by omega
  rw [e, rvGo, if_pos hl, if_pos h, if_pos ⟨h1, h2⟩]
theorem rvGo_miss (b : Nat → Nat) (len j : Nat) (hj : j < 5) (hl : j < len) (h : b j < 128) (h1 : ¬ (accN b (j + 1) ≤ 1000000000 ∧ (b j ≠ 0 ∨ j = 0))) : rvGo b len (5 - j) j = none := by
  have e : 5 - j = (5 - (j + 1)) + 1 := by omega
  rw [e, rvGo, if_pos hl, if_pos h, if_neg h1]
theorem pow_le5 (j : Nat) (hj : j ≤ 5) : 128 ^ j ≤ 34359738368 := by
  have h1 : 128 ^ j ≤ 128 ^ 5 := Nat.pow_le_pow_right (by omega) (by omega)
  simpa using h1
theorem wrap64_small (n : Int) (h0 : 0 ≤ n) (h1 : n ≤ 9223372036854775807) : wrap64 n = n := IntWalk.wrap64_in n ⟨by omega, by omega⟩
theorem digit_wrap2 (y j X Z : Nat) (hj : j < 5) (h : X = y % 128 * 128 ^ j) (hZ : Z = 128 ^ j) : wrap64 ((y : Int) % 128 * (Z : Int)) = (X : Int) := by
  have e : ((y : Int) % 128 * (Z : Int)) = (X : Int) := by
    rw [hZ, h]; norm_cast
  have := digit_le y j hj
  rw [e, wrap64_small _ (by omega) (by omega)]
theorem digit_wrap (y j X : Nat) (hj : j < 5) (h : X = y % 128 * 128 ^ j) : wrap64 ((y : Int) % 128 * 2 ^ (7 * j)) = (X : Int) := by
  have e : ((y : Int) % 128 * 2 ^ (7 * j)) = (X : Int) := by
    rw [pow_7, h]; norm_cast
  have := digit_le y j hj
  rw [e, wrap64_small _ (by omega) (by omega)]
theorem extract_bytes (s : ByteArray) (p n : Nat) (h : p + n ≤ s.size) : (s.extract p (p + n)).data.toList = bytesTo (fun i => byt s (p + i)) n := by
  induction n with
  | zero => simp [bytesTo]
  | succ n ih =>
    rw [bytesTo_snoc, ← ih (by omega)]
    have hsz : s.data.toList.length = s.size := by rw [Array.length_toList]; rfl
    have h1 : p + n < s.data.toList.length := by omega
    rw [ByteArray.data_extract, ByteArray.data_extract, Array.toList_extract, Array.toList_extract]
    have e : s.data.toList[p + n] = UInt8.ofNat (byt s (p + n)) := by
      rw [← byt_eq s (p + n) (by omega)]
      simp
      rfl
    simp only [List.extract_eq_take_drop]
    have e2 : p + (n + 1) - p = n + 1 := by omega
    have e3 : p + n - p = n := by omega
    rw [e2, e3, List.take_succ_eq_append_getElem (by rw [List.length_drop]; omega)]
    congr 1
    simp [← e]
open Go.RowKit
theorem take_byt (s : ByteArray) (k : Nat) (h : k < s.size) : s.data.toList.take (k + 1) = s.data.toList.take k ++ [UInt8.ofNat (byt s k)] := by
  have hl : k < s.data.toList.length := by rw [Array.length_toList]; exact h
  rw [List.take_succ_eq_append_getElem hl]
  congr 2
  rw [← byt_eq s k h]
  simp
  rfl
open Go.RowKit
def Kept (w w' : World) (S : Nat → Prop) : Prop := w'.os = w.os ∧ w'.tape = w.tape ∧ w'.output = w.output ∧ w.heap.size ≤ w'.heap.size ∧ ∀ k, k < w.heap.size → ¬ S k → w'.heap[k]? = w.heap[k]?
theorem kept_trans {a b c : World} {S T : Nat → Prop} (h : Kept a b S) (k : Kept b c T) (hT : ∀ j, j < a.heap.size → T j → S j) : Kept a c S :=
  ⟨k.1.trans h.1, k.2.1.trans h.2.1, k.2.2.1.trans h.2.2.1, Nat.le_trans h.2.2.2.1 k.2.2.2.1, fun j hj hn => (k.2.2.2.2 j (Nat.lt_of_lt_of_le hj h.2.2.2.1) (fun t => hn (hT j hj t))).trans (h.2.2.2.2 j hj hn)⟩
theorem kept_mono {a b : World} {S T : Nat → Prop} (h : Kept a b S) (hT : ∀ j, j < a.heap.size → S j → T j) : Kept a b T :=
  ⟨h.1, h.2.1, h.2.2.1, h.2.2.2.1, fun j hj hn => h.2.2.2.2 j hj (fun s => hn (hT j hj s))⟩
theorem kept_of_all {a b : World} (h : Below a.heap.size a b) (S : Nat → Prop) : Kept a b S := ⟨h.os, h.tape, h.output, h.size, fun k hk _ => h.block k hk⟩
theorem below_of_kept {B : Nat} {a b : World} {S : Nat → Prop} (h : Kept a b S) (hB : B ≤ a.heap.size) (hS : ∀ k, S k → B ≤ k) : Below B a b :=
  ⟨h.1, h.2.1, h.2.2.1, h.2.2.2.1, fun k hk => h.2.2.2.2 k (by omega) (fun s => by have := hS k s; omega)⟩
theorem kept_setCell (w : World) (g j : Nat) (u : Value) : Kept w (w.setCell ⟨g, j, none⟩ u) (fun k => k = g) :=
  ⟨rfl, rfl, rfl, by simp, fun k _ hn => heap_setCell_other w ⟨g, j, none⟩ k u hn⟩
theorem own_kept {w w' : World} {B e sz n : Nat} {v : Value} {xs : List Value} {S : Nat → Prop} (h : w.ownsRow B e sz v n xs) (hk : Kept w w' S) (hS : ∀ k, v.ownBlock = some k → ¬ S k) : w'.ownsRow B e sz v n xs := by
  refine ⟨h.1, ?_⟩
  rcases h.2 with ⟨rfl, hn⟩ | ⟨g, cap, cur, rfl, hg, hh, rest⟩
  · exact Or.inl ⟨rfl, hn⟩
  · have hlt : g < w.heap.size := (h.lt g rfl).2
    exact Or.inr ⟨g, cap, cur, rfl, hg, (hk.2.2.2.2 g hlt (hS g rfl)).trans hh, rest⟩
theorem row_kept {w w' : World} {sz n : Nat} {v : Value} {xs : List Value} {S : Nat → Prop} (h : RowAt w sz v n xs) (hk : Kept w w' S) (hS : n = 0 ∨ ∀ k, k < w.heap.size → v.ownBlock = some k → ¬ S k) : RowAt w' sz v n xs := by
  obtain ⟨hl, a, cap, rfl, h2⟩ := h
  refine ⟨hl, a, cap, rfl, ?_⟩
  rcases h2 with h0 | ⟨b, off, rfl, hlt, hc⟩
  · exact Or.inl h0
  · rcases hS with h0 | hS
    · exact Or.inl h0
    · refine Or.inr ⟨b, off, rfl, Nat.lt_of_lt_of_le hlt hk.2.2.2.1, fun j hj => ?_⟩
      rw [World.cell?_of_block (hk.2.2.2.2 b hlt (hS b hlt rfl))]
      exact hc j hj
theorem heap_push (w : World) (o : Obj) (k : Nat) : (w.alloc o).heap[k]? = if k = w.heap.size then some o else w.heap[k]? := by
  show (w.heap.push o)[k]? = _
  rw [Array.getElem?_push]
theorem three_allocs (w : World) (a b c : Obj) : (((w.alloc a).alloc b).alloc c).heap[w.heap.size]? = some a ∧ (((w.alloc a).alloc b).alloc c).heap[w.heap.size + 1]? = some b ∧ (((w.alloc a).alloc b).alloc c).heap[w.heap.size + 1 + 1]? = some c ∧ (((w.alloc a).alloc b).alloc c).heap.size = w.heap.size + 3 := by
  refine ⟨?_, ?_, ?_, by simp⟩
  · rw [heap_push, heap_push, heap_push]; simp; omega
  · rw [heap_push, heap_push]; simp
  · rw [heap_push]; simp
theorem two_allocs (w : World) (a b : Obj) : ((w.alloc a).alloc b).heap[w.heap.size]? = some a ∧ ((w.alloc a).alloc b).heap[w.heap.size + 1]? = some b ∧ ((w.alloc a).alloc b).heap.size = w.heap.size + 2 := by
  refine ⟨?_, ?_, by simp⟩
  · rw [heap_push, heap_push]; simp
  · rw [heap_push]; simp
theorem cell_at {w : World} {g : Nat} {cs : Array Value} {t : TypeId} (h : w.heap[g]? = some (.cells cs t (0, 0))) (j : Nat) : w.cell? ⟨g, j, none⟩ = cs[j]? ∧ w.frozen? ⟨g, j, none⟩ = false :=
  ⟨cell_of_row w g j cs t (0, 0) h, frozen_of_row w g j cs t h⟩
open Go.RowKit
def ints (l : List Int) : List Value := l.map (Value.int .i64)
theorem ints_length (l : List Int) : (ints l).length = l.length := by simp [ints]
theorem ints_at (l : List Int) (k : Nat) (h : k < l.length) : (ints l)[k]? = some (.int .i64 l[k]) := by simp [ints, h]
theorem Tryz.infoIntR : (Tryz.prog.info? 3).map (fun i => (i.zero, i.size, i.bytes)) = some (some (.int .i64 0), 1, 8) := by kernel_rfl
theorem ints_made (n : Nat) : (madeCells #[Value.int .i64 0] n).toList = ints (List.replicate n 0) := by simp [toList_madeCells_one, ints]
theorem ints_set (l : List Int) (k : Nat) (x : Int) : (ints l).set k (.int .i64 x) = ints (l.set k x) := by rw [ints, ints, List.map_set]
set_option maxHeartbeats 400000 in
theorem szIntS_any (a : Option Addr) (n cap : Nat) (hn : n ≤ maxLen) (left : Nat) (hleft : left ≤ 1048576) (w : World) :
    Calls Tryz.prog 18 #[.slice a n cap, .int .i64 (left : Int)] w fun e w' => e = .returned (.int .i64 (szOut left n)) ∧ w = w' := by
  unfold maxLen at hn
  by_cases h : n ≤ left
  · rw [szOut_yes h, show ((left - n : Nat) : Int) = (left : Int) - (n : Int) from by omega]
    have d1 : decide ((left : Int) - (n : Int) < 0) = false := by simp; omega
    go_enter Tryz.func18, Tryz.ntmps18
    go_wp2
    go_ret
    exact ⟨rfl, rfl⟩
  · rw [szOut_no (by omega)]
    have d1 : decide ((left : Int) - (n : Int) < 0) = true := by simp; omega
    go_enter Tryz.func18, Tryz.ntmps18
    go_wp2
    go_ret
    exact ⟨rfl, rfl⟩
set_option maxHeartbeats 1000000 in
set_option maxRecDepth 100000 in
theorem toIntS_any (l : List Int) (hl : l.length ≤ 1048576) (v : Value) (w : World) (hr : RowAt w 1 v l.length (ints l)) :
    Calls Tryz.prog 25 #[v] w fun e w' => ∃ v', e = .returned v' ∧ w'.ownsRow w.heap.size 3 1 v' l.length (ints l) ∧ Below w.heap.size w w' := by
  obtain ⟨i0, hi, hz0, hz1, hz2⟩ := info_parts Tryz.infoIntR
  obtain ⟨-, a, cap, rfl, h2⟩ := hr
  have HR := hide h2
  clear h2
  go_enter Tryz.func25, Tryz.ntmps25
  go_wp2_with (at_make; refine wpList_make_full _ rfl _ _ 30 rfl w.heap.size 3 i0 (.int .i64 0) 1 Tryz.underlying30 hi hz0 hz1 .i64 .i64 _ _ l.length rfl rfl rfl rfl (by rw [hz2]; omega) (by unfold maxLen; omega) (Nat.le_refl _) ?_)
  intro w1 hown1 hg1
  have hb1 : Below w.heap.size w w1 := (Below.refl _ _).grown hg1 (Nat.le_refl _) (fun k hk => by cases hk)
  have hown2 : w1.ownsRow w.heap.size 3 1 (.slice (some ⟨w.heap.size, 0, none⟩) l.length l.length) l.length (ints (List.replicate l.length 0)) := own_n hown1 rfl (ints_made _)
  clear hg1 hown1
  go_wp2
  go_loopg [4] l.length (fun q iv wr => ∃ (k : Nat) (m : List Int), k ≤ l.length ∧ iv = .int .i64 (k : Int) ∧ q + k = l.length ∧ wr.ownsRow w.heap.size 3 1 (.slice (some ⟨w.heap.size, 0, none⟩) l.length l.length) l.length (ints m) ∧ Hid (m.length = l.length ∧ m.take k = l.take k) ∧ Below w.heap.size w wr)
  case atStart => exact ⟨0, _, Nat.zero_le _, rfl, rfl, hown2, hide ⟨by simp, by simp⟩, hb1⟩
  case round =>
    obtain ⟨k, m, hk, rfl, hg, hown, HM, hb⟩ := hrel
    have HG := hide hg
    clear hg hown2 hb1
    by_cases hlt : k < l.length
    · rcases HR.out with hn0 | ⟨b, off, rfl, hbl, hc⟩
      · omega
      · obtain ⟨x, hx⟩ : ∃ x, x = l[k] := ⟨_, rfl⟩
        have hcx : wr.cell? ⟨b, off + k, none⟩ = some (.int .i64 x) := by rw [hb.cell (by exact hbl), hc k (by omega), ints_at l k hlt, hx]
        obtain ⟨u, hu⟩ : ∃ u, (ints m)[k]? = some u := ⟨_, List.getElem?_eq_getElem (by rw [ints_length, HM.out.1]; exact hlt)⟩
        have hcell : wr.cell? ⟨w.heap.size, k, none⟩ = some u := by rw [hown.cellAt k (by omega), hu]
        have hfz : wr.frozen? ⟨w.heap.size, k, none⟩ = false := hown.frozenAt k
        have HO := hide ((hown.stored k (.int .i64 x)).1)
        rw [ints_set m k x] at HO
        have HM2 : Hid ((m.set k x).length = l.length ∧ (m.set k x).take (k + 1) = l.take (k + 1)) := hide (by
          refine ⟨by rw [List.length_set]; exact HM.out.1, ?_⟩
          have hkm : k < m.length := by rw [HM.out.1]; exact hlt
          rw [List.take_succ_eq_append_getElem (by rw [List.length_set]; exact hkm), List.take_succ_eq_append_getElem hlt, List.getElem_set_self, List.take_set_of_le (by omega), HM.out.2, hx])
        have hk0 : (0 : Int) ≤ (k : Int) := by omega
        have hk1 : (k : Int) < (l.length : Int) := by omega
        clear hu hown hx hc
        go_wp2
        go_roundg (gk - 1)
        case measure => have := HG.out; omega
        case rel => exact ⟨k + 1, m.set k x, by omega, by go_num, by have := HG.out; omega, HO.out, HM2, hb.setCell (Nat.le_refl _) _⟩
    · have hml : m = l := by
        have h1 := HM.out.2
        rw [List.take_of_length_le (by rw [HM.out.1]; omega), List.take_of_length_le (by omega)] at h1
        exact h1
      subst hml
      go_wp2
      go_ret
      exact ⟨_, rfl, hown, hb⟩
set_option maxHeartbeats 1000000 in
set_option maxRecDepth 100000 in
theorem eqIntS_row (l m : List Int) (hl : l.length ≤ 9223372036854775807) (_hm : m.length ≤ 9223372036854775807) (v u : Value) (w : World) (hr : RowAt w 1 v l.length (ints l)) (hq : RowAt w 1 u m.length (ints m)) :
    Calls Tryz.prog 31 #[v, u] w fun e w' => e = .returned (.bool (decide (l = m))) ∧ Below w.heap.size w w' := by
  obtain ⟨-, a, cap, rfl, h2⟩ := hr
  obtain ⟨-, a', cap', rfl, h3⟩ := hq
  have HR := hide h2
  have HQ := hide h3
  clear h2 h3
  by_cases hne : l.length = m.length
  · have HN := hide hne
    rw [← hne]
    clear hne
    go_enter Tryz.func31, Tryz.ntmps31
    go_wp2
    go_loopg [5] l.length (fun q iv wr => ∃ k : Nat, k ≤ l.length ∧ iv = .int .i64 (k : Int) ∧ q + k = l.length ∧ Hid (l.take k = m.take k) ∧ Below w.heap.size w wr)
    case atStart => exact ⟨0, Nat.zero_le _, rfl, rfl, hide (by simp), Below.refl _ _⟩
    case round =>
      obtain ⟨k, hk, rfl, hg, HT, hb⟩ := hrel
      have HG := hide hg
      clear hg
      by_cases hlt : k < l.length
      · rcases HR.out with hn0 | ⟨b, off, rfl, hbl, hc⟩
        · omega
        · rcases HQ.out with hn0 | ⟨b', off', rfl, hbl', hc'⟩
          · have := HN.out; omega
          · have hltm : k < m.length := by have := HN.out; omega
            obtain ⟨x, hx⟩ : ∃ x, x = l[k] := ⟨_, rfl⟩
            obtain ⟨y, hy⟩ : ∃ y, y = m[k] := ⟨_, rfl⟩
            have hcx : wr.cell? ⟨b, off + k, none⟩ = some (.int .i64 x) := by rw [hb.cell (by exact hbl), hc k (by omega), ints_at l k hlt, hx]
            have hcy : wr.cell? ⟨b', off' + k, none⟩ = some (.int .i64 y) := by rw [hb.cell (by exact hbl'), hc' k (by omega), ints_at m k hltm, hy]
            have HX := hide hx
            have HY := hide hy
            have hk0 : (0 : Int) ≤ (k : Int) := by omega
            have hk1 : (k : Int) < (l.length : Int) := by omega
            clear hc hc' hx hy
            by_cases hxy : x = y
            · have HT2 : Hid (l.take (k + 1) = m.take (k + 1)) := hide (by rw [List.take_succ_eq_append_getElem hlt, List.take_succ_eq_append_getElem hltm, HT.out, ← HX.out, ← HY.out, hxy])
              subst hxy
              have hbq : (x != x) = false := by simp
              go_wp2
              go_quiet (fail)
              go_wp2
              go_roundg (gk - 1)
              case measure => have := HG.out; omega
              case rel => exact ⟨k + 1, by omega, by go_num, by have := HG.out; omega, HT2, below_drewN hb _⟩
            · have HD := hide (list_ne hlt hltm (by rw [← HX.out, ← HY.out]; exact hxy))
              have hbq : (x != y) = true := by simp [hxy]
              have hbr : (x == y) = false := by simp [hxy]
              go_wp2
              go_quiet (fail)
              go_wp2
              go_ret
              rw [HD.out]
              exact ⟨rfl, below_drewN hb _⟩
      · have HD : Hid (decide (l = m) = true) := hide (decide_eq_true (by
          have h1 := HT.out
          rw [List.take_of_length_le (by omega), List.take_of_length_le (by have := HN.out; omega)] at h1
          exact h1))
        go_wp2
        go_ret
        rw [HD.out]
        exact ⟨rfl, hb⟩
  · have HD : Hid (decide (l = m) = false) := hide (decide_eq_false (fun e => hne (by rw [e])))
    have hq1 : ¬ ((l.length : Int) = (m.length : Int)) := by omega
    clear hne
    go_enter Tryz.func31, Tryz.ntmps31
    go_wp2
    go_ret
    rw [HD.out]
    exact ⟨rfl, Below.refl _ _⟩
open Go.RowKit
def NodeAt (w : World) (v : Value) (lf : Bool) (ks vs : List ByteArray) (cs : List Int) : Prop :=
  ∃ vk vv vc, v = .agg #[.bool lf, vk, vv, vc] ∧ RowAt w 1 vk ks.length (strs ks) ∧ RowAt w 1 vv vs.length (strs vs) ∧ RowAt w 1 vc cs.length (ints cs)
def NodeOwn (w : World) (B : Nat) (v : Value) (lf : Bool) (ks vs : List ByteArray) (cs : List Int) : Prop :=
  ∃ vk vv vc, v = .agg #[.bool lf, vk, vv, vc] ∧ w.ownsRow B 9 1 vk ks.length (strs ks) ∧ w.ownsRow B 9 1 vv vs.length (strs vs) ∧ w.ownsRow B 3 1 vc cs.length (ints cs) ∧ ∀ k, vk.ownBlock = some k → vv.ownBlock ≠ some k
theorem node_of_own {w : World} {B : Nat} {v : Value} {lf : Bool} {ks vs : List ByteArray} {cs : List Int} (h : NodeOwn w B v lf ks vs cs) : NodeAt w v lf ks vs cs := by
  obtain ⟨vk, vv, vc, e, h1, h2, h3, -⟩ := h
  exact ⟨vk, vv, vc, e, row_of_own h1, row_of_own h2, row_of_own h3⟩
theorem node_below {w w' : World} {v : Value} {lf : Bool} {ks vs : List ByteArray} {cs : List Int} (h : NodeAt w v lf ks vs cs) (hb : Below w.heap.size w w') : NodeAt w' v lf ks vs cs := by
  obtain ⟨vk, vv, vc, e, h1, h2, h3⟩ := h
  exact ⟨vk, vv, vc, e, row_below h1 hb, row_below h2 hb, row_below h3 hb⟩
theorem nodeOwn_below {w w' : World} {B : Nat} {v : Value} {lf : Bool} {ks vs : List ByteArray} {cs : List Int} (h : NodeOwn w B v lf ks vs cs) (hb : Below w.heap.size w w') : NodeOwn w' B v lf ks vs cs := by
  obtain ⟨vk, vv, vc, e, h1, h2, h3, h4⟩ := h
  exact ⟨vk, vv, vc, e, own_stays h1 hb, own_stays h2 hb, own_stays h3 hb, h4⟩
theorem own_slice {w : World} {B e sz n : Nat} {v : Value} {xs : List Value} (h : w.ownsRow B e sz v n xs) : ∃ a cap, v = .slice a n cap := by
  obtain ⟨-, a, cap, e, -⟩ := row_of_own h
  exact ⟨a, cap, e⟩
def nodeBlocks (v : Value) (k : Nat) : Prop := ∃ b vk vv vc, v = .agg #[b, vk, vv, vc] ∧ (vk.ownBlock = some k ∨ vv.ownBlock = some k ∨ vc.ownBlock = some k)
theorem agg4 {a b c d a' b' c' d' : Value} (h : Value.agg #[a, b, c, d] = .agg #[a', b', c', d']) : a = a' ∧ b = b' ∧ c = c' ∧ d = d' := by
  injection h with h
  have := congrArg Array.toList h
  simp at this
  exact this
theorem nodeOwn_lt {w : World} {B : Nat} {v : Value} {lf : Bool} {ks vs : List ByteArray} {cs : List Int} (h : NodeOwn w B v lf ks vs cs) : ∀ k, nodeBlocks v k → B ≤ k ∧ k < w.heap.size := by
  obtain ⟨vk, vv, vc, rfl, h1, h2, h3, -⟩ := h
  rintro k ⟨b, vk', vv', vc', e, hk⟩
  obtain ⟨-, rfl, rfl, rfl⟩ := agg4 e
  rcases hk with hk | hk | hk
  · exact h1.lt k hk
  · exact h2.lt k hk
  · exact h3.lt k hk
theorem nodeOwn_kept {w w' : World} {B : Nat} {v : Value} {lf : Bool} {ks vs : List ByteArray} {cs : List Int} {S : Nat → Prop} (h : NodeOwn w B v lf ks vs cs) (hk : Kept w w' S) (hS : ∀ k, nodeBlocks v k → ¬ S k) : NodeOwn w' B v lf ks vs cs := by
  obtain ⟨vk, vv, vc, rfl, h1, h2, h3, h4⟩ := h
  exact ⟨vk, vv, vc, rfl, own_kept h1 hk (fun k e => hS k ⟨_, vk, vv, vc, rfl, Or.inl e⟩), own_kept h2 hk (fun k e => hS k ⟨_, vk, vv, vc, rfl, Or.inr (Or.inl e)⟩), own_kept h3 hk (fun k e => hS k ⟨_, vk, vv, vc, rfl, Or.inr (Or.inr e)⟩), h4⟩
theorem one_type {w : World} {B B' e e' sz sz' n n' : Nat} {v v' : Value} {xs xs' : List Value} (h : w.ownsRow B e sz v n xs) (h' : w.ownsRow B' e' sz' v' n' xs') (hne : e ≠ e') (k : Nat) (h1 : v.ownBlock = some k) : v'.ownBlock ≠ some k := by
  intro h2
  rcases h.2 with ⟨rfl, -⟩ | ⟨g, cap, cur, rfl, -, hh, -⟩
  · cases h1
  · rcases h'.2 with ⟨rfl, -⟩ | ⟨g', cap', cur', rfl, -, hh', -⟩
    · cases h2
    · injection h1 with h1
      injection h2 with h2
      have h1 : g = k := h1
      have h2 : g' = k := h2
      subst h1
      subst h2
      rw [hh] at hh'
      injection hh' with hh'
      injection hh' with _ he _
      exact hne he
theorem Tryz.str_int : (9 : Nat) ≠ 3 := by decide
theorem blk_other {w : World} {g g' j : Nat} {u : Value} {o : Obj} (h : w.heap[g]? = some o) (hne : g ≠ g') : (w.setCell ⟨g', j, none⟩ u).heap[g]? = some o := (heap_setCell_other w ⟨g', j, none⟩ g u (by exact hne)).trans h
open Go.RowKit
def frs (l : List (Int × Value)) : List Value := l.flatMap fun p => [.int .i64 p.1, p.2]
theorem frs_cons (p : Int × Value) (l : List (Int × Value)) : frs (p :: l) = Value.int .i64 p.1 :: p.2 :: frs l := rfl
theorem frs_length (l : List (Int × Value)) : (frs l).length = l.length * 2 := by
  induction l with
  | nil => rfl
  | cons p l ih => rw [frs_cons, List.length_cons, List.length_cons, ih, List.length_cons]; omega
theorem frs_at (l : List (Int × Value)) : ∀ k p, l[k]? = some p → (frs l)[k * 2]? = some (.int .i64 p.1) ∧ (frs l)[k * 2 + 1]? = some p.2 := by
  induction l with
  | nil => intro k p h; simp at h
  | cons q l ih =>
    intro k p h
    rw [frs_cons]
    cases k with
    | zero => simp at h; subst h; exact ⟨rfl, rfl⟩
    | succ k =>
      have := ih k p (by simpa using h)
      rw [show (k + 1) * 2 = k * 2 + 1 + 1 from by omega]
      simpa using this
theorem frs_set (l : List (Int × Value)) : ∀ (k : Nat) (x : Int) (u : Value), k < l.length → ((frs l).set (k * 2) (.int .i64 x)).set (k * 2 + 1) u = frs (l.set k (x, u)) := by
  induction l with
  | nil => intro k p x h; simp at h
  | cons q l ih =>
    intro k x u h
    cases k with
    | zero => rfl
    | succ k =>
      have h2 := ih k x u (by simpa using h)
      rw [List.set_cons_succ, frs_cons, show (k + 1) * 2 = k * 2 + 1 + 1 from by omega, frs_cons, ← h2]
      rfl
theorem frs_made (n : Nat) : (madeCells #[Value.int .i64 0, .slice none 0 0] (n * 2)).toList = frs (List.replicate n (0, .slice none 0 0)) := by
  apply List.ext_getElem?
  intro i
  have hlen : (frs (List.replicate n ((0 : Int), Value.slice none 0 0))).length = n * 2 := by rw [frs_length, List.length_replicate]
  by_cases hi : i < n * 2
  · have h1 : (madeCells #[Value.int .i64 0, .slice none 0 0] (n * 2)).toList[i]? = some (#[Value.int .i64 0, .slice none 0 0][i % 2]!) := by
      simp [madeCells, hi]
    have h2 := frs_at (List.replicate n ((0 : Int), Value.slice none 0 0)) (i / 2) (0, .slice none 0 0) (by rw [List.getElem?_replicate, if_pos (by omega)])
    rw [h1]
    rcases Nat.mod_two_eq_zero_or_one i with h | h
    · rw [h, show i = i / 2 * 2 from by omega, h2.1]; simp
    · rw [h, show i = i / 2 * 2 + 1 from by omega, h2.2]; simp
  · rw [List.getElem?_eq_none (by simp [madeCells]; omega), List.getElem?_eq_none (by rw [hlen]; omega)]
def FreesAt (w : World) (v : Value) (fs : List (Int × List Int)) : Prop :=
  ∃ l : List (Int × Value), l.length = fs.length ∧ RowAt w 2 v fs.length (frs l) ∧ ∀ (k : Nat) (p : Int × Value) (f : Int × List Int), l[k]? = some p → fs[k]? = some f → p.1 = f.1 ∧ RowAt w 1 p.2 f.2.length (ints f.2)
theorem frees_below {w w' : World} {v : Value} {fs : List (Int × List Int)} (h : FreesAt w v fs) (hb : Below w.heap.size w w') : FreesAt w' v fs := by
  obtain ⟨l, h1, h2, h3⟩ := h
  exact ⟨l, h1, row_below h2 hb, fun k p f hp hf => ⟨(h3 k p f hp hf).1, row_below (h3 k p f hp hf).2 hb⟩⟩
theorem frees_slice {w : World} {v : Value} {fs : List (Int × List Int)} (h : FreesAt w v fs) : ∃ a cap, v = .slice a fs.length cap := by
  obtain ⟨l, h1, h2, h3⟩ := h
  obtain ⟨-, a, cap, e, -⟩ := h2
  exact ⟨a, cap, e⟩
theorem frees_at {w : World} {a : Option Addr} {n cap : Nat} {fs : List (Int × List Int)} (h : FreesAt w (.slice a n cap) fs) {k : Nat} {tx : Int} {ps : List Int} (hk : fs[k]? = some (tx, ps)) :
    ∃ b off x c, a = some ⟨b, off, none⟩ ∧ b < w.heap.size ∧ w.cell? ⟨b, off + k * 2, none⟩ = some (.int .i64 tx) ∧ w.cell? ⟨b, off + k * 2 + 1, none⟩ = some (.slice x ps.length c) ∧ RowAt w 1 (.slice x ps.length c) ps.length (ints ps) := by
  obtain ⟨l, h1, h2, h3⟩ := h
  have hlt : k < fs.length := (List.getElem?_eq_some_iff.1 hk).1
  obtain ⟨p, hp⟩ : ∃ p, l[k]? = some p := ⟨_, List.getElem?_eq_getElem (by omega)⟩
  obtain ⟨e1, e2⟩ := h3 k p _ hp hk
  obtain ⟨-, a', cap', e, hr⟩ := h2
  injection e with e _ _
  subst e
  rcases hr with h0 | ⟨b, off, rfl, hb, hc⟩
  · omega
  · obtain ⟨x, c, hx⟩ : ∃ x c, p.2 = .slice x ps.length c := by obtain ⟨-, x, c, e, -⟩ := e2; exact ⟨x, c, e⟩
    rw [hx] at e2
    refine ⟨b, off, x, c, rfl, hb, ?_, ?_, e2⟩
    · rw [hc (k * 2) (by omega), (frs_at l k p hp).1, e1]
    · rw [Nat.add_assoc, hc (k * 2 + 1) (by omega), (frs_at l k p hp).2, hx]
def OwnTo (w : World) (B : Nat) (m : List (Int × Value)) (fs : List (Int × List Int)) (k : Nat) : Prop :=
  m.length = fs.length ∧ (∀ (i : Nat) (p : Int × Value) (f : Int × List Int), i < k → m[i]? = some p → fs[i]? = some f → p.1 = f.1 ∧ w.ownsRow B 3 1 p.2 f.2.length (ints f.2)) ∧ ∀ (i j : Nat) (p q : Int × Value) (b : Nat), i < k → j < k → m[i]? = some p → m[j]? = some q → p.2.ownBlock = some b → q.2.ownBlock = some b → i = j
def OwnF (w : World) (B : Nat) (v : Value) (m : List (Int × Value)) (fs : List (Int × List Int)) : Prop := w.ownsRow B 149 2 v fs.length (frs m) ∧ OwnTo w B m fs fs.length
theorem ownTo_kept {w w' : World} {B k : Nat} {m : List (Int × Value)} {fs : List (Int × List Int)} {S : Nat → Prop} (h : OwnTo w B m fs k) (hk : Kept w w' S) (hS : ∀ (i : Nat) (p : Int × Value) (b : Nat), i < k → m[i]? = some p → p.2.ownBlock = some b → ¬ S b) : OwnTo w' B m fs k :=
  ⟨h.1, fun i p f hi hp hf => ⟨(h.2.1 i p f hi hp hf).1, own_kept (h.2.1 i p f hi hp hf).2 hk (fun b hb => hS i p b hi hp hb)⟩, h.2.2⟩
theorem ownTo_stays {w w' : World} {B k : Nat} {m : List (Int × Value)} {fs : List (Int × List Int)} (h : OwnTo w B m fs k) (hb : Below w.heap.size w w') : OwnTo w' B m fs k :=
  ⟨h.1, fun i p f hi hp hf => ⟨(h.2.1 i p f hi hp hf).1, own_stays (h.2.1 i p f hi hp hf).2 hb⟩, h.2.2⟩
theorem ownTo_down {w : World} {B B' k : Nat} {m : List (Int × Value)} {fs : List (Int × List Int)} (h : OwnTo w B m fs k) (hb : B' ≤ B) : OwnTo w B' m fs k :=
  ⟨h.1, fun i p f hi hp hf => ⟨(h.2.1 i p f hi hp hf).1, own_down (h.2.1 i p f hi hp hf).2 hb⟩, h.2.2⟩
theorem ownF_down {w : World} {B B' : Nat} {v : Value} {m : List (Int × Value)} {fs : List (Int × List Int)} (h : OwnF w B v m fs) (hb : B' ≤ B) : OwnF w B' v m fs := ⟨own_down h.1 hb, ownTo_down h.2 hb⟩
theorem frees_of_own {w : World} {B : Nat} {v : Value} {m : List (Int × Value)} {fs : List (Int × List Int)} (h : OwnF w B v m fs) : FreesAt w v fs :=
  ⟨m, h.2.1, row_of_own h.1, fun k p f hp hf => ⟨(h.2.2.1 k p f (List.getElem?_eq_some_iff.1 hf).1 hp hf).1, row_of_own (h.2.2.1 k p f (List.getElem?_eq_some_iff.1 hf).1 hp hf).2⟩⟩
theorem Tryz.free_int : (149 : Nat) ≠ 3 := by decide
def freeBlocks (v : Value) (m : List (Int × Value)) (b : Nat) : Prop := v.ownBlock = some b ∨ ∃ (i : Nat) (p : Int × Value), m[i]? = some p ∧ p.2.ownBlock = some b
theorem ownF_lt {w : World} {B : Nat} {v : Value} {m : List (Int × Value)} {fs : List (Int × List Int)} (h : OwnF w B v m fs) : ∀ b, freeBlocks v m b → B ≤ b ∧ b < w.heap.size := by
  rintro b (hb | ⟨i, p, hp, hb⟩)
  · exact h.1.lt b hb
  · have hi : i < fs.length := by have := (List.getElem?_eq_some_iff.1 hp).1; have := h.2.1; omega
    exact (h.2.2.1 i p _ hi hp (List.getElem?_eq_getElem hi)).2.lt b hb
theorem ownF_kept {w w' : World} {B : Nat} {v : Value} {m : List (Int × Value)} {fs : List (Int × List Int)} {S : Nat → Prop} (h : OwnF w B v m fs) (hk : Kept w w' S) (hS : ∀ b, freeBlocks v m b → ¬ S b) : OwnF w' B v m fs :=
  ⟨own_kept h.1 hk (fun b hb => hS b (Or.inl hb)), ownTo_kept h.2 hk (fun i p b _ hp hb => hS b (Or.inr ⟨i, p, hp, hb⟩))⟩
theorem ownTo_set {w : World} {B k : Nat} {m : List (Int × Value)} {fs : List (Int × List Int)} {tx : Int} {ps : List Int} {u : Value} (h : OwnTo w B m fs k) (hf : fs[k]? = some (tx, ps)) (hu : w.ownsRow B 3 1 u ps.length (ints ps))
    (hn : ∀ (i : Nat) (p : Int × Value) (b : Nat), i < k → m[i]? = some p → p.2.ownBlock = some b → u.ownBlock ≠ some b) : OwnTo w B (m.set k (tx, u)) fs (k + 1) := by
  have hkl : k < m.length := by rw [h.1]; exact (List.getElem?_eq_some_iff.1 hf).1
  refine ⟨by rw [List.length_set]; exact h.1, fun i p f hi hp hf' => ?_, fun i j p q b hi hj hp hq h1 h2 => ?_⟩
  · by_cases e : k = i
    · subst e
      rw [List.getElem?_set_self hkl] at hp
      injection hp with hp
      rw [hf] at hf'
      injection hf' with hf'
      subst hp hf'
      exact ⟨rfl, hu⟩
    · rw [List.getElem?_set_ne e] at hp
      exact h.2.1 i p f (by omega) hp hf'
  · by_cases e : k = i
    · by_cases e' : k = j
      · omega
      · subst e
        rw [List.getElem?_set_self hkl] at hp
        rw [List.getElem?_set_ne e'] at hq
        injection hp with hp
        subst hp
        exact absurd h1 (hn j q b (by omega) hq h2)
    · by_cases e' : k = j
      · subst e'
        rw [List.getElem?_set_self hkl] at hq
        rw [List.getElem?_set_ne e] at hp
        injection hq with hq
        subst hq
        exact absurd h2 (hn i p b (by omega) hp h1)
      · rw [List.getElem?_set_ne e] at hp
        rw [List.getElem?_set_ne e'] at hq
        exact h.2.2 i j p q b (by omega) (by omega) hp hq h1 h2
def sumF (l : List (Int × List Int)) (k : Nat) : Nat := ((l.take k).map fun p => p.2.length).sum
theorem sumF_succ (l : List (Int × List Int)) (k : Nat) {tx : Int} {ps : List Int} (h : l[k]? = some (tx, ps)) : sumF l (k + 1) = sumF l k + ps.length := by
  obtain ⟨hk, e⟩ := List.getElem?_eq_some_iff.1 h
  unfold sumF
  rw [List.take_succ_eq_append_getElem hk, List.map_append, List.sum_append, e]
  simp
theorem sumF_zero (l : List (Int × List Int)) : sumF l 0 = 0 := by simp [sumF]
theorem sumF_mono (l : List (Int × List Int)) (k : Nat) : sumF l k ≤ sumF l l.length := by
  unfold sumF
  conv => rhs; rw [List.take_length, ← List.take_append_drop k l, List.map_append, List.sum_append]
  omega
def bulkF (l : List (Int × List Int)) : Nat := l.length + sumF l l.length
theorem bulkF_in {l : List (Int × List Int)} {m : Nat} (h : bulkF l ≤ m) : l.length ≤ m ∧ ∀ f ∈ l, f.2.length ≤ m := by
  unfold bulkF at h
  refine ⟨by omega, fun f hf => ?_⟩
  obtain ⟨i, hi, rfl⟩ := List.getElem_of_mem hf
  have h1 := sumF_succ l i (tx := l[i].1) (ps := l[i].2) (List.getElem?_eq_getElem hi)
  have h2 := sumF_mono l (i + 1)
  omega
set_option maxHeartbeats 400000 in
theorem szFree_any (tx : Int) (a : Option Addr) (n cap : Nat) (hn : n ≤ maxLen) (left : Nat) (hleft : left ≤ 1048576) (w : World) :
    Calls Tryz.prog 72 #[.agg #[.int .i64 tx, .slice a n cap], .int .i64 (left : Int)] w fun e w' => e = .returned (.int .i64 (szOut left n)) ∧ Below w.heap.size w w' := by
  have HC := hide (fun wx => szIntS_any a n cap hn left hleft wx)
  have HB : Hid (∀ o, Below w.heap.size w (w.alloc o)) := hide (fun o => (Below.refl w.heap.size w).alloc (Nat.le_refl _) _)
  by_cases h : n ≤ left
  · rw [szOut_yes h] at HC ⊢
    obtain ⟨z, hz⟩ : ∃ z, z = left - n := ⟨_, rfl⟩
    rw [← hz] at HC ⊢
    clear hz h hn
    go_enter Tryz.func72, Tryz.ntmps72
    go_wp2_with fail
    refine (HC.out _).mono ?_
    rintro e w1 ⟨rfl, rfl⟩
    go_wp2_with fail
    go_ret
    exact ⟨rfl, HB.out _⟩
  · rw [szOut_no (by omega)] at HC ⊢
    clear h hn
    go_enter Tryz.func72, Tryz.ntmps72
    go_wp2_with fail
    refine (HC.out _).mono ?_
    rintro e w1 ⟨rfl, rfl⟩
    go_wp2_with fail
    go_ret
    exact ⟨rfl, HB.out _⟩
set_option maxHeartbeats 1000000 in
theorem szFreeS_any (l : List (Int × List Int)) (hl : l.length ≤ maxLen) (hs : ∀ p ∈ l, p.2.length ≤ maxLen) (v : Value) (left : Nat) (hleft : left ≤ 1048576) (w : World) (hr : FreesAt w v l) :
    Calls Tryz.prog 57 #[v, .int .i64 (left : Int)] w fun e w' => e = .returned (.int .i64 (szOut left (bulkF l))) ∧ Below w.heap.size w w' := by
  obtain ⟨a, cap, rfl⟩ := frees_slice hr
  have HR := hide hr
  have HS := hide hs
  clear hr hs
  unfold maxLen at hl
  have HBk : Hid (bulkF l = l.length + sumF l l.length) := hide rfl
  by_cases h0 : left < l.length
  · have HO : Hid (szOut left (bulkF l) = -1) := hide (szOut_no (by rw [HBk.out]; omega))
    go_enter Tryz.func57, Tryz.ntmps57
    go_wp2
    go_ret
    rw [HO.out]
    exact ⟨rfl, Below.refl _ _⟩
  · go_enter Tryz.func57, Tryz.ntmps57
    go_wp2
    go_loopg [1, 5] l.length (fun g lv iv wr => ∃ k m : Nat, k ≤ l.length ∧ iv = .int .i64 (k : Int) ∧ g + k = l.length ∧ lv = .int .i64 (m : Int) ∧ m ≤ 1048576 ∧ Hid (m + l.length + sumF l k = left) ∧ Below w.heap.size w wr)
    case atStart => exact ⟨0, left - l.length, Nat.zero_le _, rfl, rfl, by go_num, by omega, hide (by rw [sumF_zero]; omega), Below.refl _ _⟩
    case round =>
      obtain ⟨k, m, hk, rfl, hg, rfl, hm, HM, hb⟩ := hrel
      have HG := hide hg
      clear hg
      by_cases hlt : k < l.length
      · obtain ⟨tx, ps, hf⟩ : ∃ tx ps, l[k]? = some (tx, ps) := ⟨_, _, List.getElem?_eq_getElem hlt⟩
        obtain ⟨b, off, x, c, rfl, hbl, hc0, hc1, -⟩ := frees_at (frees_below HR.out hb) hf
        have hxs : ps.length ≤ maxLen := HS.out _ (List.mem_of_getElem? hf)
        have HSum := hide (sumF_succ l k hf)
        obtain ⟨n, hn⟩ : ∃ n, n = ps.length := ⟨_, rfl⟩
        rw [← hn] at hc1 hxs HSum
        have hk0 : (0 : Int) ≤ (k : Int) := by omega
        have hk1 : (k : Int) < (l.length : Int) := by omega
        clear hf hn
        by_cases hneg : m < n
        · have HO : Hid (szOut left (bulkF l) = -1) := hide (szOut_no (by have h1 := HBk.out; have h2 := HM.out; have h3 := HSum.out; have h4 := sumF_mono l (k + 1); omega))
          have HC := hide (szFree_any tx x n c hxs m hm)
          rw [szOut_no hneg] at HC
          go_wp2_with fail
          refine (HC.out _).mono ?_
          rintro e w2 ⟨rfl, hb2⟩
          go_wp2_with fail
          go_ret
          rw [HO.out]
          exact ⟨rfl, hb.trans (hb2.mono hb.size)⟩
        · have HC := hide (szFree_any tx x n c hxs m hm)
          rw [szOut_yes (by omega)] at HC
          obtain ⟨m', hm'⟩ : ∃ m', m' = m - n := ⟨_, rfl⟩
          rw [← hm'] at HC
          have hml : m' ≤ 1048576 := by omega
          have HM2 : Hid (m' + l.length + sumF l (k + 1) = left) := hide (by have h2 := HM.out; have h3 := HSum.out; omega)
          clear hm' hneg
          go_wp2_with fail
          refine (HC.out _).mono ?_
          rintro e w2 ⟨rfl, hb2⟩
          go_wp2_with fail
          go_roundg (gk - 1)
          case measure => have := HG.out; omega
          case rel => exact ⟨k + 1, m', by omega, by go_num, by have := HG.out; omega, rfl, hml, HM2, hb.trans (hb2.mono hb.size)⟩
      · have HO : Hid (szOut left (bulkF l) = (m : Int)) := hide (by
          have h1 := HBk.out
          have h2 := HM.out
          obtain rfl : k = l.length := by omega
          rw [szOut_yes (by omega)]
          congr 1
          omega)
        go_wp2
        go_ret
        rw [HO.out]
        exact ⟨rfl, hb⟩
end Go.Proofs.YtdbpbhemnnffeaaGreatDoor
