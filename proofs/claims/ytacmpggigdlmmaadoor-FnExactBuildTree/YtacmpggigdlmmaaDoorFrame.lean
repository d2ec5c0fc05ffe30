/-
  What a call may turn, block by block ('Kept'), and the laws' own marks over rows of texts and of puts by contracts: markText, markStringS, heldStringS, markPutS, heldPutS.
-/
import Derived.Test.YtacmpggigdlmmaaDoorPutRow
import Derived.Test.YtacmpggigdlmmaaDoorDec
namespace Go.Proofs.YtacmpggigdlmmaaDoor
open Go.RowKit

/-- all that was there stays, but the blocks of S -/
def Kept (w w' : World) (S : Nat → Prop) : Prop := w'.os = w.os ∧ w'.tape = w.tape ∧ w'.output = w.output ∧ w.heap.size ≤ w'.heap.size ∧ ∀ k, k < w.heap.size → ¬ S k → w'.heap[k]? = w.heap[k]?

theorem kept_refl (w : World) (S : Nat → Prop) : Kept w w S := ⟨rfl, rfl, rfl, Nat.le_refl _, fun _ _ _ => rfl⟩

theorem kept_trans {a b c : World} {S T : Nat → Prop} (h : Kept a b S) (k : Kept b c T) (hT : ∀ j, j < a.heap.size → T j → S j) : Kept a c S :=
  ⟨k.1.trans h.1, k.2.1.trans h.2.1, k.2.2.1.trans h.2.2.1, Nat.le_trans h.2.2.2.1 k.2.2.2.1, fun j hj hn => (k.2.2.2.2 j (Nat.lt_of_lt_of_le hj h.2.2.2.1) (fun t => hn (hT j hj t))).trans (h.2.2.2.2 j hj hn)⟩

theorem kept_mono {a b : World} {S T : Nat → Prop} (h : Kept a b S) (hT : ∀ j, j < a.heap.size → S j → T j) : Kept a b T :=
  ⟨h.1, h.2.1, h.2.2.1, h.2.2.2.1, fun j hj hn => h.2.2.2.2 j hj (fun s => hn (hT j hj s))⟩

theorem kept_of_below {B : Nat} {a b : World} (h : Below B a b) : Kept a b (fun k => B ≤ k) := ⟨h.os, h.tape, h.output, h.size, fun k _ hn => h.block k (by omega)⟩

theorem kept_of_all {a b : World} (h : Below a.heap.size a b) (S : Nat → Prop) : Kept a b S := ⟨h.os, h.tape, h.output, h.size, fun k hk _ => h.block k hk⟩

theorem below_of_kept {B : Nat} {a b : World} {S : Nat → Prop} (h : Kept a b S) (hB : B ≤ a.heap.size) (hS : ∀ k, S k → B ≤ k) : Below B a b :=
  ⟨h.1, h.2.1, h.2.2.1, h.2.2.2.1, fun k hk => h.2.2.2.2 k (by omega) (fun s => by have := hS k s; omega)⟩

theorem kept_setCell (w : World) (g j : Nat) (u : Value) : Kept w (w.setCell ⟨g, j, none⟩ u) (fun k => k = g) :=
  ⟨rfl, rfl, rfl, by simp, fun k _ hn => heap_setCell_other w ⟨g, j, none⟩ k u hn⟩

theorem own_kept {w w' : World} {B e sz n : Nat} {v : Value} {xs : List Value} {S : Nat → Prop} (h : w.ownsRow B e sz v n xs) (hk : Kept w w' S) (hS : ∀ k, v.ownBlock = some k → ¬ S k) : w'.ownsRow B e sz v n xs := by
  refine ⟨h.1, ?_⟩
  rcases h.2 with ⟨rfl, hn⟩ | ⟨g, cap, cur, rfl, hg, hh, rest⟩
  · exact Or.inl ⟨rfl, hn⟩
  · have hlt : g < w.heap.size := (h.lt g rfl).2
    exact Or.inr ⟨g, cap, cur, rfl, hg, (hk.2.2.2.2 g hlt (hS g rfl)).trans hh, rest⟩

theorem row_kept {w w' : World} {sz n : Nat} {v : Value} {xs : List Value} {S : Nat → Prop} (h : RowAt w sz v n xs) (hk : Kept w w' S) (hS : n = 0 ∨ ∀ k, k < w.heap.size → v.ownBlock = some k → ¬ S k) : RowAt w' sz v n xs := by
  obtain ⟨hl, a, cap, rfl, h2⟩ := h
  refine ⟨hl, a, cap, rfl, ?_⟩
  rcases h2 with h0 | ⟨b, off, rfl, hlt, hc⟩
  · exact Or.inl h0
  · rcases hS with h0 | hS
    · exact Or.inl h0
    · refine Or.inr ⟨b, off, rfl, Nat.lt_of_lt_of_le hlt hk.2.2.2.1, fun j hj => ?_⟩
      rw [World.cell?_of_block (hk.2.2.2.2 b hlt (hS b hlt rfl))]
      exact hc j hj

theorem heap_push (w : World) (o : Obj) (k : Nat) : (w.alloc o).heap[k]? = if k = w.heap.size then some o else w.heap[k]? := by
  show (w.heap.push o)[k]? = _
  rw [Array.getElem?_push]

theorem three_allocs (w : World) (a b c : Obj) : (((w.alloc a).alloc b).alloc c).heap[w.heap.size]? = some a ∧ (((w.alloc a).alloc b).alloc c).heap[w.heap.size + 1]? = some b ∧ (((w.alloc a).alloc b).alloc c).heap[w.heap.size + 1 + 1]? = some c ∧ (((w.alloc a).alloc b).alloc c).heap.size = w.heap.size + 3 := by
  refine ⟨?_, ?_, ?_, by simp⟩
  · rw [heap_push, heap_push, heap_push]; simp; omega
  · rw [heap_push, heap_push]; simp
  · rw [heap_push]; simp

theorem two_allocs (w : World) (a b : Obj) : ((w.alloc a).alloc b).heap[w.heap.size]? = some a ∧ ((w.alloc a).alloc b).heap[w.heap.size + 1]? = some b ∧ ((w.alloc a).alloc b).heap.size = w.heap.size + 2 := by
  refine ⟨?_, ?_, by simp⟩
  · rw [heap_push, heap_push]; simp
  · rw [heap_push]; simp

/-- a cell of a block that is told whole -/
theorem cell_at {w : World} {g : Nat} {cs : Array Value} {t : TypeId} (h : w.heap[g]? = some (.cells cs t (0, 0))) (j : Nat) : w.cell? ⟨g, j, none⟩ = cs[j]? ∧ w.frozen? ⟨g, j, none⟩ = false :=
  ⟨cell_of_row w g j cs t (0, 0) h, frozen_of_row w g j cs t h⟩

/-- the mark of k -/
def markB (k : Nat) : ByteArray := ⟨(109 :: decF 20 k).toArray⟩

set_option maxHeartbeats 1000000 in
set_option maxRecDepth 100000 in
theorem markText_row (n : Nat) (h0 : 0 < n) (h1 : n ≤ 9223372036854775807) (w : World) :
    Calls Tryd.prog 30 #[.int .i64 (n : Int)] w fun e w' => e = .returned (.string (markB n)) ∧ Below w.heap.size w w' := by
  have hnn : decide ((n : Int) ≤ 0) = false := by simp; omega
  go_enter Tryd.func30, Tryd.ntmps30
  go_wp2
  go_loopg [0, 3] 20 (fun g nv sv wr => ∃ (m : Nat) (t : ByteArray), nv = .int .i64 (m : Int) ∧ sv = .string t ∧ m ≤ 9223372036854775807 ∧ t.size ≤ 20 - g ∧ g ≤ 20 ∧ Hid (m < 10 ^ g) ∧ Hid (∃ L : List UInt8, t = ⟨L.toArray⟩ ∧ decF g m ++ L = decF 20 n) ∧ Below w.heap.size w wr)
  case atStart => exact ⟨n, ⟨#[]⟩, rfl, rfl, h1, Nat.le_refl 0, by omega, hide (pow20 n (by omega)), hide ⟨[], rfl, by simp⟩, Below.refl _ _⟩
  case round =>
    obtain ⟨m, t, rfl, rfl, hm, hts, hg20, HF, HL, hb⟩ := hrel
    have hB := hb.size
    by_cases hz : m = 0
    · have HE : Hid ((⟨#[109]⟩ ++ t : ByteArray) = markB n) := hide (by
        obtain ⟨L, hL, hd⟩ := HL.out
        rw [hz, decF_zero, List.nil_append] at hd
        rw [hL, hd, str_cons]; rfl)
      have hmz : ¬ 0 < m := by omega
      clear hz
      go_wp2
      go_ret
      refine ⟨?_, hb⟩
      rw [← HE.out]; rfl
    · have hmz : 0 < m := by omega
      obtain ⟨q, hq, hf', hdec⟩ := decF_step gk m hz HF.out
      obtain ⟨f, hf⟩ : ∃ f, f = 48 + m % 10 := ⟨_, rfl⟩
      have hf256 : f < 256 := by omega
      have hfi : (48 : Int) + (m : Int) % 10 = (f : Int) := by omega
      have hso := string_one wr f hf256
      have HQ := hide hq
      have HF' := hide hf'
      have HD : Hid (∃ L : List UInt8, (⟨#[UInt8.ofNat f]⟩ ++ t : ByteArray) = ⟨L.toArray⟩ ∧ decF q (m / 10) ++ L = decF 20 n) := hide (by
        obtain ⟨L, hL, hd⟩ := HL.out
        refine ⟨UInt8.ofNat f :: L, by rw [hL, str_cons], ?_⟩
        rw [← hd, hdec, hf, List.append_assoc]; rfl)
      have hg1 : 1 ≤ gk := by omega
      clear hq hf' hdec hf hz
      go_wp2
      go_roundg q
      case measure => have := HQ.out; omega
      case rel => exact ⟨m / 10, ⟨#[UInt8.ofNat f]⟩ ++ t, by go_num, rfl, by omega, by have := HQ.out; have h1 : (⟨#[UInt8.ofNat f]⟩ : ByteArray).size = 1 := rfl; rw [ByteArray.size_append, h1]; omega, by have := HQ.out; omega, HF', HD, hb.alloc hB _⟩

/-- the marks from k on, n of them -/
def marksS (k n : Nat) : List ByteArray := (List.range n).map fun i => markB (k + i)

theorem marksS_length (k n : Nat) : (marksS k n).length = n := by simp [marksS]

theorem marksS_at (k n i : Nat) (h : i < n) : (strs (marksS k n))[i]? = some (.string (markB (k + i))) := by simp [strs, marksS, h]

theorem marksS_of (k n : Nat) (m : List ByteArray) (hl : m.length = n) (h : ∀ i, i < n → m[i]? = some (markB (k + i))) : m = marksS k n := by
  apply List.ext_getElem?
  intro i
  by_cases hi : i < n
  · rw [h i hi]; simp [marksS, hi]
  · rw [List.getElem?_eq_none (by omega), List.getElem?_eq_none (by rw [marksS_length]; omega)]

set_option maxHeartbeats 1000000 in
set_option maxRecDepth 100000 in
theorem markStringS_row (l : List ByteArray) (hl : l.length ≤ 1048576) (v : Value) (B k0 : Nat) (hk0 : 0 < k0) (hk1 : k0 ≤ 1048576000) (w : World) (ha : w.ownsRow B 9 1 v l.length (strs l)) :
    Calls Tryd.prog 48 #[v, .int .i64 (k0 : Int)] w fun e w' => e = .returned (.int .i64 ((k0 + l.length : Nat) : Int)) ∧ w'.ownsRow B 9 1 v l.length (strs (marksS k0 l.length)) ∧ Kept w w' (fun k => v.ownBlock = some k) := by
  obtain ⟨a, cap, rfl⟩ : ∃ a cap, v = .slice a l.length cap := by obtain ⟨-, a, cap, e, -⟩ := row_of_own ha; exact ⟨a, cap, e⟩
  have HA := hide ha
  clear ha
  go_enter Tryd.func48, Tryd.ntmps48
  go_wp2
  go_loopg [1, 5] l.length (fun q kv iv wr => ∃ (k : Nat) (m : List ByteArray), k ≤ l.length ∧ kv = .int .i64 ((k0 + k : Nat) : Int) ∧ iv = .int .i64 (k : Int) ∧ q + k = l.length ∧ Hid (wr.ownsRow B 9 1 (.slice a l.length cap) l.length (strs m)) ∧ Hid (m.length = l.length ∧ ∀ i, i < k → m[i]? = some (markB (k0 + i))) ∧ Hid (Kept w wr (fun k => (Value.slice a l.length cap).ownBlock = some k)))
  case atStart => exact ⟨0, l, Nat.zero_le _, rfl, rfl, rfl, HA, hide ⟨rfl, fun i h => by omega⟩, hide (kept_refl _ _)⟩
  case round =>
    obtain ⟨k, m, hk, rfl, rfl, hg, HOwn, HM, HK⟩ := hrel
    have HG := hide hg
    clear hg
    by_cases hlt : k < l.length
    · obtain ⟨g, rfl⟩ : ∃ g, a = some ⟨g, 0, none⟩ := by
        rcases HOwn.out.2 with ⟨e, h0⟩ | ⟨g, c, cur, e, _⟩
        · omega
        · injection e with e1; exact ⟨g, e1⟩
      have HC := hide (markText_row (k0 + k) (by omega) (by omega))
      have hi0 : (0 : Int) ≤ (k : Int) := by omega
      have hi1 : (k : Int) < (l.length : Int) := by omega
      rw [show ((k0 + k : Nat) : Int) = (k0 : Int) + (k : Int) from by omega] at HC
      go_wp2_with fail
      refine (HC.out _).mono ?_
      rintro e w2 ⟨rfl, hb2⟩
      have hown2 := own_stays HOwn.out hb2
      have hfz : w2.frozen? ⟨g, k, none⟩ = false := hown2.frozenAt k
      obtain ⟨u, hu⟩ : ∃ u, (strs m)[k]? = some u := ⟨_, List.getElem?_eq_getElem (by rw [strs_length, HM.out.1]; exact hlt)⟩
      have hcell2 : w2.cell? ⟨g, k, none⟩ = some u := by rw [hown2.cellAt k (by omega), hu]
      have HO := hide ((hown2.stored k (.string (markB (k0 + k)))).1)
      rw [strs_set] at HO
      have HM2 : Hid ((m.set k (markB (k0 + k))).length = l.length ∧ ∀ i, i < k + 1 → (m.set k (markB (k0 + k)))[i]? = some (markB (k0 + i))) := hide ⟨by rw [List.length_set]; exact HM.out.1, fun i hi => by
        by_cases e : k = i
        · subst e; rw [List.getElem?_set_self (by rw [HM.out.1]; exact hlt)]
        · rw [List.getElem?_set_ne e]; exact HM.out.2 i (by omega)⟩
      have HK2 : Hid (Kept w (w2.setCell ⟨g, k, none⟩ (.string (markB (k0 + k)))) (fun k => (Value.slice (some ⟨g, 0, none⟩) l.length cap).ownBlock = some k)) := hide (kept_trans (kept_trans HK.out (kept_of_all hb2 (fun _ => False)) (fun j _ h => h.elim)) (kept_setCell w2 g k _) (fun j _ h => by rw [h]; rfl))
      clear hb2 hu hown2
      go_wp2_with fail
      go_roundg (gk - 1)
      case measure => have := HG.out; omega
      case rel => exact ⟨k + 1, _, by omega, by go_num, by go_num, by have := HG.out; omega, HO, HM2, HK2⟩
    · have hkn : k = l.length := by omega
      have HO : Hid (wr.ownsRow B 9 1 (.slice a l.length cap) l.length (strs (marksS k0 l.length))) := hide (by
        have e : m = marksS k0 l.length := marksS_of k0 l.length m HM.out.1 (fun i hi => HM.out.2 i (by omega))
        rw [← e]; exact HOwn.out)
      have HKn := hide hkn
      clear hkn
      go_wp2_with fail
      go_ret
      exact ⟨by rw [HKn.out]; rfl, HO.out, HK.out⟩

set_option maxHeartbeats 2000000 in
set_option maxRecDepth 100000 in
theorem heldStringS_row (n : Nat) (hn : n ≤ 1048576) (v : Value) (k0 : Nat) (hk0 : 0 < k0) (hk1 : k0 ≤ 1048576000) (w : World) (ha : RowAt w 1 v n (strs (marksS k0 n))) :
    Calls Tryd.prog 50 #[v, .int .i64 (k0 : Int)] w fun e w' => e = .returned (.int .i64 ((k0 + n : Nat) : Int)) ∧ Below w.heap.size w w' := by
  obtain ⟨-, a, cap, rfl, h2⟩ := ha
  have HR := hide h2
  clear h2
  go_enter Tryd.func50, Tryd.ntmps50
  go_wp2
  go_loopg [1, 5] n (fun q kv iv wr => ∃ k : Nat, k ≤ n ∧ kv = .int .i64 ((k0 + k : Nat) : Int) ∧ iv = .int .i64 (k : Int) ∧ q + k = n ∧ Below w.heap.size w wr)
  case atStart => exact ⟨0, Nat.zero_le _, rfl, rfl, rfl, Below.refl _ _⟩
  case round =>
    obtain ⟨k, hk, rfl, rfl, hg, hb⟩ := hrel
    have HG := hide hg
    clear hg
    have hBw := hb.size
    by_cases hlt : k < n
    · rcases HR.out with h0 | ⟨g, off, rfl, hglt, hc⟩
      · omega
      · have HC := hide (markText_row (k0 + k) (by omega) (by omega))
        obtain ⟨x, hx⟩ : ∃ x : ByteArray, x = markB (k0 + k) := ⟨_, rfl⟩
        have hcell : wr.cell? ⟨g, off + k, none⟩ = some (.string x) := by rw [hb.cell (by exact hglt), hc k (by omega), marksS_at k0 n k hlt, hx]
        have hi0 : (0 : Int) ≤ (k : Int) := by omega
        have hi1 : (k : Int) < (n : Int) := by omega
        rw [show ((k0 + k : Nat) : Int) = (k0 : Int) + (k : Int) from by omega, ← hx] at HC
        have hgw : g < wr.heap.size := by omega
        clear hx hc
        go_wp2_with fail
        go_region_held3 (fun w' => w'.cell? ⟨g, off + k, none⟩ = some (.string x)) (first | go_keep | exact hc2) ((go_at_call 30; refine (HC.out _).mono ?_; rintro e w2 ⟨rfl, hbw⟩; have hc2 : w2.cell? ⟨g, off + k, none⟩ = some (.string x) := (hbw.cell (by exact hgw)).trans hcell))
        all_goals (have hb3 : Below w.heap.size w w2 := hb.trans ((Below.refl _ _).drew.trans (hbw.mono hBw)))
        all_goals clear hbw
        all_goals go_wp2_with fail
        all_goals go_roundg (gk - 1)
        case measure => have := HG.out; omega
        case rel => exact ⟨k + 1, by omega, by go_num, by go_num, by have := HG.out; omega, hb3⟩
    · have hkn : k = n := by omega
      have HK := hide hkn
      clear hkn
      go_wp2_with fail
      go_ret
      exact ⟨by rw [HK.out]; rfl, hb⟩

/-- the marks of puts from k on, n of them -/
def marksP (k n : Nat) : List (Int × ByteArray) := (List.range n).map fun i => (((k + i * 2 : Nat) : Int), markB (k + i * 2 + 1))

theorem marksP_length (k n : Nat) : (marksP k n).length = n := by simp [marksP]

theorem marksP_at (k n i : Nat) (h : i < n) : (puts (marksP k n))[i * 2]? = some (.int .i64 ((k + i * 2 : Nat) : Int)) ∧ (puts (marksP k n))[i * 2 + 1]? = some (.string (markB (k + i * 2 + 1))) := by
  have := puts_at (marksP k n) i (by rw [marksP_length]; exact h)
  simpa [marksP] using this

theorem marksP_of (k n : Nat) (m : List (Int × ByteArray)) (hl : m.length = n) (h : ∀ i, i < n → m[i]? = some (((k + i * 2 : Nat) : Int), markB (k + i * 2 + 1))) : m = marksP k n := by
  apply List.ext_getElem?
  intro i
  by_cases hi : i < n
  · rw [h i hi]; simp [marksP, hi]
  · rw [List.getElem?_eq_none (by omega), List.getElem?_eq_none (by rw [marksP_length]; omega)]

set_option maxHeartbeats 2000000 in
set_option maxRecDepth 100000 in
theorem markPutS_row (l : List (Int × ByteArray)) (hl : l.length ≤ 1048576) (v : Value) (B k0 : Nat) (hk0 : 0 < k0) (hk1 : k0 ≤ 1048576000) (w : World) (ha : w.ownsRow B 96 2 v l.length (puts l)) :
    Calls Tryd.prog 49 #[v, .int .i64 (k0 : Int)] w fun e w' => e = .returned (.int .i64 ((k0 + l.length * 2 : Nat) : Int)) ∧ w'.ownsRow B 96 2 v l.length (puts (marksP k0 l.length)) ∧ Kept w w' (fun k => v.ownBlock = some k) := by
  obtain ⟨a, cap, rfl⟩ : ∃ a cap, v = .slice a l.length cap := by obtain ⟨-, a, cap, e, -⟩ := row_of_own ha; exact ⟨a, cap, e⟩
  have HA := hide ha
  clear ha
  go_enter Tryd.func49, Tryd.ntmps49
  go_wp2
  go_loopg [1, 5] l.length (fun q kv iv wr => ∃ (k : Nat) (m : List (Int × ByteArray)), k ≤ l.length ∧ kv = .int .i64 ((k0 + k * 2 : Nat) : Int) ∧ iv = .int .i64 (k : Int) ∧ q + k = l.length ∧ Hid (wr.ownsRow B 96 2 (.slice a l.length cap) l.length (puts m)) ∧ Hid (m.length = l.length ∧ ∀ i, i < k → m[i]? = some (((k0 + i * 2 : Nat) : Int), markB (k0 + i * 2 + 1))) ∧ Hid (Kept w wr (fun k => (Value.slice a l.length cap).ownBlock = some k)))
  case atStart => exact ⟨0, l, Nat.zero_le _, rfl, rfl, rfl, HA, hide ⟨rfl, fun i h => by omega⟩, hide (kept_refl _ _)⟩
  case round =>
    obtain ⟨k, m, hk, rfl, rfl, hg, HOwn, HM, HK⟩ := hrel
    have HG := hide hg
    clear hg
    by_cases hlt : k < l.length
    · obtain ⟨g, rfl⟩ : ∃ g, a = some ⟨g, 0, none⟩ := by
        rcases HOwn.out.2 with ⟨e, h0⟩ | ⟨g, c, cur, e, _⟩
        · omega
        · injection e with e1; exact ⟨g, e1⟩
      have hkm : k < m.length := by rw [HM.out.1]; exact hlt
      obtain ⟨u0, u1, hu⟩ : ∃ (u0 : Int) (u1 : ByteArray), (puts m)[k * 2]? = some (.int .i64 u0) ∧ (puts m)[k * 2 + 1]? = some (.string u1) := ⟨_, _, puts_at m k hkm⟩
      have hc0 : wr.cell? ⟨g, k * 2, none⟩ = some (.int .i64 u0) := by rw [HOwn.out.cellAt (k * 2) (by omega), hu.1]
      have hf0 : wr.frozen? ⟨g, k * 2, none⟩ = false := HOwn.out.frozenAt _
      obtain ⟨p, hp⟩ : ∃ p, p = k0 + k * 2 := ⟨_, rfl⟩
      have hp1 : ((k0 + k * 2 : Nat) : Int) = (p : Int) := by rw [hp]
      have hpl : p ≤ 1048576000 + 2097152 := by omega
      have HC := hide (markText_row (p + 1) (by omega) (by omega))
      rw [show ((p + 1 : Nat) : Int) = (p : Int) + 1 from by omega] at HC
      have HOw1 := hide ((HOwn.out.stored (k * 2) (.int .i64 (p : Int))).1)
      have HKm := hide hkm
      have HU := hide hu
      have HP := hide hp
      have hi0 : (0 : Int) ≤ (k : Int) := by omega
      have hi1 : (k : Int) < (l.length : Int) := by omega
      rw [hp1]
      clear hkm hu hp hp1
      go_wp2_with fail
      refine (HC.out _).mono ?_
      rintro e w2 ⟨rfl, hb2⟩
      have hown2 := own_stays HOw1.out hb2
      have hf1 : w2.frozen? ⟨g, k * 2 + 1, none⟩ = false := hown2.frozenAt _
      have hc1 : w2.cell? ⟨g, k * 2 + 1, none⟩ = some (.string u1) := by rw [hown2.cellAt (k * 2 + 1) (by omega), List.getElem?_set_ne (by omega), HU.out.2]
      have HO := hide ((hown2.stored (k * 2 + 1) (.string (markB (p + 1)))).1)
      rw [puts_set m k (p : Int) _ HKm.out] at HO
      have HM2 : Hid ((m.set k ((p : Int), markB (p + 1))).length = l.length ∧ ∀ i, i < k + 1 → (m.set k ((p : Int), markB (p + 1)))[i]? = some (((k0 + i * 2 : Nat) : Int), markB (k0 + i * 2 + 1))) := hide ⟨by rw [List.length_set]; exact HM.out.1, fun i hi => by
        by_cases e : k = i
        · subst e; rw [List.getElem?_set_self HKm.out, HP.out]
        · rw [List.getElem?_set_ne e]; exact HM.out.2 i (by omega)⟩
      have HK2 : Hid (Kept w (w2.setCell ⟨g, k * 2 + 1, none⟩ (.string (markB (p + 1)))) (fun k => (Value.slice (some ⟨g, 0, none⟩) l.length cap).ownBlock = some k)) := hide (kept_trans (kept_trans (kept_trans HK.out (kept_setCell wr g (k * 2) _) (fun j _ h => by rw [h]; rfl)) (kept_of_all hb2 (fun _ => False)) (fun j _ h => h.elim)) (kept_setCell w2 g _ _) (fun j _ h => by rw [h]; rfl))
      clear hb2 hown2
      go_wp2_with fail
      go_roundg (gk - 1)
      case measure => have := HG.out; omega
      case rel => exact ⟨k + 1, _, by omega, by have := HP.out; go_num, by go_num, by have := HG.out; omega, HO, HM2, HK2⟩
    · have hkn : k = l.length := by omega
      have HO : Hid (wr.ownsRow B 96 2 (.slice a l.length cap) l.length (puts (marksP k0 l.length))) := hide (by
        have e : m = marksP k0 l.length := marksP_of k0 l.length m HM.out.1 (fun i hi => HM.out.2 i (by omega))
        rw [← e]; exact HOwn.out)
      have HKn := hide hkn
      clear hkn
      go_wp2_with fail
      go_ret
      exact ⟨by rw [HKn.out]; rfl, HO.out, HK.out⟩

set_option maxHeartbeats 2000000 in
set_option maxRecDepth 100000 in
theorem heldPutS_row (n : Nat) (hn : n ≤ 1048576) (v : Value) (k0 : Nat) (hk0 : 0 < k0) (hk1 : k0 ≤ 1048576000) (w : World) (ha : RowAt w 2 v n (puts (marksP k0 n))) :
    Calls Tryd.prog 51 #[v, .int .i64 (k0 : Int)] w fun e w' => e = .returned (.int .i64 ((k0 + n * 2 : Nat) : Int)) ∧ Below w.heap.size w w' := by
  obtain ⟨-, a, cap, rfl, h2⟩ := ha
  have HR := hide h2
  clear h2
  go_enter Tryd.func51, Tryd.ntmps51
  go_wp2
  go_loopg [1, 5] n (fun q kv iv wr => ∃ k : Nat, k ≤ n ∧ kv = .int .i64 ((k0 + k * 2 : Nat) : Int) ∧ iv = .int .i64 (k : Int) ∧ q + k = n ∧ Below w.heap.size w wr)
  case atStart => exact ⟨0, Nat.zero_le _, rfl, rfl, rfl, Below.refl _ _⟩
  case round =>
    obtain ⟨k, hk, rfl, rfl, hg, hb⟩ := hrel
    have HG := hide hg
    clear hg
    have hBw := hb.size
    by_cases hlt : k < n
    · rcases HR.out with h0 | ⟨g, off, rfl, hglt, hc⟩
      · omega
      · obtain ⟨p, hp⟩ : ∃ p, p = k0 + k * 2 := ⟨_, rfl⟩
        have hp1 : ((k0 + k * 2 : Nat) : Int) = (p : Int) := by rw [hp]
        have hpl : p ≤ 1048576000 + 2097152 := by omega
        have HC := hide (markText_row (p + 1) (by omega) (by omega))
        rw [show ((p + 1 : Nat) : Int) = (p : Int) + 1 from by omega] at HC
        obtain ⟨x, hx⟩ : ∃ x : ByteArray, x = markB (p + 1) := ⟨_, rfl⟩
        have hc0 : wr.cell? ⟨g, off + k * 2, none⟩ = some (.int .i64 (p : Int)) := by rw [hb.cell (by exact hglt), hc (k * 2) (by omega), (marksP_at k0 n k hlt).1, hp1]
        have hc1 : wr.cell? ⟨g, off + k * 2 + 1, none⟩ = some (.string x) := by rw [hb.cell (by exact hglt), Nat.add_assoc, hc (k * 2 + 1) (by omega), (marksP_at k0 n k hlt).2, hx, hp]
        have hi0 : (0 : Int) ≤ (k : Int) := by omega
        have hi1 : (k : Int) < (n : Int) := by omega
        rw [← hx] at HC
        have hgw : g < wr.heap.size := by omega
        have HP := hide hp
        rw [hp1]
        clear hx hc hp hp1
        go_wp2_with fail
        go_region_held3 (fun w' => w'.cell? ⟨g, off + k * 2 + 1, none⟩ = some (.string x)) (first | go_keep | exact hc2) ((go_at_call 30; refine (HC.out _).mono ?_; rintro e w2 ⟨rfl, hbw⟩; have hc2 : w2.cell? ⟨g, off + k * 2 + 1, none⟩ = some (.string x) := (hbw.cell (by exact hgw)).trans hc1))
        all_goals (have hb3 : Below w.heap.size w w2 := hb.trans ((Below.refl _ _).drew.trans (hbw.mono hBw)))
        all_goals clear hbw
        all_goals go_wp2_with fail
        all_goals go_roundg (gk - 1)
        case measure => have := HG.out; omega
        case rel => exact ⟨k + 1, by omega, by have := HP.out; go_num, by go_num, by have := HG.out; omega, hb3⟩
    · have hkn : k = n := by omega
      have HK := hide hkn
      clear hkn
      go_wp2_with fail
      go_ret
      exact ⟨by rw [HK.out]; rfl, hb⟩
end Go.Proofs.YtacmpggigdlmmaaDoor
