/-
  Facts and contracts that the law's own text rests on, by their texts' names: SpecModel, SpecShow, ImplSame, KeptFn, WorldSz.
-/
import Derived.Deep.AppendLies
import Derived.Laws.Cover1
import Derived.Maps.AppendAt
import Derived.Test.YtdbpbhemnnffeaaGreatDoorXw1
import Derived.Test.YtdbpbhemnnffeaaGreatDoorXw9
import Derived.BigQuiet
import Derived.Laws.StructEq
import Derived.Test.YtdbpbhemnnffeaaGreatDoorXw2
import Derived.Test.YtdbpbhemnnffeaaGreatDoorXw30
import Derived.Test.YtdbpbhemnnffeaaGreatDoorXw14
namespace Go.Proofs.YtdbpbhemnnffeaaGreatDoor
open Go.RowKit
def prq (l : List (ByteArray × ByteArray)) : List Value := l.flatMap fun p => [.string p.1, .string p.2]
theorem prq_cons (p : ByteArray × ByteArray) (l : List (ByteArray × ByteArray)) : prq (p :: l) = Value.string p.1 :: .string p.2 :: prq l := rfl
theorem prq_at (l : List (ByteArray × ByteArray)) : ∀ k (h : k < l.length), (prq l)[k * 2]? = some (.string l[k].1) ∧ (prq l)[k * 2 + 1]? = some (.string l[k].2) := by
  induction l with
  | nil => intro k h; simp at h
  | cons p l ih =>
    intro k h
    cases k with
    | zero => exact ⟨rfl, rfl⟩
    | succ k =>
      have := ih k (by simpa using h)
      have e : (k + 1) * 2 = k * 2 + 1 + 1 := by omega
      rw [e, prq_cons]
      exact this
theorem take_nextM {α : Type} (l : List α) (k : Nat) (x : α) (h : l[k]? = some x) : l.take (k + 1) = l.take k ++ [x] := by rw [List.take_add_one, h]; rfl
theorem prq_cells {w wr : World} {a : Option Addr} {n c : Nat} {l : List (ByteArray × ByteArray)} (h : RowAt w 2 (.slice a n c) n (prq l)) (hb : Below w.heap.size w wr) {k : Nat} (hk : k < n) {p : ByteArray × ByteArray} (hp : l[k]? = some p) :
    ∃ b off, a = some ⟨b, off, none⟩ ∧ wr.cell? ⟨b, off + k * 2, none⟩ = some (.string p.1) ∧ wr.cell? ⟨b, off + k * 2 + 1, none⟩ = some (.string p.2) := by
  obtain ⟨hl, a', cap, ea, h2⟩ := h
  injection ea with e1 e2 e3
  subst e1
  rcases h2 with h0 | ⟨b, off, rfl, hlt, hc⟩
  · omega
  · obtain ⟨hlk, hpk⟩ := List.getElem?_eq_some_iff.1 hp
    obtain ⟨q1, q2⟩ := prq_at l k hlk
    rw [hpk] at q1 q2
    exact ⟨b, off, rfl, by rw [hb.cell (by exact hlt), hc (k * 2) (by omega)]; exact q1, by rw [hb.cell (by exact hlt), Nat.add_assoc, hc (k * 2 + 1) (by omega)]; exact q2⟩
open Go.RowKit
theorem ba_inj {x y : ByteArray} (h : x.toList = y.toList) : x = y := by
  rw [ByteArray.toList_eq, ByteArray.toList_eq] at h
  exact ByteArray.ext (Array.toList_inj.1 h)
theorem eqPairA (a b c d : ByteArray) (w : World) : (Op.equalIn 10000 101 (.agg #[.string a, .string b]) (.agg #[.string c, .string d])).run Tryz.prog w = .ok (a.toList == c.toList && b.toList == d.toList) w := by
  have u9 := Tryz.underlying9
  have a9 := Tryz.isAgg9
  have z9 := Tryz.sizeOf9
  have hS : Tryz.prog.underlying 101 = some (.struct (Tryz.prog.fieldsOf 101)) := by kernel_rfl
  rw [show (10000 : Nat) = 9999 + 1 from rfl, run_equalIn_agg w 9999 101 _ _ hS (by kernel_rfl)]
  simp only [Program.fieldsOf, Tryz.underlying101]
  go_simp
  by_cases h1 : a.toList = c.toList <;> by_cases h2 : b.toList = d.toList <;> simp [h1, h2]
set_option maxHeartbeats 1000000 in
set_option maxRecDepth 100000 in
theorem specSamePairs_any (L L2 : List (ByteArray × ByteArray)) (hl : L.length ≤ 1200000) (hl2 : L2.length ≤ 1200000) (v v2 : Value) (w : World) (hr : RowAt w 2 v L.length (prq L)) (hr2 : RowAt w 2 v2 L2.length (prq L2)) :
    Calls Tryz.prog 21 #[v, v2] w fun e w' => e = .returned (.bool (decide (L = L2))) ∧ Below w.heap.size w w' := by
  obtain ⟨hlen, a, cap, rfl, hrow⟩ := hr
  obtain ⟨hlen2, a2, cap2, rfl, hrow2⟩ := hr2
  have HC := hide (fun (wr : World) (hb : Below w.heap.size w wr) (k : Nat) (hk : k < L.length) (p : ByteArray × ByteArray) (hp : L[k]? = some p) => prq_cells (⟨hlen, a, cap, rfl, hrow⟩ : RowAt w 2 (.slice a L.length cap) L.length (prq L)) hb hk hp)
  have HC2 := hide (fun (wr : World) (hb : Below w.heap.size w wr) (k : Nat) (hk : k < L2.length) (p : ByteArray × ByteArray) (hp : L2[k]? = some p) => prq_cells (⟨hlen2, a2, cap2, rfl, hrow2⟩ : RowAt w 2 (.slice a2 L2.length cap2) L2.length (prq L2)) hb hk hp)
  obtain ⟨n, hn⟩ : ∃ n, L.length = n := ⟨_, rfl⟩
  obtain ⟨n2, hn2⟩ : ∃ n, L2.length = n := ⟨_, rfl⟩
  have HN := hide (⟨hn, hn2⟩ : _ ∧ _)
  rw [hn] at HC hl
  rw [hn2] at HC2 hl2
  rw [hn, hn2]
  clear hn hrow hlen hn2 hrow2 hlen2
  by_cases hnn : n = n2
  rotate_left
  · have d1 : ((n : Int) != (n2 : Int)) = true := by simp; omega
    have HF : Hid (decide (L = L2) = false) := hide (decide_eq_false fun e => hnn (by rw [← HN.out.1, ← HN.out.2, e]))
    clear hnn
    go_enter Tryz.func21, Tryz.ntmps21
    go_wp2
    go_ret
    rw [HF.out]
    exact ⟨rfl, Below.refl _ _⟩
  subst hnn
  have d1 : ((n : Int) != (n : Int)) = false := by simp
  go_enter Tryz.func21, Tryz.ntmps21
  go_wp2
  go_loopg [5] n (fun q iv wr => ∃ (i : Nat), i ≤ n ∧ q + i = n ∧ iv = .int .i64 (i : Int) ∧ Hid (L.take i = L2.take i) ∧ Hid (Below w.heap.size w wr))
  case atStart => exact ⟨0, Nat.zero_le _, rfl, rfl, hide rfl, hide (Below.refl _ _)⟩
  case round =>
    obtain ⟨i, hin, hq, rfl, HT, HB⟩ := hrel
    have HQ := hide hq
    clear hq
    by_cases hlt : i < n
    · obtain ⟨p, hp⟩ : ∃ p, L[i]? = some p := ⟨L[i]'(by have := HN.out; omega), List.getElem?_eq_getElem _⟩
      obtain ⟨p2, hp2⟩ : ∃ p, L2[i]? = some p := ⟨L2[i]'(by have := HN.out; omega), List.getElem?_eq_getElem _⟩
      obtain ⟨x, y⟩ := p
      obtain ⟨x2, y2⟩ := p2
      obtain ⟨g, off, rfl, c0, c1⟩ := HC.out wr HB.out i hlt (x, y) hp
      obtain ⟨g2, off2, rfl, e0, e1⟩ := HC2.out wr HB.out i hlt (x2, y2) hp2
      have hi0 : (0 : Int) ≤ (i : Int) := by omega
      have hi1 : (i : Int) < (n : Int) := by omega
      have HPp := hide (⟨hp, hp2⟩ : _ ∧ _)
      have hS := fun wx => eqPairA x y x2 y2 wx
      have hS3 : Tryz.prog.eqGuardType Tryz.prog.depth 101 = false := by kernel_rfl
      obtain ⟨t, ht⟩ : ∃ t, (x.toList == x2.toList && y.toList == y2.toList) = t := ⟨_, rfl⟩
      rw [ht] at hS
      have HTt := hide ht
      clear ht
      clear hp hp2
      go_wp2_with fail
      go_quiet (fail)
      cases t with
      | true =>
        go_wp2_with fail
        go_roundg (gk - 1)
        case measure => have := HQ.out; omega
        case rel => exact ⟨i + 1, by omega, by have := HQ.out; omega, by go_num, hide (by
          have h := HTt.out
          rw [Bool.and_eq_true] at h
          have e1 := ba_inj (eq_of_beq h.1)
          have e2 := ba_inj (eq_of_beq h.2)
          rw [take_nextM L i _ HPp.out.1, take_nextM L2 i _ HPp.out.2, HT.out, e1, e2]), hide (below_drewN HB.out _)⟩
      | false =>
        have HF : Hid (decide (L = L2) = false) := hide (decide_eq_false fun e => by
          have h1 := HPp.out.1
          rw [e, HPp.out.2] at h1
          injection h1 with h1
          injection h1 with h1 h2
          have h := HTt.out
          rw [h1, h2] at h
          simp at h)
        go_wp2_with fail
        go_ret
        rw [HF.out]
        exact ⟨rfl, below_drewN HB.out _⟩
    · obtain rfl : i = n := by omega
      have HF : Hid (decide (L = L2) = true) := hide (decide_eq_true (by have h := HT.out; rw [List.take_of_length_le (by rw [HN.out.1]; exact Nat.le_refl _), List.take_of_length_le (by rw [HN.out.2]; exact Nat.le_refl _)] at h; exact h))
      go_wp2
      go_ret
      rw [HF.out]
      exact ⟨rfl, HB.out⟩
open Go.RowKit
set_option maxHeartbeats 1000000 in
set_option maxRecDepth 100000 in
theorem equalPairs_any (L L2 : List (ByteArray × ByteArray)) (hl : L.length ≤ 1200000) (hl2 : L2.length ≤ 1200000) (v v2 : Value) (w : World) (hr : RowAt w 2 v L.length (prq L)) (hr2 : RowAt w 2 v2 L2.length (prq L2)) :
    Calls Tryz.prog 66 #[v, v2] w fun e w' => e = .returned (.bool (decide (L = L2))) ∧ Below w.heap.size w w' := by
  obtain ⟨hlen, a, cap, rfl, hrow⟩ := hr
  obtain ⟨hlen2, a2, cap2, rfl, hrow2⟩ := hr2
  have HC := hide (fun (wr : World) (hb : Below w.heap.size w wr) (k : Nat) (hk : k < L.length) (p : ByteArray × ByteArray) (hp : L[k]? = some p) => prq_cells (⟨hlen, a, cap, rfl, hrow⟩ : RowAt w 2 (.slice a L.length cap) L.length (prq L)) hb hk hp)
  have HC2 := hide (fun (wr : World) (hb : Below w.heap.size w wr) (k : Nat) (hk : k < L2.length) (p : ByteArray × ByteArray) (hp : L2[k]? = some p) => prq_cells (⟨hlen2, a2, cap2, rfl, hrow2⟩ : RowAt w 2 (.slice a2 L2.length cap2) L2.length (prq L2)) hb hk hp)
  obtain ⟨n, hn⟩ : ∃ n, L.length = n := ⟨_, rfl⟩
  obtain ⟨n2, hn2⟩ : ∃ n, L2.length = n := ⟨_, rfl⟩
  have HN := hide (⟨hn, hn2⟩ : _ ∧ _)
  rw [hn] at HC hl
  rw [hn2] at HC2 hl2
  rw [hn, hn2]
  clear hn hrow hlen hn2 hrow2 hlen2
  by_cases hnn : n = n2
  rotate_left
  · have d1 : ((n : Int) != (n2 : Int)) = true := by simp; omega
    have HF : Hid (decide (L = L2) = false) := hide (decide_eq_false fun e => hnn (by rw [← HN.out.1, ← HN.out.2, e]))
    clear hnn
    go_enter Tryz.func66, Tryz.ntmps66
    go_wp2
    go_ret
    rw [HF.out]
    exact ⟨rfl, Below.refl _ _⟩
  subst hnn
  have d1 : ((n : Int) != (n : Int)) = false := by simp
  go_enter Tryz.func66, Tryz.ntmps66
  go_wp2
  go_loopg [13] n (fun q iv wr => ∃ (i : Nat), i ≤ n ∧ q + i = n ∧ iv = .int .i64 (i : Int) ∧ Hid (L.take i = L2.take i) ∧ Hid (Below w.heap.size w wr))
  case atStart => exact ⟨0, Nat.zero_le _, rfl, rfl, hide rfl, hide (Below.refl _ _)⟩
  case round =>
    obtain ⟨i, hin, hq, rfl, HT, HB⟩ := hrel
    have HQ := hide hq
    clear hq
    by_cases hlt : i < n
    · obtain ⟨p, hp⟩ : ∃ p, L[i]? = some p := ⟨L[i]'(by have := HN.out; omega), List.getElem?_eq_getElem _⟩
      obtain ⟨p2, hp2⟩ : ∃ p, L2[i]? = some p := ⟨L2[i]'(by have := HN.out; omega), List.getElem?_eq_getElem _⟩
      obtain ⟨x, y⟩ := p
      obtain ⟨x2, y2⟩ := p2
      obtain ⟨g, off, rfl, c0, c1⟩ := HC.out wr HB.out i hlt (x, y) hp
      obtain ⟨g2, off2, rfl, e0, e1⟩ := HC2.out wr HB.out i hlt (x2, y2) hp2
      have hi0 : (0 : Int) ≤ (i : Int) := by omega
      have hi1 : (i : Int) < (n : Int) := by omega
      have HPp := hide (⟨hp, hp2⟩ : _ ∧ _)
      have hS := fun wx => eqPairA x y x2 y2 wx
      have hS3 : Tryz.prog.eqGuardType Tryz.prog.depth 101 = false := by kernel_rfl
      obtain ⟨t, ht⟩ : ∃ t, (x.toList == x2.toList && y.toList == y2.toList) = t := ⟨_, rfl⟩
      rw [ht] at hS
      have HTt := hide ht
      clear ht
      clear hp hp2
      go_wp2_with fail
      go_quiet (fail)
      cases t with
      | true =>
        go_wp2_with fail
        go_roundg (gk - 1)
        case measure => have := HQ.out; omega
        case rel => exact ⟨i + 1, by omega, by have := HQ.out; omega, by go_num, hide (by
          have h := HTt.out
          rw [Bool.and_eq_true] at h
          have e1 := ba_inj (eq_of_beq h.1)
          have e2 := ba_inj (eq_of_beq h.2)
          rw [take_nextM L i _ HPp.out.1, take_nextM L2 i _ HPp.out.2, HT.out, e1, e2]), hide (below_drewN HB.out _)⟩
      | false =>
        have HF : Hid (decide (L = L2) = false) := hide (decide_eq_false fun e => by
          have h1 := HPp.out.1
          rw [e, HPp.out.2] at h1
          injection h1 with h1
          injection h1 with h1 h2
          have h := HTt.out
          rw [h1, h2] at h
          simp at h)
        go_wp2_with fail
        go_ret
        rw [HF.out]
        exact ⟨rfl, below_drewN HB.out _⟩
    · obtain rfl : i = n := by omega
      have HF : Hid (decide (L = L2) = true) := hide (decide_eq_true (by have h := HT.out; rw [List.take_of_length_le (by rw [HN.out.1]; exact Nat.le_refl _), List.take_of_length_le (by rw [HN.out.2]; exact Nat.le_refl _)] at h; exact h))
      go_wp2
      go_ret
      rw [HF.out]
      exact ⟨rfl, HB.out⟩
theorem implSamePairs_any (L L2 : List (ByteArray × ByteArray)) (hl : L.length ≤ 1200000) (hl2 : L2.length ≤ 1200000) (v v2 : Value) (w : World) (hr : RowAt w 2 v L.length (prq L)) (hr2 : RowAt w 2 v2 L2.length (prq L2)) :
    Calls Tryz.prog 49 #[v, v2] w fun e w' => e = .returned (.bool (decide (L = L2))) ∧ Below w.heap.size w w' := by
  have HE := hide (equalPairs_any L L2 hl hl2 v v2 w hr hr2)
  clear hr hr2 hl hl2
  go_enter Tryz.func49, Tryz.ntmps49
  go_wp2_with fail
  refine HE.out.mono ?_
  rintro e w1 ⟨rfl, hb⟩
  go_wp2_with fail
  go_ret
  exact ⟨rfl, hb⟩
open Go.RowKit
set_option maxHeartbeats 4000000 in
set_option maxRecDepth 100000 in
theorem implTells_any (ps : List ByteArray) (ls : List (Int × ByteArray)) (hp : ps.length ≤ 1048576) (hl : ls.length ≤ 1048576) (hps : ∀ s ∈ ps, s.size ≤ 1048576) (hls : ∀ p ∈ ls, p.2.size ≤ 1048576) (L : List (ByteArray × ByteArray)) (hL : L.length ≤ 1200000) (ap al : Option Addr) (np nl cp cl : Nat) (root : Int) (u : Value) (w : World) (hT : SumTab w) (hd : DiskAt w (.agg #[.slice ap np cp, .slice al nl cl]) ps ls) (hu : RowAt w 2 u L.length (prs L)) :
    Calls Tryz.prog 27 #[.agg #[.slice ap np cp, .slice al nl cl], .int .i64 root, u] w fun e w' => e = .returned (.bool (toldB (allI (fun q => rdN (readD ps ls q)) root) L)) ∧ Below w.heap.size w w' := by
  have HA := hide (fun wx ht h => implAllPairs_any ps ls hp hl hps hls ap al np nl cp cl root wx ht h)
  have hrl := all_len ps ls root
  obtain ⟨R, hR⟩ : ∃ R, R = allI (fun q => rdN (readD ps ls q)) root := ⟨_, rfl⟩
  rw [← hR] at HA hrl ⊢
  obtain ⟨rl, fl⟩ := R
  have hrl : rl.length ≤ 100000 := hrl
  have HS := hide (fun v wx h h' => implSamePairs_any rl L (by omega) hL v u wx h h')
  have HD := hide hd
  have HT := hide hT
  have HU := hide hu
  obtain ⟨w0, hw0⟩ : ∃ w0, w0 = w.alloc (.cells #[.slice ap np cp, .slice al nl cl] 45 (0, 0)) := ⟨_, rfl⟩
  have HB0 : Hid (Below w.heap.size w w0) := hide (by rw [hw0]; exact (Below.refl w.heap.size w).alloc (Nat.le_refl _) _)
  have hc : w0.heap[w.heap.size]? = some (.cells #[.slice ap np cp, .slice al nl cl] 45 (0, 0)) := by rw [hw0]; exact heap_alloc_new w _
  have x0 : w0.cell? ⟨w.heap.size, 0, none⟩ = some (.slice ap np cp) := (cell_at hc 0).1
  have x1 : w0.cell? ⟨w.heap.size, 1, none⟩ = some (.slice al nl cl) := (cell_at hc 1).1
  rw [hw0] at x0 x1
  clear hp hl hps hls hd hT hu hR hrl hc hL
  go_enter Tryz.func27, Tryz.ntmps27
  go_wp2_with fail
  rw [← hw0]
  clear hw0 x0 x1
  refine (HA.out w0 (sumTab_below HT.out HB0.out) (disk_below HD.out HB0.out)).mono ?_
  rintro e w1 ⟨v, rfl, ho, hb⟩
  have HB1 : Hid (Below w.heap.size w w1) := hide (HB0.out.trans (hb.mono HB0.out.size))
  have HO := hide (row_of_own ho)
  clear hb ho
  cases fl with
  | false =>
    go_wp2_with fail
    go_ret
    exact ⟨rfl, HB1.out⟩
  | true =>
    go_wp2_with fail
    refine (HS.out v w1 HO.out (row_below HU.out HB1.out)).mono ?_
    rintro e w2 ⟨rfl, hb⟩
    have HB2 : Hid (Below w.heap.size w w2) := hide (HB1.out.trans (hb.mono HB1.out.size))
    clear hb
    obtain ⟨t, ht⟩ : ∃ t, decide (rl = L) = t := ⟨_, rfl⟩
    rw [ht]
    have HTt : Hid (toldB (rl, true) L = t) := hide ht
    clear ht
    cases t <;> (go_wp2_with fail; go_ret; exact ⟨by rw [HTt.out]; rfl, HB2.out⟩)
set_option maxHeartbeats 4000000 in
set_option maxRecDepth 100000 in
theorem implWritten_any (X : Array Value) (x : Wrl) (hs : x.small) (w : World) (hT : SumTab w) (hx : WrPt w X x) :
    Calls Tryz.prog 14 #[.agg X] w fun e w' => e = .returned (.bool (if x.s.wr = true ∧ x.s.fl = false then toldB (allI (fun q => rdN (readD x.s.tk.ps x.s.tk.ls q)) x.s.tr) x.nx else true)) ∧ Below w.heap.size w w' := by
  obtain ⟨-, hp, hl, hps, hls⟩ := size_small hs
  have hmd : x.nx.length ≤ 1048576 := hs.2.2.1
  obtain ⟨-, -, -, -, p1, q1, p2, q2, -, vm, -, -, -, e0, e1, e3, e18, e19, -, e20, -, h1, -, h3⟩ := hx
  have HC := hide (fun wx ht h k => implTells_any x.s.tk.ps x.s.tk.ls hp hl hps hls x.nx (by omega) p1 p2 x.s.tk.ps.length x.s.tk.ls.length q1 q2 x.s.tr vm wx ht h k)
  obtain ⟨kb, hkb⟩ : ∃ b, b = if x.s.wr = true ∧ x.s.fl = false then toldB (allI (fun q => rdN (readD x.s.tk.ps x.s.tk.ls q)) x.s.tr) x.nx else true := ⟨_, rfl⟩
  rw [← hkb]
  have HE := hide hkb
  clear hkb
  obtain ⟨R, hR⟩ : ∃ R, R = allI (fun q => rdN (readD x.s.tk.ps x.s.tk.ls q)) x.s.tr := ⟨_, rfl⟩
  rw [← hR] at HC HE
  have HD := hide h1
  have HM := hide h3
  have HT := hide hT
  obtain ⟨np, hnp⟩ : ∃ n, n = x.s.tk.ps.length := ⟨_, rfl⟩
  obtain ⟨nl, hnl⟩ : ∃ n, n = x.s.tk.ls.length := ⟨_, rfl⟩
  obtain ⟨mr, hmr⟩ : ∃ n, n = x.s.tr := ⟨_, rfl⟩
  obtain ⟨wr, hwr⟩ : ∃ b, b = x.s.wr := ⟨_, rfl⟩
  obtain ⟨fb, hfb⟩ : ∃ b, b = x.s.fl := ⟨_, rfl⟩
  rw [← hnp] at e0 HC HD
  rw [← hnl] at e1 HC HD
  rw [← hmr] at e3 HC
  rw [← hwr] at e18 HE
  rw [← hfb] at e19 HE
  clear hwr hfb hnp hnl hmr hR hp hl hps hls hmd h1 h3 hs hT
  obtain ⟨w0, hw0⟩ : ∃ w0, w0 = w.alloc (.cells X 59 (0, 0)) := ⟨_, rfl⟩
  have HB0 : Hid (Below w.heap.size w w0) := hide (by rw [hw0]; exact (Below.refl w.heap.size w).alloc (Nat.le_refl _) _)
  have hc : w0.heap[w.heap.size]? = some (.cells X 59 (0, 0)) := by rw [hw0]; exact heap_alloc_new w _
  have HX : Hid (∀ wx, Below w0.heap.size w0 wx → wx.cell? ⟨w.heap.size, 21, none⟩ = some vm) := hide (fun wx hb => (cell_at ((hb.block w.heap.size (by rw [hw0]; simp)).trans hc) 21).1.trans e20)
  have x0 : w0.cell? ⟨w.heap.size, 11, none⟩ = _ := (cell_at hc 11).1.trans e0
  have x1 : w0.cell? ⟨w.heap.size, 12, none⟩ = _ := (cell_at hc 12).1.trans e1
  have x3 : w0.cell? ⟨w.heap.size, 17, none⟩ = _ := (cell_at hc 17).1.trans e3
  have x18 : w0.cell? ⟨w.heap.size, 18, none⟩ = _ := (cell_at hc 18).1.trans e18
  have x19 : w0.cell? ⟨w.heap.size, 19, none⟩ = _ := (cell_at hc 19).1.trans e19
  have x20 := HX.out w0 (Below.refl _ _)
  rw [hw0] at x0 x1 x3 x18 x19 x20
  clear hc e0 e1 e3 e18 e19 e20
  cases wr with
  | false =>
    have hkt : kb = true := HE.out
    subst hkt
    go_enter Tryz.func14, Tryz.ntmps14
    go_wp2_with fail
    go_ret
    rw [← hw0]
    exact ⟨rfl, HB0.out⟩
  | true =>
    cases fb with
    | true =>
      have hkt : kb = true := HE.out
      subst hkt
      go_enter Tryz.func14, Tryz.ntmps14
      go_wp2_with fail
      go_ret
      rw [← hw0]
      exact ⟨rfl, HB0.out⟩
    | false =>
      go_enter Tryz.func14, Tryz.ntmps14
      go_wp2_with fail
      rw [← hw0]
      clear hw0 x0 x1 x3 x18 x19 x20
      refine (HC.out w0 (sumTab_below HT.out HB0.out) (disk_below HD.out HB0.out) (row_below HM.out HB0.out)).mono ?_
      rintro e w1 ⟨rfl, hb⟩
      have HB1 : Hid (Below w.heap.size w w1) := hide (HB0.out.trans (hb.mono HB0.out.size))
      clear hb
      rw [show toldB R x.nx = kb from HE.out.symm]
      go_wp2_with fail
      go_ret
      exact ⟨rfl, HB1.out⟩
set_option maxHeartbeats 4000000 in
set_option maxRecDepth 100000 in
theorem specWritten_any (X : Array Value) (x : Wrl) (hs : x.small) (w : World) (hbl : WrBl w X) (hx : WrPt w X x) :
    Calls Tryz.prog 13 #[.agg X] w fun e w' => e = .returned (.bool (if x.s.wr = true ∧ x.s.fl = false then toldB (allI (fun q => rdN (readD x.s.tk.ps x.s.tk.ls q)) x.s.tr) x.nx else true)) ∧ Below w.heap.size w w' := by
  obtain ⟨-, hp, hl, hps, hls⟩ := size_small hs
  have hmd : x.nx.length ≤ 1048576 := hs.2.2.1
  obtain ⟨-, -, -, -, p1, q1, p2, q2, -, vm, -, -, -, e0, e1, e3, e18, e19, -, e20, -, h1, -, h3⟩ := hx
  have HC := hide (fun wx h k => specAllPairs_any x.s.tk.ps x.s.tk.ls hp hl hps hls (.agg #[.slice p1 x.s.tk.ps.length q1, .slice p2 x.s.tk.ls.length q2]) x.s.tr wx h k)
  have hrl := all_len x.s.tk.ps x.s.tk.ls x.s.tr
  have HK := hide (hbl 11 12 (Or.inr ⟨rfl, rfl⟩) _ _ e0 e1)
  rw [← both_all _ (rdN_right2 x.s.tk.ps x.s.tk.ls) x.s.tr] at HC
  obtain ⟨kb, hkb⟩ : ∃ b, b = if x.s.wr = true ∧ x.s.fl = false then toldB (allI (fun q => rdN (readD x.s.tk.ps x.s.tk.ls q)) x.s.tr) x.nx else true := ⟨_, rfl⟩
  rw [← hkb]
  have HE := hide hkb
  clear hkb
  obtain ⟨R, hR⟩ : ∃ R, R = allI (fun q => rdN (readD x.s.tk.ps x.s.tk.ls q)) x.s.tr := ⟨_, rfl⟩
  rw [← hR] at HC HE hrl
  obtain ⟨rl, fl⟩ := R
  have hrl : rl.length ≤ 100000 := hrl
  have HS := hide (fun v wx h h' => specSamePairs_any rl x.nx (by omega) (by omega) v vm wx h h')
  have HD := hide h1
  have HM := hide h3
  obtain ⟨np, hnp⟩ : ∃ n, n = x.s.tk.ps.length := ⟨_, rfl⟩
  obtain ⟨nl, hnl⟩ : ∃ n, n = x.s.tk.ls.length := ⟨_, rfl⟩
  obtain ⟨mr, hmr⟩ : ∃ n, n = x.s.tr := ⟨_, rfl⟩
  obtain ⟨wr, hwr⟩ : ∃ b, b = x.s.wr := ⟨_, rfl⟩
  obtain ⟨fb, hfb⟩ : ∃ b, b = x.s.fl := ⟨_, rfl⟩
  rw [← hnp] at e0 HC HD HK
  rw [← hnl] at e1 HC HD HK
  rw [← hmr] at e3 HC
  rw [← hwr] at e18 HE
  rw [← hfb] at e19 HE
  clear hwr hfb hnp hnl hmr hR hp hl hps hls hmd h1 h3 hs hrl hbl
  obtain ⟨w0, hw0⟩ : ∃ w0, w0 = w.alloc (.cells X 59 (0, 0)) := ⟨_, rfl⟩
  have HB0 : Hid (Below w.heap.size w w0) := hide (by rw [hw0]; exact (Below.refl w.heap.size w).alloc (Nat.le_refl _) _)
  have hc : w0.heap[w.heap.size]? = some (.cells X 59 (0, 0)) := by rw [hw0]; exact heap_alloc_new w _
  have HX : Hid (∀ wx, Below w0.heap.size w0 wx → wx.cell? ⟨w.heap.size, 21, none⟩ = some vm) := hide (fun wx hb => (cell_at ((hb.block w.heap.size (by rw [hw0]; simp)).trans hc) 21).1.trans e20)
  have x0 : w0.cell? ⟨w.heap.size, 11, none⟩ = _ := (cell_at hc 11).1.trans e0
  have x1 : w0.cell? ⟨w.heap.size, 12, none⟩ = _ := (cell_at hc 12).1.trans e1
  have x3 : w0.cell? ⟨w.heap.size, 17, none⟩ = _ := (cell_at hc 17).1.trans e3
  have x18 : w0.cell? ⟨w.heap.size, 18, none⟩ = _ := (cell_at hc 18).1.trans e18
  have x19 : w0.cell? ⟨w.heap.size, 19, none⟩ = _ := (cell_at hc 19).1.trans e19
  have x20 := HX.out w0 (Below.refl _ _)
  rw [hw0] at x0 x1 x3 x18 x19 x20
  clear hc e0 e1 e3 e18 e19 e20
  cases wr with
  | false =>
    have hkt : kb = true := HE.out
    subst hkt
    go_enter Tryz.func13, Tryz.ntmps13
    go_wp2_with fail
    go_ret
    rw [← hw0]
    exact ⟨rfl, HB0.out⟩
  | true =>
    cases fb with
    | true =>
      have hkt : kb = true := HE.out
      subst hkt
      go_enter Tryz.func13, Tryz.ntmps13
      go_wp2_with fail
      go_ret
      rw [← hw0]
      exact ⟨rfl, HB0.out⟩
    | false =>
      go_enter Tryz.func13, Tryz.ntmps13
      go_wp2_with fail
      rw [← hw0]
      clear hw0 x0 x1 x3 x18 x19 x20
      refine (HC.out w0 (disk_below HD.out HB0.out) (fun k hk => Nat.lt_of_lt_of_le (HK.out k hk) HB0.out.size)).mono ?_
      rintro e w1 ⟨v, rfl, ho, hb⟩
      have HB1 : Hid (Below w.heap.size w w1) := hide (HB0.out.trans (hb.mono HB0.out.size))
      have x20 := HX.out w1 hb
      have HO := hide (row_of_own ho)
      clear hb ho HX
      cases fl with
      | false =>
        have hkf : kb = false := HE.out
        subst hkf
        go_wp2_with fail
        go_ret
        exact ⟨rfl, HB1.out⟩
      | true =>
        go_wp2_with fail
        refine (HS.out v w1 HO.out (row_below HM.out HB1.out)).mono ?_
        rintro e w2 ⟨rfl, hb⟩
        have HB2 : Hid (Below w.heap.size w w2) := hide (HB1.out.trans (hb.mono HB1.out.size))
        clear hb x20
        have hkt : decide (rl = x.nx) = kb := HE.out.symm
        rw [hkt]
        clear hkt HE
        cases kb <;> (go_wp2_with fail; go_ret; exact ⟨rfl, HB2.out⟩)
open Go.RowKit
set_option maxHeartbeats 8000000 in
set_option maxRecDepth 100000 in
theorem szWorld_any (v : Value) (x : Wrl) (hf : x.fits) (left : Nat) (hleft : left ≤ 1048576) (w : World) (hd : WrAt w v x) :
    Calls Tryz.prog 6 #[v, .int .i64 (left : Int)] w fun r w' => r = .returned (.int .i64 (szOut left x.bulk)) ∧ Below w.heap.size w w' := by
  obtain ⟨cs, vm, vn, vs, vc, vt, rfl, hcs, hst, h1, h2, h3, h4, h5⟩ := hd
  obtain ⟨f0, ⟨f1, f1'⟩, ⟨f2, f2'⟩, ⟨f3, f3'⟩, f4, f5, f5'⟩ := hf
  obtain ⟨xc, cc, rfl⟩ : ∃ a cap, vc = .slice a x.cd.length cap := by obtain ⟨-, a, cap, e, -⟩ := h4; exact ⟨a, cap, e⟩
  have HC1 := hide (fun wx (hb : Below w.heap.size w wx) => szStore_any (.agg cs) x.s f0 left hleft wx (st_below hst hb))
  have HC2 := hide (fun m (hm : m ≤ 1048576) wx (hb : Below w.heap.size w wx) => szPairS_any x.md f1 f1' vm m hm wx (row_below h1 hb))
  have HC3 := hide (fun m (hm : m ≤ 1048576) wx (hb : Below w.heap.size w wx) => szPairS_any x.nx f2 f2' vn m hm wx (row_below h2 hb))
  have HC4 := hide (fun m (hm : m ≤ 1048576) wx (hb : Below w.heap.size w wx) => szSeenS_any x.ss f3 f3' vs m hm wx (seens_below h3 hb))
  have HC5 : Hid (∀ m, m ≤ 1048576 → ∀ wx, Below w.heap.size w wx → Calls Tryz.prog 18 #[.slice xc x.cd.length cc, .int .i64 ((m : Nat) : Int)] wx fun e w' => e = .returned (.int .i64 (szOut m x.cd.length)) ∧ Below wx.heap.size wx w') := hide (fun m hm wx hb => (szIntS_any xc x.cd.length cc f4 m hm wx).mono (fun e w' h => ⟨h.1, by rw [← h.2]; exact Below.refl _ _⟩))
  have HC6 := hide (fun m (hm : m ≤ 1048576) wx (hb : Below w.heap.size w wx) => (szStringS_any x.td f5 f5' vt m hm wx (row_below h5 hb)).mono (R' := fun e w' => e = .returned (.int .i64 (szOut m (bulkS x.td))) ∧ Below wx.heap.size wx w') (fun e w' h => ⟨h.1, by rw [← h.2]; exact Below.refl _ _⟩))
  obtain ⟨b1, e1⟩ : ∃ b, b = x.s.bulk := ⟨_, rfl⟩
  obtain ⟨b2, e2⟩ : ∃ b, b = pBulk x.md := ⟨_, rfl⟩
  obtain ⟨b3, e3⟩ : ∃ b, b = pBulk x.nx := ⟨_, rfl⟩
  obtain ⟨b4, e4⟩ : ∃ b, b = bulkSn x.ss := ⟨_, rfl⟩
  obtain ⟨b5, e5⟩ : ∃ b, b = x.cd.length := ⟨_, rfl⟩
  obtain ⟨b6, e6⟩ : ∃ b, b = bulkS x.td := ⟨_, rfl⟩
  have HBk : Hid (x.bulk = b1 + b2 + b3 + b4 + b5 + b6) := hide (by rw [e1, e2, e3, e4, e5, e6]; rfl)
  rw [← e1] at HC1
  rw [← e2] at HC2
  rw [← e3] at HC3
  rw [← e4] at HC4
  rw [← e5] at HC5
  rw [← e6] at HC6
  obtain ⟨bk, hbk⟩ : ∃ b, b = x.bulk := ⟨_, rfl⟩
  rw [← hbk] at HBk ⊢
  rw [← e5]
  have HS0 := hide (sep_new (sep_nil w.heap.size w) (Obj.cells (cs ++ #[vm, vn, vs, .slice xc b5 cc, vt]) 40) (Nat.le_refl _))
  have HB0 : Hid (Below w.heap.size w (w.alloc (Obj.cells (cs ++ #[vm, vn, vs, .slice xc b5 cc, vt]) 40))) := hide ((Below.refl w.heap.size w).alloc (Nat.le_refl _) _)
  have HCw : Hid (∀ wx, Sep w.heap.size wx [cellA w.heap.size (Obj.cells (cs ++ #[vm, vn, vs, .slice xc b5 cc, vt]) 40)] → wx.rangeAt w.heap.size 0 cs.toList ∧ wx.cell? ⟨w.heap.size, 20, none⟩ = some vm ∧ wx.cell? ⟨w.heap.size, 21, none⟩ = some vn ∧ wx.cell? ⟨w.heap.size, 22, none⟩ = some vs ∧ wx.cell? ⟨w.heap.size, 23, none⟩ = some (.slice xc b5 cc) ∧ wx.cell? ⟨w.heap.size, 24, none⟩ = some vt) := hide (fun wx h => cell_w (sep_get h 0 rfl) hcs)
  have HTr : Hid (∀ wx wy, Below w.heap.size w wx → Below wx.heap.size wx wy → Below w.heap.size w wy) := hide (fun wx wy h h' => h.trans (h'.mono h.size))
  have HZs : Hid ((Tryz.prog.info? 36).map (·.size) = some cs.size) := hide (by rw [hcs]; exact Tryz.sizeStoreL)
  clear e1 e2 e3 e4 e5 e6 hst h1 h2 h3 h4 h5 f0 f1 f1' f2 f2' f3 f3' f4 f5 f5' hcs hbk
  by_cases g1 : b1 ≤ left
  rotate_left
  · have HO : Hid (szOut left bk = -1) := hide (szOut_no (by rw [HBk.out]; omega))
    have HD1 := hide (fun wx hb => HC1.out wx hb)
    rw [szOut_no (by omega)] at HD1
    clear g1
    have HR0 := hide (HCw.out _ HS0.out).1
    go_enter Tryz.func6, Tryz.ntmps6
    go_wp2_with ((with_reducible refine wpList_loadL ?_ 36 (.tmp 5) ?_ w.heap.size 0 ?_ cs HR0.out _ Tryz.underlying36 ?_ ?_ ?_); exact rfl; exact rfl; exact rfl; exact rfl; exact HZs.out)
    refine (HD1.out _ HB0.out).mono ?_
    rintro e w1 ⟨rfl, hb⟩
    have HS1 := hide (sep_below HS0.out hb)
    have HB1 := hide (HTr.out _ _ HB0.out hb)
    obtain ⟨-, k20, k21, k22, k23, k24⟩ := HCw.out _ HS1.out
    clear hb
    go_wp2_with fail
    go_ret
    rw [HO.out]
    exact ⟨rfl, HB1.out⟩
  have HD1 := hide (fun wx hb => HC1.out wx hb)
  rw [szOut_yes g1] at HD1
  obtain ⟨m1, hm1⟩ : ∃ m, m = left - b1 := ⟨_, rfl⟩
  rw [← hm1] at HD1
  by_cases g2 : b2 ≤ m1
  rotate_left
  · have HO : Hid (szOut left bk = -1) := hide (szOut_no (by rw [HBk.out]; omega))
    have HD2 := hide (fun wx hb => HC2.out m1 (by omega) wx hb)
    rw [szOut_no (by omega)] at HD2
    clear g1 g2 hm1
    have HR0 := hide (HCw.out _ HS0.out).1
    go_enter Tryz.func6, Tryz.ntmps6
    go_wp2_with ((with_reducible refine wpList_loadL ?_ 36 (.tmp 5) ?_ w.heap.size 0 ?_ cs HR0.out _ Tryz.underlying36 ?_ ?_ ?_); exact rfl; exact rfl; exact rfl; exact rfl; exact HZs.out)
    refine (HD1.out _ HB0.out).mono ?_
    rintro e w1 ⟨rfl, hb⟩
    have HS1 := hide (sep_below HS0.out hb)
    have HB1 := hide (HTr.out _ _ HB0.out hb)
    obtain ⟨-, k20, k21, k22, k23, k24⟩ := HCw.out _ HS1.out
    clear hb
    go_wp2_with fail
    clear k20 k21 k22 k23 k24
    refine (HD2.out _ HB1.out).mono ?_
    rintro e w2 ⟨rfl, hb⟩
    have HS2 := hide (sep_below HS1.out hb)
    have HB2 := hide (HTr.out _ _ HB1.out hb)
    obtain ⟨-, k20, k21, k22, k23, k24⟩ := HCw.out _ HS2.out
    clear hb
    go_wp2_with fail
    go_ret
    rw [HO.out]
    exact ⟨rfl, HB2.out⟩
  have HD2 := hide (fun wx hb => HC2.out m1 (by omega) wx hb)
  rw [szOut_yes g2] at HD2
  obtain ⟨m2, hm2⟩ : ∃ m, m = m1 - b2 := ⟨_, rfl⟩
  rw [← hm2] at HD2
  by_cases g3 : b3 ≤ m2
  rotate_left
  · have HO : Hid (szOut left bk = -1) := hide (szOut_no (by rw [HBk.out]; omega))
    have HD3 := hide (fun wx hb => HC3.out m2 (by omega) wx hb)
    rw [szOut_no (by omega)] at HD3
    clear g1 g2 g3 hm1 hm2
    have HR0 := hide (HCw.out _ HS0.out).1
    go_enter Tryz.func6, Tryz.ntmps6
    go_wp2_with ((with_reducible refine wpList_loadL ?_ 36 (.tmp 5) ?_ w.heap.size 0 ?_ cs HR0.out _ Tryz.underlying36 ?_ ?_ ?_); exact rfl; exact rfl; exact rfl; exact rfl; exact HZs.out)
    refine (HD1.out _ HB0.out).mono ?_
    rintro e w1 ⟨rfl, hb⟩
    have HS1 := hide (sep_below HS0.out hb)
    have HB1 := hide (HTr.out _ _ HB0.out hb)
    obtain ⟨-, k20, k21, k22, k23, k24⟩ := HCw.out _ HS1.out
    clear hb
    go_wp2_with fail
    clear k20 k21 k22 k23 k24
    refine (HD2.out _ HB1.out).mono ?_
    rintro e w2 ⟨rfl, hb⟩
    have HS2 := hide (sep_below HS1.out hb)
    have HB2 := hide (HTr.out _ _ HB1.out hb)
    obtain ⟨-, k20, k21, k22, k23, k24⟩ := HCw.out _ HS2.out
    clear hb
    go_wp2_with fail
    clear k20 k21 k22 k23 k24
    refine (HD3.out _ HB2.out).mono ?_
    rintro e w3 ⟨rfl, hb⟩
    have HS3 := hide (sep_below HS2.out hb)
    have HB3 := hide (HTr.out _ _ HB2.out hb)
    obtain ⟨-, k20, k21, k22, k23, k24⟩ := HCw.out _ HS3.out
    clear hb
    go_wp2_with fail
    go_ret
    rw [HO.out]
    exact ⟨rfl, HB3.out⟩
  have HD3 := hide (fun wx hb => HC3.out m2 (by omega) wx hb)
  rw [szOut_yes g3] at HD3
  obtain ⟨m3, hm3⟩ : ∃ m, m = m2 - b3 := ⟨_, rfl⟩
  rw [← hm3] at HD3
  by_cases g4 : b4 ≤ m3
  rotate_left
  · have HO : Hid (szOut left bk = -1) := hide (szOut_no (by rw [HBk.out]; omega))
    have HD4 := hide (fun wx hb => HC4.out m3 (by omega) wx hb)
    rw [szOut_no (by omega)] at HD4
    clear g1 g2 g3 g4 hm1 hm2 hm3
    have HR0 := hide (HCw.out _ HS0.out).1
    go_enter Tryz.func6, Tryz.ntmps6
    go_wp2_with ((with_reducible refine wpList_loadL ?_ 36 (.tmp 5) ?_ w.heap.size 0 ?_ cs HR0.out _ Tryz.underlying36 ?_ ?_ ?_); exact rfl; exact rfl; exact rfl; exact rfl; exact HZs.out)
    refine (HD1.out _ HB0.out).mono ?_
    rintro e w1 ⟨rfl, hb⟩
    have HS1 := hide (sep_below HS0.out hb)
    have HB1 := hide (HTr.out _ _ HB0.out hb)
    obtain ⟨-, k20, k21, k22, k23, k24⟩ := HCw.out _ HS1.out
    clear hb
    go_wp2_with fail
    clear k20 k21 k22 k23 k24
    refine (HD2.out _ HB1.out).mono ?_
    rintro e w2 ⟨rfl, hb⟩
    have HS2 := hide (sep_below HS1.out hb)
    have HB2 := hide (HTr.out _ _ HB1.out hb)
    obtain ⟨-, k20, k21, k22, k23, k24⟩ := HCw.out _ HS2.out
    clear hb
    go_wp2_with fail
    clear k20 k21 k22 k23 k24
    refine (HD3.out _ HB2.out).mono ?_
    rintro e w3 ⟨rfl, hb⟩
    have HS3 := hide (sep_below HS2.out hb)
    have HB3 := hide (HTr.out _ _ HB2.out hb)
    obtain ⟨-, k20, k21, k22, k23, k24⟩ := HCw.out _ HS3.out
    clear hb
    go_wp2_with fail
    clear k20 k21 k22 k23 k24
    refine (HD4.out _ HB3.out).mono ?_
    rintro e w4 ⟨rfl, hb⟩
    have HS4 := hide (sep_below HS3.out hb)
    have HB4 := hide (HTr.out _ _ HB3.out hb)
    obtain ⟨-, k20, k21, k22, k23, k24⟩ := HCw.out _ HS4.out
    clear hb
    go_wp2_with fail
    go_ret
    rw [HO.out]
    exact ⟨rfl, HB4.out⟩
  have HD4 := hide (fun wx hb => HC4.out m3 (by omega) wx hb)
  rw [szOut_yes g4] at HD4
  obtain ⟨m4, hm4⟩ : ∃ m, m = m3 - b4 := ⟨_, rfl⟩
  rw [← hm4] at HD4
  by_cases g5 : b5 ≤ m4
  rotate_left
  · have HO : Hid (szOut left bk = -1) := hide (szOut_no (by rw [HBk.out]; omega))
    have HD5 := hide (fun wx hb => HC5.out m4 (by omega) wx hb)
    rw [szOut_no (by omega)] at HD5
    clear g1 g2 g3 g4 g5 hm1 hm2 hm3 hm4
    have HR0 := hide (HCw.out _ HS0.out).1
    go_enter Tryz.func6, Tryz.ntmps6
    go_wp2_with ((with_reducible refine wpList_loadL ?_ 36 (.tmp 5) ?_ w.heap.size 0 ?_ cs HR0.out _ Tryz.underlying36 ?_ ?_ ?_); exact rfl; exact rfl; exact rfl; exact rfl; exact HZs.out)
    refine (HD1.out _ HB0.out).mono ?_
    rintro e w1 ⟨rfl, hb⟩
    have HS1 := hide (sep_below HS0.out hb)
    have HB1 := hide (HTr.out _ _ HB0.out hb)
    obtain ⟨-, k20, k21, k22, k23, k24⟩ := HCw.out _ HS1.out
    clear hb
    go_wp2_with fail
    clear k20 k21 k22 k23 k24
    refine (HD2.out _ HB1.out).mono ?_
    rintro e w2 ⟨rfl, hb⟩
    have HS2 := hide (sep_below HS1.out hb)
    have HB2 := hide (HTr.out _ _ HB1.out hb)
    obtain ⟨-, k20, k21, k22, k23, k24⟩ := HCw.out _ HS2.out
    clear hb
    go_wp2_with fail
    clear k20 k21 k22 k23 k24
    refine (HD3.out _ HB2.out).mono ?_
    rintro e w3 ⟨rfl, hb⟩
    have HS3 := hide (sep_below HS2.out hb)
    have HB3 := hide (HTr.out _ _ HB2.out hb)
    obtain ⟨-, k20, k21, k22, k23, k24⟩ := HCw.out _ HS3.out
    clear hb
    go_wp2_with fail
    clear k20 k21 k22 k23 k24
    refine (HD4.out _ HB3.out).mono ?_
    rintro e w4 ⟨rfl, hb⟩
    have HS4 := hide (sep_below HS3.out hb)
    have HB4 := hide (HTr.out _ _ HB3.out hb)
    obtain ⟨-, k20, k21, k22, k23, k24⟩ := HCw.out _ HS4.out
    clear hb
    go_wp2_with fail
    clear k20 k21 k22 k23 k24
    refine (HD5.out _ HB4.out).mono ?_
    rintro e w5 ⟨rfl, hb⟩
    have HS5 := hide (sep_below HS4.out hb)
    have HB5 := hide (HTr.out _ _ HB4.out hb)
    obtain ⟨-, k20, k21, k22, k23, k24⟩ := HCw.out _ HS5.out
    clear hb
    go_wp2_with fail
    go_ret
    rw [HO.out]
    exact ⟨rfl, HB5.out⟩
  have HD5 := hide (fun wx hb => HC5.out m4 (by omega) wx hb)
  rw [szOut_yes g5] at HD5
  obtain ⟨m5, hm5⟩ : ∃ m, m = m4 - b5 := ⟨_, rfl⟩
  rw [← hm5] at HD5
  by_cases g6 : b6 ≤ m5
  rotate_left
  · have HO : Hid (szOut left bk = -1) := hide (szOut_no (by rw [HBk.out]; omega))
    have HD6 := hide (fun wx hb => HC6.out m5 (by omega) wx hb)
    rw [szOut_no (by omega)] at HD6
    clear g1 g2 g3 g4 g5 g6 hm1 hm2 hm3 hm4 hm5
    have HR0 := hide (HCw.out _ HS0.out).1
    go_enter Tryz.func6, Tryz.ntmps6
    go_wp2_with ((with_reducible refine wpList_loadL ?_ 36 (.tmp 5) ?_ w.heap.size 0 ?_ cs HR0.out _ Tryz.underlying36 ?_ ?_ ?_); exact rfl; exact rfl; exact rfl; exact rfl; exact HZs.out)
    refine (HD1.out _ HB0.out).mono ?_
    rintro e w1 ⟨rfl, hb⟩
    have HS1 := hide (sep_below HS0.out hb)
    have HB1 := hide (HTr.out _ _ HB0.out hb)
    obtain ⟨-, k20, k21, k22, k23, k24⟩ := HCw.out _ HS1.out
    clear hb
    go_wp2_with fail
    clear k20 k21 k22 k23 k24
    refine (HD2.out _ HB1.out).mono ?_
    rintro e w2 ⟨rfl, hb⟩
    have HS2 := hide (sep_below HS1.out hb)
    have HB2 := hide (HTr.out _ _ HB1.out hb)
    obtain ⟨-, k20, k21, k22, k23, k24⟩ := HCw.out _ HS2.out
    clear hb
    go_wp2_with fail
    clear k20 k21 k22 k23 k24
    refine (HD3.out _ HB2.out).mono ?_
    rintro e w3 ⟨rfl, hb⟩
    have HS3 := hide (sep_below HS2.out hb)
    have HB3 := hide (HTr.out _ _ HB2.out hb)
    obtain ⟨-, k20, k21, k22, k23, k24⟩ := HCw.out _ HS3.out
    clear hb
    go_wp2_with fail
    clear k20 k21 k22 k23 k24
    refine (HD4.out _ HB3.out).mono ?_
    rintro e w4 ⟨rfl, hb⟩
    have HS4 := hide (sep_below HS3.out hb)
    have HB4 := hide (HTr.out _ _ HB3.out hb)
    obtain ⟨-, k20, k21, k22, k23, k24⟩ := HCw.out _ HS4.out
    clear hb
    go_wp2_with fail
    clear k20 k21 k22 k23 k24
    refine (HD5.out _ HB4.out).mono ?_
    rintro e w5 ⟨rfl, hb⟩
    have HS5 := hide (sep_below HS4.out hb)
    have HB5 := hide (HTr.out _ _ HB4.out hb)
    obtain ⟨-, k20, k21, k22, k23, k24⟩ := HCw.out _ HS5.out
    clear hb
    go_wp2_with fail
    clear k20 k21 k22 k23 k24
    refine (HD6.out _ HB5.out).mono ?_
    rintro e w6 ⟨rfl, hb⟩
    have HS6 := hide (sep_below HS5.out hb)
    have HB6 := hide (HTr.out _ _ HB5.out hb)
    obtain ⟨-, k20, k21, k22, k23, k24⟩ := HCw.out _ HS6.out
    clear hb
    go_wp2_with fail
    go_ret
    rw [HO.out]
    exact ⟨rfl, HB6.out⟩
  have HD6 := hide (fun wx hb => HC6.out m5 (by omega) wx hb)
  rw [szOut_yes g6] at HD6
  obtain ⟨m6, hm6⟩ : ∃ m, m = m5 - b6 := ⟨_, rfl⟩
  rw [← hm6] at HD6
  have HO : Hid (szOut left bk = (m6 : Int)) := hide (by rw [szOut_yes (by rw [HBk.out]; omega)]; congr 1; rw [HBk.out]; omega)
  clear g1 g2 g3 g4 g5 g6 hm1 hm2 hm3 hm4 hm5 hm6
  have HR0 := hide (HCw.out _ HS0.out).1
  go_enter Tryz.func6, Tryz.ntmps6
  go_wp2_with ((with_reducible refine wpList_loadL ?_ 36 (.tmp 5) ?_ w.heap.size 0 ?_ cs HR0.out _ Tryz.underlying36 ?_ ?_ ?_); exact rfl; exact rfl; exact rfl; exact rfl; exact HZs.out)
  refine (HD1.out _ HB0.out).mono ?_
  rintro e w1 ⟨rfl, hb⟩
  have HS1 := hide (sep_below HS0.out hb)
  have HB1 := hide (HTr.out _ _ HB0.out hb)
  obtain ⟨-, k20, k21, k22, k23, k24⟩ := HCw.out _ HS1.out
  clear hb
  go_wp2_with fail
  clear k20 k21 k22 k23 k24
  refine (HD2.out _ HB1.out).mono ?_
  rintro e w2 ⟨rfl, hb⟩
  have HS2 := hide (sep_below HS1.out hb)
  have HB2 := hide (HTr.out _ _ HB1.out hb)
  obtain ⟨-, k20, k21, k22, k23, k24⟩ := HCw.out _ HS2.out
  clear hb
  go_wp2_with fail
  clear k20 k21 k22 k23 k24
  refine (HD3.out _ HB2.out).mono ?_
  rintro e w3 ⟨rfl, hb⟩
  have HS3 := hide (sep_below HS2.out hb)
  have HB3 := hide (HTr.out _ _ HB2.out hb)
  obtain ⟨-, k20, k21, k22, k23, k24⟩ := HCw.out _ HS3.out
  clear hb
  go_wp2_with fail
  clear k20 k21 k22 k23 k24
  refine (HD4.out _ HB3.out).mono ?_
  rintro e w4 ⟨rfl, hb⟩
  have HS4 := hide (sep_below HS3.out hb)
  have HB4 := hide (HTr.out _ _ HB3.out hb)
  obtain ⟨-, k20, k21, k22, k23, k24⟩ := HCw.out _ HS4.out
  clear hb
  go_wp2_with fail
  clear k20 k21 k22 k23 k24
  refine (HD5.out _ HB4.out).mono ?_
  rintro e w5 ⟨rfl, hb⟩
  have HS5 := hide (sep_below HS4.out hb)
  have HB5 := hide (HTr.out _ _ HB4.out hb)
  obtain ⟨-, k20, k21, k22, k23, k24⟩ := HCw.out _ HS5.out
  clear hb
  go_wp2_with fail
  clear k20 k21 k22 k23 k24
  refine (HD6.out _ HB5.out).mono ?_
  rintro e w6 ⟨rfl, hb⟩
  have HS6 := hide (sep_below HS5.out hb)
  have HB6 := hide (HTr.out _ _ HB5.out hb)
  obtain ⟨-, k20, k21, k22, k23, k24⟩ := HCw.out _ HS6.out
  clear hb
  go_wp2_with fail
  go_ret
  rw [HO.out]
  exact ⟨rfl, HB6.out⟩
end Go.Proofs.YtdbpbhemnnffeaaGreatDoor
