/-
  Several texts in one. Rows of frees (a number and a row of pages each), read only ('FreesAt') or in new memory ('OwnF'), and the laws' own helpers over them by contracts: szFree, szFreeS, toFree, toFreeS, eqFree, eqFreeS. · Rows of frees copied and compared by contracts: toFree, toFreeS, eqFree, eqFreeS. · Metas (three numbers and frees), read only ('MetaAt') or in new memory ('MetaOwn'), and the laws' own helpers over them by contracts: szMeta, toMeta, eqMeta. · The specification's MetaOk by a contract. · spec.l07Walk, whole; spec.l07Look, spec.AllPairs by contracts. · impl.AllPairs by a contract: the pairs of what comes, or nothing. · Rows of pairs (a key and a value each), and the laws' own helpers over them by contracts: eqPairS, markPairS, heldPairS. · What a law holds over its calls: facts on blocks of an interval ('Held'), which stay where nothing of that interval is turned. · laws.FnExactAllPairs by contracts: it returns true at every disk and every root. · impl.keysFit by a contract: whether the keys of a visit's node lie between those on its way (fitB of Plain25). · impl.TreeOk by a contract, over the walk of a tree. · spec.l07Sorted by a contract: a new row of the same numbers, in order. · spec.TreeOk by a contract: what Plain25 calls treeS. · A disk that came in as an argument of a law, opened: what its reading gives. · FnExactTreeOk by contracts.
-/
import Derived.Test.YtaefmkmldfbjeaaDoorNode
import Derived.Test.YtaefmkmldfbjeaaDoorPlJ
import Derived.Test.YtaefmkmldfbjeaaDoorVar
import Derived.Test.YtaefmkmldfbjeaaDoorRow
import Derived.BigQuiet
import Derived.Deep.RegionHeld3
import Derived.Test.YtaefmkmldfbjeaaDoorWalkKids
import Derived.Test.YtaefmkmldfbjeaaDoorWkJ
import Derived.Sort.LoopGhostIn
import Derived.Test.YtaefmkmldfbjeaaDoorAlSpec
import Derived.Test.YtaefmkmldfbjeaaDoorFrame
import Derived.Test.YtaefmkmldfbjeaaDoorDiskN
import Derived.Test.YtaefmkmldfbjeaaDoorRdJ
import Derived.Test.YtaefmkmldfbjeaaDoorIntRow
import Derived.Lib.SmallJoins
import Derived.Deep.Strs
import Derived.Deep.SlicePairs
import Derived.ChangeOld
namespace Go.Proofs.YtaefmkmldfbjeaaDoor
open Go.RowKit

/-- the cells of a row of frees: a number, and the value of the row of pages -/
def frs (l : List (Int × Value)) : List Value := l.flatMap fun p => [.int .i64 p.1, p.2]

theorem frs_cons (p : Int × Value) (l : List (Int × Value)) : frs (p :: l) = Value.int .i64 p.1 :: p.2 :: frs l := rfl

theorem frs_append (l m : List (Int × Value)) : frs (l ++ m) = frs l ++ frs m := by simp [frs]

theorem frs_length (l : List (Int × Value)) : (frs l).length = l.length * 2 := by
  induction l with
  | nil => rfl
  | cons p l ih => rw [frs_cons, List.length_cons, List.length_cons, ih, List.length_cons]; omega

theorem frs_at (l : List (Int × Value)) : ∀ k p, l[k]? = some p → (frs l)[k * 2]? = some (.int .i64 p.1) ∧ (frs l)[k * 2 + 1]? = some p.2 := by
  induction l with
  | nil => intro k p h; simp at h
  | cons q l ih =>
    intro k p h
    rw [frs_cons]
    cases k with
    | zero => simp at h; subst h; exact ⟨rfl, rfl⟩
    | succ k =>
      have := ih k p (by simpa using h)
      rw [show (k + 1) * 2 = k * 2 + 1 + 1 from by omega]
      simpa using this

theorem frs_set (l : List (Int × Value)) : ∀ (k : Nat) (x : Int) (u : Value), k < l.length → ((frs l).set (k * 2) (.int .i64 x)).set (k * 2 + 1) u = frs (l.set k (x, u)) := by
  induction l with
  | nil => intro k p x h; simp at h
  | cons q l ih =>
    intro k x u h
    cases k with
    | zero => rfl
    | succ k =>
      have h2 := ih k x u (by simpa using h)
      rw [List.set_cons_succ, frs_cons, show (k + 1) * 2 = k * 2 + 1 + 1 from by omega, frs_cons, ← h2]
      rfl

theorem frs_set0 (l : List (Int × Value)) : ∀ (k : Nat) (x : Int) (p : Int × Value), l[k]? = some p → (frs l).set (k * 2) (.int .i64 x) = frs (l.set k (x, p.2)) := by
  induction l with
  | nil => intro k x p h; simp at h
  | cons q l ih =>
    intro k x p h
    cases k with
    | zero => simp at h; subst h; rfl
    | succ k =>
      have h2 := ih k x p (by simpa using h)
      rw [List.set_cons_succ, frs_cons, show (k + 1) * 2 = k * 2 + 1 + 1 from by omega, frs_cons, ← h2]
      rfl

theorem frs_made (n : Nat) : (madeCells #[Value.int .i64 0, .slice none 0 0] (n * 2)).toList = frs (List.replicate n (0, .slice none 0 0)) := by
  apply List.ext_getElem?
  intro i
  have hlen : (frs (List.replicate n ((0 : Int), Value.slice none 0 0))).length = n * 2 := by rw [frs_length, List.length_replicate]
  by_cases hi : i < n * 2
  · have h1 : (madeCells #[Value.int .i64 0, .slice none 0 0] (n * 2)).toList[i]? = some (#[Value.int .i64 0, .slice none 0 0][i % 2]!) := by
      simp [madeCells, hi]
    have h2 := frs_at (List.replicate n ((0 : Int), Value.slice none 0 0)) (i / 2) (0, .slice none 0 0) (by rw [List.getElem?_replicate, if_pos (by omega)])
    rw [h1]
    rcases Nat.mod_two_eq_zero_or_one i with h | h
    · rw [h, show i = i / 2 * 2 from by omega, h2.1]; simp
    · rw [h, show i = i / 2 * 2 + 1 from by omega, h2.2]; simp
  · rw [List.getElem?_eq_none (by simp [madeCells]; omega), List.getElem?_eq_none (by rw [hlen]; omega)]

/-- a row of frees that reads so -/
def FreesAt (w : World) (v : Value) (fs : List (Int × List Int)) : Prop :=
  ∃ l : List (Int × Value), l.length = fs.length ∧ RowAt w 2 v fs.length (frs l) ∧ ∀ (k : Nat) (p : Int × Value) (f : Int × List Int), l[k]? = some p → fs[k]? = some f → p.1 = f.1 ∧ RowAt w 1 p.2 f.2.length (ints f.2)

theorem frees_below {w w' : World} {v : Value} {fs : List (Int × List Int)} (h : FreesAt w v fs) (hb : Below w.heap.size w w') : FreesAt w' v fs := by
  obtain ⟨l, h1, h2, h3⟩ := h
  exact ⟨l, h1, row_below h2 hb, fun k p f hp hf => ⟨(h3 k p f hp hf).1, row_below (h3 k p f hp hf).2 hb⟩⟩

theorem frees_slice {w : World} {v : Value} {fs : List (Int × List Int)} (h : FreesAt w v fs) : ∃ a cap, v = .slice a fs.length cap := by
  obtain ⟨l, h1, h2, h3⟩ := h
  obtain ⟨-, a, cap, e, -⟩ := h2
  exact ⟨a, cap, e⟩

theorem frees_at {w : World} {a : Option Addr} {n cap : Nat} {fs : List (Int × List Int)} (h : FreesAt w (.slice a n cap) fs) {k : Nat} {tx : Int} {ps : List Int} (hk : fs[k]? = some (tx, ps)) :
    ∃ b off x c, a = some ⟨b, off, none⟩ ∧ b < w.heap.size ∧ w.cell? ⟨b, off + k * 2, none⟩ = some (.int .i64 tx) ∧ w.cell? ⟨b, off + k * 2 + 1, none⟩ = some (.slice x ps.length c) ∧ RowAt w 1 (.slice x ps.length c) ps.length (ints ps) := by
  obtain ⟨l, h1, h2, h3⟩ := h
  have hlt : k < fs.length := (List.getElem?_eq_some_iff.1 hk).1
  obtain ⟨p, hp⟩ : ∃ p, l[k]? = some p := ⟨_, List.getElem?_eq_getElem (by omega)⟩
  obtain ⟨e1, e2⟩ := h3 k p _ hp hk
  obtain ⟨-, a', cap', e, hr⟩ := h2
  injection e with e _ _
  subst e
  rcases hr with h0 | ⟨b, off, rfl, hb, hc⟩
  · omega
  · obtain ⟨x, c, hx⟩ : ∃ x c, p.2 = .slice x ps.length c := by obtain ⟨-, x, c, e, -⟩ := e2; exact ⟨x, c, e⟩
    rw [hx] at e2
    refine ⟨b, off, x, c, rfl, hb, ?_, ?_, e2⟩
    · rw [hc (k * 2) (by omega), (frs_at l k p hp).1, e1]
    · rw [Nat.add_assoc, hc (k * 2 + 1) (by omega), (frs_at l k p hp).2, hx]

/-- frees of which the first k are in memory of their own: no two rows share a block -/
def OwnTo (w : World) (B : Nat) (m : List (Int × Value)) (fs : List (Int × List Int)) (k : Nat) : Prop :=
  m.length = fs.length ∧ (∀ (i : Nat) (p : Int × Value) (f : Int × List Int), i < k → m[i]? = some p → fs[i]? = some f → p.1 = f.1 ∧ w.ownsRow B 3 1 p.2 f.2.length (ints f.2)) ∧ ∀ (i j : Nat) (p q : Int × Value) (b : Nat), i < k → j < k → m[i]? = some p → m[j]? = some q → p.2.ownBlock = some b → q.2.ownBlock = some b → i = j

theorem ownTo_kept {w w' : World} {B k : Nat} {m : List (Int × Value)} {fs : List (Int × List Int)} {S : Nat → Prop} (h : OwnTo w B m fs k) (hk : Kept w w' S) (hS : ∀ (i : Nat) (p : Int × Value) (b : Nat), i < k → m[i]? = some p → p.2.ownBlock = some b → ¬ S b) : OwnTo w' B m fs k :=
  ⟨h.1, fun i p f hi hp hf => ⟨(h.2.1 i p f hi hp hf).1, own_kept (h.2.1 i p f hi hp hf).2 hk (fun b hb => hS i p b hi hp hb)⟩, h.2.2⟩

theorem ownTo_stays {w w' : World} {B k : Nat} {m : List (Int × Value)} {fs : List (Int × List Int)} (h : OwnTo w B m fs k) (hb : Below w.heap.size w w') : OwnTo w' B m fs k :=
  ⟨h.1, fun i p f hi hp hf => ⟨(h.2.1 i p f hi hp hf).1, own_stays (h.2.1 i p f hi hp hf).2 hb⟩, h.2.2⟩

theorem ownTo_down {w : World} {B B' k : Nat} {m : List (Int × Value)} {fs : List (Int × List Int)} (h : OwnTo w B m fs k) (hb : B' ≤ B) : OwnTo w B' m fs k :=
  ⟨h.1, fun i p f hi hp hf => ⟨(h.2.1 i p f hi hp hf).1, own_down (h.2.1 i p f hi hp hf).2 hb⟩, h.2.2⟩

/-- the blocks of frees: the row's own, and those of the pages -/
def freeBlocks (v : Value) (m : List (Int × Value)) (b : Nat) : Prop := v.ownBlock = some b ∨ ∃ (i : Nat) (p : Int × Value), m[i]? = some p ∧ p.2.ownBlock = some b

/-- a row of pages more -/
theorem ownTo_set {w : World} {B k : Nat} {m : List (Int × Value)} {fs : List (Int × List Int)} {tx : Int} {ps : List Int} {u : Value} (h : OwnTo w B m fs k) (hf : fs[k]? = some (tx, ps)) (hu : w.ownsRow B 3 1 u ps.length (ints ps))
    (hn : ∀ (i : Nat) (p : Int × Value) (b : Nat), i < k → m[i]? = some p → p.2.ownBlock = some b → u.ownBlock ≠ some b) : OwnTo w B (m.set k (tx, u)) fs (k + 1) := by
  have hkl : k < m.length := by rw [h.1]; exact (List.getElem?_eq_some_iff.1 hf).1
  refine ⟨by rw [List.length_set]; exact h.1, fun i p f hi hp hf' => ?_, fun i j p q b hi hj hp hq h1 h2 => ?_⟩
  · by_cases e : k = i
    · subst e
      rw [List.getElem?_set_self hkl] at hp
      injection hp with hp
      rw [hf] at hf'
      injection hf' with hf'
      subst hp hf'
      exact ⟨rfl, hu⟩
    · rw [List.getElem?_set_ne e] at hp
      exact h.2.1 i p f (by omega) hp hf'
  · by_cases e : k = i
    · by_cases e' : k = j
      · omega
      · subst e
        rw [List.getElem?_set_self hkl] at hp
        rw [List.getElem?_set_ne e'] at hq
        injection hp with hp
        subst hp
        exact absurd h1 (hn j q b (by omega) hq h2)
    · by_cases e' : k = j
      · subst e'
        rw [List.getElem?_set_self hkl] at hq
        rw [List.getElem?_set_ne e] at hp
        injection hq with hq
        subst hq
        exact absurd h2 (hn i p b (by omega) hp h1)
      · rw [List.getElem?_set_ne e] at hp
        rw [List.getElem?_set_ne e'] at hq
        exact h.2.2 i j p q b (by omega) (by omega) hp hq h1 h2

/-- how many pages the first k frees have -/
def sumF (l : List (Int × List Int)) (k : Nat) : Nat := ((l.take k).map fun p => p.2.length).sum

theorem sumF_succ (l : List (Int × List Int)) (k : Nat) {tx : Int} {ps : List Int} (h : l[k]? = some (tx, ps)) : sumF l (k + 1) = sumF l k + ps.length := by
  obtain ⟨hk, e⟩ := List.getElem?_eq_some_iff.1 h
  unfold sumF
  rw [List.take_succ_eq_append_getElem hk, List.map_append, List.sum_append, e]
  simp

theorem sumF_zero (l : List (Int × List Int)) : sumF l 0 = 0 := by simp [sumF]

theorem sumF_mono (l : List (Int × List Int)) (k : Nat) : sumF l k ≤ sumF l l.length := by
  unfold sumF
  conv => rhs; rw [List.take_length, ← List.take_append_drop k l, List.map_append, List.sum_append]
  omega

/-- how much a list of frees holds -/
def bulkF (l : List (Int × List Int)) : Nat := l.length + sumF l l.length

theorem bulkF_in {l : List (Int × List Int)} {m : Nat} (h : bulkF l ≤ m) : l.length ≤ m ∧ ∀ f ∈ l, f.2.length ≤ m := by
  unfold bulkF at h
  refine ⟨by omega, fun f hf => ?_⟩
  obtain ⟨i, hi, rfl⟩ := List.getElem_of_mem hf
  have h1 := sumF_succ l i (tx := l[i].1) (ps := l[i].2) (List.getElem?_eq_getElem hi)
  have h2 := sumF_mono l (i + 1)
  omega

end Go.Proofs.YtaefmkmldfbjeaaDoor

namespace Go.Proofs.YtaefmkmldfbjeaaDoor
open Go.RowKit

end Go.Proofs.YtaefmkmldfbjeaaDoor

namespace Go.Proofs.YtaefmkmldfbjeaaDoor
open Go.RowKit

/-- a meta that reads so -/
def MetaAt (w : World) (v : Value) (m : Mt) : Prop := ∃ vf, v = .agg #[.int .i64 m.tx, .int .i64 m.root, .int .i64 m.next, vf] ∧ FreesAt w vf m.fs

theorem meta_below {w w' : World} {v : Value} {m : Mt} (h : MetaAt w v m) (hb : Below w.heap.size w w') : MetaAt w' v m := by
  obtain ⟨vf, e, h⟩ := h
  exact ⟨vf, e, frees_below h hb⟩

end Go.Proofs.YtaefmkmldfbjeaaDoor

namespace Go.Proofs.YtaefmkmldfbjeaaDoor
open Go.RowKit

theorem in_dec (x a b : Int) (w : World) : Calls Tryd.prog 35 #[.int .i64 x, .int .i64 a, .int .i64 b] w fun e w' => e = .returned (.bool (decide (a ≤ x ∧ x ≤ b))) ∧ w = w' := by
  by_cases h : a ≤ x ∧ x ≤ b
  · rw [decide_eq_true h]; exact l01In_yes x a b w h.1 h.2
  · rw [decide_eq_false h]; exact l01In_no x a b w (by omega)

theorem bel_dn {B : Nat} {a b : World} {n : Nat} (h : Below B a b) : Below B a (b.drewN n) := below_drewN h n

set_option maxHeartbeats 1000000 in
theorem l06In_any (l : List Int) (hl : l.length ≤ 1048576) (x : Int) (v : Value) (w : World) (hr : RowAt w 1 v l.length (ints l)) :
    Calls Tryd.prog 26 #[v, .int .i64 x] w fun e w' => e = .returned (.bool (decide (x ∈ l))) ∧ w = w' := by
  obtain ⟨-, a, cap, rfl, h2⟩ := hr
  have HR := hide h2
  clear h2
  go_enter Tryd.func26, Tryd.ntmps26
  go_wp2
  go_loopg [5] l.length (fun q iv wr => ∃ k : Nat, k ≤ l.length ∧ iv = .int .i64 (k : Int) ∧ q + k = l.length ∧ Hid (x ∉ l.take k) ∧ w = wr)
  case atStart => exact ⟨0, Nat.zero_le _, rfl, rfl, hide (by simp), rfl⟩
  case round =>
    obtain ⟨k, hk, rfl, hg, HT, rfl⟩ := hrel
    have HG := hide hg
    clear hg
    by_cases hlt : k < l.length
    · rcases HR.out with hn0 | ⟨b, off, rfl, hbl, hc⟩
      · omega
      · obtain ⟨y, hy⟩ : ∃ y, y = l[k] := ⟨_, rfl⟩
        have hcx : w.cell? ⟨b, off + k, none⟩ = some (.int .i64 y) := by rw [hc k (by omega), ints_at l k hlt, hy]
        have HY := hide hy
        have hk0 : (0 : Int) ≤ (k : Int) := by omega
        have hk1 : (k : Int) < (l.length : Int) := by omega
        clear hc hy
        by_cases hxy : y = x
        · have HD : Hid (decide (x ∈ l) = true) := hide (decide_eq_true (by rw [← hxy, HY.out]; exact List.getElem_mem hlt))
          subst hxy
          go_wp2
          go_ret
          rw [HD.out]
          exact ⟨rfl, rfl⟩
        · have HT2 : Hid (x ∉ l.take (k + 1)) := hide (fun h => by
            rw [List.take_succ_eq_append_getElem hlt] at h
            rcases List.mem_append.1 h with h | h
            · exact HT.out h
            · rw [List.mem_singleton, ← HY.out] at h; exact hxy h.symm)
          have hbq : (y == x) = false := by simp [hxy]
          have hbd : decide (y = x) = false := decide_eq_false hxy
          clear hxy
          go_wp2
          go_roundg (gk - 1)
          case measure => have := HG.out; omega
          case rel => exact ⟨k + 1, by omega, by go_num, by have := HG.out; omega, HT2, rfl⟩
    · have HD : Hid (decide (x ∈ l) = false) := hide (decide_eq_false (by
        have h1 := HT.out
        rw [List.take_of_length_le (by omega)] at h1
        exact h1))
      go_wp2
      go_ret
      rw [HD.out]
      exact ⟨rfl, rfl⟩

theorem Tryd.intInfo : (Tryd.prog.info? 3).map (fun i => (i.zero, i.size, i.bytes)) = some (some (.int .i64 0), 1, 8) := by kernel_rfl

/-- what the variable of a meta holds -/
theorem meta_var (w : World) (tx root next : Int) (vf : Value) (t : TypeId) : ∀ wx, Below (w.alloc (Obj.cells #[.int .i64 tx, .int .i64 root, .int .i64 next, vf] t)).heap.size (w.alloc (Obj.cells #[.int .i64 tx, .int .i64 root, .int .i64 next, vf] t)) wx →
    wx.cell? ⟨w.heap.size, 0, none⟩ = some (.int .i64 tx) ∧ wx.cell? ⟨w.heap.size, 1, none⟩ = some (.int .i64 root) ∧ wx.cell? ⟨w.heap.size, 2, none⟩ = some (.int .i64 next) ∧ wx.cell? ⟨w.heap.size, 3, none⟩ = some vf := fun wx hb => by
  have hblk := heap_alloc_new w (Obj.cells #[.int .i64 tx, .int .i64 root, .int .i64 next, vf] t)
  have hq := (hb.block _ (Array.getElem?_eq_some_iff.1 hblk).1).trans hblk
  exact ⟨(cell_at hq 0).1, (cell_at hq 1).1, (cell_at hq 2).1, (cell_at hq 3).1⟩

theorem int_one (w : World) (x : Int) : (w.alloc (Obj.cells #[.int .i64 x] 3)).ownsRow w.heap.size 3 1 (.slice (some ⟨w.heap.size, 0, none⟩) 1 1) 1 (ints [x]) := by
  simpa [ints] using World.ownsRow_lit (base := w.heap.size) (e := 3) (size := 1) w #[.int .i64 x] 1 (Nat.le_refl _) (by unfold maxLen; omega) (by simp)

theorem int_cell (w : World) (x : Int) : ∀ (j : Nat) (u : Value), [Value.int .i64 x][j]? = some u → (w.alloc (Obj.cells #[.int .i64 x] 3)).cell? ((⟨w.heap.size, 0, none⟩ : Addr).add j) = some u := by
  intro j u hj
  match j, hj with
  | 0, hj => simp at hj; subst hj; simp [Addr.add]

theorem blk_type {w : World} {B e sz n g : Nat} {v : Value} {xs : List Value} {cs : Array Value} {t : TypeId} {p : Nat × Nat} (h : w.ownsRow B e sz v n xs) (hb : w.heap[g]? = some (.cells cs t p)) (hne : e ≠ t) : some g ≠ v.ownBlock := by
  intro h2
  rcases h.2 with ⟨rfl, -⟩ | ⟨g', cap, cur, rfl, -, hh, -⟩
  · cases h2
  · injection h2 with h2
    have h2 : g = g' := h2
    subst h2
    rw [hh] at hb
    injection hb with hb
    injection hb with _ he _
    exact hne he


end Go.Proofs.YtaefmkmldfbjeaaDoor

namespace Go.Proofs.YtaefmkmldfbjeaaDoor
open Go.RowKit

theorem rdN_right (ps : List ByteArray) (ls : List (Int × ByteArray)) : Right (fun q => rdN (readD ps ls q)) := fun p h => by
  have : rdN (readD ps ls p) = ((rdN (readD ps ls p)).1, true) := by rw [← h]
  exact rdN_ok this

theorem inC : InC := fun l hl x v w h => l06In_any l hl x v w h

theorem walk_any (ps : List ByteArray) (ls : List (Int × ByteArray)) (hp : ps.length ≤ 1048576) (hl : ls.length ≤ 1048576) (hps : ∀ s ∈ ps, s.size ≤ 1048576) (hls : ∀ p ∈ ls, p.2.size ≤ 1048576) (v1 v2 : Value) (ga : Nat) (hdk : ∀ k, diskBlocks (.agg #[v1, v2]) k → k < ga) :
    ∀ (k : Nat) (p : Int) (deep : Nat) (low high : ByteArray) (has : Bool) (a : Al) (vp vg vd : Value) (W : World), deep + k = 8 → DiskAt W (.agg #[v1, v2]) ps ls → AlIs W ga a vp vg vd → (a.pages.length + cntK k ≤ 100000 ∧ a.pairs.length + 4 * cntK k ≤ 400000 ∧ a.depths.length + cntK k ≤ 100000) →
      Calls Tryd.prog 19 #[.agg #[v1, v2], .int .i64 p, .int .i64 (deep : Int), .string low, .string high, .bool has, .pointer (some ⟨ga, 0, none⟩)] W fun e W' => (∃ r, e = .returned r) ∧ WkPost W ga (walkS (fun q => rdN (readD ps ls q)) k p deep low high has a) vp vg vd W'
  | 0, p, deep, low, high, has, a, vp, vg, vd, W, hk, hd, hA, hb => by
    rw [walkS]
    exact walk_stop inC ps ls hp hl hps hls v1 v2 p deep low high has a ga vp vg vd W hd hA (by omega) (Or.inr (Or.inl (by omega)))
  | k + 1, p, deep, low, high, has, a, vp, vg, vd, W, hk, hd, hA, hb => by
    rw [walkS]
    have hc : cntK (k + 1) = 1 + 4 * cntK k := rfl
    rw [hc] at hb
    by_cases hs : (rdN (readD ps ls p)).2 = false ∨ p ∈ a.pages ∨ a.bad = true
    · rw [if_pos hs]
      exact walk_stop inC ps ls hp hl hps hls v1 v2 p deep low high has a ga vp vg vd W hd hA (by omega) (by rcases hs with h | h | h; exact Or.inl h; exact Or.inr (Or.inr (Or.inl h)); exact Or.inr (Or.inr (Or.inr h)))
    · rw [if_neg hs]
      have h1 : (rdN (readD ps ls p)).2 = true := by cases h : (rdN (readD ps ls p)).2; exact absurd (Or.inl h) hs; rfl
      have h2 : ¬ p ∈ a.pages := fun h => hs (Or.inr (Or.inl h))
      have h3 : a.bad = false := by cases h : a.bad; rfl; exact absurd (Or.inr (Or.inr h)) hs
      cases hlf : (rdN (readD ps ls p)).1.lf with
      | true =>
        rw [if_pos rfl]
        exact walk_leaf inC ps ls hp hl hps hls v1 v2 p deep low high has a ga vp vg vd W hd hdk hA (by omega) h1 (by omega) h2 h3 hlf _
      | false =>
        rw [if_neg (by decide)]
        refine walk_kids inC ps ls hp hl hps hls v1 v2 p deep low high has a ga vp vg vd W hd hdk hA (by omega) h1 (by omega) h2 h3 hlf _ (cntK k) ?_ ?_
        · intro q lo hi h b xp xg xd X hdX hAX hbX
          have := walk_any ps ls hp hl hps hls v1 v2 ga hdk k q (deep + 1) lo hi h b xp xg xd X (by omega) hdX hAX hbX
          have e : ((deep + 1 : Nat) : Int) = (deep : Int) + 1 := by omega
          rw [e] at this
          exact this
        · intro i hi
          have hok := rdN_right ps ls p h1
          obtain ⟨-, c2, -, -⟩ := cnt_yes (node_yes hok).1
          have c4 : (rdN (readD ps ls p)).1.ks.length ≤ 4 := c2
          obtain ⟨l1, l2, l3⟩ := loopS_len (fun q => rdN (readD ps ls q)) (rdN_right ps ls) k (rdN (readD ps ls p)).1 hlf deep low high has { a with pages := a.pages ++ [p] } i
          have hm : (i + 1) * cntK k ≤ 4 * cntK k := Nat.mul_le_mul_right _ (by omega)
          rw [Nat.succ_mul] at hm
          simp only [List.length_append, List.length_singleton] at l1 l2 l3
          exact ⟨by omega, by omega, by omega⟩

theorem cntK8 : cntK 8 = 21845 := by decide

set_option maxHeartbeats 4000000 in
set_option maxRecDepth 100000 in
theorem look_any (ps : List ByteArray) (ls : List (Int × ByteArray)) (hp : ps.length ≤ 1048576) (hl : ls.length ≤ 1048576) (hps : ∀ s ∈ ps, s.size ≤ 1048576) (hls : ∀ p ∈ ls, p.2.size ≤ 1048576) (v : Value) (root : Int) (w : World) (hd : DiskAt w v ps ls) (hdk : ∀ k, diskBlocks v k → k < w.heap.size) :
    Calls Tryd.prog 11 #[v, .int .i64 root] w fun e w' => ∃ ga vp vg vd, e = .returned (.pointer (some ⟨ga, 0, none⟩)) ∧ w.heap.size ≤ ga ∧ AlIs w' ga (seenS (fun q => rdN (readD ps ls q)) root) vp vg vd ∧ Below w.heap.size w w' := by
  obtain ⟨v1, v2, rfl, -, -⟩ := id hd
  obtain ⟨w0, hw0⟩ : ∃ w0, w0 = (w.alloc (.cells #[v1, v2] 30 (0, 0))).alloc (.cells #[.slice none 0 0, .slice none 0 0, .slice none 0 0, .bool false, .bool false] 41 (0, 0)) := ⟨_, rfl⟩
  obtain ⟨t1, t2, t3⟩ := two_allocs w (.cells #[v1, v2] 30 (0, 0)) (.cells #[.slice none 0 0, .slice none 0 0, .slice none 0 0, .bool false, .bool false] 41 (0, 0))
  rw [← hw0] at t1 t2 t3
  have hb0 : Below w.heap.size w w0 := by rw [hw0]; exact ((Below.refl _ _).alloc (Nat.le_refl _) _).alloc (by simp) _
  obtain ⟨ga, hga⟩ : ∃ g, g = w.heap.size + 1 := ⟨_, rfl⟩
  rw [← hga] at t2
  have hA0 : AlIs w0 ga Al.none (.slice none 0 0) (.slice none 0 0) (.slice none 0 0) := ⟨t2, World.ownsRow_nil _ _ _ _, World.ownsRow_nil _ _ _ _, World.ownsRow_nil _ _ _ _, fun k e => by cases e⟩
  have HA0 := hide hA0
  have HB0 := hide hb0
  have HG := hide hga
  by_cases hz : root = 0
  · have HF : Hid (seenS (fun q => rdN (readD ps ls q)) root = Al.none) := hide (by rw [seenS, if_pos hz])
    subst hz
    clear hA0 hb0 t1 t2 t3 hd hdk hp hl hps hls
    go_enter Tryd.func11, Tryd.ntmps11
    go_wp2_with fail
    rw [← hw0]
    go_ret
    rw [← hga]
    exact ⟨ga, _, _, _, rfl, by have := HG.out; omega, by rw [HF.out]; exact HA0.out, HB0.out⟩
  · have HF : Hid (seenS (fun q => rdN (readD ps ls q)) root = walkS (fun q => rdN (readD ps ls q)) 8 root 0 ⟨#[]⟩ ⟨#[]⟩ false Al.none) := hide (by rw [seenS, if_neg hz])
    have HW := hide (walk_any ps ls hp hl hps hls v1 v2 ga (fun k hk => by have := hdk k hk; omega) 8 root 0 ⟨#[]⟩ ⟨#[]⟩ false Al.none _ _ _ w0 (by omega) (disk_below hd hb0) hA0 (by rw [cntK8]; decide))
    have hzb : (root != 0) = true := by simp [hz]
    have p0 := (cell_at t1 0).1
    have p1 := (cell_at t1 1).1
    clear hA0 hb0 t1 t2 t3 hd hdk hp hl hps hls hz
    go_enter Tryd.func11, Tryd.ntmps11
    go_wp2_with fail
    rw [← hw0, ← hga]
    clear hw0 hga
    refine HW.out.mono ?_
    rintro e w1 ⟨⟨r, rfl⟩, vp, vg, vd, hal, hkp, -⟩
    have HAl := hide hal
    have HB1 : Hid (Below w.heap.size w w1) := hide (HB0.out.trans (keptC_below hkp (fun k hk => by have := (al_lt HA0.out k hk).1; have := HG.out; omega) HB0.out.size))
    clear hal hkp
    go_wp2_with fail
    go_ret
    exact ⟨ga, vp, vg, vd, rfl, by have := HG.out; omega, by rw [HF.out]; exact HAl.out, HB1.out⟩

def allO (r : List (ByteArray × ByteArray) × Bool) (w w' : World) (e : Ending) : Prop := ∃ v, e = .returned (.tuple #[v, .bool r.2]) ∧ w'.ownsRow w.heap.size 43 2 v r.1.length (prs r.1) ∧ Below w.heap.size w w'

end Go.Proofs.YtaefmkmldfbjeaaDoor

namespace Go.Proofs.YtaefmkmldfbjeaaDoor
open Go.RowKit Go.Shelf

attribute [local go_sem] Oper.semAt_some

theorem alloc_get (W : World) (o : Obj) (k : Nat) : (W.alloc o).heap[k]? = if k = W.heap.size then some o else W.heap[k]? := by
  by_cases h : k = W.heap.size
  · rw [if_pos h, h]; exact World.alloc_heap_new W o
  · rw [if_neg h]
    by_cases h2 : k < W.heap.size
    · exact Below.heap_alloc _ _ _ h2
    · have h3 : (W.alloc o).heap.size ≤ k := by rw [World.size_alloc]; omega
      rw [Array.getElem?_eq_none h3, Array.getElem?_eq_none (by omega)]

/-- the frame of a round's body -/
def apFrame (w : World) (ap al : Option Addr) (np nl cp cl : Nat) (root : Int) (gv : Nat) (x : Ev) : Act :=
  ⟨#[.agg #[.slice ap np cp, .slice al nl cl], .int .i64 root, .pointer (some ⟨w.heap.size, 0, none⟩), undef, .pointer (some ⟨w.heap.size + 1, 0, none⟩), .pointer (some ⟨w.heap.size + 1 + 1, 0, none⟩), .pointer (some ⟨w.heap.size + 1 + 1 + 1 + 1, 0, none⟩), .pointer (some ⟨gv, 0, none⟩), .bool x.ok, undef, undef, .slice (some ⟨w.heap.size + 1 + 1 + 1, 0, none⟩) 0 0, .agg #[.slice ap np cp, .slice al nl cl], .int .i64 root, .func (.func 21) #[] #[.pointer (some ⟨w.heap.size + 1 + 1 + 1 + 1 + 1 + 1, 0, none⟩), .pointer (some ⟨w.heap.size + 1 + 1 + 1 + 1 + 1, 0, none⟩)], x.val, .bool x.ok, undef, undef, undef, undef, undef, undef, undef, undef, undef, undef, undef, undef, undef, undef, undef, undef, undef, undef, undef, undef, undef, undef, undef, undef, undef], []⟩

/-- behind the assignment: the visit lies in its variable -/
def APAx (w : World) (ap al : Option Addr) (np nl cp cl : Nat) (root : Int) (x : Ev) (a : Act) (C : Nat → Prop) (W : World) : Prop :=
  ∃ gv cs, x.val = .agg cs ∧ C gv ∧ gv < W.heap.size ∧ W.heap[gv]? = some (.cells cs 53 (0, 0)) ∧ a = apFrame w ap al np nl cp cl root gv x

theorem apax_kept {w : World} {ap al : Option Addr} {np nl cp cl : Nat} {root : Int} (x : Ev) (a : Act) (C : Nat → Prop) (A B : World) (h : APAx w ap al np nl cp cl root x a C A) (hk : KeptC (fun k => ¬ C k) A B) : APAx w ap al np nl cp cl root x a C B := by
  obtain ⟨gv, cs, h1, h2, h3, h4, h5⟩ := h
  exact ⟨gv, cs, h1, h2, Nat.lt_of_lt_of_le h3 hk.2.2.2.1, (hk.2.2.2.2 gv h3 (fun hn => hn h2)).trans h4, h5⟩

theorem api_wide {w W : World} {pre : List Ev} {C : Nat → Prop} (h : API w pre C W) (o : Obj) : API w pre (fun k => C k ∨ k = W.heap.size) (W.alloc o) := by
  have h2 := api_kept pre C W (W.alloc o) h (keptC_alloc _ W o)
  obtain ⟨h1, vr, hc, hn, h3⟩ := h2
  have hs : w.heap.size ≤ W.heap.size := by
    obtain ⟨-, vr, -, -, h4⟩ := h
    have := (apc_lt h4 (w.heap.size + 1) (Or.inl rfl)).2
    omega
  refine ⟨h1, vr, fun k h => Or.inl (hc k h), fun k h => ?_, h3⟩
  rcases h with h | rfl
  · exact hn k h
  · exact ⟨hs, by simp⟩

theorem ap_stop {w W : World} {pre : List Ev} {x : Ev} {C : Nat → Prop} {v1 : Value} (hok : x.ok = false) (hc1 : C (w.heap.size + 1)) (hc2 : C (w.heap.size + 2)) (h1 : W.heap[w.heap.size + 1]? = some (.cells #[v1] 38 (0, 0))) (h2 : W.heap[w.heap.size + 2]? = some (.cells #[.bool false] 4 (0, 0))) :
    ∃ C', KeptC C W (((W.setCell ⟨w.heap.size + 1, 0, none⟩ (.slice (some ⟨W.heap.size, 0, none⟩) 0 0)).setCell ⟨w.heap.size + 1 + 1, 0, none⟩ (.bool false)).alloc (Obj.cells #[] 43)) ∧ (∀ k, C' k → C k ∨ W.heap.size ≤ k) ∧
      APX w .ret (pre ++ [x]) C' (((W.setCell ⟨w.heap.size + 1, 0, none⟩ (.slice (some ⟨W.heap.size, 0, none⟩) 0 0)).setCell ⟨w.heap.size + 1 + 1, 0, none⟩ (.bool false)).alloc (Obj.cells #[] 43)) := by
  have g1 : w.heap.size + 1 < W.heap.size := (Array.getElem?_eq_some_iff.1 h1).1
  have g2 : w.heap.size + 2 < W.heap.size := (Array.getElem?_eq_some_iff.1 h2).1
  obtain ⟨X, hX⟩ : ∃ X, X = (W.setCell ⟨w.heap.size + 1, 0, none⟩ (.slice (some ⟨W.heap.size, 0, none⟩) 0 0)).setCell ⟨w.heap.size + 1 + 1, 0, none⟩ (.bool false) := ⟨_, rfl⟩
  rw [← hX]
  have hs : X.heap.size = W.heap.size := by rw [hX]; simp
  have k1 : KeptC C W X := by
    rw [hX]
    exact keptC_trans (keptC_setCell W 0 _ hc1) (keptC_setCell (C := C) _ 0 _ hc2) (fun j h => Or.inl h)
  have e1 : X.heap[w.heap.size + 1]? = some (.cells #[.slice (some ⟨W.heap.size, 0, none⟩) 0 0] 38 (0, 0)) := by
    rw [hX]
    exact (Below.heap_setCell _ _ _ _ (by simp)).trans (heap_setCell_same _ _ 0 _ _ _ h1)
  have e2 : X.heap[w.heap.size + 2]? = some (.cells #[.bool false] 4 (0, 0)) := by
    rw [hX]
    exact heap_setCell_same _ _ 0 _ _ _ ((Below.heap_setCell _ _ _ _ (by simp)).trans h2)
  refine ⟨fun k => C k ∨ k = W.heap.size, keptC_trans k1 (keptC_alloc (fun _ => False) X _) (fun j h => h.elim), fun k h => by rcases h with h | h; exact Or.inl h; exact Or.inr (by omega), rfl, ⟨pre, x, rfl, hok⟩, _, ?_, ?_, ⟨rfl, Or.inr ⟨W.heap.size, 0, #[], rfl, by omega, ?_, Nat.le_refl _, Nat.zero_le _, rfl, rfl⟩⟩, ?_⟩
  · exact (Below.heap_alloc X _ _ (by omega)).trans e1
  · exact (Below.heap_alloc X _ _ (by omega)).trans e2
  · have := heap_alloc_new X (Obj.cells #[] 43)
    rw [hs] at this
    exact this
  · rintro k (rfl | rfl | e)
    · exact Or.inl hc1
    · exact Or.inl hc2
    · injection e with e
      exact Or.inr (by have e : W.heap.size = k := e; omega)

/-- no operation of the region defers -/
def noDefer (ops : Array Oper) : Bool := ops.toList.all fun o => match o.op with | .defer _ => false | _ => true

theorem noDefer_spec {ops : Array Oper} (h : noDefer ops = true) : ∀ (i : Nat) (o : Oper), ops[i]? = some o → ∀ c, o.op ≠ .defer c := fun i o ho c e => by
  have hm : o ∈ ops.toList := by
    rw [← Array.getElem?_toList] at ho
    exact List.mem_of_getElem? ho
  have := List.all_eq_true.1 h o hm
  rw [e] at this
  cases this

/-- between two values of a page -/
def APL (w W : World) (C : Nat → Prop) (gv : Nat) (cs : Array Value) (L : List (ByteArray × ByteArray)) (wr : World) : Prop :=
  KeptC C W wr ∧ wr.heap[gv]? = some (.cells cs 53 (0, 0)) ∧ ∃ (C1 : Nat → Prop) (vr : Value), (∀ k, C1 k → C k ∨ W.heap.size ≤ k) ∧ (∀ k, APC w vr k → C1 k) ∧ (∀ k, C1 k → w.heap.size ≤ k ∧ k < wr.heap.size) ∧ APs w wr vr L

/-- a pair goes behind the others -/
theorem ap_push {w W wd wB : World} {C : Nat → Prop} {gv b d lr : Nat} {cs : Array Value} {L : List (ByteArray × ByteArray)} {vr : Value} {xk y : ByteArray} {o : Obj} {C1 : Nat → Prop} {v1 : Value} (hlr : lr = L.length) (hk : KeptC C W wd) (hgv : wd.heap[gv]? = some (.cells cs 53 (0, 0))) (hsub : ∀ k, C1 k → C k ∨ W.heap.size ≤ k) (hap : ∀ k, APC w vr k → C1 k) (hbd : ∀ k, C1 k → w.heap.size ≤ k ∧ k < wd.heap.size)
    (h1 : wd.heap[w.heap.size + 1]? = some (.cells #[v1] 38 (0, 0))) (h2 : wd.heap[w.heap.size + 2]? = some (.cells #[.bool false] 4 (0, 0))) (h4 : wd.heap[w.heap.size + 4]? = some (.cells #[vr] 38 (0, 0))) (h5 : wd.ownsRow w.heap.size 43 2 vr L.length (prs L))
    (hgB : (wd.alloc o).grownBy wB vr.ownBlock) (hownB : wB.ownsRow w.heap.size 43 2 (.slice (some ⟨b, 0, none⟩) (lr + 1) d) (lr + 1) (prs L ++ [.string xk, .string y])) (hbB : vr.ownBlock = some b ∨ b = wd.heap.size + 1) :
    (KeptC C W wB ∧ wB.heap[gv]? = some (.cells cs 53 (0, 0)) ∧ wB.heap[w.heap.size + 4]? = some (.cells #[vr] 38 (0, 0))) ∧
    APL w W C gv cs (L ++ [(xk, y)]) (wB.setCell ⟨w.heap.size + 4, 0, none⟩ (.slice (some ⟨b, 0, none⟩) (lr + 1) d)) := by
  have hb1 : Below wd.heap.size wd (wd.alloc o) := (Below.refl _ _).alloc (Nat.le_refl _) _
  have K1 : KeptC (fun k => vr.ownBlock = some k) wd wB := ⟨hgB.os.trans hb1.os, hgB.tape.trans hb1.tape, hgB.output.trans hb1.output, Nat.le_trans hb1.size hgB.size, fun j hj hn => (hgB.block j (Nat.lt_of_lt_of_le hj hb1.size) (fun e => hn e.symm)).trans (hb1.block j hj)⟩
  have far : ∀ {g : Nat} {cc : Array Value} {T : Nat}, wd.heap[g]? = some (.cells cc T (0, 0)) → (43 : Nat) ≠ T → wB.heap[g]? = some (.cells cc T (0, 0)) := fun {g cc T} h hne => (K1.2.2.2.2 g (Array.getElem?_eq_some_iff.1 h).1 (fun e => hne (typ_one (own_typ h5 e) ⟨_, _, h⟩))).trans h
  have e1 := far h1 (by decide)
  have e2 := far h2 (by decide)
  have e4 := far h4 (by decide)
  have eg := far hgv (by decide)
  have k1 : KeptC C W wB := keptC_trans hk K1 (fun j e => hsub j (hap j (Or.inr (Or.inr (Or.inr e)))))
  have hne : gv ≠ w.heap.size + 4 := fun e => by
    rw [e, h4] at hgv
    injection hgv with hgv
    injection hgv with _ ht _
    exact absurd ht (by decide)
  refine ⟨⟨k1, eg, e4⟩, ?_⟩
  obtain ⟨X, hX⟩ : ∃ X, X = wB.setCell ⟨w.heap.size + 4, 0, none⟩ (.slice (some ⟨b, 0, none⟩) (lr + 1) d) := ⟨_, rfl⟩
  rw [← hX]
  have k2 : KeptC (fun k => k = w.heap.size + 4) wB X := by rw [hX]; exact keptC_setCell (C := fun k => k = w.heap.size + 4) wB 0 _ rfl
  have hs : X.heap.size = wB.heap.size := by rw [hX]; simp
  have f4 : X.heap[w.heap.size + 4]? = some (.cells #[.slice (some ⟨b, 0, none⟩) (lr + 1) d] 38 (0, 0)) := by rw [hX]; exact heap_setCell_same _ _ 0 _ _ _ e4
  have fx : ∀ {g : Nat} {ob : Obj}, wB.heap[g]? = some ob → g ≠ w.heap.size + 4 → X.heap[g]? = some ob := fun h hn => (k2.2.2.2.2 _ (Array.getElem?_eq_some_iff.1 h).1 hn).trans h
  have hbl := hownB.lt b rfl
  refine ⟨keptC_trans k1 k2 (fun j e => by rw [e]; exact hsub _ (hap _ (Or.inr (Or.inr (Or.inl rfl))))), fx eg hne, fun k => C1 k ∨ k = b, .slice (some ⟨b, 0, none⟩) (lr + 1) d, fun k h => ?_, fun k h => ?_, fun k h => ?_, ⟨v1, fx e1 (by omega)⟩, fx e2 (by omega), f4, ?_⟩
  · rcases h with h | rfl
    · exact hsub k h
    · rcases hbB with hbB | hbB
      · exact hsub k (hap k (Or.inr (Or.inr (Or.inr hbB))))
      · exact Or.inr (by have := hk.2.2.2.1; omega)
  · rcases h with h | h | h | h
    · exact Or.inl (hap k (Or.inl h))
    · exact Or.inl (hap k (Or.inr (Or.inl h)))
    · exact Or.inl (hap k (Or.inr (Or.inr (Or.inl h))))
    · injection h with h
      exact Or.inr (by have h : b = k := h; omega)
  · rcases h with h | rfl
    · have := hbd k h
      have h3 := K1.2.2.2.1
      exact ⟨this.1, by omega⟩
    · exact ⟨hbl.1, by omega⟩
  · have hl : (L ++ [(xk, y)]).length = lr + 1 := by rw [hlr]; simp
    have hp : prs (L ++ [(xk, y)]) = prs L ++ [.string xk, .string y] := by simp [prs]
    rw [hl, hp]
    refine own_kept hownB k2 (fun j e h => ?_)
    exact absurd (typ_one (own_typ hownB e) (by rw [h]; exact ⟨_, _, e4⟩)) (by decide)

end Go.Proofs.YtaefmkmldfbjeaaDoor

namespace Go.Proofs.YtaefmkmldfbjeaaDoor
open Go.RowKit

theorem prs_cons (p : ByteArray × ByteArray) (l : List (ByteArray × ByteArray)) : prs (p :: l) = Value.string p.1 :: .string p.2 :: prs l := rfl

theorem prs_at (l : List (ByteArray × ByteArray)) : ∀ k (h : k < l.length), (prs l)[k * 2]? = some (.string l[k].1) ∧ (prs l)[k * 2 + 1]? = some (.string l[k].2) := by
  induction l with
  | nil => intro k h; simp at h
  | cons p l ih =>
    intro k h
    cases k with
    | zero => exact ⟨rfl, rfl⟩
    | succ k =>
      rw [prs_cons, show (k + 1) * 2 = k * 2 + 1 + 1 from by omega]
      exact ih k (by simpa using h)

theorem prs_set (l : List (ByteArray × ByteArray)) : ∀ (k : Nat) (p : ByteArray) (x : ByteArray), k < l.length → ((prs l).set (k * 2) (.string p)).set (k * 2 + 1) (.string x) = prs (l.set k (p, x)) := by
  induction l with
  | nil => intro k p x h; simp at h
  | cons q l ih =>
    intro k p x h
    cases k with
    | zero => rfl
    | succ k =>
      rw [prs_cons, show (k + 1) * 2 = k * 2 + 1 + 1 from by omega, List.set_cons_succ, List.set_cons_succ, List.set_cons_succ, List.set_cons_succ, ih k p x (by simpa using h), List.set_cons_succ, prs_cons]

/-- the marks of pairs from k on, n of them -/
def marksQ (k n : Nat) : List (ByteArray × ByteArray) := (List.range n).map fun i => (markB (k + i * 2), markB (k + i * 2 + 1))

theorem marksQ_length (k n : Nat) : (marksQ k n).length = n := by simp [marksQ]

theorem marksQ_at (k n i : Nat) (h : i < n) : (prs (marksQ k n))[i * 2]? = some (.string (markB (k + i * 2))) ∧ (prs (marksQ k n))[i * 2 + 1]? = some (.string (markB (k + i * 2 + 1))) := by
  have := prs_at (marksQ k n) i (by rw [marksQ_length]; exact h)
  simpa [marksQ] using this

theorem marksQ_of (k n : Nat) (m : List (ByteArray × ByteArray)) (hl : m.length = n) (h : ∀ i, i < n → m[i]? = some (markB (k + i * 2), markB (k + i * 2 + 1))) : m = marksQ k n := by
  apply List.ext_getElem?
  intro i
  by_cases hi : i < n
  · rw [h i hi]; simp [marksQ, hi]
  · rw [List.getElem?_eq_none (by omega), List.getElem?_eq_none (by rw [marksQ_length]; omega)]

end Go.Proofs.YtaefmkmldfbjeaaDoor

namespace Go.Proofs.YtaefmkmldfbjeaaDoor
open Go.RowKit

/-- a fact that hangs on the blocks B .. U - 1 alone -/
def Loc (B U : Nat) (p : World → Prop) : Prop := ∀ w w' : World, w.heap.size ≤ w'.heap.size → U ≤ w.heap.size → (∀ k, B ≤ k → k < U → w'.heap[k]? = w.heap[k]?) → p w → p w'

structure Held (wr : World) (B U : Nat) (p : World → Prop) : Prop where
  loc : Loc B U p
  le : U ≤ wr.heap.size
  is : p wr

theorem held_below {wr wr' : World} {B U : Nat} {p : World → Prop} (h : Held wr B U p) (hb : Below wr.heap.size wr wr') : Held wr' B U p :=
  ⟨h.loc, Nat.le_trans h.le hb.size, h.loc wr wr' hb.size h.le (fun k _ hk => hb.block k (Nat.lt_of_lt_of_le hk h.le)) h.is⟩

theorem held_kept {wr wr' : World} {B U : Nat} {p : World → Prop} {S : Nat → Prop} (h : Held wr B U p) (hk : Kept wr wr' S) (hS : ∀ k, B ≤ k → k < U → ¬ S k) : Held wr' B U p :=
  ⟨h.loc, Nat.le_trans h.le hk.2.2.2.1, h.loc wr wr' hk.2.2.2.1 h.le (fun k h1 h2 => hk.2.2.2.2 k (Nat.lt_of_lt_of_le h2 h.le) (hS k h1 h2)) h.is⟩

/-- a variable of two cells -/
def IsVar (g : Nat) (u0 u1 : Value) (t : TypeId) (w : World) : Prop := w.heap[g]? = some (Obj.cells #[u0, u1] t)

theorem held_var {w : World} {g : Nat} {u0 u1 : Value} {t : TypeId} (h : w.heap[g]? = some (Obj.cells #[u0, u1] t)) : Held w g (g + 1) (IsVar g u0 u1 t) :=
  ⟨fun a b _ _ hk hp => (hk g (Nat.le_refl _) (by omega)).trans hp, (Array.getElem?_eq_some_iff.1 h).1, h⟩

theorem held_cells {w : World} {B U g : Nat} {u0 u1 : Value} {t : TypeId} (h : Held w B U (IsVar g u0 u1 t)) : w.cell? ⟨g, 0, none⟩ = some u0 ∧ w.cell? ⟨g, 1, none⟩ = some u1 := ⟨(cell_at h.is 0).1, (cell_at h.is 1).1⟩

/-- a disk of our own whose rows lie in B .. U - 1 -/
def IsDisk (B U : Nat) (v : Value) (ps : List ByteArray) (ls : List (Int × ByteArray)) (w : World) : Prop := DiskOwn w B v ps ls ∧ ∀ k, diskBlocks v k → k < U

theorem diskOwn_loc {w w' : World} {B U : Nat} {v : Value} {ps : List ByteArray} {ls : List (Int × ByteArray)} (h : IsDisk B U v ps ls w) (_hs : w.heap.size ≤ w'.heap.size) (hk : ∀ k, B ≤ k → k < U → w'.heap[k]? = w.heap[k]?) : IsDisk B U v ps ls w' := by
  refine ⟨?_, h.2⟩
  have hl := diskOwn_lt h.1
  have hu := h.2
  obtain ⟨⟨vp, vl, rfl, h1, h2⟩, -⟩ := h
  have key : ∀ {e sz n : Nat} {u : Value} {xs : List Value}, w.ownsRow B e sz u n xs → (∀ k, u.ownBlock = some k → k < U) → w'.ownsRow B e sz u n xs := fun {e sz n u xs} h hlt => by
    refine ⟨h.1, ?_⟩
    rcases h.2 with ⟨rfl, hn⟩ | ⟨g, cap, cur, rfl, hg, hh, rest⟩
    · exact Or.inl ⟨rfl, hn⟩
    · exact Or.inr ⟨g, cap, cur, rfl, hg, (hk g hg (hlt g rfl)).trans hh, rest⟩
  exact ⟨vp, vl, rfl, key h1 (fun k e => hu k ⟨vp, vl, rfl, Or.inl e⟩), key h2 (fun k e => hu k ⟨vp, vl, rfl, Or.inr e⟩)⟩

theorem held_disk {w : World} {B : Nat} {v : Value} {ps : List ByteArray} {ls : List (Int × ByteArray)} (h : DiskOwn w B v ps ls) : Held w B w.heap.size (IsDisk B w.heap.size v ps ls) :=
  ⟨fun _ _ hs _ hk hp => diskOwn_loc hp hs hk, Nat.le_refl _, h, fun k hk => (diskOwn_lt h k hk).2⟩

/-- the same disk with other contents, turned in place -/
theorem held_again {w : World} {B U : Nat} {v : Value} {ps qs : List ByteArray} {ls ms : List (Int × ByteArray)} {w' : World} (h : Held w B U (IsDisk B U v ps ls)) (hd : DiskOwn w' B v qs ms) (hs : w.heap.size ≤ w'.heap.size) : Held w' B U (IsDisk B U v qs ms) :=
  ⟨fun _ _ hs _ hk hp => diskOwn_loc hp hs hk, Nat.le_trans h.le hs, hd, h.is.2⟩

theorem disk_form {w : World} {B : Nat} {v : Value} {ps : List ByteArray} {ls : List (Int × ByteArray)} (h : DiskOwn w B v ps ls) : ∃ x c y d, v = .agg #[.slice x ps.length c, .slice y ls.length d] := by
  obtain ⟨vp, vl, rfl, h1, h2⟩ := h
  obtain ⟨x, c, rfl⟩ := own_slice h1
  obtain ⟨y, d, rfl⟩ := own_slice h2
  exact ⟨x, c, y, d, rfl⟩

/-- a new variable behind what was -/
theorem new_var (w : World) (u0 u1 : Value) (t : TypeId) : Below w.heap.size w (w.alloc (Obj.cells #[u0, u1] t)) ∧ Held (w.alloc (Obj.cells #[u0, u1] t)) w.heap.size (w.heap.size + 1) (IsVar w.heap.size u0 u1 t) :=
  ⟨(Below.refl _ _).alloc (Nat.le_refl _) _, held_var (heap_alloc_new w _)⟩
end Go.Proofs.YtaefmkmldfbjeaaDoor

namespace Go.Proofs.YtaefmkmldfbjeaaDoor
open Go.RowKit

theorem all_len (ps : List ByteArray) (ls : List (Int × ByteArray)) (root : Int) : (allI (fun q => rdN (readD ps ls q)) root).1.length ≤ 100000 := by
  unfold allI
  split
  · show (pairsV _).length ≤ _
    have hv : ∀ v ∈ (seenI (fun q => rdN (readD ps ls q)) root).1, v.nd.vs.length ≤ 4 ∧ True := fun v hv => by
      unfold seenI at hv
      split at hv
      · cases hv
      · have h := down_vis (fun q => rdN (readD ps ls q)) 8 root [] [] v hv
        have h2 : (rdN (readD ps ls v.page)).1 = v.nd := by rw [show rdN (readD ps ls v.page) = (v.nd, true) from h]
        have := rdN_right2 ps ls v.page (by show (rdN (readD ps ls v.page)).2 = true; rw [show rdN (readD ps ls v.page) = (v.nd, true) from h])
        rw [← h2]
        exact ⟨(ok_cnt this).2.1, trivial⟩
    have h1 := pairsV_len (fun v h => (hv v h).1)
    have h2 : (seenI (fun q => rdN (readD ps ls q)) root).1.length ≤ 22000 := by
      unfold seenI
      split
      · exact Nat.zero_le _
      · exact Nat.le_trans (down_cnt _ (fun p hp => (ok_cnt (rdN_right2 ps ls p hp)).2.2) 8 root [] []) cntK8A
    omega
  · exact Nat.zero_le _

theorem bulk_inA {ps : List ByteArray} {ls : List (Int × ByteArray)} (h : bulkS ps + bulkP ls ≤ 1048576) : ps.length ≤ 1048576 ∧ (∀ s ∈ ps, s.size ≤ 1048576) ∧ ls.length ≤ 1048576 ∧ ∀ p ∈ ls, p.2.size ≤ 1048576 := by
  rw [bulkS_eq] at h
  unfold bulkP at h
  refine ⟨by omega, fun s hs => ?_, by omega, fun p hp => ?_⟩
  · obtain ⟨i, hi, rfl⟩ := List.getElem_of_mem hs
    have h1 := sumS_succ ps i hi
    have h2 := sumS_mono ps (i + 1)
    omega
  · obtain ⟨i, hi, rfl⟩ := List.getElem_of_mem hp
    have h1 := sumP_succ ls i hi
    have h2 := sumP_mono ls (i + 1)
    omega

/-- a row of pairs of our own that lies in B .. U - 1 -/
def IsPr (B U : Nat) (v : Value) (l : List (ByteArray × ByteArray)) (w : World) : Prop := w.ownsRow B 43 2 v l.length (prs l) ∧ ∀ j, v.ownBlock = some j → j < U

theorem pr_loc {w w' : World} {B U : Nat} {v : Value} {l : List (ByteArray × ByteArray)} (h : IsPr B U v l w) (hk : ∀ k, B ≤ k → k < U → w'.heap[k]? = w.heap[k]?) : IsPr B U v l w' := by
  refine ⟨⟨h.1.1, ?_⟩, h.2⟩
  have hu := h.2
  rcases h.1.2 with ⟨rfl, hn⟩ | ⟨g, cap, cur, rfl, hg, hh, rest⟩
  · exact Or.inl ⟨rfl, hn⟩
  · exact Or.inr ⟨g, cap, cur, rfl, hg, (hk g hg (hu g rfl)).trans hh, rest⟩

theorem held_pr {w : World} {B : Nat} {v : Value} {l : List (ByteArray × ByteArray)} (h : w.ownsRow B 43 2 v l.length (prs l)) : Held w B w.heap.size (IsPr B w.heap.size v l) :=
  ⟨fun _ _ _ _ hk hp => pr_loc hp hk, Nat.le_refl _, h, fun k hk => (h.lt k hk).2⟩

theorem held_prA {w : World} {B U : Nat} {v : Value} {l l' : List (ByteArray × ByteArray)} {w' : World} (h : Held w B U (IsPr B U v l)) (hd : w'.ownsRow B 43 2 v l'.length (prs l')) (hs : w.heap.size ≤ w'.heap.size) : Held w' B U (IsPr B U v l') :=
  ⟨fun _ _ _ _ hk hp => pr_loc hp hk, Nat.le_trans h.le hs, hd, h.is.2⟩

end Go.Proofs.YtaefmkmldfbjeaaDoor

namespace Go.Proofs.YtaefmkmldfbjeaaDoor
open Go.RowKit

theorem wcells_length (X : List WStep) : (wcells X).length = X.length * 5 := by
  induction X with
  | nil => rfl
  | cons x X ih => rw [wcells, List.flatMap_cons, List.length_append, List.length_cons]; show 5 + (wcells X).length = _; rw [ih, List.length_cons]; omega

theorem wcells_at (X : List WStep) : ∀ (i : Nat) (h : i < X.length), (wcells X)[i * 5]? = some (.bool X[i].nd.lf) ∧ (wcells X)[i * 5 + 1]? = some X[i].k ∧ (wcells X)[i * 5 + 2]? = some X[i].v ∧ (wcells X)[i * 5 + 3]? = some X[i].c ∧ (wcells X)[i * 5 + 4]? = some (.int .i64 (X[i].at_ : Int)) := by
  induction X with
  | nil => intro i h; simp at h
  | cons x X ih =>
    intro i h
    cases i with
    | zero => simp [wcells]
    | succ i =>
      have hh := ih i (by simpa using h)
      have e : wcells (x :: X) = [.bool x.nd.lf, x.k, x.v, x.c, .int .i64 (x.at_ : Int)] ++ wcells X := rfl
      have key : ∀ j, (wcells (x :: X))[(i + 1) * 5 + j]? = (wcells X)[i * 5 + j]? := fun j => by
        rw [e, List.getElem?_append_right (by simp; omega)]
        congr 1
        simp; omega
      have k0 := key 0
      simp only [Nat.add_zero] at k0
      rw [k0, key 1, key 2, key 3, key 4]
      exact hh

/-- one step of the way: the node's keys fit -/
def fit1 (nd : Nd) (s : Nd × Nat) : Bool := !(lessB (nd.ks.getD 0 ⟨#[]⟩) (s.1.ks.getD s.2 ⟨#[]⟩)) && (!(decide (s.2 + 1 < s.1.ks.length)) || lessB (nd.ks.getD (nd.ks.length - 1) ⟨#[]⟩) (s.1.ks.getD (s.2 + 1) ⟨#[]⟩))

theorem fitB_all (v : Vis) : fitB v = v.way.all (fit1 v.nd) := rfl

theorem leq_less (x y : ByteArray) : (Op.bytesLess x.toList y.toList || x.toList == y.toList) = !(Op.bytesLess y.toList x.toList) := by
  have h := gtB_eq x y
  cases h2 : (Op.bytesLess x.toList y.toList || x.toList == y.toList) <;> rw [h2] at h <;> rw [← h] <;> rfl

theorem all_snoc {α : Type} (p : α → Bool) (l : List α) (i : Nat) (h : i < l.length) : (l.take (i + 1)).all p = ((l.take i).all p && p l[i]) := by
  rw [List.take_succ_eq_append_getElem h, List.all_append]; simp

theorem all_no {α : Type} (p : α → Bool) (l : List α) (i : Nat) (h : i < l.length) (hp : p l[i] = false) : l.all p = false := by
  cases ha : l.all p with
  | false => rfl
  | true => have := List.all_eq_true.1 ha _ (List.getElem_mem h); rw [hp] at this; cases this

/-- a way down, its steps' slices written out -/
def WayAt2 (W : World) (B : Nat) (v : Value) (way : List (Nd × Nat)) : Prop :=
  ∃ X : List WStep, X.map (fun x => (x.nd, x.at_)) = way ∧ W.ownsRow B 68 5 v way.length (wcells X) ∧ ∀ x ∈ X, W.ownsRow B 9 1 x.k x.nd.ks.length (strs x.nd.ks) ∧ (∃ a n c, x.v = .slice a n c) ∧ ∃ a n c, x.c = .slice a n c

theorem way2 {W : World} {B : Nat} {C : Nat → Prop} {v : Value} {way : List (Nd × Nat)} (h : WayAt W B C v way) : WayAt2 W B v way := by
  obtain ⟨X, e, h1, -, h3⟩ := h
  exact ⟨X, e, h1, fun x hx => ⟨(h3 x hx).1, (h3 x hx).2.2⟩⟩

set_option maxHeartbeats 4000000 in
set_option maxRecDepth 100000 in
theorem keysFit_any (W : World) (B : Nat) (pg : Int) (nd : Nd) (way : List (Nd × Nat)) (vk vv vc vw : Value) (hno : NodeOwn W B (.agg #[.bool nd.lf, vk, vv, vc]) nd.lf nd.ks nd.vs nd.cs) (hk : 0 < nd.ks.length) (hk4 : nd.ks.length ≤ 1048576) (hwl : way.length ≤ 1048576) (hw : WayAt2 W B vw way) (hat : ∀ s ∈ way, s.2 < s.1.ks.length ∧ s.1.ks.length ≤ 1048576) :
    Calls Tryd.prog 15 #[.agg #[.int .i64 pg, .bool nd.lf, vk, vv, vc, vw]] W fun e w' => e = .returned (.bool (fitB ⟨pg, nd, way⟩)) ∧ Below W.heap.size W w' := by
  obtain ⟨o1, -, -⟩ := node_rowsW hno
  obtain ⟨n1, hn1⟩ : ∃ n1, nd.ks.length = n1 + 1 := ⟨nd.ks.length - 1, by omega⟩
  obtain ⟨ak, ck, rfl⟩ := own_slice o1
  obtain ⟨gk, rfl⟩ : ∃ g, ak = some ⟨g, 0, none⟩ := by
    rcases o1.2 with ⟨e, h0⟩ | ⟨g, cc, cur, e, _⟩
    · omega
    · injection e with e1; exact ⟨g, e1⟩
  obtain ⟨X, hX, hrow, hks⟩ := hw
  obtain ⟨aw, cw, rfl⟩ := own_slice hrow
  obtain ⟨fs, hfs⟩ : ∃ s, s = nd.ks.getD 0 ⟨#[]⟩ := ⟨_, rfl⟩
  obtain ⟨lst, hls⟩ : ∃ s, s = nd.ks.getD (nd.ks.length - 1) ⟨#[]⟩ := ⟨_, rfl⟩
  obtain ⟨w0, hw0⟩ : ∃ w0, w0 = W.alloc (Obj.cells #[.int .i64 pg, .bool nd.lf, .slice (some ⟨gk, 0, none⟩) nd.ks.length ck, vv, vc, .slice aw way.length cw] 53 (0, 0)) := ⟨_, rfl⟩
  have hb0 : Below W.heap.size W w0 := by rw [hw0]; exact (Below.refl _ _).alloc (Nat.le_refl _) _
  have hbox : w0.heap[W.heap.size]? = some (Obj.cells #[.int .i64 pg, .bool nd.lf, .slice (some ⟨gk, 0, none⟩) nd.ks.length ck, vv, vc, .slice aw way.length cw] 53 (0, 0)) := by rw [hw0]; exact heap_alloc_new W _
  have q2 : w0.cell? ⟨W.heap.size, 2, none⟩ = some (.slice (some ⟨gk, 0, none⟩) (n1 + 1) ck) := by rw [← hn1]; exact (cell_at hbox 2).1
  have q5 : w0.cell? ⟨W.heap.size, 5, none⟩ = some (.slice aw way.length cw) := (cell_at hbox 5).1
  have hlt := (o1.lt gk rfl).2
  have c0 : w0.cell? ⟨gk, 0, none⟩ = some (.string fs) := by
    obtain ⟨g, e, h⟩ := row_getS (i := 0) o1 hk rfl
    injection e with e; injection e with e; subst e
    rw [hb0.cell (by exact hlt), h, hfs]
  have c1 : w0.cell? ⟨gk, n1, none⟩ = some (.string lst) := by
    obtain ⟨g, e, h⟩ := row_getS (i := n1) o1 (by omega) rfl
    injection e with e; injection e with e; subst e
    rw [hb0.cell (by exact hlt), h, hls, hn1]; rfl
  have HSt : Hid (∀ i, i < way.length → ∀ wx, Below W.heap.size W wx → ∃ (lf : Bool) (g gs n c at_ : Nat) (p1 p2 : Option Addr) (m1 k1 m2 k2 : Nat) (x y : ByteArray), aw = some ⟨g, 0, none⟩ ∧ wx.cell? ⟨g, i * 5, none⟩ = some (.bool lf) ∧ wx.cell? ⟨g, i * 5 + 1, none⟩ = some (.slice (some ⟨gs, 0, none⟩) n c) ∧ wx.cell? ⟨g, i * 5 + 2, none⟩ = some (.slice p1 m1 k1) ∧ wx.cell? ⟨g, i * 5 + 3, none⟩ = some (.slice p2 m2 k2) ∧ wx.cell? ⟨g, i * 5 + 4, none⟩ = some (.int .i64 (at_ : Int)) ∧ at_ < n ∧ n ≤ 1048576 ∧ gs < W.heap.size ∧ wx.cell? ⟨gs, at_, none⟩ = some (.string x) ∧ (at_ + 1 < n → wx.cell? ⟨gs, at_ + 1, none⟩ = some (.string y)) ∧ ∀ (h : i < way.length), fit1 nd way[i] = (!(lessB fs x) && (!(decide (at_ + 1 < n)) || lessB lst y))) := hide (by
    intro i hi wx hb
    have hXl : X.length = way.length := by rw [← hX, List.length_map]
    have hiX : i < X.length := by omega
    obtain ⟨t0, t1, t2, t3, t4⟩ := wcells_at X i hiX
    obtain ⟨ok, ⟨p1, m1, k1, ev⟩, ⟨p2, m2, k2, ec⟩⟩ := hks X[i] (List.getElem_mem hiX)
    have hs : way[i] = (X[i].nd, X[i].at_) := by simp [← hX]
    obtain ⟨hat1, hn⟩ := hat way[i] (List.getElem_mem hi)
    rw [hs] at hat1 hn
    obtain ⟨a2, c2, ek⟩ := own_slice ok
    rw [ek] at ok t1
    rw [ev] at t2
    rw [ec] at t3
    obtain ⟨gs, e, h⟩ := row_getS (i := X[i].at_) ok hat1 rfl
    subst e
    obtain ⟨g, rfl⟩ : ∃ g, aw = some ⟨g, 0, none⟩ := by
      rcases hrow.2 with ⟨e, h0⟩ | ⟨g, cc, cur, e, _⟩
      · omega
      · injection e with e1; exact ⟨g, e1⟩
    have hgl := (hrow.lt g rfl).2
    have hgs := (ok.lt gs rfl).2
    refine ⟨X[i].nd.lf, g, gs, X[i].nd.ks.length, c2, X[i].at_, p1, p2, m1, k1, m2, k2, X[i].nd.ks.getD X[i].at_ ⟨#[]⟩, X[i].nd.ks.getD (X[i].at_ + 1) ⟨#[]⟩, rfl, ?_, ?_, ?_, ?_, ?_, hat1, hn, hgs, ?_, ?_, ?_⟩
    · rw [hb.cell (by exact hgl), hrow.cellAt _ (by omega), t0]
    · rw [hb.cell (by exact hgl), hrow.cellAt _ (by omega), t1]
    · rw [hb.cell (by exact hgl), hrow.cellAt _ (by omega), t2]
    · rw [hb.cell (by exact hgl), hrow.cellAt _ (by omega), t3]
    · rw [hb.cell (by exact hgl), hrow.cellAt _ (by omega), t4]
    · rw [hb.cell (by exact hgs), h]
    · intro h1
      obtain ⟨g', e, h2⟩ := row_getS (i := X[i].at_ + 1) ok h1 rfl
      injection e with e; injection e with e; subst e
      rw [hb.cell (by exact hgs), h2]
    · intro _
      rw [hs, fit1, ← hfs, ← hls])
  have HB0 := hide hb0
  have hn2 : (n1 : Int) ≤ 1048576 := by omega
  clear hn1 hk hk4 hno o1 hrow hks hX hat hbox hb0 hlt hfs hls
  go_enter Tryd.func15, Tryd.ntmps15
  go_wp2_with fail
  rw [← hw0]
  clear hw0
  have hn0 : (0 : Int) ≤ (n1 : Int) := by omega
  go_quiet (fail)
  go_wp2_with fail
  go_loopg [25] way.length (fun q iv wr => ∃ i : Nat, i ≤ way.length ∧ q + i = way.length ∧ iv = .int .i64 (i : Int) ∧ Hid ((way.take i).all (fit1 nd) = true) ∧ Hid (Below W.heap.size W wr))
  case atStart => exact ⟨0, Nat.zero_le _, by omega, rfl, hide rfl, hide (below_drewN HB0.out _)⟩
  case round =>
    obtain ⟨i, hi, hq, rfl, HAll, HB⟩ := hrel
    have HQ := hide hq
    clear hq q2 q5 c0 c1
    by_cases hlt : i < way.length
    · obtain ⟨lf, g, gs, n, c, at_, p1, p2, m1, k1, m2, k2, x, y, rfl, d0, d1, d2, d3, d4, hat, hn, hgs, e0, e1, hfit⟩ := HSt.out i hlt wr HB.out
      have hf := hfit hlt
      clear hfit
      have HFit := hide hf
      clear hf
      obtain ⟨b1, h1⟩ : ∃ b, Op.bytesLess x.toList fs.toList = b := ⟨_, rfl⟩
      obtain ⟨b2, h2⟩ : ∃ b, (x.toList == fs.toList) = b := ⟨_, rfl⟩
      have hi0 : (0 : Int) ≤ (i : Int) := by omega
      have hi1 : (i : Int) < (way.length : Int) := by omega
      have ha0 : (0 : Int) ≤ (at_ : Int) := by omega
      have ha1 : (at_ : Int) < (n : Int) := by omega
      have hgl : gs < wr.heap.size := Nat.lt_of_lt_of_le hgs HB.out.size
      have hca : ∀ o, (wr.alloc o).cell? ⟨gs, at_, none⟩ = some (.string x) := fun o => (((Below.refl _ _).alloc (Nat.le_refl _) o).cell (by exact hgl)).trans e0
      have hcb : at_ + 1 < n → ∀ o, (wr.alloc o).cell? ⟨gs, at_ + 1, none⟩ = some (.string y) := fun h o => (((Below.refl _ _).alloc (Nat.le_refl _) o).cell (by exact hgl)).trans (e1 h)
      have HC := hide hcb
      clear e1 hcb HSt
      have HG1 : Hid (lessB fs x = !(b1 || b2)) := hide (by rw [lessB, ← gtB_eq, h1, h2])
      have HNo : fit1 nd way[i] = false → Hid (fitB ⟨pg, nd, way⟩ = false) := fun h => hide (by rw [fitB_all]; exact all_no _ _ i hlt h)
      have HYe : fit1 nd way[i] = true → Hid ((way.take (i + 1)).all (fit1 nd) = true) := fun h => hide (by rw [all_snoc _ _ _ hlt, HAll.out, h]; rfl)
      by_cases hm : at_ + 1 < n
      · have hcc := HC.out hm
        have hm1 : (at_ : Int) + 1 < (n : Int) := by omega
        obtain ⟨b3, h3⟩ : ∃ b, Op.bytesLess y.toList lst.toList = b := ⟨_, rfl⟩
        obtain ⟨b4, h4⟩ : ∃ b, (y.toList == lst.toList) = b := ⟨_, rfl⟩
        have HG2 : Hid (lessB lst y = !(b3 || b4)) := hide (by rw [lessB, ← gtB_eq, h3, h4])
        have HF : Hid (fit1 nd way[i] = (!(!(b1 || b2)) && !(b3 || b4))) := hide (by rw [HFit.out, HG1.out, HG2.out, decide_eq_true hm]; simp)
        cases b1 <;> cases b2 <;> cases b3 <;> cases b4
        all_goals first
          | (have HN := HNo (by rw [HF.out]; rfl)
             clear HNo HYe
             go_wp2_with fail
             go_ret
             exact ⟨by rw [HN.out]; rfl, HB.out.alloc HB.out.size _⟩)
          | (have HY := HYe (by rw [HF.out]; rfl)
             clear HNo HYe
             go_wp2_with fail
             go_roundg (gk - 1)
             case measure => have := HQ.out; omega
             case rel => exact ⟨i + 1, by omega, by have := HQ.out; omega, by go_num, HY, hide (HB.out.alloc HB.out.size _)⟩)
      · have hm1 : ¬ ((at_ : Int) + 1 < (n : Int)) := by omega
        have HF : Hid (fit1 nd way[i] = !(!(b1 || b2))) := hide (by rw [HFit.out, HG1.out, decide_eq_false hm]; simp)
        cases b1 <;> cases b2
        all_goals first
          | (have HN := HNo (by rw [HF.out]; rfl)
             clear HNo HYe
             go_wp2_with fail
             go_ret
             exact ⟨by rw [HN.out]; rfl, HB.out.alloc HB.out.size _⟩)
          | (have HY := HYe (by rw [HF.out]; rfl)
             clear HNo HYe
             go_wp2_with fail
             go_roundg (gk - 1)
             case measure => have := HQ.out; omega
             case rel => exact ⟨i + 1, by omega, by have := HQ.out; omega, by go_num, HY, hide (HB.out.alloc HB.out.size _)⟩)
    · obtain rfl : i = way.length := by omega
      go_wp2_with fail
      go_ret
      exact ⟨by rw [fitB_all]; have := HAll.out; rw [List.take_length] at this; rw [this]; rfl, HB.out⟩
end Go.Proofs.YtaefmkmldfbjeaaDoor

namespace Go.Proofs.YtaefmkmldfbjeaaDoor.treeOk
open Go.RowKit Go.Shelf

attribute [local go_sem] Oper.semAt_some

/-- the result's variable and the depth's -/
def APs (w W : World) (d : Int) : Prop :=
  W.heap[w.heap.size + 1]? = some (.cells #[.bool false] 4 (0, 0)) ∧ W.heap[w.heap.size + 2]? = some (.cells #[.int .i64 d] 3 (0, 0))

def APC (w : World) (k : Nat) : Prop := k = w.heap.size + 1 ∨ k = w.heap.size + 2

def API (w : World) (pre : List Ev) (C : Nat → Prop) (W : World) : Prop := (∀ x ∈ pre, x.ok = true) ∧ ∃ d, treeF (-1) (pre.map Ev.vis) = some d ∧ (∀ k, APC w k → C k) ∧ (∀ k, C k → w.heap.size ≤ k ∧ k < W.heap.size) ∧ APs w W d

def Enough (pre : List Ev) : Prop := (∃ pr x, pre = pr ++ [x] ∧ x.ok = false) ∨ ((∀ x ∈ pre, x.ok = true) ∧ treeF (-1) (pre.map Ev.vis) = none)

def APX (w : World) (c : Code) (pre : List Ev) (C : Nat → Prop) (W : World) : Prop :=
  c = .ret ∧ Enough pre ∧ W.heap[w.heap.size + 1]? = some (.cells #[.bool false] 4 (0, 0)) ∧ C (w.heap.size + 1)

theorem apc_lt {w W : World} {d : Int} (h : APs w W d) : ∀ k, APC w k → w.heap.size ≤ k ∧ k < W.heap.size := by
  obtain ⟨h1, h2⟩ := h
  rintro k (rfl | rfl)
  · exact ⟨by omega, (Array.getElem?_eq_some_iff.1 h1).1⟩
  · exact ⟨by omega, (Array.getElem?_eq_some_iff.1 h2).1⟩

theorem aps_kept {w A B : World} {d : Int} (h : APs w A d) (hk : KeptC (fun k => ¬ APC w k) A B) : APs w B d := by
  have hlt := apc_lt h
  obtain ⟨h1, h2⟩ := h
  have key : ∀ k, APC w k → B.heap[k]? = A.heap[k]? := fun k hc => hk.2.2.2.2 k (hlt k hc).2 (fun hn => hn hc)
  exact ⟨(key _ (Or.inl rfl)).trans h1, (key _ (Or.inr rfl)).trans h2⟩

theorem api_kept {w : World} (pre : List Ev) (C : Nat → Prop) (A B : World) (h : API w pre C A) (hk : KeptC (fun k => ¬ C k) A B) : API w pre C B := by
  obtain ⟨h1, d, hd, hc, hn, h2⟩ := h
  exact ⟨h1, d, hd, hc, fun k h => ⟨(hn k h).1, Nat.lt_of_lt_of_le (hn k h).2 hk.2.2.2.1⟩, aps_kept h2 (keptC_mono hk (fun j _ h hx => h (hc j hx)))⟩

theorem api_lt {w : World} (pre : List Ev) (C : Nat → Prop) (A : World) (h : API w pre C A) : ∀ k, C k → w.heap.size ≤ k ∧ k < A.heap.size := by
  obtain ⟨h1, d, hd, hc, hn, h2⟩ := h
  exact hn

theorem apx_kept {w : World} (c : Code) (pre : List Ev) (C : Nat → Prop) (A B : World) (h : APX w c pre C A) (hk : KeptC (fun k => ¬ C k) A B) : APX w c pre C B := by
  obtain ⟨h0, h1, h2, h3⟩ := h
  exact ⟨h0, h1, (hk.2.2.2.2 _ (Array.getElem?_eq_some_iff.1 h2).1 (fun hn => hn h3)).trans h2, h3⟩

/-- the frame of a round's body -/
def apFrame (w : World) (ap al : Option Addr) (np nl cp cl : Nat) (root : Int) (gv : Nat) (x : Ev) : Act :=
  ⟨#[.agg #[.slice ap np cp, .slice al nl cl], .int .i64 root, .pointer (some ⟨w.heap.size, 0, none⟩), undef, .pointer (some ⟨w.heap.size + 1, 0, none⟩), .pointer (some ⟨w.heap.size + 1 + 1, 0, none⟩), .pointer (some ⟨gv, 0, none⟩), .bool x.ok, .agg #[.slice ap np cp, .slice al nl cl], .int .i64 root, .func (.func 21) #[] #[.pointer (some ⟨w.heap.size + 1 + 1 + 1 + 1, 0, none⟩), .pointer (some ⟨w.heap.size + 1 + 1 + 1, 0, none⟩)], x.val, .bool x.ok, undef, undef, undef, undef, undef, undef, undef, undef, undef, undef, undef, undef, undef, undef, undef, undef, undef, undef, undef, undef, undef], []⟩

/-- behind the assignment: the visit lies in its variable -/
def APAx (w : World) (ap al : Option Addr) (np nl cp cl : Nat) (root : Int) (x : Ev) (a : Act) (C : Nat → Prop) (W : World) : Prop :=
  ∃ gv cs, x.val = .agg cs ∧ C gv ∧ gv < W.heap.size ∧ W.heap[gv]? = some (.cells cs 53 (0, 0)) ∧ a = apFrame w ap al np nl cp cl root gv x

theorem apax_kept {w : World} {ap al : Option Addr} {np nl cp cl : Nat} {root : Int} (x : Ev) (a : Act) (C : Nat → Prop) (A B : World) (h : APAx w ap al np nl cp cl root x a C A) (hk : KeptC (fun k => ¬ C k) A B) : APAx w ap al np nl cp cl root x a C B := by
  obtain ⟨gv, cs, h1, h2, h3, h4, h5⟩ := h
  exact ⟨gv, cs, h1, h2, Nat.lt_of_lt_of_le h3 hk.2.2.2.1, (hk.2.2.2.2 gv h3 (fun hn => hn h2)).trans h4, h5⟩

theorem api_wide {w W : World} {pre : List Ev} {C : Nat → Prop} (h : API w pre C W) (o : Obj) : API w pre (fun k => C k ∨ k = W.heap.size) (W.alloc o) := by
  have h2 := api_kept pre C W (W.alloc o) h (keptC_alloc _ W o)
  obtain ⟨h1, d, hd, hc, hn, h3⟩ := h2
  have hs : w.heap.size ≤ W.heap.size := by
    obtain ⟨-, d, -, -, -, h4⟩ := h
    have := (apc_lt h4 (w.heap.size + 1) (Or.inl rfl)).2
    omega
  refine ⟨h1, d, hd, fun k h => Or.inl (hc k h), fun k h => ?_, h3⟩
  rcases h with h | rfl
  · exact hn k h
  · exact ⟨hs, by simp⟩

/-- the round says that it is enough -/
theorem ap_stop {w W : World} {pre : List Ev} {C : Nat → Prop} (hen : Enough pre) (hc1 : C (w.heap.size + 1)) (h1 : W.heap[w.heap.size + 1]? = some (.cells #[.bool false] 4 (0, 0))) :
    ∃ C', KeptC C W (W.setCell ⟨w.heap.size + 1, 0, none⟩ (.bool false)) ∧ (∀ k, C' k → C k ∨ W.heap.size ≤ k) ∧ APX w .ret pre C' (W.setCell ⟨w.heap.size + 1, 0, none⟩ (.bool false)) :=
  ⟨C, keptC_setCell W 0 _ hc1, fun _ h => Or.inl h, rfl, hen, heap_setCell_same _ _ 0 _ _ _ h1, hc1⟩

set_option maxHeartbeats 4000000 in
set_option maxRecDepth 100000 in
theorem implTreeOk_any (ps : List ByteArray) (ls : List (Int × ByteArray)) (hp : ps.length ≤ 1048576) (hl : ls.length ≤ 1048576) (hps : ∀ s ∈ ps, s.size ≤ 1048576) (hls : ∀ p ∈ ls, p.2.size ≤ 1048576) (ap al : Option Addr) (np nl cp cl : Nat) (root : Int) (w : World) (hT : SumTab w) (hd : DiskAt w (.agg #[.slice ap np cp, .slice al nl cl]) ps ls) :
    Calls Tryd.prog 7 #[.agg #[.slice ap np cp, .slice al nl cl], .int .i64 root] w fun e w' => e = .returned (.bool (treeI (fun q => rdN (readD ps ls q)) root)) ∧ Below w.heap.size w w' := by
  have hmf : ∀ (fn : Fn) (first cap : Array Value) (w : World), (Instr.makeFunc fn first cap).run Tryd.prog w = .ok (.func fn first cap) w := fun _ _ _ _ => rfl
  obtain ⟨Wc, hWc⟩ : ∃ Wc, Wc = ((((w.alloc (.cells #[.slice ap np cp, .slice al nl cl] 30 (0, 0))).alloc (.cells #[.bool false] 4 (0, 0))).alloc (.cells #[.int .i64 (-1)] 3 (0, 0))).alloc (.cells #[.slice ap np cp, .slice al nl cl] 30 (0, 0))).alloc (.cells #[.int .i64 root] 3 (0, 0)) := ⟨_, rfl⟩
  have hlow : Below w.heap.size w Wc := by
    rw [hWc]
    refine Below.alloc (Below.alloc (Below.alloc (Below.alloc (Below.alloc (Below.refl _ _) ?_ _) ?_ _) ?_ _) ?_ _) ?_ _ <;> simp <;> omega
  have b1 : Wc.heap[w.heap.size + 1]? = some (.cells #[.bool false] 4 (0, 0)) := by rw [hWc]; simp only [alloc_get, World.size_alloc]; simp
  have b2 : Wc.heap[w.heap.size + 2]? = some (.cells #[.int .i64 (-1)] 3 (0, 0)) := by rw [hWc]; simp only [alloc_get, World.size_alloc]; simp
  have b5 : Wc.heap[w.heap.size + 3]? = some (.cells #[.slice ap np cp, .slice al nl cl] 30 (0, 0)) := by rw [hWc]; simp only [alloc_get, World.size_alloc]; simp
  have b6 : Wc.heap[w.heap.size + 4]? = some (.cells #[.int .i64 root] 3 (0, 0)) := by rw [hWc]; simp only [alloc_get, World.size_alloc]; simp
  have hsz : Wc.heap.size = w.heap.size + 5 := by rw [hWc]; simp
  have hseq := fun n => nodesOf_seq n root (w.heap.size + 4) (w.heap.size + 3) hp hl hps hls hT hd hlow b6 b5
  have hP0 : APs w Wc (-1) := ⟨b1, b2⟩
  have hI0 : API w [] (APC w) Wc := ⟨fun x h => (by cases h), -1, rfl, fun _ h => h, apc_lt hP0, hP0⟩
  refine (callsIn_wide (n := 3)).1 ?_
  refine callsIn_of_wp_marks Tryd.func7 rfl trivial ?_ rfl
  simp only [Tryd.ntmps7, List.size_toArray, List.length_cons, List.length_nil, Nat.reduceAdd, Nat.reduceSub, Array.replicate_succ, Array.replicate_zero, List.push_toArray, List.append_toArray, List.nil_append, List.cons_append]
  gi_wp2_with (refine ⟨trivial, ?_⟩; gi_at_call 14; refine (callsIn_wide.2 (nodesOf_any (.slice ap np cp) (.slice al nl cl) root _)).mono ?_; rintro e w1 ⟨rfl, rfl⟩)
  rw [← hWc]
  refine wpIn_rangeFunc_sep2 rfl rfl (gf := 21) (lb := #[.pointer (some ⟨w.heap.size + 4, 0, none⟩), .pointer (some ⟨w.heap.size + 3, 0, none⟩)]) rfl trivial (enters_of Tryd.func21 (by kernel_rfl) rfl) (hseq _) hlow.size (fun _ h => by rcases h with h | h <;> omega) (fun x C C' A B h1 h2 h3 => lies_kept h1 h2 h3) (fun _ => rfl) (API w) (APX w) api_kept apx_kept api_lt (APC w) hI0 (fun k h e => ?apart) (APAx w ap al np nl cp cl root) apax_kept ?assign ?body ?done ?stop
  case apart =>
    rcases h with h | h <;> omega
  case done =>
    rintro D xs C W hD hnD hS ⟨hok, d, hdd, hsub, hin, h1, h2⟩ hlowW hdef
    have hn1 : D ≠ w.heap.size + 1 := fun e => hnD (hsub D (Or.inl e))
    have HA := hide (tree_done _ root hok hS hdd)
    have c1 : W.cell? ⟨w.heap.size + 1, 0, none⟩ = some (.bool false) := (cell_at h1 0).1
    have f1 : W.frozen? ⟨w.heap.size + 1, 0, none⟩ = false := (cell_at h1 0).2
    have H1 := hide h1
    have HLo := hide (hlow.trans hlowW)
    have HDe := hide hdef
    clear h1 h2 hlowW hdef b1 b2 b5 b6 hseq hI0 hP0 hS hok hp hl hps hls hT hd hlow hdd hsub hin hnD
    gi_wp2_with fail
    obtain ⟨W3, hW3⟩ : ∃ W3, W3 = W.setCell ⟨w.heap.size + 1, 0, none⟩ (.bool true) := ⟨_, rfl⟩
    rw [← hW3]
    have k3 : KeptC (fun k => k = w.heap.size + 1) W W3 := by
      rw [hW3]
      exact keptC_setCell (C := fun k => k = w.heap.size + 1) W 0 _ rfl
    have hD3 : W3.heap[D]? = some (.deferred (some [])) := (k3.2.2.2.2 D (Array.getElem?_eq_some_iff.1 HDe.out).1 hn1).trans HDe.out
    have g1 : W3.heap[w.heap.size + 1]? = some (.cells #[.bool true] 4 (0, 0)) := by
      rw [hW3]
      exact heap_setCell_same _ _ 0 _ _ _ H1.out
    refine ⟨by simp, .inl ⟨_, _, rfl, run_takeDeferred hD3, ?_⟩⟩
    obtain ⟨W4, hW4⟩ : ∃ W4, W4 = W3.putObj D (.deferred none) := ⟨_, rfl⟩
    rw [← hW4]
    have k4 : KeptC (fun k => k = D) W3 W4 := by rw [hW4]; exact keptC_putObj W3 _ rfl
    have e1 := (cell_at ((k4.2.2.2.2 _ (Array.getElem?_eq_some_iff.1 g1).1 (fun e => hn1 e.symm)).trans g1) 0).1
    refine ⟨.bool true, ?_, ?_⟩
    · simp [results, e1, go_sem]
    · rw [HA.out]
      refine ⟨rfl, ?_⟩
      have z1 : w.heap.size ≤ W.heap.size := HLo.out.size
      exact (HLo.out.trans (keptC_below k3 (fun k h => by omega) z1)).trans (keptC_below k4 (fun k h => by rw [h]; omega) (Nat.le_trans z1 k3.2.2.2.1))
  case stop =>
    rintro D c pre C W hD hnD ⟨t, ht⟩ ⟨rfl, hen, h1, hC⟩ hlowW hdef
    have HA := hide (tree_stop _ root ht hen)
    have hn1 : D ≠ w.heap.size + 1 := fun e => hnD (by rw [e]; exact hC)
    have H1 := hide h1
    have HLo := hide (hlow.trans hlowW)
    have HDe := hide hdef
    clear h1 hlowW hdef b1 b2 b5 b6 hseq hI0 hP0 ht hen hC hp hl hps hls hT hd hlow hnD
    gi_wp2_with fail
    refine ⟨by simp, .inl ⟨_, _, rfl, run_takeDeferred HDe.out, ?_⟩⟩
    obtain ⟨W4, hW4⟩ : ∃ W4, W4 = W.putObj D (.deferred none) := ⟨_, rfl⟩
    rw [← hW4]
    have k4 : KeptC (fun k => k = D) W W4 := by rw [hW4]; exact keptC_putObj W _ rfl
    have e1 := (cell_at ((k4.2.2.2.2 _ (Array.getElem?_eq_some_iff.1 H1.out).1 (fun e => hn1 e.symm)).trans H1.out) 0).1
    refine ⟨.bool false, ?_, ?_⟩
    · simp [results, e1, go_sem]
    · rw [HA.out]
      exact ⟨rfl, HLo.out.trans (keptC_below k4 (fun k h => by rw [h]; have := hsz; omega) HLo.out.size)⟩
  case assign =>
    intro l m pre x C W K hI hLi hK
    have hw2 := fun o => api_wide hI o
    have HI2 := hide hw2
    have HK := hide hK
    have HLt : Hid (∀ o, KeptC C W (W.alloc o)) := hide (fun o => keptC_alloc C W o)
    clear b1 b2 b5 b6 hseq hI0 hP0 hw2 hK hI hp hl hps hls hT hd hlow hsz hWc
    simp only [encs]
    cases hok : x.ok with
    | false =>
      have hv := hLi.1 hok
      clear hLi
      have HV := hide hv
      have HOk := hide hok
      rw [hv, badVal]
      clear hv hok
      gi_wp2_with fail
      refine HK.out _ (fun k => C k ∨ k = W.heap.size) _ (HLt.out _) (fun k h => by rcases h with h | h; exact Or.inl h; exact Or.inr (by omega)) (HI2.out _) ⟨W.heap.size, _, by rw [HV.out, badVal], Or.inr rfl, by simp, heap_alloc_new W _, ?_⟩
      rw [apFrame, HV.out, HOk.out, badVal]
    | true =>
      obtain ⟨vk, vv, vc, vw, hv, hno, -, hwy⟩ := hLi.2 hok
      obtain ⟨a1, c1, a2, c2, a3, c3, e⟩ := nodeOwn_cells hno
      obtain ⟨-, rfl, rfl, rfl⟩ := agg4 e
      obtain ⟨a4, c4, rfl⟩ : ∃ a4 c4, vw = .slice a4 x.vis.way.length c4 := by obtain ⟨X, -, h, -⟩ := hwy; exact own_slice h
      clear hLi hno hwy e
      have HV := hide hv
      have HOk := hide hok
      rw [hv]
      clear hv hok
      gi_wp2_with fail
      refine HK.out _ (fun k => C k ∨ k = W.heap.size) _ (HLt.out _) (fun k h => by rcases h with h | h; exact Or.inl h; exact Or.inr (by omega)) (HI2.out _) ⟨W.heap.size, _, HV.out, Or.inr rfl, by simp, heap_alloc_new W _, ?_⟩
      rw [apFrame, HV.out, HOk.out]
  case body =>
    intro l m pre x a' C W hSp hI hAx hLi
    obtain ⟨gv, cs, hv, hCg, hgl, hgv, rfl⟩ := hAx
    obtain ⟨hpre, d, hdd, hc, hn, h1, h2⟩ := hI
    clear b1 b2 b5 b6 hseq hI0 hP0 hlow hsz hWc
    have q1 : W.cell? ⟨w.heap.size + 1, 0, none⟩ = some (.bool false) := (cell_at h1 0).1
    have z1 : W.frozen? ⟨w.heap.size + 1, 0, none⟩ = false := (cell_at h1 0).2
    cases hok : x.ok with
    | false =>
      have HS : Hid (Enough (pre ++ [x])) := hide (Or.inl ⟨pre, x, rfl, hok⟩)
      have HC1 := hide (hc _ (Or.inl rfl))
      have H1 := hide h1
      rw [apFrame, hok]
      clear hpre hc hn h1 h2 hSp hLi hv hgv hgl hCg hp hl hps hls hT hd hok hdd
      gi_wp2_with fail
      exact ap_stop HS.out HC1.out H1.out
    | true =>
      obtain ⟨t, ht⟩ := hSp
      have hR := comes_vis _ root hok ht
      have hgood := comes_good _ (rdN_right2 ps ls) root hok ht
      have hnok : x.vis.nd.ok = true := by have := rdN_right2 ps ls x.vis.page (by show (rdN (readD ps ls x.vis.page)).2 = true; rw [hR]); have h2 : (rdN (readD ps ls x.vis.page)).1 = x.vis.nd := by rw [hR]
                                           rw [← h2]; exact this
      have hcnt := ok_cnt2 hnok
      have HLi := hide hLi
      have HPre : Hid (∀ y ∈ pre ++ [x], y.ok = true) := hide (fun y hy => by rcases List.mem_append.1 hy with h | h; exact hpre y h; rw [List.mem_singleton.1 h]; exact hok)
      have HT : Hid (treeF (-1) ((pre ++ [x]).map Ev.vis) = treeT d x.vis) := hide (by rw [List.map_append, List.map_cons, List.map_nil, treeF_snoc, hdd]; rfl)
      obtain ⟨vk, vv, vc, vw, hv2, hno, hnc, hwy⟩ := hLi.2 hok
      obtain ⟨a1, c1, a2, c2, a3, c3, e⟩ := nodeOwn_cells hno
      obtain ⟨-, rfl, rfl, rfl⟩ := agg4 e
      obtain ⟨a4, c4, rfl⟩ : ∃ a4 c4, vw = .slice a4 x.vis.way.length c4 := by obtain ⟨X, -, h, -⟩ := hwy; exact own_slice h
      rw [hv] at hv2
      injection hv2 with hv2
      subst hv2
      obtain ⟨lf, hlf⟩ : ∃ b, b = x.vis.nd.lf := ⟨_, rfl⟩
      obtain ⟨wl, hwl⟩ : ∃ n, n = x.vis.way.length := ⟨_, rfl⟩
      have g1 : W.cell? ⟨gv, 1, none⟩ = some (.bool lf) := by rw [hlf]; exact (cell_at hgv 1).1
      have g5 : W.cell? ⟨gv, 5, none⟩ = some (.slice a4 wl c4) := by rw [hwl]; exact (cell_at hgv 5).1
      have m2 : W.cell? ⟨w.heap.size + 1 + 1, 0, none⟩ = some (.int .i64 d) := (cell_at h2 0).1
      have z2 : W.frozen? ⟨w.heap.size + 1 + 1, 0, none⟩ = false := (cell_at h2 0).2
      have HAll := hide (⟨hc, hn, h1, h2, hgv, hCg, hgl, hv, hgood, hnok, hcnt⟩ : _ ∧ _ ∧ _ ∧ _ ∧ _ ∧ _ ∧ _ ∧ _ ∧ _ ∧ _ ∧ _)
      have HNo := hide (⟨hno, hnc, hwy⟩ : _ ∧ _ ∧ _)
      have HLf := hide hlf
      have HWl := hide hwl
      have HWb : Hid (wl < 8) := hide (by rw [hwl]; exact hgood.2)
      rw [apFrame, hok]
      clear hpre hc hn h1 h2 ht hR hLi hv hgv hgl hCg hp hl hps hls hT hd hok hdd hno hnc hwy e hgood hnok hcnt hlf hwl
      cases lf with
      | false =>
        gi_wp2_with fail
        obtain ⟨hc, hn, h1, h2, hgv, hCg, hgl, hv, hgood, hnok, hcnt⟩ := HAll.out
        refine ⟨C, keptC_refl _ _, fun k h => Or.inl h, HPre.out, d, ?_, hc, hn, h1, h2⟩
        rw [HT.out, treeT, if_pos HLf.out.symm]
      | true =>
        have hself : ((wl : Int) != (wl : Int)) = false := by simp
        have e0 : W.cell? ⟨gv, 0, none⟩ = some (.int .i64 x.vis.page) := (cell_at HAll.out.2.2.2.2.1 0).1
        have e2 : W.cell? ⟨gv, 2, none⟩ = some (.slice a1 x.vis.nd.ks.length c1) := (cell_at HAll.out.2.2.2.2.1 2).1
        have e3 : W.cell? ⟨gv, 3, none⟩ = some (.slice a2 x.vis.nd.vs.length c2) := (cell_at HAll.out.2.2.2.2.1 3).1
        have e4 : W.cell? ⟨gv, 4, none⟩ = some (.slice a3 x.vis.nd.cs.length c3) := (cell_at HAll.out.2.2.2.2.1 4).1
        have hty : gv ≠ w.heap.size + 2 := fun e => by
          have h1 := HAll.out.2.2.2.2.1
          rw [e, HAll.out.2.2.2.1] at h1
          injection h1 with h1
          injection h1 with _ ht _
          exact absurd ht (by decide)
        have hne : gv ≠ w.heap.size + 1 + 1 := hty
        have hne' : w.heap.size + 1 + 1 ≠ gv := fun e => hty e.symm
        have HKF : Hid (∀ W1, KeptC C W W1 → Calls Tryd.prog 15 #[.agg #[.int .i64 x.vis.page, .bool true, .slice a1 x.vis.nd.ks.length c1, .slice a2 x.vis.nd.vs.length c2, .slice a3 x.vis.nd.cs.length c3, .slice a4 wl c4]] W1 fun e w' => e = .returned (.bool (fitB x.vis)) ∧ Below W1.heap.size W1 w') := hide (fun W1 hk => by
          obtain ⟨hno, hnc, hwy⟩ := HNo.out
          have h1 := nodeOwn_kept hno hk hnc
          have h2 := way2 (way_kept (C' := C) hwy hk (fun j hj => Or.inl hj) (fun k h => Or.inl h))
          have hcn := HAll.out.2.2.2.2.2.2.2.2.2.2
          have hg := HAll.out.2.2.2.2.2.2.2.2.1
          have h3 := keysFit_any W1 w.heap.size x.vis.page x.vis.nd x.vis.way _ _ _ _ h1 hcn.1 (by omega) (by omega) h2 (fun s hs => ⟨(hg.1 s hs).1, by have := (hg.1 s hs).2; omega⟩)
          rw [← HLf.out, ← HWl.out] at h3
          exact h3)
        have HTy : ∀ d1 : Int, d1 = (if d < 0 then (wl : Int) else d) → Hid (treeT d x.vis = if (wl : Int) = d1 ∧ fitB x.vis = true then some d1 else none) := fun d1 e => hide (by rw [treeT, if_neg (by rw [← HLf.out]; decide), ← HWl.out, e])
        have HOk : Hid (∀ W1 w2 d1, KeptC C W W1 → APs w W1 d1 → Below W1.heap.size W1 w2 → treeT d x.vis = some d1 → ∃ C', KeptC C W w2 ∧ (∀ k, C' k → C k ∨ W.heap.size ≤ k) ∧ API w (pre ++ [x]) C' w2) := hide (fun W1 w2 d1 hk hA hb ht => by
          obtain ⟨hc, hn, -⟩ := HAll.out
          have hk2 : KeptC C W w2 := keptC_trans hk (keptC_of_below (C := fun _ => False) hb) (fun _ h => h.elim)
          exact ⟨C, hk2, fun k h => Or.inl h, HPre.out, d1, by rw [HT.out, ht], hc, fun k h => ⟨(hn k h).1, Nat.lt_of_lt_of_le (hn k h).2 hk2.2.2.2.1⟩, aps_kept hA (keptC_of_below hb)⟩)
        have HEn : Hid (treeT d x.vis = none → Enough (pre ++ [x])) := hide (fun ht => Or.inr ⟨HPre.out, by rw [HT.out, ht]⟩)
        have HNo2 : Hid (∀ W1 w2 d1, KeptC C W W1 → APs w W1 d1 → Below W1.heap.size W1 w2 → treeT d x.vis = none → ∃ C', KeptC C W (w2.setCell ⟨w.heap.size + 1, 0, none⟩ (.bool false)) ∧ (∀ k, C' k → C k ∨ W.heap.size ≤ k) ∧ APX w .ret (pre ++ [x]) C' (w2.setCell ⟨w.heap.size + 1, 0, none⟩ (.bool false))) := hide (fun W1 w2 d1 hk hA hb ht => by
          obtain ⟨hc, hn, -⟩ := HAll.out
          have hk2 : KeptC C W w2 := keptC_trans hk (keptC_of_below (C := fun _ => False) hb) (fun _ h => h.elim)
          obtain ⟨C', k1, k2, k3⟩ := ap_stop (HEn.out ht) (hc _ (Or.inl rfl)) (aps_kept hA (keptC_of_below hb)).1
          exact ⟨C', keptC_trans hk2 k1 (fun j h => Or.inl h), fun k h => (k2 k h).elim Or.inl (fun h => Or.inr (Nat.le_trans hk2.2.2.2.1 h)), k3⟩)
        have HCell : Hid (∀ W1 w2 d1, APs w W1 d1 → Below W1.heap.size W1 w2 → w2.cell? ⟨w.heap.size + 1, 0, none⟩ = some (.bool false) ∧ w2.frozen? ⟨w.heap.size + 1, 0, none⟩ = false) := hide (fun W1 w2 d1 hA hb => cell_at (aps_kept hA (keptC_of_below hb)).1 0)
        have HA0 : Hid (APs w W d) := hide ⟨HAll.out.2.2.1, HAll.out.2.2.2.1⟩
        by_cases hneg : d < 0
        · have HTr := HTy (wl : Int) (by rw [if_pos hneg])
          have HK1 : Hid (KeptC C W (W.setCell ⟨w.heap.size + 1 + 1, 0, none⟩ (.int .i64 (wl : Int)))) := hide (keptC_setCell W 0 _ (HAll.out.1 _ (Or.inr rfl)))
          have HA1 : Hid (APs w (W.setCell ⟨w.heap.size + 1 + 1, 0, none⟩ (.int .i64 (wl : Int))) (wl : Int)) := hide ⟨(Below.heap_setCell _ _ _ _ (by simp)).trans HAll.out.2.2.1, heap_setCell_same _ _ 0 _ _ _ HAll.out.2.2.2.1⟩
          clear HTy
          gi_wp2_with fail
          refine ⟨trivial, fun h => by simp [Fence.wide] at h, ?_⟩
          refine (CallsIn.inRound l (callsIn_wide.2 (HKF.out _ HK1.out))).mono ?_
          rintro e w2 ⟨rfl, hb⟩
          have HB2 := hide hb
          obtain ⟨q2, y2⟩ := HCell.out _ _ _ HA1.out hb
          clear hb q1 z1 g1 g5 m2 z2 e0 e2 e3 e4
          cases hf : fitB x.vis with
          | true =>
            gi_wp2_with fail
            exact HOk.out _ _ _ HK1.out HA1.out HB2.out (by rw [HTr.out]; simp [hf])
          | false =>
            gi_wp2_with fail
            exact HNo2.out _ _ _ HK1.out HA1.out HB2.out (by rw [HTr.out, if_neg (fun h => by rw [hf] at h; cases h.2)])
        · have HTr := HTy d (by rw [if_neg hneg])
          clear HTy
          by_cases heq : (wl : Int) = d
          · have hbe : ((wl : Int) != d) = false := by simp [heq]
            have HEq := hide heq
            clear heq
            gi_wp2_with fail
            refine ⟨trivial, fun h => by simp [Fence.wide] at h, ?_⟩
            refine (CallsIn.inRound l (callsIn_wide.2 (HKF.out _ (keptC_refl _ _)))).mono ?_
            rintro e w2 ⟨rfl, hb⟩
            have HB2 := hide hb
            obtain ⟨q2, y2⟩ := HCell.out _ _ _ HA0.out hb
            clear hb q1 z1 g1 g5 m2 z2 e0 e2 e3 e4
            cases hf : fitB x.vis with
            | true =>
              gi_wp2_with fail
              exact HOk.out _ _ _ (keptC_refl _ _) HA0.out HB2.out (by rw [HTr.out, if_pos ⟨HEq.out, hf⟩])
            | false =>
              gi_wp2_with fail
              exact HNo2.out _ _ _ (keptC_refl _ _) HA0.out HB2.out (by rw [HTr.out, if_neg (fun h => by rw [hf] at h; cases h.2)])
          · have hbe : ((wl : Int) != d) = true := by simp [heq]
            gi_wp2_with fail
            refine ⟨(trivial : Fence.wide.fn 15), ?_⟩
            gi_wp2_with fail
            exact HNo2.out _ _ _ (keptC_refl _ _) HA0.out (Below.refl _ _) (by rw [HTr.out, if_neg (fun h => heq h.1)])
end Go.Proofs.YtaefmkmldfbjeaaDoor.treeOk

namespace Go.Proofs.YtaefmkmldfbjeaaDoor
open Go.RowKit

theorem at_getD {l : List Int} {k : Nat} (h : k < l.length) : (ints l)[k]? = some (.int .i64 (l.getD k 0)) := by rw [ints_at l k h]; simp [List.getD_eq_getElem?_getD, h]

end Go.Proofs.YtaefmkmldfbjeaaDoor

namespace Go.Proofs.YtaefmkmldfbjeaaDoor
open Go.RowKit

theorem own_max {w : World} {B e sz n : Nat} {v : Value} {xs : List Value} (h : w.ownsRow B e sz v n xs) : n ≤ maxLen := by
  rcases h.2 with ⟨_, h0⟩ | ⟨g, cap, cur, _, _, _, h1, h2, _⟩
  · rw [h0]; exact Nat.zero_le _
  · exact Nat.le_trans h1 h2

theorem upB_iff (l : List (ByteArray × ByteArray)) : upB l = true ↔ ∀ i, i < l.length → 0 < i → lessB (l.getD (i - 1) (⟨#[]⟩, ⟨#[]⟩)).1 (l.getD i (⟨#[]⟩, ⟨#[]⟩)).1 = true := by simp only [upB, decide_eq_true_eq]

theorem evenB_iff (l : List Int) : evenB l = true ↔ ∀ i, i < l.length → 0 < i → l.getD i 0 = l.getD 0 0 := by simp only [evenB, decide_eq_true_eq]

theorem geq_less (x y : ByteArray) : (!(Op.bytesLess x.toList y.toList)) = !(lessB x y) := rfl

theorem prs_getD (l : List (ByteArray × ByteArray)) (k : Nat) (h : k < l.length) : (prs l)[k * 2]? = some (.string (l.getD k (⟨#[]⟩, ⟨#[]⟩)).1) := by
  rw [(prs_at l k h).1]; simp [List.getD_eq_getElem?_getD, h]

set_option maxHeartbeats 4000000 in
set_option maxRecDepth 100000 in
theorem specTreeOk_any (ps : List ByteArray) (ls : List (Int × ByteArray)) (hp : ps.length ≤ 1048576) (hl : ls.length ≤ 1048576) (hps : ∀ s ∈ ps, s.size ≤ 1048576) (hls : ∀ p ∈ ls, p.2.size ≤ 1048576) (v : Value) (root : Int) (w : World) (hd : DiskAt w v ps ls) (hdk : ∀ k, diskBlocks v k → k < w.heap.size) :
    Calls Tryd.prog 5 #[v, .int .i64 root] w fun e w' => e = .returned (.bool (treeS (fun q => rdN (readD ps ls q)) root)) ∧ Below w.heap.size w w' := by
  obtain ⟨v1, v2, rfl, -, -⟩ := id hd
  obtain ⟨w0, hw0⟩ : ∃ w0, w0 = w.alloc (.cells #[v1, v2] 30 (0, 0)) := ⟨_, rfl⟩
  have hb0 : Below w.heap.size w w0 := by rw [hw0]; exact (Below.refl _ _).alloc (Nat.le_refl _) _
  have HB0 := hide hb0
  have HL := hide (look_any ps ls hp hl hps hls (.agg #[v1, v2]) root w0 (disk_below hd hb0) (fun k hk => Nat.lt_of_lt_of_le (hdk k hk) hb0.size))
  obtain ⟨A, hA⟩ : ∃ A, A = seenS (fun q => rdN (readD ps ls q)) root := ⟨_, rfl⟩
  have HT : Hid (treeS (fun q => rdN (readD ps ls q)) root = (!(A.bad || A.loose) && upB A.pairs && evenB A.depths)) := hide (by rw [hA]; rfl)
  rw [← hA] at HL
  rw [HT.out]
  clear hp hl hps hls hd hdk hb0 hA HT
  obtain ⟨pr, pg, dp, bad, loose⟩ := A
  show Calls _ _ _ _ (fun e w' => e = .returned (.bool (!(bad || loose) && upB pr && evenB dp)) ∧ _)
  go_enter Tryd.func5, Tryd.ntmps5
  go_wp2_with fail
  rw [← hw0]
  clear hw0
  refine HL.out.mono ?_
  rintro e w1 ⟨ga, vp, vg, vd, rfl, hga, hal, hb1⟩
  have HB1 : Hid (Below w.heap.size w w1) := hide (HB0.out.trans (hb1.mono HB0.out.size))
  have HP : Hid (w1.ownsRow (ga + 1) 43 2 vp pr.length (prs pr)) := hide hal.2.1
  have HDp : Hid (w1.ownsRow (ga + 1) 3 1 vd dp.length (ints dp)) := hide hal.2.2.2.1
  obtain ⟨xp, cp, rfl⟩ := own_slice HP.out
  obtain ⟨xd, cd, rfl⟩ := own_slice HDp.out
  have q0 : w1.cell? ⟨ga, 0, none⟩ = some (.slice xp pr.length cp) := (cell_at hal.1 0).1
  have q2 : w1.cell? ⟨ga, 2, none⟩ = some (.slice xd dp.length cd) := (cell_at hal.1 2).1
  have q3 : w1.cell? ⟨ga, 3, none⟩ = some (.bool bad) := (cell_at hal.1 3).1
  have q4 : w1.cell? ⟨ga, 4, none⟩ = some (.bool loose) := (cell_at hal.1 4).1
  have hpl := own_max HP.out
  have hdl := own_max HDp.out
  unfold maxLen at hpl hdl
  clear hal hb1 hga HL HB0
  cases bad with
  | true =>
    go_wp2_with fail
    go_ret
    exact ⟨rfl, HB1.out⟩
  | false =>
    cases loose with
    | true =>
      go_wp2_with fail
      go_ret
      exact ⟨rfl, HB1.out⟩
    | false =>
      go_wp2_with fail
      go_loopg [6] pr.length (fun q iv wr => ∃ (i : Nat), 1 ≤ i ∧ i ≤ pr.length + 1 ∧ q + i = pr.length + 1 ∧ iv = .int .i64 (i : Int) ∧ Hid (∀ k, k < i → k < pr.length → 0 < k → lessB (pr.getD (k - 1) (⟨#[]⟩, ⟨#[]⟩)).1 (pr.getD k (⟨#[]⟩, ⟨#[]⟩)).1 = true) ∧ Hid ((∀ a, wr.cell? a = w1.cell? a) ∧ Below w.heap.size w wr))
      case atStart => exact ⟨1, Nat.le_refl _, by omega, rfl, rfl, hide (fun k h1 h2 h3 => by omega), hide ⟨fun _ => rfl, HB1.out⟩⟩
      case round =>
        obtain ⟨i, hi1, hi2, hq, rfl, HU, HW⟩ := hrel
        have e0 : wr.cell? ⟨ga, 0, none⟩ = some (.slice xp pr.length cp) := by rw [HW.out.1]; exact q0
        have e2 : wr.cell? ⟨ga, 2, none⟩ = some (.slice xd dp.length cd) := by rw [HW.out.1]; exact q2
        have HQ := hide hq
        have HE2 := hide q2
        clear hq q0 q3 q4
        by_cases hlt : i < pr.length
        · obtain ⟨g, rfl⟩ : ∃ g, xp = some ⟨g, 0, none⟩ := by
            rcases HP.out.2 with ⟨e, h0⟩ | ⟨g, cc, cur, e, _⟩
            · omega
            · injection e with e1; exact ⟨g, e1⟩
          obtain ⟨j, rfl⟩ : ∃ j, i = j + 1 := ⟨i - 1, by omega⟩
          obtain ⟨x, hx⟩ : ∃ x, x = (pr.getD j (⟨#[]⟩, ⟨#[]⟩)).1 := ⟨_, rfl⟩
          obtain ⟨y, hy⟩ : ∃ y, y = (pr.getD (j + 1) (⟨#[]⟩, ⟨#[]⟩)).1 := ⟨_, rfl⟩
          have c0 : wr.cell? ⟨g, j * 2, none⟩ = some (.string x) := by rw [HW.out.1, hx, ← prs_getD pr j (by omega)]; exact HP.out.cellAt (j * 2) (by omega)
          have c1 : wr.cell? ⟨g, (j + 1) * 2, none⟩ = some (.string y) := by rw [HW.out.1, hy, ← prs_getD pr (j + 1) hlt]; exact HP.out.cellAt ((j + 1) * 2) (by omega)
          obtain ⟨b, hb⟩ : ∃ b, Op.bytesLess x.toList y.toList = b := ⟨_, rfl⟩
          have HN : Hid (lessB (pr.getD j (⟨#[]⟩, ⟨#[]⟩)).1 (pr.getD (j + 1) (⟨#[]⟩, ⟨#[]⟩)).1 = b) := hide (by rw [← hx, ← hy]; exact hb)
          have hj0 : (0 : Int) ≤ (j : Int) := by omega
          have hj1 : (j : Int) + 1 < (pr.length : Int) := by omega
          have hj2 : (j : Int) < (pr.length : Int) := by omega
          clear hx hy
          cases b with
          | true =>
            go_wp2_with fail
            go_quiet (fail)
            go_wp2_with fail
            go_roundg (gk - 1)
            case measure => have := HQ.out; omega
            case rel => exact ⟨j + 1 + 1, by omega, by omega, by have := HQ.out; omega, by go_num, hide (fun k h1 h2 h3 => by
              by_cases e : k = j + 1
              · subst e; exact HN.out
              · exact HU.out k (by omega) h2 h3), hide ⟨fun a => HW.out.1 a, below_drewN HW.out.2 _⟩⟩
          | false =>
            go_wp2_with fail
            go_quiet (fail)
            go_wp2_with fail
            go_ret
            have hno : upB pr = false := by
              cases hu : upB pr with
              | false => rfl
              | true => have h := (upB_iff pr).1 hu (j + 1) hlt (by omega); rw [show j + 1 - 1 = j from rfl, HN.out] at h; cases h
            exact ⟨by rw [hno]; simp, below_drewN HW.out.2 _⟩
        · have HUp : Hid (upB pr = true) := hide ((upB_iff pr).2 fun k h1 h2 => HU.out k (by omega) h1 h2)
          clear HU HP
          go_wp2_with fail
          clear e0
          go_loopg [7] dp.length (fun q iv wq => ∃ (i : Nat), 1 ≤ i ∧ i ≤ dp.length + 1 ∧ q + i = dp.length + 1 ∧ iv = .int .i64 (i : Int) ∧ Hid (∀ k, k < i → k < dp.length → 0 < k → dp.getD k 0 = dp.getD 0 0) ∧ Hid ((∀ a, wq.cell? a = w1.cell? a) ∧ Below w.heap.size w wq))
          case atStart => exact ⟨1, Nat.le_refl _, by omega, rfl, rfl, hide (fun k h1 h2 h3 => by omega), HW⟩
          case round =>
            clear HW HQ e2
            obtain ⟨i, hi1, hi2, hq, rfl, HU, HW⟩ := hrel
            have e2 : wr.cell? ⟨ga, 2, none⟩ = some (.slice xd dp.length cd) := by rw [HW.out.1]; exact HE2.out
            have HQ := hide hq
            clear hq
            by_cases hlt : i < dp.length
            · obtain ⟨g, rfl⟩ : ∃ g, xd = some ⟨g, 0, none⟩ := by
                rcases HDp.out.2 with ⟨e, h0⟩ | ⟨g, cc, cur, e, _⟩
                · omega
                · injection e with e1; exact ⟨g, e1⟩
              obtain ⟨x, hx⟩ : ∃ x, x = dp.getD i 0 := ⟨_, rfl⟩
              obtain ⟨z, hz⟩ : ∃ z, z = dp.getD 0 0 := ⟨_, rfl⟩
              have c1 : wr.cell? ⟨g, i, none⟩ = some (.int .i64 x) := by rw [HW.out.1, hx, ← at_getD hlt]; exact HDp.out.cellAt i (by omega)
              have c0 : wr.cell? ⟨g, 0, none⟩ = some (.int .i64 z) := by rw [HW.out.1, hz, ← at_getD (by omega)]; exact HDp.out.cellAt 0 (by omega)
              have hi0 : (0 : Int) ≤ (i : Int) := by omega
              have hil : (i : Int) < (dp.length : Int) := by omega
              have hd0 : (0 : Int) < (dp.length : Int) := by omega
              have HX := hide hx
              have HZ := hide hz
              clear hx hz
              by_cases hxz : x = z
              · have HN : Hid (dp.getD i 0 = dp.getD 0 0) := hide (by rw [← HX.out, ← HZ.out]; exact hxz)
                subst hxz
                go_wp2_with fail
                go_quiet (fail)
                go_wp2_with fail
                go_roundg (gk - 1)
                case measure => have := HQ.out; omega
                case rel => exact ⟨i + 1, by omega, by omega, by have := HQ.out; omega, by go_num, hide (fun k h1 h2 h3 => by
                  by_cases e : k = i
                  · subst e; exact HN.out
                  · exact HU.out k (by omega) h2 h3), hide ⟨fun a => HW.out.1 a, below_drewN HW.out.2 _⟩⟩
              · have hne : (x != z) = true := by simp [hxz]
                go_wp2_with fail
                go_quiet (fail)
                go_wp2_with fail
                go_ret
                have hno : evenB dp = false := by
                  cases hu : evenB dp with
                  | false => rfl
                  | true => exact absurd (by rw [HX.out, HZ.out]; exact (evenB_iff dp).1 hu i hlt (by omega)) hxz
                exact ⟨by rw [hno]; simp, below_drewN HW.out.2 _⟩
            · have HEv : Hid (evenB dp = true) := hide ((evenB_iff dp).2 fun k h1 h2 => HU.out k (by omega) h1 h2)
              go_wp2_with fail
              go_ret
              exact ⟨by rw [HUp.out, HEv.out]; rfl, HW.out.2⟩
end Go.Proofs.YtaefmkmldfbjeaaDoor

namespace Go.Proofs.YtaefmkmldfbjeaaDoor
open Go.RowKit Go.ChangeShapes Go.WideShapes Go.Deep

theorem row_strs {H : Type} {enc : TypeId × Value → H} {W : World} {base : Nat} {spare : Nat → Bool} {held : Bool} {fuel : Nat} {v : Value} {x : DataW H × List MemPlace}
    (h : DataW.trod enc Tryd.prog W base spare held fuel 22 [v] = some x) : ∃ ps : List ByteArray, RowAt W 1 v ps.length (strs ps) ∧ ps.length ≤ maxLen ∧ ∀ s ∈ ps, s.size ≤ maxLen := by
  rcases open_strs Tryd.underlying22 Tryd.underlying9 (by kernel_rfl) h with ⟨hcs, -⟩ | ⟨a, len, cap, m, Sx, hcs, -, hl, hm, hmm, -, hx⟩
  · injection hcs with hcs
    subst hcs
    exact ⟨[], ⟨rfl, none, 0, rfl, Or.inl rfl⟩, by unfold maxLen; simp, fun s hs => by cases hs⟩
  · injection hcs with hcs
    subst hcs
    have hlm : len ≤ m := by rw [hmm]; split <;> omega
    refine ⟨(List.range len).map Sx, ?_, by simp; omega, fun s hs => ?_⟩
    · rw [List.length_map, List.length_range]
      refine ⟨by rw [strs_length]; simp, some a, cap, rfl, ?_⟩
      by_cases h0 : len = 0
      · exact Or.inl h0
      · obtain ⟨b, off, spot⟩ := a
        have hc := (hx 0 (by omega)).1
        obtain rfl : spot = none := by simpa [Addr.add] using World.cell?_spot hc
        refine Or.inr ⟨b, off, rfl, World.block_lt_of_cell? W _ (by simpa [Addr.add] using hc : W.cell? ⟨b, off, none⟩ = _), fun j hj => ?_⟩
        have hj' : j < len := by omega
        have := (hx j (by omega)).1
        rw [Addr.add_lit] at this
        rw [this, strs_at _ j (by simpa using hj')]
        simp
    · obtain ⟨i, hi, rfl⟩ := List.mem_map.1 hs
      exact (hx i (by have := List.mem_range.1 hi; omega)).2

theorem row_puts {H : Type} {enc : TypeId × Value → H} {W : World} {base : Nat} {spare : Nat → Bool} {held : Bool} {fuel : Nat} {v : Value} {x : DataW H × List MemPlace}
    (h : DataW.trod enc Tryd.prog W base spare held fuel 23 [v] = some x) : ∃ ls : List (Int × ByteArray), RowAt W 2 v ls.length (puts ls) ∧ ls.length ≤ maxLen ∧ ∀ p ∈ ls, p.2.size ≤ maxLen := by
  rcases open_slice_pairs Tryd.underlying23 Tryd.underlying59 (by kernel_rfl) rfl rfl (by kernel_rfl) (by kernel_rfl) h with ⟨hcs, -⟩ | ⟨a, len, cap, m, n, V0, V1, D0, D1, P0, P1, hcs, -, hl, hm, hmm, -, hx⟩
  · injection hcs with hcs
    subst hcs
    exact ⟨[], ⟨rfl, none, 0, rfl, Or.inl rfl⟩, by unfold maxLen; simp, fun s hs => by cases hs⟩
  · injection hcs with hcs
    subst hcs
    have hlm : len ≤ m := by rw [hmm]; split <;> omega
    have each : ∀ i, i < m → ∃ q : Int × ByteArray, V0 i = .int .i64 q.1 ∧ V1 i = .string q.2 ∧ q.2.size ≤ maxLen := fun i hi => by
      obtain ⟨h1, h2, h3, h4⟩ := hx i hi
      obtain ⟨k, e1, e2, -⟩ := DataW.trod_int Tryd.underlying3 h3
      obtain ⟨s, g1, g2, g3⟩ := DataW.trod_string Tryd.underlying9 h4
      exact ⟨(k, s), by simpa using e1, by simpa using g1, g3⟩
    obtain ⟨q, hq⟩ := choose_lt each
    refine ⟨(List.range len).map q, ?_, by simp; omega, fun s hs => ?_⟩
    · rw [List.length_map, List.length_range]
      refine ⟨by rw [puts_length]; simp, some a, cap, rfl, ?_⟩
      by_cases h0 : len = 0
      · exact Or.inl h0
      · obtain ⟨b, off, spot⟩ := a
        have hc := (hx 0 (by omega)).1
        obtain rfl : spot = none := by simpa [Addr.add] using World.cell?_spot hc
        refine Or.inr ⟨b, off, rfl, World.block_lt_of_cell? W _ (by simpa [Addr.add] using hc : W.cell? ⟨b, off, none⟩ = _), fun j hj => ?_⟩
        have hi : j / 2 < len := by omega
        obtain ⟨h1, h2, -, -⟩ := hx (j / 2) (by omega)
        rw [Addr.add_lit] at h1 h2
        have hp := puts_at ((List.range len).map q) (j / 2) (by simpa using hi)
        rcases Nat.mod_two_eq_zero_or_one j with e | e
        · rw [show j = j / 2 * 2 from by omega, hp.1, h1, (hq (j / 2) (by omega)).1]
          simp
        · rw [show j = j / 2 * 2 + 1 from by omega, hp.2, h2, (hq (j / 2) (by omega)).2.1]
          simp
    · obtain ⟨i, hi, rfl⟩ := List.mem_map.1 hs
      exact (hq i (by have := List.mem_range.1 hi; omega)).2.2

set_option maxRecDepth 100000 in
theorem open_disk {H : Type} {enc : TypeId × Value → H} {W : World} {r : Reach} {b0 base : Nat} {spare : Nat → Bool} {held : Bool} {v : Value} {d : DataW H} {p : List MemPlace}
    (hv : Value.okWide Tryd.prog W r b0 25 v) (h : DataW.Trod enc Tryd.prog W base spare held 25 v d p) :
    ∃ ps ls, DiskAt W v ps ls ∧ ps.length ≤ maxLen ∧ (∀ s ∈ ps, s.size ≤ maxLen) ∧ ls.length ≤ maxLen ∧ ∀ p ∈ ls, p.2.size ≤ maxLen := by
  obtain ⟨v0, v1, y0, y1, n, rfl, -, -, h0, h1⟩ := Joins.open_agg2 Tryd.underlying25 (by kernel_rfl) (by kernel_rfl) hv h
  obtain ⟨ps, hp1, hp2, hp3⟩ := row_strs h0
  obtain ⟨ls, hl1, hl2, hl3⟩ := row_puts h1
  exact ⟨ps, ls, ⟨v0, v1, rfl, hp1, hl1⟩, hp2, hp3, hl2, hl3⟩
end Go.Proofs.YtaefmkmldfbjeaaDoor

namespace Go.Proofs.YtaefmkmldfbjeaaDoor
open Go.RowKit

theorem bulk_inT {ps : List ByteArray} {ls : List (Int × ByteArray)} (h : bulkS ps + bulkP ls ≤ 1048576) : ps.length ≤ 1048576 ∧ (∀ s ∈ ps, s.size ≤ 1048576) ∧ ls.length ≤ 1048576 ∧ ∀ p ∈ ls, p.2.size ≤ 1048576 := by
  rw [bulkS_eq] at h
  unfold bulkP at h
  refine ⟨by omega, fun s hs => ?_, by omega, fun p hp => ?_⟩
  · obtain ⟨i, hi, rfl⟩ := List.getElem_of_mem hs
    have h1 := sumS_succ ps i hi
    have h2 := sumS_mono ps (i + 1)
    omega
  · obtain ⟨i, hi, rfl⟩ := List.getElem_of_mem hp
    have h1 := sumP_succ ls i hi
    have h2 := sumP_mono ls (i + 1)
    omega

theorem disk_drewT {w : World} {v : Value} {ps : List ByteArray} {ls : List (Int × ByteArray)} (h : DiskAt w v ps ls) : DiskAt w.drew v ps ls := disk_below h (Below.refl _ _).drew

set_option maxHeartbeats 4000000 in
set_option maxRecDepth 100000 in
theorem lawTreeOk (v : Value) (ps : List ByteArray) (ls : List (Int × ByteArray)) (bp : ps.length ≤ maxLen) (bq : ∀ s ∈ ps, s.size ≤ maxLen) (bl : ls.length ≤ maxLen) (bm : ∀ p ∈ ls, p.2.size ≤ maxLen) (root : Int) (w : World) (hT : SumTab w) (hd : DiskAt w v ps ls) :
    Calls Tryd.prog 3 #[v, .int .i64 root] w fun e w' => e = .returned (.bool true) ∧ Below w.heap.size w w' := by
  have HSz := hide (fun wx h => szDisk_any v ps ls bp bq bl bm 1048576 (Nat.le_refl _) wx h)
  clear bp bq bl bm
  have HD := hide hd
  have HT := hide hT
  clear hT
  obtain ⟨vp, vl, rfl, -, -⟩ := hd
  obtain ⟨w0, hw0⟩ : ∃ w0, w0 = w.alloc (Obj.cells #[vp, vl] 25) := ⟨_, rfl⟩
  have hb0 : Below w.heap.size w w0 := by rw [hw0]; exact (Below.refl w.heap.size w).alloc (Nat.le_refl _) _
  have hq0 : w0.heap[w.heap.size]? = some (Obj.cells #[vp, vl] 25) := by rw [hw0]; exact heap_alloc_new w _
  by_cases hbk : bulkS ps + bulkP ls ≤ 1048576
  · obtain ⟨h1, h2, h3, h4⟩ := bulk_inT hbk
    obtain ⟨r, hr⟩ : ∃ r : Nat, szOut 1048576 (bulkS ps + bulkP ls) = (r : Int) := ⟨_, szOut_yes hbk⟩
    rw [hr] at HSz
    have HTo := hide (fun wx h => toDisk_any (.agg #[vp, vl]) ps ls h1 h3 wx h)
    have HSp := hide (fun u wx h hk => specTreeOk_any ps ls h1 h3 h2 h4 u root wx h hk)
    have HIm := hide (fun ap np cp al nl cl wx ht h => treeOk.implTreeOk_any ps ls h1 h3 h2 h4 ap al np nl cp cl root wx ht h)
    have HEq := hide (fun u u' wx h h' => eqDisk_any u u' ps ps ls ls (by omega) (by omega) (by omega) (by omega) wx h h')
    rw [decide_eq_true rfl] at HEq
    obtain ⟨b, hsb⟩ : ∃ b, b = treeI (fun q => rdN (readD ps ls q)) root := ⟨_, rfl⟩
    rw [← both_treeOk _ (rdN_right2 ps ls) root, ← hsb] at HSp
    rw [← hsb] at HIm
    clear hbk h1 h2 h3 h4 hr hsb
    go_enter Tryd.func3, Tryd.ntmps3
    go_wp2_with fail
    rw [← hw0]
    refine (HSz.out _ (disk_below HD.out hb0)).mono ?_
    rintro e w1 ⟨rfl, hb1⟩
    have HB1 : Hid (Below w.heap.size w w1) := hide (hb0.trans (hb1.mono hb0.size))
    have q1 := (hb1.block w.heap.size (Array.getElem?_eq_some_iff.1 hq0).1).trans hq0
    have c10 : w1.cell? ⟨w.heap.size, 0, none⟩ = some vp := (cell_at q1 0).1
    have c11 : w1.cell? ⟨w.heap.size, 1, none⟩ = some vl := (cell_at q1 1).1
    have HQ1 := hide q1
    clear hb1 hw0 hb0 hq0 q1
    go_wp2_with fail
    refine (HTo.out _ (disk_below HD.out HB1.out)).mono ?_
    rintro e w2 ⟨u2, rfl, hown2, hb2⟩
    have HB2 : Hid (Below w.heap.size w w2) := hide (HB1.out.trans (hb2.mono HB1.out.size))
    have q2 := (hb2.block w.heap.size (Array.getElem?_eq_some_iff.1 HQ1.out).1).trans HQ1.out
    have HO2 := hide hown2
    have HQ2 := hide q2
    clear c10 c11 hb2 hown2 q2
    go_wp2_with fail
    refine (HSp.out u2 _ (disk_of_own HO2.out) (fun k hk => (diskOwn_lt HO2.out k hk).2)).mono ?_
    rintro e w3 ⟨rfl, hb3⟩
    have HB3 : Hid (Below w.heap.size w w3) := hide (HB2.out.trans (hb3.mono HB2.out.size))
    have q3 := (hb3.block w.heap.size (Array.getElem?_eq_some_iff.1 HQ2.out).1).trans HQ2.out
    have c30 : w3.cell? ⟨w.heap.size, 0, none⟩ = some vp := (cell_at q3 0).1
    have c31 : w3.cell? ⟨w.heap.size, 1, none⟩ = some vl := (cell_at q3 1).1
    have HQ3 := hide q3
    clear hb3 q3
    go_wp2_with fail
    refine (HTo.out _ (disk_below HD.out HB3.out)).mono ?_
    rintro e w4 ⟨u4, rfl, hown4, hb4⟩
    have HB4 : Hid (Below w.heap.size w w4) := hide (HB3.out.trans (hb4.mono HB3.out.size))
    have q4 := (hb4.block w.heap.size (Array.getElem?_eq_some_iff.1 HQ3.out).1).trans HQ3.out
    have HO4 := hide hown4
    have HQ4 := hide q4
    obtain ⟨up, ul, rfl, hup, hul⟩ := hown4
    obtain ⟨z1, d1, rfl⟩ := own_slice hup
    obtain ⟨z2, d2, rfl⟩ := own_slice hul
    obtain ⟨X, hX⟩ : ∃ X : Value, X = .agg #[.slice z1 ps.length d1, .slice z2 ls.length d2] := ⟨_, rfl⟩
    obtain ⟨w5, hw5⟩ : ∃ w5, w5 = w4.alloc (Obj.cells #[.slice z1 ps.length d1, .slice z2 ls.length d2] 30) := ⟨_, rfl⟩
    have hb5 : Below w4.heap.size w4 w5 := by rw [hw5]; exact (Below.refl _ _).alloc (Nat.le_refl _) _
    have hq5 : w5.heap[w4.heap.size]? = some (Obj.cells #[.slice z1 ps.length d1, .slice z2 ls.length d2] 30) := by rw [hw5]; exact heap_alloc_new w4 _
    have HB5 : Hid (Below w.heap.size w w5) := hide (HB4.out.trans (hb5.mono HB4.out.size))
    have HD5 := hide (disk_below (disk_of_own HO4.out) hb5)
    have q5 := (hb5.block w.heap.size (Array.getElem?_eq_some_iff.1 HQ4.out).1).trans HQ4.out
    clear c30 c31 hb4 q4 hup hul hb5
    go_wp2_with fail
    rw [← hw5]
    refine (HIm.out _ _ _ _ _ _ _ (sumTab_below HT.out HB5.out) HD5.out).mono ?_
    rintro e w6 ⟨rfl, hb6⟩
    have HB6 : Hid (Below w.heap.size w w6) := hide (HB5.out.trans (hb6.mono HB5.out.size))
    have HD6 := hide (disk_below HD5.out hb6)
    have q6 := (hb6.block w.heap.size (Array.getElem?_eq_some_iff.1 q5).1).trans q5
    have q7 := (hb6.block w4.heap.size (Array.getElem?_eq_some_iff.1 hq5).1).trans hq5
    have c60 : w6.cell? ⟨w.heap.size, 0, none⟩ = some vp := (cell_at q6 0).1
    have c61 : w6.cell? ⟨w.heap.size, 1, none⟩ = some vl := (cell_at q6 1).1
    have c70 : w6.cell? ⟨w4.heap.size, 0, none⟩ = some (.slice z1 ps.length d1) := (cell_at q7 0).1
    have c71 : w6.cell? ⟨w4.heap.size, 1, none⟩ = some (.slice z2 ls.length d2) := (cell_at q7 1).1
    have hlt6 : w.heap.size < w6.heap.size := (Array.getElem?_eq_some_iff.1 q6).1
    have hlt7 : w4.heap.size < w6.heap.size := (Array.getElem?_eq_some_iff.1 q7).1
    have dbb : (b != b) = false := by cases b <;> rfl
    clear hb6 hq5 q5 q6 q7 hw5
    go_wp2_with fail
    go_region_held3 (fun wx => wx.cell? ⟨w.heap.size, 0, none⟩ = some vp ∧ wx.cell? ⟨w.heap.size, 1, none⟩ = some vl ∧ wx.cell? ⟨w4.heap.size, 0, none⟩ = some (.slice z1 ps.length d1) ∧ wx.cell? ⟨w4.heap.size, 1, none⟩ = some (.slice z2 ls.length d2)) (first | exact ⟨c60, c61, c70, c71⟩ | exact hS8 | exact hS9) (first | (go_at_call 6; refine (HTo.out _ ?_).mono ?_; exact disk_below HD.out HB6.out.drew; rintro e w8 ⟨u8, rfl, hown8, hb8⟩; have hS8 : w8.cell? ⟨w.heap.size, 0, none⟩ = some vp ∧ w8.cell? ⟨w.heap.size, 1, none⟩ = some vl ∧ w8.cell? ⟨w4.heap.size, 0, none⟩ = some (.slice z1 ps.length d1) ∧ w8.cell? ⟨w4.heap.size, 1, none⟩ = some (.slice z2 ls.length d2) := ⟨(hb8.cell (by exact hlt6)).trans c60, (hb8.cell (by exact hlt6)).trans c61, (hb8.cell (by exact hlt7)).trans c70, (hb8.cell (by exact hlt7)).trans c71⟩) | (go_at_call 8; refine (HEq.out _ _ _ ?_ ?_).mono ?_; exact disk_below (disk_drewT HD6.out) hb8; exact disk_of_own hown8; rintro e w9 ⟨rfl, hb9⟩; have hS9 : w9.cell? ⟨w.heap.size, 0, none⟩ = some vp ∧ w9.cell? ⟨w.heap.size, 1, none⟩ = some vl ∧ w9.cell? ⟨w4.heap.size, 0, none⟩ = some (.slice z1 ps.length d1) ∧ w9.cell? ⟨w4.heap.size, 1, none⟩ = some (.slice z2 ls.length d2) := ⟨(hb9.cell (by exact Nat.lt_of_lt_of_le hlt6 hb8.size)).trans hS8.1, (hb9.cell (by exact Nat.lt_of_lt_of_le hlt6 hb8.size)).trans hS8.2.1, (hb9.cell (by exact Nat.lt_of_lt_of_le hlt7 hb8.size)).trans hS8.2.2.1, (hb9.cell (by exact Nat.lt_of_lt_of_le hlt7 hb8.size)).trans hS8.2.2.2⟩))
    all_goals
      have hb10 : Below w.heap.size w w9 := (HB6.out.drew.trans (hb8.mono HB6.out.size)).trans (hb9.mono (Nat.le_trans HB6.out.size hb8.size))
      clear hb8 hb9
      go_wp2_with fail
      go_ret
      exact ⟨rfl, hb10⟩
  · rw [szOut_no (by omega)] at HSz
    go_enter Tryd.func3, Tryd.ntmps3
    go_wp2_with fail
    rw [← hw0]
    refine (HSz.out _ (disk_below HD.out hb0)).mono ?_
    rintro e w1 ⟨rfl, hb1⟩
    clear hw0 hq0
    go_wp2_with fail
    go_ret
    exact ⟨rfl, hb0.trans (hb1.mono hb0.size)⟩
end Go.Proofs.YtaefmkmldfbjeaaDoor
