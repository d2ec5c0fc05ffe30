/-
  Several texts in one. Rows of frees (a number and a row of pages each), read only ('FreesAt') or in new memory ('OwnF'), and the laws' own helpers over them by contracts: szFree, szFreeS, toFree, toFreeS, eqFree, eqFreeS. · Rows of frees copied and compared by contracts: toFree, toFreeS, eqFree, eqFreeS. · Metas without a program: which are right (metaOkB), the numbers that their text tells (metaNums), the text (metaT), and what reading number by number tells. · Metas (three numbers and frees), read only ('MetaAt') or in new memory ('MetaOwn'), and the laws' own helpers over them by contracts: szMeta, toMeta, eqMeta. · Metas held to the rule step by step: what is known ahead of the k-th free (MSt), and within one ahead of its j-th page (PSt). · The specification's MetaOk by a contract. · spec.l07Walk, whole; spec.l07Look, spec.AllPairs by contracts. · impl.AllPairs by a contract: the pairs of what comes, or nothing. · Rows of pairs (a key and a value each), and the laws' own helpers over them by contracts: eqPairS, markPairS, heldPairS. · What a law holds over its calls: facts on blocks of an interval ('Held'), which stay where nothing of that interval is turned. · laws.FnExactAllPairs by contracts: it returns true at every disk and every root.
-/
import Derived.Test.YtejfmjejdopglaaDoorNode
import Derived.Test.YtejfmjejdopglaaDoorPlJ
import Derived.Test.YtejfmjejdopglaaDoorVar
import Derived.Test.YtejfmjejdopglaaDoorRow
import Derived.BigQuiet
import Derived.Deep.RegionHeld3
import Derived.Test.YtejfmjejdopglaaDoorWalkKids
import Derived.Test.YtejfmjejdopglaaDoorWkJ
import Derived.Sort.LoopGhostIn
import Derived.Test.YtejfmjejdopglaaDoorAlSpec
import Derived.Test.YtejfmjejdopglaaDoorFrame
import Derived.Test.YtejfmjejdopglaaDoorDiskN
namespace Go.Proofs.YtejfmjejdopglaaDoor
open Go.RowKit

/-- the cells of a row of frees: a number, and the value of the row of pages -/
def frs (l : List (Int × Value)) : List Value := l.flatMap fun p => [.int .i64 p.1, p.2]

theorem frs_cons (p : Int × Value) (l : List (Int × Value)) : frs (p :: l) = Value.int .i64 p.1 :: p.2 :: frs l := rfl

theorem frs_append (l m : List (Int × Value)) : frs (l ++ m) = frs l ++ frs m := by simp [frs]

theorem frs_length (l : List (Int × Value)) : (frs l).length = l.length * 2 := by
  induction l with
  | nil => rfl
  | cons p l ih => rw [frs_cons, List.length_cons, List.length_cons, ih, List.length_cons]; omega

theorem frs_at (l : List (Int × Value)) : ∀ k p, l[k]? = some p → (frs l)[k * 2]? = some (.int .i64 p.1) ∧ (frs l)[k * 2 + 1]? = some p.2 := by
  induction l with
  | nil => intro k p h; simp at h
  | cons q l ih =>
    intro k p h
    rw [frs_cons]
    cases k with
    | zero => simp at h; subst h; exact ⟨rfl, rfl⟩
    | succ k =>
      have := ih k p (by simpa using h)
      rw [show (k + 1) * 2 = k * 2 + 1 + 1 from by omega]
      simpa using this

theorem frs_set (l : List (Int × Value)) : ∀ (k : Nat) (x : Int) (u : Value), k < l.length → ((frs l).set (k * 2) (.int .i64 x)).set (k * 2 + 1) u = frs (l.set k (x, u)) := by
  induction l with
  | nil => intro k p x h; simp at h
  | cons q l ih =>
    intro k x u h
    cases k with
    | zero => rfl
    | succ k =>
      have h2 := ih k x u (by simpa using h)
      rw [List.set_cons_succ, frs_cons, show (k + 1) * 2 = k * 2 + 1 + 1 from by omega, frs_cons, ← h2]
      rfl

theorem frs_set0 (l : List (Int × Value)) : ∀ (k : Nat) (x : Int) (p : Int × Value), l[k]? = some p → (frs l).set (k * 2) (.int .i64 x) = frs (l.set k (x, p.2)) := by
  induction l with
  | nil => intro k x p h; simp at h
  | cons q l ih =>
    intro k x p h
    cases k with
    | zero => simp at h; subst h; rfl
    | succ k =>
      have h2 := ih k x p (by simpa using h)
      rw [List.set_cons_succ, frs_cons, show (k + 1) * 2 = k * 2 + 1 + 1 from by omega, frs_cons, ← h2]
      rfl

theorem frs_made (n : Nat) : (madeCells #[Value.int .i64 0, .slice none 0 0] (n * 2)).toList = frs (List.replicate n (0, .slice none 0 0)) := by
  apply List.ext_getElem?
  intro i
  have hlen : (frs (List.replicate n ((0 : Int), Value.slice none 0 0))).length = n * 2 := by rw [frs_length, List.length_replicate]
  by_cases hi : i < n * 2
  · have h1 : (madeCells #[Value.int .i64 0, .slice none 0 0] (n * 2)).toList[i]? = some (#[Value.int .i64 0, .slice none 0 0][i % 2]!) := by
      simp [madeCells, hi]
    have h2 := frs_at (List.replicate n ((0 : Int), Value.slice none 0 0)) (i / 2) (0, .slice none 0 0) (by rw [List.getElem?_replicate, if_pos (by omega)])
    rw [h1]
    rcases Nat.mod_two_eq_zero_or_one i with h | h
    · rw [h, show i = i / 2 * 2 from by omega, h2.1]; simp
    · rw [h, show i = i / 2 * 2 + 1 from by omega, h2.2]; simp
  · rw [List.getElem?_eq_none (by simp [madeCells]; omega), List.getElem?_eq_none (by rw [hlen]; omega)]

/-- a row of frees that reads so -/
def FreesAt (w : World) (v : Value) (fs : List (Int × List Int)) : Prop :=
  ∃ l : List (Int × Value), l.length = fs.length ∧ RowAt w 2 v fs.length (frs l) ∧ ∀ (k : Nat) (p : Int × Value) (f : Int × List Int), l[k]? = some p → fs[k]? = some f → p.1 = f.1 ∧ RowAt w 1 p.2 f.2.length (ints f.2)

theorem frees_below {w w' : World} {v : Value} {fs : List (Int × List Int)} (h : FreesAt w v fs) (hb : Below w.heap.size w w') : FreesAt w' v fs := by
  obtain ⟨l, h1, h2, h3⟩ := h
  exact ⟨l, h1, row_below h2 hb, fun k p f hp hf => ⟨(h3 k p f hp hf).1, row_below (h3 k p f hp hf).2 hb⟩⟩

theorem frees_slice {w : World} {v : Value} {fs : List (Int × List Int)} (h : FreesAt w v fs) : ∃ a cap, v = .slice a fs.length cap := by
  obtain ⟨l, h1, h2, h3⟩ := h
  obtain ⟨-, a, cap, e, -⟩ := h2
  exact ⟨a, cap, e⟩

theorem frees_at {w : World} {a : Option Addr} {n cap : Nat} {fs : List (Int × List Int)} (h : FreesAt w (.slice a n cap) fs) {k : Nat} {tx : Int} {ps : List Int} (hk : fs[k]? = some (tx, ps)) :
    ∃ b off x c, a = some ⟨b, off, none⟩ ∧ b < w.heap.size ∧ w.cell? ⟨b, off + k * 2, none⟩ = some (.int .i64 tx) ∧ w.cell? ⟨b, off + k * 2 + 1, none⟩ = some (.slice x ps.length c) ∧ RowAt w 1 (.slice x ps.length c) ps.length (ints ps) := by
  obtain ⟨l, h1, h2, h3⟩ := h
  have hlt : k < fs.length := (List.getElem?_eq_some_iff.1 hk).1
  obtain ⟨p, hp⟩ : ∃ p, l[k]? = some p := ⟨_, List.getElem?_eq_getElem (by omega)⟩
  obtain ⟨e1, e2⟩ := h3 k p _ hp hk
  obtain ⟨-, a', cap', e, hr⟩ := h2
  injection e with e _ _
  subst e
  rcases hr with h0 | ⟨b, off, rfl, hb, hc⟩
  · omega
  · obtain ⟨x, c, hx⟩ : ∃ x c, p.2 = .slice x ps.length c := by obtain ⟨-, x, c, e, -⟩ := e2; exact ⟨x, c, e⟩
    rw [hx] at e2
    refine ⟨b, off, x, c, rfl, hb, ?_, ?_, e2⟩
    · rw [hc (k * 2) (by omega), (frs_at l k p hp).1, e1]
    · rw [Nat.add_assoc, hc (k * 2 + 1) (by omega), (frs_at l k p hp).2, hx]

/-- frees of which the first k are in memory of their own: no two rows share a block -/
def OwnTo (w : World) (B : Nat) (m : List (Int × Value)) (fs : List (Int × List Int)) (k : Nat) : Prop :=
  m.length = fs.length ∧ (∀ (i : Nat) (p : Int × Value) (f : Int × List Int), i < k → m[i]? = some p → fs[i]? = some f → p.1 = f.1 ∧ w.ownsRow B 3 1 p.2 f.2.length (ints f.2)) ∧ ∀ (i j : Nat) (p q : Int × Value) (b : Nat), i < k → j < k → m[i]? = some p → m[j]? = some q → p.2.ownBlock = some b → q.2.ownBlock = some b → i = j

theorem ownTo_kept {w w' : World} {B k : Nat} {m : List (Int × Value)} {fs : List (Int × List Int)} {S : Nat → Prop} (h : OwnTo w B m fs k) (hk : Kept w w' S) (hS : ∀ (i : Nat) (p : Int × Value) (b : Nat), i < k → m[i]? = some p → p.2.ownBlock = some b → ¬ S b) : OwnTo w' B m fs k :=
  ⟨h.1, fun i p f hi hp hf => ⟨(h.2.1 i p f hi hp hf).1, own_kept (h.2.1 i p f hi hp hf).2 hk (fun b hb => hS i p b hi hp hb)⟩, h.2.2⟩

theorem ownTo_stays {w w' : World} {B k : Nat} {m : List (Int × Value)} {fs : List (Int × List Int)} (h : OwnTo w B m fs k) (hb : Below w.heap.size w w') : OwnTo w' B m fs k :=
  ⟨h.1, fun i p f hi hp hf => ⟨(h.2.1 i p f hi hp hf).1, own_stays (h.2.1 i p f hi hp hf).2 hb⟩, h.2.2⟩

theorem ownTo_down {w : World} {B B' k : Nat} {m : List (Int × Value)} {fs : List (Int × List Int)} (h : OwnTo w B m fs k) (hb : B' ≤ B) : OwnTo w B' m fs k :=
  ⟨h.1, fun i p f hi hp hf => ⟨(h.2.1 i p f hi hp hf).1, own_down (h.2.1 i p f hi hp hf).2 hb⟩, h.2.2⟩

/-- the blocks of frees: the row's own, and those of the pages -/
def freeBlocks (v : Value) (m : List (Int × Value)) (b : Nat) : Prop := v.ownBlock = some b ∨ ∃ (i : Nat) (p : Int × Value), m[i]? = some p ∧ p.2.ownBlock = some b

/-- a row of pages more -/
theorem ownTo_set {w : World} {B k : Nat} {m : List (Int × Value)} {fs : List (Int × List Int)} {tx : Int} {ps : List Int} {u : Value} (h : OwnTo w B m fs k) (hf : fs[k]? = some (tx, ps)) (hu : w.ownsRow B 3 1 u ps.length (ints ps))
    (hn : ∀ (i : Nat) (p : Int × Value) (b : Nat), i < k → m[i]? = some p → p.2.ownBlock = some b → u.ownBlock ≠ some b) : OwnTo w B (m.set k (tx, u)) fs (k + 1) := by
  have hkl : k < m.length := by rw [h.1]; exact (List.getElem?_eq_some_iff.1 hf).1
  refine ⟨by rw [List.length_set]; exact h.1, fun i p f hi hp hf' => ?_, fun i j p q b hi hj hp hq h1 h2 => ?_⟩
  · by_cases e : k = i
    · subst e
      rw [List.getElem?_set_self hkl] at hp
      injection hp with hp
      rw [hf] at hf'
      injection hf' with hf'
      subst hp hf'
      exact ⟨rfl, hu⟩
    · rw [List.getElem?_set_ne e] at hp
      exact h.2.1 i p f (by omega) hp hf'
  · by_cases e : k = i
    · by_cases e' : k = j
      · omega
      · subst e
        rw [List.getElem?_set_self hkl] at hp
        rw [List.getElem?_set_ne e'] at hq
        injection hp with hp
        subst hp
        exact absurd h1 (hn j q b (by omega) hq h2)
    · by_cases e' : k = j
      · subst e'
        rw [List.getElem?_set_self hkl] at hq
        rw [List.getElem?_set_ne e] at hp
        injection hq with hq
        subst hq
        exact absurd h2 (hn i p b (by omega) hp h1)
      · rw [List.getElem?_set_ne e] at hp
        rw [List.getElem?_set_ne e'] at hq
        exact h.2.2 i j p q b (by omega) (by omega) hp hq h1 h2

/-- how many pages the first k frees have -/
def sumF (l : List (Int × List Int)) (k : Nat) : Nat := ((l.take k).map fun p => p.2.length).sum

theorem sumF_succ (l : List (Int × List Int)) (k : Nat) {tx : Int} {ps : List Int} (h : l[k]? = some (tx, ps)) : sumF l (k + 1) = sumF l k + ps.length := by
  obtain ⟨hk, e⟩ := List.getElem?_eq_some_iff.1 h
  unfold sumF
  rw [List.take_succ_eq_append_getElem hk, List.map_append, List.sum_append, e]
  simp

theorem sumF_zero (l : List (Int × List Int)) : sumF l 0 = 0 := by simp [sumF]

theorem sumF_mono (l : List (Int × List Int)) (k : Nat) : sumF l k ≤ sumF l l.length := by
  unfold sumF
  conv => rhs; rw [List.take_length, ← List.take_append_drop k l, List.map_append, List.sum_append]
  omega

/-- how much a list of frees holds -/
def bulkF (l : List (Int × List Int)) : Nat := l.length + sumF l l.length

theorem bulkF_in {l : List (Int × List Int)} {m : Nat} (h : bulkF l ≤ m) : l.length ≤ m ∧ ∀ f ∈ l, f.2.length ≤ m := by
  unfold bulkF at h
  refine ⟨by omega, fun f hf => ?_⟩
  obtain ⟨i, hi, rfl⟩ := List.getElem_of_mem hf
  have h1 := sumF_succ l i (tx := l[i].1) (ps := l[i].2) (List.getElem?_eq_getElem hi)
  have h2 := sumF_mono l (i + 1)
  omega

end Go.Proofs.YtejfmjejdopglaaDoor

namespace Go.Proofs.YtejfmjejdopglaaDoor
open Go.RowKit

end Go.Proofs.YtejfmjejdopglaaDoor

namespace Go.Proofs.YtejfmjejdopglaaDoor

/-- the pages of one free, held against those seen before -/
def pgsB (next : Int) : List Int → Int → List Int → Option (List Int)
  | seen, _, [] => some seen
  | seen, last, p :: ps => if 2 ≤ p ∧ p < next ∧ last < p ∧ p ∉ seen then pgsB next (seen ++ [p]) p ps else none

def freesB (tx next : Int) : List Int → Int → List (Int × List Int) → Bool
  | _, _, [] => true
  | seen, last, f :: fs => if last < f.1 ∧ f.1 ≤ tx ∧ 1 ≤ f.2.length ∧ f.2.length ≤ 40 then (match pgsB next seen 1 f.2 with | none => false | some s => freesB tx next s f.1 fs) else false

/-- the numbers of a meta but its frees -/
def headOkB (tx root next : Int) (n : Nat) : Bool := decide (0 ≤ tx ∧ tx ≤ 100000 ∧ 2 ≤ next ∧ next ≤ 40 ∧ (root = 0 ∨ 2 ≤ root ∧ root < next) ∧ n ≤ 20)

/-- a meta as plain data -/
structure Mt where
  tx : Int
  root : Int
  next : Int
  fs : List (Int × List Int)

def Mt.none : Mt := ⟨0, 0, 0, []⟩

def Mt.ok (m : Mt) : Bool := headOkB m.tx m.root m.next m.fs.length && freesB m.tx m.next [m.root] 0 m.fs

/-- the numbers that frees tell -/
def freeNums (fs : List (Int × List Int)) : List Int := fs.flatMap fun f => f.1 :: (f.2.length : Int) :: f.2

def Mt.nums (m : Mt) : List Int := m.tx :: m.root :: m.next :: (m.fs.length : Int) :: freeNums m.fs

/-- numbers in bytes -/
def numsL (l : List Int) : List UInt8 := l.flatMap fun n => vtext n.toNat

def numsB (l : List Int) : ByteArray := ⟨(numsL l).toArray⟩

/-- numbers that have a text -/
def NumsIn (l : List Int) : Prop := ∀ n ∈ l, 0 ≤ n ∧ n ≤ 1000000000

/-- a meta's text, sealed -/
def Mt.text (m : Mt) : ByteArray := ⟨(sealL (numsL m.nums)).toArray⟩

/-- there is a text -/
def Mt.good (m : Mt) : Bool := m.ok && decide ((numsL m.nums).length + 4 ≤ 240)

theorem numsL_snoc (l : List Int) (n : Int) : numsL (l ++ [n]) = numsL l ++ vtext n.toNat := by simp [numsL]

theorem numsL_append (l m : List Int) : numsL (l ++ m) = numsL l ++ numsL m := by simp [numsL]

theorem numsL_cons (n : Int) (l : List Int) : numsL (n :: l) = vtext n.toNat ++ numsL l := by simp [numsL]

theorem numsB_snoc (l : List Int) (n : Int) : numsB (l ++ [n]) = numsB l ++ ⟨(vtext n.toNat).toArray⟩ := by
  apply ByteArray.ext
  simp [numsB, numsL_snoc, ByteArray.data_append]

theorem numsB_append (l m : List Int) : numsB (l ++ m) = numsB l ++ numsB m := by
  apply ByteArray.ext
  simp [numsB, numsL_append, ByteArray.data_append]

theorem numsB_nil : numsB [] = ⟨#[]⟩ := rfl

theorem numsB_list (l : List Int) : (numsB l).data.toList = numsL l := by simp [numsB]

theorem numsL_size (l : List Int) : l.length ≤ (numsL l).length ∧ (numsL l).length ≤ 5 * l.length := by
  induction l with
  | nil => simp [numsL]
  | cons n l ih =>
    have := vtext_length n.toNat
    rw [numsL_cons, List.length_append, List.length_cons]
    omega

theorem numsB_size (l : List Int) : (numsB l).size = (numsL l).length := by rw [← numsB_list, ba_len]

theorem freeNums_append (a b : List (Int × List Int)) : freeNums (a ++ b) = freeNums a ++ freeNums b := by simp [freeNums]

theorem freeNums_cons (f : Int × List Int) (b : List (Int × List Int)) : freeNums (f :: b) = f.1 :: (f.2.length : Int) :: (f.2 ++ freeNums b) := by simp [freeNums]

theorem freeNums_snoc (a : List (Int × List Int)) (f : Int × List Int) : freeNums (a ++ [f]) = freeNums a ++ (f.1 :: (f.2.length : Int) :: f.2) := by simp [freeNums]

theorem freeNums_len (fs : List (Int × List Int)) (h : ∀ f ∈ fs, f.2.length ≤ 40) : (freeNums fs).length ≤ 42 * fs.length := by
  induction fs with
  | nil => simp [freeNums]
  | cons f fs ih =>
    have h1 := ih (fun g hg => h g (List.mem_cons_of_mem _ hg))
    have h2 := h f List.mem_cons_self
    rw [freeNums_cons]
    simp
    omega

theorem pgsB_in {next : Int} {seen s : List Int} {last : Int} {ps : List Int} (h : pgsB next seen last ps = some s) : ∀ p ∈ ps, 2 ≤ p ∧ p < next := by
  induction ps generalizing seen last with
  | nil => intro p hp; cases hp
  | cons q ps ih =>
    rw [pgsB] at h
    split at h
    · next hq =>
      intro p hp
      rcases List.mem_cons.1 hp with rfl | hp
      · exact ⟨hq.1, hq.2.1⟩
      · exact ih h p hp
    · cases h

theorem freesB_in {tx next : Int} {seen : List Int} {last : Int} {fs : List (Int × List Int)} (h0 : 0 ≤ last) (h : freesB tx next seen last fs = true) : ∀ f ∈ fs, 1 ≤ f.1 ∧ f.1 ≤ tx ∧ 1 ≤ f.2.length ∧ f.2.length ≤ 40 ∧ ∀ p ∈ f.2, 2 ≤ p ∧ p < next := by
  induction fs generalizing seen last with
  | nil => intro p hp; cases hp
  | cons g fs ih =>
    rw [freesB] at h
    split at h
    · next hq =>
      split at h
      · cases h
      · next s hs =>
        intro f hf
        rcases List.mem_cons.1 hf with rfl | hf
        · exact ⟨by omega, hq.2.1, hq.2.2.1, hq.2.2.2, pgsB_in hs⟩
        · exact ih (by omega) h f hf
    · cases h

theorem ok_parts {m : Mt} (h : m.ok = true) : (0 ≤ m.tx ∧ m.tx ≤ 100000 ∧ 2 ≤ m.next ∧ m.next ≤ 40 ∧ (m.root = 0 ∨ 2 ≤ m.root ∧ m.root < m.next) ∧ m.fs.length ≤ 20) ∧ ∀ f ∈ m.fs, 1 ≤ f.1 ∧ f.1 ≤ m.tx ∧ 1 ≤ f.2.length ∧ f.2.length ≤ 40 ∧ ∀ p ∈ f.2, 2 ≤ p ∧ p < m.next := by
  rw [Mt.ok, Bool.and_eq_true, headOkB, decide_eq_true_eq] at h
  exact ⟨h.1, freesB_in (Int.le_refl _) h.2⟩

theorem nums_in {m : Mt} (h : m.ok = true) : ∀ n ∈ m.nums, 0 ≤ n ∧ n ≤ 100000 := by
  obtain ⟨⟨h1, h2, h3, h4, h5, h6⟩, h7⟩ := ok_parts h
  intro n hn
  rw [Mt.nums] at hn
  simp only [List.mem_cons] at hn
  rcases hn with rfl | rfl | rfl | rfl | hn
  · omega
  · omega
  · omega
  · omega
  · rw [freeNums, List.mem_flatMap] at hn
    obtain ⟨f, hf, hn⟩ := hn
    obtain ⟨g1, g2, g3, g4, g5⟩ := h7 f hf
    simp only [List.mem_cons] at hn
    rcases hn with rfl | rfl | hn
    · omega
    · omega
    · have := g5 n hn; omega

theorem ok_numsIn {m : Mt} (h : m.ok = true) : NumsIn m.nums := fun n hn => by
  have := nums_in h n hn
  omega

theorem nums_len {m : Mt} (h : m.ok = true) : m.nums.length ≤ 844 := by
  obtain ⟨⟨h1, h2, h3, h4, h5, h6⟩, h7⟩ := ok_parts h
  have := freeNums_len m.fs (fun f hf => (h7 f hf).2.2.2.1)
  simp [Mt.nums]
  omega

theorem nums_size {m : Mt} (h : m.ok = true) : (numsB m.nums).size ≤ 4220 ∧ 4 ≤ (numsB m.nums).size := by
  rw [numsB_size]
  have h1 := numsL_size m.nums
  have h2 := nums_len h
  have h3 : 4 ≤ m.nums.length := by simp [Mt.nums]
  omega

/-- what was read so far: ns, up to p -/
def Got (s : ByteArray) (p : Nat) (ns : List Int) : Prop := NumsIn ns ∧ p ≤ s.size ∧ s.extract 0 p = numsB ns

theorem got_start (s : ByteArray) : Got s 0 [] := ⟨fun n h => (by cases h), Nat.zero_le _, by rw [numsB_nil]; apply ByteArray.ext; simp⟩

theorem got_next {s : ByteArray} {p q n : Nat} {ns : List Int} (h : Got s p ns) (hr : rdV s p = some (n, q)) : Got s q (ns ++ [(n : Int)]) := by
  obtain ⟨h1, h2, h3, h4⟩ := rdV_back hr
  refine ⟨fun k hk => ?_, h2, ?_⟩
  · rcases List.mem_append.1 hk with hk | hk
    · exact h.1 k hk
    · rw [List.mem_singleton] at hk; omega
  · rw [extract_two s 0 p q (Nat.zero_le _) (by omega), h.2.2, h4, numsB_snoc, Int.toNat_natCast]

theorem got_place {s : ByteArray} {p : Nat} {ns : List Int} (h : Got s p ns) : p = (numsB ns).size := by
  rw [← h.2.2, ByteArray.size_extract]
  have := h.2.1
  omega

theorem numsB_cons (n : Int) (l : List Int) : numsB (n :: l) = ⟨(vtext n.toNat).toArray⟩ ++ numsB l := by
  apply ByteArray.ext
  simp [numsB, numsL_cons, ByteArray.data_append]

/-- what is written behind what was read is read next -/
theorem got_reads {s : ByteArray} {p : Nat} {ns rest : List Int} {n : Int} (h : Got s p ns) (hn : 0 ≤ n ∧ n ≤ 1000000000) (hs : s = numsB (ns ++ n :: rest)) : ∃ q, rdV s p = some (n.toNat, q) := by
  have h1 := rdV_at s (numsB ns) (numsB rest) n.toNat (by omega) (by rw [hs, numsB_append, numsB_cons, ByteArray.append_assoc])
  rw [← got_place h] at h1
  exact ⟨_, h1⟩

theorem numsB_pos (n : Int) (l : List Int) : 0 < (numsB (n :: l)).size := by
  rw [numsB_size]
  have := (numsL_size (n :: l)).1
  simp at this
  omega

/-- numbers read are a beginning of those written -/
theorem got_begins {s : ByteArray} {p : Nat} {ns N : List Int} (h : Got s p ns) (hN : NumsIn N) (hs : s = numsB N) : ∃ rest, N = ns ++ rest := by
  have key : ∀ (a b pre : List Int) (X : ByteArray), NumsIn a → NumsIn b → (numsB pre ++ numsB a) ++ X = numsB pre ++ numsB b → ∃ rest, b = a ++ rest := by
    intro a
    induction a with
    | nil => intro b _ _ _ _ _; exact ⟨b, rfl⟩
    | cons x a ih =>
      intro b pre X ha hb he
      cases b with
      | nil =>
        exfalso
        have := congrArg ByteArray.size he
        rw [ByteArray.size_append, ByteArray.size_append, ByteArray.size_append] at this
        have h1 := numsB_pos x a
        rw [numsB_nil, show (⟨#[]⟩ : ByteArray).size = 0 from rfl] at this
        omega
      | cons y b =>
        have hx := ha x List.mem_cons_self
        have hy := hb y List.mem_cons_self
        have r1 := rdV_at ((numsB pre ++ numsB (x :: a)) ++ X) (numsB pre) (numsB a ++ X) x.toNat (by omega) (by rw [numsB_cons]; simp only [ByteArray.append_assoc])
        have r2 := rdV_at (numsB pre ++ numsB (y :: b)) (numsB pre) (numsB b) y.toNat (by omega) (by rw [numsB_cons]; simp only [ByteArray.append_assoc])
        rw [he, r2] at r1
        injection r1 with r1
        injection r1 with r1 _
        have hxy : x = y := by omega
        subst hxy
        have := ih b (pre ++ [x]) X (fun n hn => ha n (List.mem_cons_of_mem _ hn)) (fun n hn => hb n (List.mem_cons_of_mem _ hn)) (by
          rw [numsB_append]
          rw [numsB_cons x a, numsB_cons x b] at he
          rw [show numsB [x] = ⟨(vtext x.toNat).toArray⟩ from by rw [numsB_cons, numsB_nil]; apply ByteArray.ext; simp [ByteArray.data_append]]
          simpa only [ByteArray.append_assoc] using he)
        obtain ⟨rest, hr⟩ := this
        exact ⟨rest, by rw [hr]; rfl⟩
  have hp := h.2.1
  have h0 : s = s.extract 0 p ++ s.extract p s.size := by
    rw [← extract_two s 0 p s.size (Nat.zero_le _) hp]
    apply ByteArray.ext
    simp
  refine key ns N [] (s.extract p s.size) h.1 hN ?_
  rw [numsB_nil, ← h.2.2, show (⟨#[]⟩ : ByteArray) ++ s.extract 0 p = s.extract 0 p from by apply ByteArray.ext; simp [ByteArray.data_append], ← h0, hs]
  apply ByteArray.ext
  simp [ByteArray.data_append]

/-- frees whose numbers begin frees' numbers -/
theorem frees_begin : ∀ (fs gs : List (Int × List Int)) (X Y : List Int), freeNums gs = freeNums fs ++ X ++ Y → fs.length ≤ gs.length → ∃ rest, gs = fs ++ rest ∧ freeNums rest = X ++ Y
  | [], gs, X, Y, h, _ => ⟨gs, rfl, by simpa [freeNums] using h⟩
  | f :: fs, [], X, Y, _, hl => by simp at hl
  | f :: fs, g :: gs, X, Y, h, hl => by
    rw [freeNums_cons, freeNums_cons] at h
    simp only [List.cons_append, List.cons.injEq] at h
    obtain ⟨h1, h2, h3⟩ := h
    have hlen : g.2.length = f.2.length := by omega
    rw [List.append_assoc, List.append_assoc] at h3
    have h4 := List.append_inj h3 hlen
    obtain ⟨rest, r1, r2⟩ := frees_begin fs gs X Y (by rw [List.append_assoc]; exact h4.2) (by simpa using hl)
    refine ⟨rest, ?_, r2⟩
    rw [r1]
    have : g = f := Prod.ext h1 h4.1
    rw [this]
    rfl
end Go.Proofs.YtejfmjejdopglaaDoor

namespace Go.Proofs.YtejfmjejdopglaaDoor
open Go.RowKit

/-- a meta that reads so -/
def MetaAt (w : World) (v : Value) (m : Mt) : Prop := ∃ vf, v = .agg #[.int .i64 m.tx, .int .i64 m.root, .int .i64 m.next, vf] ∧ FreesAt w vf m.fs

theorem meta_below {w w' : World} {v : Value} {m : Mt} (h : MetaAt w v m) (hb : Below w.heap.size w w') : MetaAt w' v m := by
  obtain ⟨vf, e, h⟩ := h
  exact ⟨vf, e, frees_below h hb⟩

end Go.Proofs.YtejfmjejdopglaaDoor

namespace Go.Proofs.YtejfmjejdopglaaDoor

def MSt (tx root next : Int) (fs : List (Int × List Int)) (k : Nat) (seen : List Int) (last : Int) : Prop :=
  seen.length ≤ 1 + 40 * k ∧ freesB tx next seen last (fs.drop k) = freesB tx next [root] 0 fs ∧ 0 ≤ last ∧ (k = 0 → last = 0) ∧ (∀ f, 0 < k → fs[k - 1]? = some f → f.1 = last) ∧ root ∈ seen ∧ ∀ x ∈ seen, x = root ∨ (2 ≤ x ∧ x < next)

def PSt (next : Int) (seen0 ps : List Int) (j : Nat) (seen : List Int) (prev : Int) : Prop :=
  seen.length = seen0.length + j ∧ pgsB next seen prev (ps.drop j) = pgsB next seen0 1 ps ∧ (j = 0 → prev = 1) ∧ (∀ x, 0 < j → ps[j - 1]? = some x → x = prev) ∧ (0 < j → prev ∈ seen) ∧ (∀ x, x ∈ seen0 → x ∈ seen) ∧ ∀ x ∈ seen, x ∈ seen0 ∨ (2 ≤ x ∧ x < next)

theorem mst_start (tx root next : Int) (fs : List (Int × List Int)) : MSt tx root next fs 0 [root] 0 :=
  ⟨by simp, by simp, Int.le_refl _, fun _ => rfl, fun f h => by omega, by simp, fun x hx => Or.inl (by simpa using hx)⟩

theorem drop_at {α : Type} {l : List α} {k : Nat} {x : α} (h : l[k]? = some x) : l.drop k = x :: l.drop (k + 1) := by
  obtain ⟨hk, e⟩ := List.getElem?_eq_some_iff.1 h
  rw [List.drop_eq_getElem_cons hk, e]

theorem mst_end {tx root next : Int} {fs : List (Int × List Int)} {k : Nat} {seen : List Int} {last : Int} (h : MSt tx root next fs k seen last) (hk : fs.length ≤ k) : freesB tx next [root] 0 fs = true := by
  rw [← h.2.1, List.drop_eq_nil_of_le hk, freesB]

theorem mst_bad {tx root next : Int} {fs : List (Int × List Int)} {k : Nat} {seen : List Int} {last ftx : Int} {ps : List Int} (h : MSt tx root next fs k seen last) (hf : fs[k]? = some (ftx, ps)) (hb : ¬ (last < ftx ∧ ftx ≤ tx ∧ 1 ≤ ps.length ∧ ps.length ≤ 40)) : freesB tx next [root] 0 fs = false := by
  rw [← h.2.1, drop_at hf, freesB, if_neg hb]

theorem mst_none {tx root next : Int} {fs : List (Int × List Int)} {k : Nat} {seen : List Int} {last ftx : Int} {ps : List Int} (h : MSt tx root next fs k seen last) (hf : fs[k]? = some (ftx, ps)) (hb : pgsB next seen 1 ps = none) : freesB tx next [root] 0 fs = false := by
  rw [← h.2.1, drop_at hf, freesB]
  split
  · rw [hb]
  · rfl

theorem mst_next {tx root next : Int} {fs : List (Int × List Int)} {k : Nat} {seen s : List Int} {last ftx : Int} {ps : List Int} (h : MSt tx root next fs k seen last) (hf : fs[k]? = some (ftx, ps)) (hb : last < ftx ∧ ftx ≤ tx ∧ 1 ≤ ps.length ∧ ps.length ≤ 40)
    {prev : Int} (hp : PSt next seen ps ps.length s prev) : MSt tx root next fs (k + 1) s ftx := by
  obtain ⟨p1, p2, p3, p4, p5, p6, p7⟩ := hp
  rw [List.drop_length, pgsB] at p2
  refine ⟨by have := h.1; omega, ?_, by have := h.2.2.1; omega, fun e => by omega, fun f _ e => ?_, p6 _ h.2.2.2.2.2.1, fun x hx => ?_⟩
  · rw [← h.2.1, drop_at hf, freesB, if_pos hb]
    simp only [← p2]
  · rw [Nat.add_sub_cancel, hf] at e
    injection e with e
    rw [← e]
  · rcases p7 x hx with h1 | h1
    · exact h.2.2.2.2.2.2 x h1
    · exact Or.inr h1

theorem pst_start (next : Int) (seen ps : List Int) : PSt next seen ps 0 seen 1 := ⟨rfl, by simp, fun _ => rfl, fun x h => by omega, fun h => by omega, fun x h => h, fun x h => Or.inl h⟩

theorem pst_bad {next : Int} {seen0 ps : List Int} {j : Nat} {seen : List Int} {prev p : Int} (h : PSt next seen0 ps j seen prev) (hf : ps[j]? = some p) (hb : ¬ (2 ≤ p ∧ p < next ∧ prev < p ∧ p ∉ seen)) : pgsB next seen0 1 ps = none := by
  rw [← h.2.1, drop_at hf, pgsB, if_neg hb]

theorem pst_next {next : Int} {seen0 ps : List Int} {j : Nat} {seen : List Int} {prev p : Int} (h : PSt next seen0 ps j seen prev) (hf : ps[j]? = some p) (hb : 2 ≤ p ∧ p < next ∧ prev < p ∧ p ∉ seen) : PSt next seen0 ps (j + 1) (seen ++ [p]) p := by
  refine ⟨by rw [List.length_append]; have := h.1; simp; omega, ?_, fun e => by omega, fun x _ e => ?_, fun _ => by simp, fun x hx => List.mem_append_left _ (h.2.2.2.2.2.1 x hx), fun x hx => ?_⟩
  · rw [← h.2.1, drop_at hf, pgsB, if_pos hb]
  · rw [Nat.add_sub_cancel, hf] at e
    injection e with e
    exact e.symm
  · rcases List.mem_append.1 hx with h1 | h1
    · exact h.2.2.2.2.2.2 x h1
    · rw [List.mem_singleton] at h1
      subst h1
      exact Or.inr ⟨hb.1, hb.2.1⟩

theorem ok_head {m : Mt} (h : headOkB m.tx m.root m.next m.fs.length = false) : m.ok = false := by rw [Mt.ok, h]; rfl

theorem ok_frees {m : Mt} (h : headOkB m.tx m.root m.next m.fs.length = true) : m.ok = freesB m.tx m.next [m.root] 0 m.fs := by rw [Mt.ok, h]; rfl
end Go.Proofs.YtejfmjejdopglaaDoor

namespace Go.Proofs.YtejfmjejdopglaaDoor
open Go.RowKit

theorem in_dec (x a b : Int) (w : World) : Calls Tryd.prog 76 #[.int .i64 x, .int .i64 a, .int .i64 b] w fun e w' => e = .returned (.bool (decide (a ≤ x ∧ x ≤ b))) ∧ w = w' := by
  by_cases h : a ≤ x ∧ x ≤ b
  · rw [decide_eq_true h]; exact l01In_yes x a b w h.1 h.2
  · rw [decide_eq_false h]; exact l01In_no x a b w (by omega)

theorem bel_dn {B : Nat} {a b : World} {n : Nat} (h : Below B a b) : Below B a (b.drewN n) := below_drewN h n

set_option maxHeartbeats 1000000 in
theorem l06In_any (l : List Int) (hl : l.length ≤ 1048576) (x : Int) (v : Value) (w : World) (hr : RowAt w 1 v l.length (ints l)) :
    Calls Tryd.prog 89 #[v, .int .i64 x] w fun e w' => e = .returned (.bool (decide (x ∈ l))) ∧ w = w' := by
  obtain ⟨-, a, cap, rfl, h2⟩ := hr
  have HR := hide h2
  clear h2
  go_enter Tryd.func89, Tryd.ntmps89
  go_wp2
  go_loopg [5] l.length (fun q iv wr => ∃ k : Nat, k ≤ l.length ∧ iv = .int .i64 (k : Int) ∧ q + k = l.length ∧ Hid (x ∉ l.take k) ∧ w = wr)
  case atStart => exact ⟨0, Nat.zero_le _, rfl, rfl, hide (by simp), rfl⟩
  case round =>
    obtain ⟨k, hk, rfl, hg, HT, rfl⟩ := hrel
    have HG := hide hg
    clear hg
    by_cases hlt : k < l.length
    · rcases HR.out with hn0 | ⟨b, off, rfl, hbl, hc⟩
      · omega
      · obtain ⟨y, hy⟩ : ∃ y, y = l[k] := ⟨_, rfl⟩
        have hcx : w.cell? ⟨b, off + k, none⟩ = some (.int .i64 y) := by rw [hc k (by omega), ints_at l k hlt, hy]
        have HY := hide hy
        have hk0 : (0 : Int) ≤ (k : Int) := by omega
        have hk1 : (k : Int) < (l.length : Int) := by omega
        clear hc hy
        by_cases hxy : y = x
        · have HD : Hid (decide (x ∈ l) = true) := hide (decide_eq_true (by rw [← hxy, HY.out]; exact List.getElem_mem hlt))
          subst hxy
          go_wp2
          go_ret
          rw [HD.out]
          exact ⟨rfl, rfl⟩
        · have HT2 : Hid (x ∉ l.take (k + 1)) := hide (fun h => by
            rw [List.take_succ_eq_append_getElem hlt] at h
            rcases List.mem_append.1 h with h | h
            · exact HT.out h
            · rw [List.mem_singleton, ← HY.out] at h; exact hxy h.symm)
          have hbq : (y == x) = false := by simp [hxy]
          have hbd : decide (y = x) = false := decide_eq_false hxy
          clear hxy
          go_wp2
          go_roundg (gk - 1)
          case measure => have := HG.out; omega
          case rel => exact ⟨k + 1, by omega, by go_num, by have := HG.out; omega, HT2, rfl⟩
    · have HD : Hid (decide (x ∈ l) = false) := hide (decide_eq_false (by
        have h1 := HT.out
        rw [List.take_of_length_le (by omega)] at h1
        exact h1))
      go_wp2
      go_ret
      rw [HD.out]
      exact ⟨rfl, rfl⟩

theorem Tryd.intInfo : (Tryd.prog.info? 3).map (fun i => (i.zero, i.size, i.bytes)) = some (some (.int .i64 0), 1, 8) := by kernel_rfl

/-- what the variable of a meta holds -/
theorem meta_var (w : World) (tx root next : Int) (vf : Value) (t : TypeId) : ∀ wx, Below (w.alloc (Obj.cells #[.int .i64 tx, .int .i64 root, .int .i64 next, vf] t)).heap.size (w.alloc (Obj.cells #[.int .i64 tx, .int .i64 root, .int .i64 next, vf] t)) wx →
    wx.cell? ⟨w.heap.size, 0, none⟩ = some (.int .i64 tx) ∧ wx.cell? ⟨w.heap.size, 1, none⟩ = some (.int .i64 root) ∧ wx.cell? ⟨w.heap.size, 2, none⟩ = some (.int .i64 next) ∧ wx.cell? ⟨w.heap.size, 3, none⟩ = some vf := fun wx hb => by
  have hblk := heap_alloc_new w (Obj.cells #[.int .i64 tx, .int .i64 root, .int .i64 next, vf] t)
  have hq := (hb.block _ (Array.getElem?_eq_some_iff.1 hblk).1).trans hblk
  exact ⟨(cell_at hq 0).1, (cell_at hq 1).1, (cell_at hq 2).1, (cell_at hq 3).1⟩

theorem int_one (w : World) (x : Int) : (w.alloc (Obj.cells #[.int .i64 x] 3)).ownsRow w.heap.size 3 1 (.slice (some ⟨w.heap.size, 0, none⟩) 1 1) 1 (ints [x]) := by
  simpa [ints] using World.ownsRow_lit (base := w.heap.size) (e := 3) (size := 1) w #[.int .i64 x] 1 (Nat.le_refl _) (by unfold maxLen; omega) (by simp)

theorem int_cell (w : World) (x : Int) : ∀ (j : Nat) (u : Value), [Value.int .i64 x][j]? = some u → (w.alloc (Obj.cells #[.int .i64 x] 3)).cell? ((⟨w.heap.size, 0, none⟩ : Addr).add j) = some u := by
  intro j u hj
  match j, hj with
  | 0, hj => simp at hj; subst hj; simp [Addr.add]

theorem blk_type {w : World} {B e sz n g : Nat} {v : Value} {xs : List Value} {cs : Array Value} {t : TypeId} {p : Nat × Nat} (h : w.ownsRow B e sz v n xs) (hb : w.heap[g]? = some (.cells cs t p)) (hne : e ≠ t) : some g ≠ v.ownBlock := by
  intro h2
  rcases h.2 with ⟨rfl, -⟩ | ⟨g', cap, cur, rfl, -, hh, -⟩
  · cases h2
  · injection h2 with h2
    have h2 : g = g' := h2
    subst h2
    rw [hh] at hb
    injection hb with hb
    injection hb with _ he _
    exact hne he

end Go.Proofs.YtejfmjejdopglaaDoor

namespace Go.Proofs.YtejfmjejdopglaaDoor
open Go.RowKit

theorem rdN_right (ps : List ByteArray) (ls : List (Int × ByteArray)) : Right (fun q => rdN (readD ps ls q)) := fun p h => by
  have : rdN (readD ps ls p) = ((rdN (readD ps ls p)).1, true) := by rw [← h]
  exact rdN_ok this

theorem inC : InC := fun l hl x v w h => l06In_any l hl x v w h

theorem walk_any (ps : List ByteArray) (ls : List (Int × ByteArray)) (hp : ps.length ≤ 1048576) (hl : ls.length ≤ 1048576) (hps : ∀ s ∈ ps, s.size ≤ 1048576) (hls : ∀ p ∈ ls, p.2.size ≤ 1048576) (v1 v2 : Value) (ga : Nat) (hdk : ∀ k, diskBlocks (.agg #[v1, v2]) k → k < ga) :
    ∀ (k : Nat) (p : Int) (deep : Nat) (low high : ByteArray) (has : Bool) (a : Al) (vp vg vd : Value) (W : World), deep + k = 8 → DiskAt W (.agg #[v1, v2]) ps ls → AlIs W ga a vp vg vd → (a.pages.length + cntK k ≤ 100000 ∧ a.pairs.length + 4 * cntK k ≤ 400000 ∧ a.depths.length + cntK k ≤ 100000) →
      Calls Tryd.prog 64 #[.agg #[v1, v2], .int .i64 p, .int .i64 (deep : Int), .string low, .string high, .bool has, .pointer (some ⟨ga, 0, none⟩)] W fun e W' => (∃ r, e = .returned r) ∧ WkPost W ga (walkS (fun q => rdN (readD ps ls q)) k p deep low high has a) vp vg vd W'
  | 0, p, deep, low, high, has, a, vp, vg, vd, W, hk, hd, hA, hb => by
    rw [walkS]
    exact walk_stop inC ps ls hp hl hps hls v1 v2 p deep low high has a ga vp vg vd W hd hA (by omega) (Or.inr (Or.inl (by omega)))
  | k + 1, p, deep, low, high, has, a, vp, vg, vd, W, hk, hd, hA, hb => by
    rw [walkS]
    have hc : cntK (k + 1) = 1 + 4 * cntK k := rfl
    rw [hc] at hb
    by_cases hs : (rdN (readD ps ls p)).2 = false ∨ p ∈ a.pages ∨ a.bad = true
    · rw [if_pos hs]
      exact walk_stop inC ps ls hp hl hps hls v1 v2 p deep low high has a ga vp vg vd W hd hA (by omega) (by rcases hs with h | h | h; exact Or.inl h; exact Or.inr (Or.inr (Or.inl h)); exact Or.inr (Or.inr (Or.inr h)))
    · rw [if_neg hs]
      have h1 : (rdN (readD ps ls p)).2 = true := by cases h : (rdN (readD ps ls p)).2; exact absurd (Or.inl h) hs; rfl
      have h2 : ¬ p ∈ a.pages := fun h => hs (Or.inr (Or.inl h))
      have h3 : a.bad = false := by cases h : a.bad; rfl; exact absurd (Or.inr (Or.inr h)) hs
      cases hlf : (rdN (readD ps ls p)).1.lf with
      | true =>
        rw [if_pos rfl]
        exact walk_leaf inC ps ls hp hl hps hls v1 v2 p deep low high has a ga vp vg vd W hd hdk hA (by omega) h1 (by omega) h2 h3 hlf _
      | false =>
        rw [if_neg (by decide)]
        refine walk_kids inC ps ls hp hl hps hls v1 v2 p deep low high has a ga vp vg vd W hd hdk hA (by omega) h1 (by omega) h2 h3 hlf _ (cntK k) ?_ ?_
        · intro q lo hi h b xp xg xd X hdX hAX hbX
          have := walk_any ps ls hp hl hps hls v1 v2 ga hdk k q (deep + 1) lo hi h b xp xg xd X (by omega) hdX hAX hbX
          have e : ((deep + 1 : Nat) : Int) = (deep : Int) + 1 := by omega
          rw [e] at this
          exact this
        · intro i hi
          have hok := rdN_right ps ls p h1
          obtain ⟨-, c2, -, -⟩ := cnt_yes (node_yes hok).1
          have c4 : (rdN (readD ps ls p)).1.ks.length ≤ 4 := c2
          obtain ⟨l1, l2, l3⟩ := loopS_len (fun q => rdN (readD ps ls q)) (rdN_right ps ls) k (rdN (readD ps ls p)).1 hlf deep low high has { a with pages := a.pages ++ [p] } i
          have hm : (i + 1) * cntK k ≤ 4 * cntK k := Nat.mul_le_mul_right _ (by omega)
          rw [Nat.succ_mul] at hm
          simp only [List.length_append, List.length_singleton] at l1 l2 l3
          exact ⟨by omega, by omega, by omega⟩

theorem cntK8 : cntK 8 = 21845 := by decide

set_option maxHeartbeats 4000000 in
set_option maxRecDepth 100000 in
theorem look_any (ps : List ByteArray) (ls : List (Int × ByteArray)) (hp : ps.length ≤ 1048576) (hl : ls.length ≤ 1048576) (hps : ∀ s ∈ ps, s.size ≤ 1048576) (hls : ∀ p ∈ ls, p.2.size ≤ 1048576) (v : Value) (root : Int) (w : World) (hd : DiskAt w v ps ls) (hdk : ∀ k, diskBlocks v k → k < w.heap.size) :
    Calls Tryd.prog 39 #[v, .int .i64 root] w fun e w' => ∃ ga vp vg vd, e = .returned (.pointer (some ⟨ga, 0, none⟩)) ∧ w.heap.size ≤ ga ∧ AlIs w' ga (seenS (fun q => rdN (readD ps ls q)) root) vp vg vd ∧ Below w.heap.size w w' := by
  obtain ⟨v1, v2, rfl, -, -⟩ := id hd
  obtain ⟨w0, hw0⟩ : ∃ w0, w0 = (w.alloc (.cells #[v1, v2] 32 (0, 0))).alloc (.cells #[.slice none 0 0, .slice none 0 0, .slice none 0 0, .bool false, .bool false] 70 (0, 0)) := ⟨_, rfl⟩
  obtain ⟨t1, t2, t3⟩ := two_allocs w (.cells #[v1, v2] 32 (0, 0)) (.cells #[.slice none 0 0, .slice none 0 0, .slice none 0 0, .bool false, .bool false] 70 (0, 0))
  rw [← hw0] at t1 t2 t3
  have hb0 : Below w.heap.size w w0 := by rw [hw0]; exact ((Below.refl _ _).alloc (Nat.le_refl _) _).alloc (by simp) _
  obtain ⟨ga, hga⟩ : ∃ g, g = w.heap.size + 1 := ⟨_, rfl⟩
  rw [← hga] at t2
  have hA0 : AlIs w0 ga Al.none (.slice none 0 0) (.slice none 0 0) (.slice none 0 0) := ⟨t2, World.ownsRow_nil _ _ _ _, World.ownsRow_nil _ _ _ _, World.ownsRow_nil _ _ _ _, fun k e => by cases e⟩
  have HA0 := hide hA0
  have HB0 := hide hb0
  have HG := hide hga
  by_cases hz : root = 0
  · have HF : Hid (seenS (fun q => rdN (readD ps ls q)) root = Al.none) := hide (by rw [seenS, if_pos hz])
    subst hz
    clear hA0 hb0 t1 t2 t3 hd hdk hp hl hps hls
    go_enter Tryd.func39, Tryd.ntmps39
    go_wp2_with fail
    rw [← hw0]
    go_ret
    rw [← hga]
    exact ⟨ga, _, _, _, rfl, by have := HG.out; omega, by rw [HF.out]; exact HA0.out, HB0.out⟩
  · have HF : Hid (seenS (fun q => rdN (readD ps ls q)) root = walkS (fun q => rdN (readD ps ls q)) 8 root 0 ⟨#[]⟩ ⟨#[]⟩ false Al.none) := hide (by rw [seenS, if_neg hz])
    have HW := hide (walk_any ps ls hp hl hps hls v1 v2 ga (fun k hk => by have := hdk k hk; omega) 8 root 0 ⟨#[]⟩ ⟨#[]⟩ false Al.none _ _ _ w0 (by omega) (disk_below hd hb0) hA0 (by rw [cntK8]; decide))
    have hzb : (root != 0) = true := by simp [hz]
    have p0 := (cell_at t1 0).1
    have p1 := (cell_at t1 1).1
    clear hA0 hb0 t1 t2 t3 hd hdk hp hl hps hls hz
    go_enter Tryd.func39, Tryd.ntmps39
    go_wp2_with fail
    rw [← hw0, ← hga]
    clear hw0 hga
    refine HW.out.mono ?_
    rintro e w1 ⟨⟨r, rfl⟩, vp, vg, vd, hal, hkp, -⟩
    have HAl := hide hal
    have HB1 : Hid (Below w.heap.size w w1) := hide (HB0.out.trans (keptC_below hkp (fun k hk => by have := (al_lt HA0.out k hk).1; have := HG.out; omega) HB0.out.size))
    clear hal hkp
    go_wp2_with fail
    go_ret
    exact ⟨ga, vp, vg, vd, rfl, by have := HG.out; omega, by rw [HF.out]; exact HAl.out, HB1.out⟩

def allO (r : List (ByteArray × ByteArray) × Bool) (w w' : World) (e : Ending) : Prop := ∃ v, e = .returned (.tuple #[v, .bool r.2]) ∧ w'.ownsRow w.heap.size 80 2 v r.1.length (prs r.1) ∧ Below w.heap.size w w'

set_option maxHeartbeats 4000000 in
set_option maxRecDepth 100000 in
theorem specAllPairs_any (ps : List ByteArray) (ls : List (Int × ByteArray)) (hp : ps.length ≤ 1048576) (hl : ls.length ≤ 1048576) (hps : ∀ s ∈ ps, s.size ≤ 1048576) (hls : ∀ p ∈ ls, p.2.size ≤ 1048576) (v : Value) (root : Int) (w : World) (hd : DiskAt w v ps ls) (hdk : ∀ k, diskBlocks v k → k < w.heap.size) :
    Calls Tryd.prog 9 #[v, .int .i64 root] w fun e w' => allO (allS (fun q => rdN (readD ps ls q)) root) w w' e := by
  obtain ⟨v1, v2, rfl, -, -⟩ := id hd
  obtain ⟨w0, hw0⟩ : ∃ w0, w0 = w.alloc (.cells #[v1, v2] 32 (0, 0)) := ⟨_, rfl⟩
  have hb0 : Below w.heap.size w w0 := by rw [hw0]; exact (Below.refl _ _).alloc (Nat.le_refl _) _
  have HB0 := hide hb0
  have HL := hide (look_any ps ls hp hl hps hls (.agg #[v1, v2]) root w0 (disk_below hd hb0) (fun k hk => Nat.lt_of_lt_of_le (hdk k hk) hb0.size))
  obtain ⟨R, hR⟩ : ∃ R, R = (fun q => rdN (readD ps ls q)) := ⟨_, rfl⟩
  rw [← hR] at HL ⊢
  clear hp hl hps hls hd hdk hb0 hR
  go_enter Tryd.func9, Tryd.ntmps9
  go_wp2_with fail
  rw [← hw0]
  clear hw0
  refine HL.out.mono ?_
  rintro e w1 ⟨ga, vp, vg, vd, rfl, hga, hal, hb1⟩
  have HB1 : Hid (Below w.heap.size w w1) := hide (HB0.out.trans (hb1.mono HB0.out.size))
  have HAl := hide hal
  have HG : Hid (w.heap.size ≤ ga) := hide (Nat.le_trans HB0.out.size hga)
  have q0 := (cell_at hal.1 0).1
  have q3 := (cell_at hal.1 3).1
  have HAs : Hid (allS R root = if (seenS R root).bad = true then ([], false) else ((seenS R root).pairs, true)) := hide rfl
  obtain ⟨bad, hbad⟩ : ∃ b, b = (seenS R root).bad := ⟨_, rfl⟩
  rw [← hbad] at q3
  have HBd := hide hbad
  clear hal hb1 hga hbad
  cases bad with
  | true =>
    go_wp2_with fail
    go_ret2
    rw [HAs.out, if_pos HBd.out.symm]
    have hown : (w1.alloc (Obj.cells #[] 80)).ownsRow w.heap.size 80 2 (.slice (some ⟨w1.heap.size, 0, none⟩) 0 0) 0 [] := by simpa using World.ownsRow_lit (base := w.heap.size) (e := 80) (size := 2) w1 #[] 0 HB1.out.size (by unfold maxLen; omega) (by simp)
    exact ⟨_, rfl, hown, HB1.out.alloc HB1.out.size _⟩
  | false =>
    go_wp2_with fail
    go_ret2
    rw [HAs.out, if_neg (by rw [← HBd.out]; decide)]
    exact ⟨vp, rfl, own_down HAl.out.2.1 (by have := HG.out; omega), HB1.out⟩
end Go.Proofs.YtejfmjejdopglaaDoor

namespace Go.Proofs.YtejfmjejdopglaaDoor
open Go.RowKit Go.Shelf

attribute [local go_sem] Oper.semAt_some

theorem alloc_get (W : World) (o : Obj) (k : Nat) : (W.alloc o).heap[k]? = if k = W.heap.size then some o else W.heap[k]? := by
  by_cases h : k = W.heap.size
  · rw [if_pos h, h]; exact World.alloc_heap_new W o
  · rw [if_neg h]
    by_cases h2 : k < W.heap.size
    · exact Below.heap_alloc _ _ _ h2
    · have h3 : (W.alloc o).heap.size ≤ k := by rw [World.size_alloc]; omega
      rw [Array.getElem?_eq_none h3, Array.getElem?_eq_none (by omega)]

/-- the frame of a round's body -/
def apFrame (w : World) (ap al : Option Addr) (np nl cp cl : Nat) (root : Int) (gv : Nat) (x : Ev) : Act :=
  ⟨#[.agg #[.slice ap np cp, .slice al nl cl], .int .i64 root, .pointer (some ⟨w.heap.size, 0, none⟩), undef, .pointer (some ⟨w.heap.size + 1, 0, none⟩), .pointer (some ⟨w.heap.size + 1 + 1, 0, none⟩), .pointer (some ⟨w.heap.size + 1 + 1 + 1 + 1, 0, none⟩), .pointer (some ⟨gv, 0, none⟩), .bool x.ok, undef, undef, .slice (some ⟨w.heap.size + 1 + 1 + 1, 0, none⟩) 0 0, .agg #[.slice ap np cp, .slice al nl cl], .int .i64 root, .func (.func 66) #[] #[.pointer (some ⟨w.heap.size + 1 + 1 + 1 + 1 + 1 + 1, 0, none⟩), .pointer (some ⟨w.heap.size + 1 + 1 + 1 + 1 + 1, 0, none⟩)], x.val, .bool x.ok, undef, undef, undef, undef, undef, undef, undef, undef, undef, undef, undef, undef, undef, undef, undef, undef, undef, undef, undef, undef, undef, undef, undef, undef, undef], []⟩

/-- behind the assignment: the visit lies in its variable -/
def APAx (w : World) (ap al : Option Addr) (np nl cp cl : Nat) (root : Int) (x : Ev) (a : Act) (C : Nat → Prop) (W : World) : Prop :=
  ∃ gv cs, x.val = .agg cs ∧ C gv ∧ gv < W.heap.size ∧ W.heap[gv]? = some (.cells cs 78 (0, 0)) ∧ a = apFrame w ap al np nl cp cl root gv x

theorem apax_kept {w : World} {ap al : Option Addr} {np nl cp cl : Nat} {root : Int} (x : Ev) (a : Act) (C : Nat → Prop) (A B : World) (h : APAx w ap al np nl cp cl root x a C A) (hk : KeptC (fun k => ¬ C k) A B) : APAx w ap al np nl cp cl root x a C B := by
  obtain ⟨gv, cs, h1, h2, h3, h4, h5⟩ := h
  exact ⟨gv, cs, h1, h2, Nat.lt_of_lt_of_le h3 hk.2.2.2.1, (hk.2.2.2.2 gv h3 (fun hn => hn h2)).trans h4, h5⟩

theorem api_wide {w W : World} {pre : List Ev} {C : Nat → Prop} (h : API w pre C W) (o : Obj) : API w pre (fun k => C k ∨ k = W.heap.size) (W.alloc o) := by
  have h2 := api_kept pre C W (W.alloc o) h (keptC_alloc _ W o)
  obtain ⟨h1, vr, hc, hn, h3⟩ := h2
  have hs : w.heap.size ≤ W.heap.size := by
    obtain ⟨-, vr, -, -, h4⟩ := h
    have := (apc_lt h4 (w.heap.size + 1) (Or.inl rfl)).2
    omega
  refine ⟨h1, vr, fun k h => Or.inl (hc k h), fun k h => ?_, h3⟩
  rcases h with h | rfl
  · exact hn k h
  · exact ⟨hs, by simp⟩

theorem ap_stop {w W : World} {pre : List Ev} {x : Ev} {C : Nat → Prop} {v1 : Value} (hok : x.ok = false) (hc1 : C (w.heap.size + 1)) (hc2 : C (w.heap.size + 2)) (h1 : W.heap[w.heap.size + 1]? = some (.cells #[v1] 27 (0, 0))) (h2 : W.heap[w.heap.size + 2]? = some (.cells #[.bool false] 4 (0, 0))) :
    ∃ C', KeptC C W (((W.setCell ⟨w.heap.size + 1, 0, none⟩ (.slice (some ⟨W.heap.size, 0, none⟩) 0 0)).setCell ⟨w.heap.size + 1 + 1, 0, none⟩ (.bool false)).alloc (Obj.cells #[] 80)) ∧ (∀ k, C' k → C k ∨ W.heap.size ≤ k) ∧
      APX w .ret (pre ++ [x]) C' (((W.setCell ⟨w.heap.size + 1, 0, none⟩ (.slice (some ⟨W.heap.size, 0, none⟩) 0 0)).setCell ⟨w.heap.size + 1 + 1, 0, none⟩ (.bool false)).alloc (Obj.cells #[] 80)) := by
  have g1 : w.heap.size + 1 < W.heap.size := (Array.getElem?_eq_some_iff.1 h1).1
  have g2 : w.heap.size + 2 < W.heap.size := (Array.getElem?_eq_some_iff.1 h2).1
  obtain ⟨X, hX⟩ : ∃ X, X = (W.setCell ⟨w.heap.size + 1, 0, none⟩ (.slice (some ⟨W.heap.size, 0, none⟩) 0 0)).setCell ⟨w.heap.size + 1 + 1, 0, none⟩ (.bool false) := ⟨_, rfl⟩
  rw [← hX]
  have hs : X.heap.size = W.heap.size := by rw [hX]; simp
  have k1 : KeptC C W X := by
    rw [hX]
    exact keptC_trans (keptC_setCell W 0 _ hc1) (keptC_setCell (C := C) _ 0 _ hc2) (fun j h => Or.inl h)
  have e1 : X.heap[w.heap.size + 1]? = some (.cells #[.slice (some ⟨W.heap.size, 0, none⟩) 0 0] 27 (0, 0)) := by
    rw [hX]
    exact (Below.heap_setCell _ _ _ _ (by simp)).trans (heap_setCell_same _ _ 0 _ _ _ h1)
  have e2 : X.heap[w.heap.size + 2]? = some (.cells #[.bool false] 4 (0, 0)) := by
    rw [hX]
    exact heap_setCell_same _ _ 0 _ _ _ ((Below.heap_setCell _ _ _ _ (by simp)).trans h2)
  refine ⟨fun k => C k ∨ k = W.heap.size, keptC_trans k1 (keptC_alloc (fun _ => False) X _) (fun j h => h.elim), fun k h => by rcases h with h | h; exact Or.inl h; exact Or.inr (by omega), rfl, ⟨pre, x, rfl, hok⟩, _, ?_, ?_, ⟨rfl, Or.inr ⟨W.heap.size, 0, #[], rfl, by omega, ?_, Nat.le_refl _, Nat.zero_le _, rfl, rfl⟩⟩, ?_⟩
  · exact (Below.heap_alloc X _ _ (by omega)).trans e1
  · exact (Below.heap_alloc X _ _ (by omega)).trans e2
  · have := heap_alloc_new X (Obj.cells #[] 80)
    rw [hs] at this
    exact this
  · rintro k (rfl | rfl | e)
    · exact Or.inl hc1
    · exact Or.inl hc2
    · injection e with e
      exact Or.inr (by have e : W.heap.size = k := e; omega)

/-- no operation of the region defers -/
def noDefer (ops : Array Oper) : Bool := ops.toList.all fun o => match o.op with | .defer _ => false | _ => true

theorem noDefer_spec {ops : Array Oper} (h : noDefer ops = true) : ∀ (i : Nat) (o : Oper), ops[i]? = some o → ∀ c, o.op ≠ .defer c := fun i o ho c e => by
  have hm : o ∈ ops.toList := by
    rw [← Array.getElem?_toList] at ho
    exact List.mem_of_getElem? ho
  have := List.all_eq_true.1 h o hm
  rw [e] at this
  cases this

/-- between two values of a page -/
def APL (w W : World) (C : Nat → Prop) (gv : Nat) (cs : Array Value) (L : List (ByteArray × ByteArray)) (wr : World) : Prop :=
  KeptC C W wr ∧ wr.heap[gv]? = some (.cells cs 78 (0, 0)) ∧ ∃ (C1 : Nat → Prop) (vr : Value), (∀ k, C1 k → C k ∨ W.heap.size ≤ k) ∧ (∀ k, APC w vr k → C1 k) ∧ (∀ k, C1 k → w.heap.size ≤ k ∧ k < wr.heap.size) ∧ APs w wr vr L

/-- a pair goes behind the others -/
theorem ap_push {w W wd wB : World} {C : Nat → Prop} {gv b d lr : Nat} {cs : Array Value} {L : List (ByteArray × ByteArray)} {vr : Value} {xk y : ByteArray} {o : Obj} {C1 : Nat → Prop} {v1 : Value} (hlr : lr = L.length) (hk : KeptC C W wd) (hgv : wd.heap[gv]? = some (.cells cs 78 (0, 0))) (hsub : ∀ k, C1 k → C k ∨ W.heap.size ≤ k) (hap : ∀ k, APC w vr k → C1 k) (hbd : ∀ k, C1 k → w.heap.size ≤ k ∧ k < wd.heap.size)
    (h1 : wd.heap[w.heap.size + 1]? = some (.cells #[v1] 27 (0, 0))) (h2 : wd.heap[w.heap.size + 2]? = some (.cells #[.bool false] 4 (0, 0))) (h4 : wd.heap[w.heap.size + 4]? = some (.cells #[vr] 27 (0, 0))) (h5 : wd.ownsRow w.heap.size 80 2 vr L.length (prs L))
    (hgB : (wd.alloc o).grownBy wB vr.ownBlock) (hownB : wB.ownsRow w.heap.size 80 2 (.slice (some ⟨b, 0, none⟩) (lr + 1) d) (lr + 1) (prs L ++ [.string xk, .string y])) (hbB : vr.ownBlock = some b ∨ b = wd.heap.size + 1) :
    (KeptC C W wB ∧ wB.heap[gv]? = some (.cells cs 78 (0, 0)) ∧ wB.heap[w.heap.size + 4]? = some (.cells #[vr] 27 (0, 0))) ∧
    APL w W C gv cs (L ++ [(xk, y)]) (wB.setCell ⟨w.heap.size + 4, 0, none⟩ (.slice (some ⟨b, 0, none⟩) (lr + 1) d)) := by
  have hb1 : Below wd.heap.size wd (wd.alloc o) := (Below.refl _ _).alloc (Nat.le_refl _) _
  have K1 : KeptC (fun k => vr.ownBlock = some k) wd wB := ⟨hgB.os.trans hb1.os, hgB.tape.trans hb1.tape, hgB.output.trans hb1.output, Nat.le_trans hb1.size hgB.size, fun j hj hn => (hgB.block j (Nat.lt_of_lt_of_le hj hb1.size) (fun e => hn e.symm)).trans (hb1.block j hj)⟩
  have far : ∀ {g : Nat} {cc : Array Value} {T : Nat}, wd.heap[g]? = some (.cells cc T (0, 0)) → (80 : Nat) ≠ T → wB.heap[g]? = some (.cells cc T (0, 0)) := fun {g cc T} h hne => (K1.2.2.2.2 g (Array.getElem?_eq_some_iff.1 h).1 (fun e => hne (typ_one (own_typ h5 e) ⟨_, _, h⟩))).trans h
  have e1 := far h1 (by decide)
  have e2 := far h2 (by decide)
  have e4 := far h4 (by decide)
  have eg := far hgv (by decide)
  have k1 : KeptC C W wB := keptC_trans hk K1 (fun j e => hsub j (hap j (Or.inr (Or.inr (Or.inr e)))))
  have hne : gv ≠ w.heap.size + 4 := fun e => by
    rw [e, h4] at hgv
    injection hgv with hgv
    injection hgv with _ ht _
    exact absurd ht (by decide)
  refine ⟨⟨k1, eg, e4⟩, ?_⟩
  obtain ⟨X, hX⟩ : ∃ X, X = wB.setCell ⟨w.heap.size + 4, 0, none⟩ (.slice (some ⟨b, 0, none⟩) (lr + 1) d) := ⟨_, rfl⟩
  rw [← hX]
  have k2 : KeptC (fun k => k = w.heap.size + 4) wB X := by rw [hX]; exact keptC_setCell (C := fun k => k = w.heap.size + 4) wB 0 _ rfl
  have hs : X.heap.size = wB.heap.size := by rw [hX]; simp
  have f4 : X.heap[w.heap.size + 4]? = some (.cells #[.slice (some ⟨b, 0, none⟩) (lr + 1) d] 27 (0, 0)) := by rw [hX]; exact heap_setCell_same _ _ 0 _ _ _ e4
  have fx : ∀ {g : Nat} {ob : Obj}, wB.heap[g]? = some ob → g ≠ w.heap.size + 4 → X.heap[g]? = some ob := fun h hn => (k2.2.2.2.2 _ (Array.getElem?_eq_some_iff.1 h).1 hn).trans h
  have hbl := hownB.lt b rfl
  refine ⟨keptC_trans k1 k2 (fun j e => by rw [e]; exact hsub _ (hap _ (Or.inr (Or.inr (Or.inl rfl))))), fx eg hne, fun k => C1 k ∨ k = b, .slice (some ⟨b, 0, none⟩) (lr + 1) d, fun k h => ?_, fun k h => ?_, fun k h => ?_, ⟨v1, fx e1 (by omega)⟩, fx e2 (by omega), f4, ?_⟩
  · rcases h with h | rfl
    · exact hsub k h
    · rcases hbB with hbB | hbB
      · exact hsub k (hap k (Or.inr (Or.inr (Or.inr hbB))))
      · exact Or.inr (by have := hk.2.2.2.1; omega)
  · rcases h with h | h | h | h
    · exact Or.inl (hap k (Or.inl h))
    · exact Or.inl (hap k (Or.inr (Or.inl h)))
    · exact Or.inl (hap k (Or.inr (Or.inr (Or.inl h))))
    · injection h with h
      exact Or.inr (by have h : b = k := h; omega)
  · rcases h with h | rfl
    · have := hbd k h
      have h3 := K1.2.2.2.1
      exact ⟨this.1, by omega⟩
    · exact ⟨hbl.1, by omega⟩
  · have hl : (L ++ [(xk, y)]).length = lr + 1 := by rw [hlr]; simp
    have hp : prs (L ++ [(xk, y)]) = prs L ++ [.string xk, .string y] := by simp [prs]
    rw [hl, hp]
    refine own_kept hownB k2 (fun j e h => ?_)
    exact absurd (typ_one (own_typ hownB e) (by rw [h]; exact ⟨_, _, e4⟩)) (by decide)

set_option maxHeartbeats 4000000 in
set_option maxRecDepth 100000 in
theorem implAllPairs_any (ps : List ByteArray) (ls : List (Int × ByteArray)) (hp : ps.length ≤ 1048576) (hl : ls.length ≤ 1048576) (hps : ∀ s ∈ ps, s.size ≤ 1048576) (hls : ∀ p ∈ ls, p.2.size ≤ 1048576) (ap al : Option Addr) (np nl cp cl : Nat) (root : Int) (w : World) (hT : SumTab w) (hd : DiskAt w (.agg #[.slice ap np cp, .slice al nl cl]) ps ls) :
    Calls Tryd.prog 11 #[.agg #[.slice ap np cp, .slice al nl cl], .int .i64 root] w fun e w' => allO (allI (fun q => rdN (readD ps ls q)) root) w w' e := by
  have hmf : ∀ (fn : Fn) (first cap : Array Value) (w : World), (Instr.makeFunc fn first cap).run Tryd.prog w = .ok (.func fn first cap) w := fun _ _ _ _ => rfl
  obtain ⟨Wc, hWc⟩ : ∃ Wc, Wc = ((((((w.alloc (.cells #[.slice ap np cp, .slice al nl cl] 32 (0, 0))).alloc (.cells #[.slice none 0 0] 27 (0, 0))).alloc (.cells #[.bool false] 4 (0, 0))).alloc (.cells #[] 80 (0, 0))).alloc (.cells #[.slice (some ⟨w.heap.size + 1 + 1 + 1, 0, none⟩) 0 0] 27 (0, 0))).alloc (.cells #[.slice ap np cp, .slice al nl cl] 32 (0, 0))).alloc (.cells #[.int .i64 root] 3 (0, 0)) := ⟨_, rfl⟩
  have hlow : Below w.heap.size w Wc := by
    rw [hWc]
    refine Below.alloc (Below.alloc (Below.alloc (Below.alloc (Below.alloc (Below.alloc (Below.alloc (Below.refl _ _) ?_ _) ?_ _) ?_ _) ?_ _) ?_ _) ?_ _) ?_ _ <;> simp <;> omega
  have b1 : Wc.heap[w.heap.size + 1]? = some (.cells #[.slice none 0 0] 27 (0, 0)) := by rw [hWc]; simp only [alloc_get, World.size_alloc]; simp
  have b2 : Wc.heap[w.heap.size + 2]? = some (.cells #[.bool false] 4 (0, 0)) := by rw [hWc]; simp only [alloc_get, World.size_alloc]; simp
  have b3 : Wc.heap[w.heap.size + 3]? = some (.cells #[] 80 (0, 0)) := by rw [hWc]; simp only [alloc_get, World.size_alloc]; simp
  have b4 : Wc.heap[w.heap.size + 4]? = some (.cells #[.slice (some ⟨w.heap.size + 3, 0, none⟩) 0 0] 27 (0, 0)) := by rw [hWc]; simp only [alloc_get, World.size_alloc]; simp
  have b5 : Wc.heap[w.heap.size + 5]? = some (.cells #[.slice ap np cp, .slice al nl cl] 32 (0, 0)) := by rw [hWc]; simp only [alloc_get, World.size_alloc]; simp
  have b6 : Wc.heap[w.heap.size + 6]? = some (.cells #[.int .i64 root] 3 (0, 0)) := by rw [hWc]; simp only [alloc_get, World.size_alloc]; simp
  have hsz : Wc.heap.size = w.heap.size + 7 := by rw [hWc]; simp
  have hseq := fun n => nodesOf_seq n root (w.heap.size + 6) (w.heap.size + 5) hp hl hps hls hT hd hlow b6 b5
  have hP0 : APs w Wc (.slice (some ⟨w.heap.size + 3, 0, none⟩) 0 0) [] := ⟨⟨_, b1⟩, b2, b4, ⟨rfl, Or.inr ⟨w.heap.size + 3, 0, #[], rfl, by omega, b3, Nat.le_refl _, Nat.zero_le _, rfl, rfl⟩⟩⟩
  have hI0 : API w [] (APC w (.slice (some ⟨w.heap.size + 3, 0, none⟩) 0 0)) Wc := ⟨fun x h => (by cases h), _, fun _ h => h, apc_lt hP0, hP0⟩
  refine (callsIn_wide (n := 3)).1 ?_
  refine callsIn_of_wp_marks Tryd.func11 rfl trivial ?_ rfl
  simp only [Tryd.ntmps11, List.size_toArray, List.length_cons, List.length_nil, Nat.reduceAdd, Nat.reduceSub, Array.replicate_succ, Array.replicate_zero, List.push_toArray, List.append_toArray, List.nil_append, List.cons_append]
  gi_wp2_with (refine ⟨trivial, ?_⟩; gi_at_call 42; refine (callsIn_wide.2 (nodesOf_any (.slice ap np cp) (.slice al nl cl) root _)).mono ?_; rintro e w1 ⟨rfl, rfl⟩)
  rw [← hWc]
  refine wpIn_rangeFunc_sep2 rfl rfl (gf := 66) (lb := #[.pointer (some ⟨w.heap.size + 6, 0, none⟩), .pointer (some ⟨w.heap.size + 5, 0, none⟩)]) rfl trivial (enters_of Tryd.func66 (by kernel_rfl) rfl) (hseq _) hlow.size (fun k h => by rcases h with h | h <;> omega) (fun x C C' A B h1 h2 h3 => lies_kept h1 h2 h3) (fun _ => rfl) (API w) (APX w) api_kept apx_kept api_lt (APC w (.slice (some ⟨w.heap.size + 3, 0, none⟩) 0 0)) hI0 (fun k h e => ?apart) (APAx w ap al np nl cp cl root) apax_kept ?assign ?body ?done ?stop
  case apart =>
    rcases h with h | h | h | h
    · omega
    · omega
    · omega
    · injection h with h
      have h : w.heap.size + 3 = k := h
      omega
  case done =>
    rintro D xs C W hD hnD0 hS ⟨hok, vr, hsub, hin, ⟨v1, h1⟩, h2, h4, h5⟩ hlowW hdef
    have hnD : ¬ APC w vr D := fun h => hnD0 (hsub D h)
    clear hnD0 hsub hin
    have HA := hide (all_done _ root hok hS).1
    obtain ⟨xr, yr, rfl⟩ := own_slice h5
    obtain ⟨lr, hlr⟩ : ∃ lr, lr = (pairsV (xs.map Ev.vis)).length := ⟨_, rfl⟩
    have HLr := hide hlr
    rw [← hlr] at h4 h5 hnD
    have c4 : W.cell? ⟨w.heap.size + 1 + 1 + 1 + 1, 0, none⟩ = some (.slice xr lr yr) := (cell_at h4 0).1
    have c1 : W.cell? ⟨w.heap.size + 1, 0, none⟩ = some v1 := (cell_at h1 0).1
    have c2 : W.cell? ⟨w.heap.size + 1 + 1, 0, none⟩ = some (.bool false) := (cell_at h2 0).1
    have f1 : W.frozen? ⟨w.heap.size + 1, 0, none⟩ = false := (cell_at h1 0).2
    have f2 : W.frozen? ⟨w.heap.size + 1 + 1, 0, none⟩ = false := (cell_at h2 0).2
    have H1 := hide h1
    have H2 := hide h2
    have H5 := hide h5
    have HLo := hide (hlow.trans hlowW)
    have HDe := hide hdef
    clear h1 h2 h4 h5 hlowW hdef hlr b1 b2 b3 b4 b5 b6 hseq hI0 hP0 hS hok hp hl hps hls hT hd hlow
    gi_wp2_with fail
    obtain ⟨W3, hW3⟩ : ∃ W3, W3 = (W.setCell ⟨w.heap.size + 1, 0, none⟩ (.slice xr lr yr)).setCell ⟨w.heap.size + 1 + 1, 0, none⟩ (.bool true) := ⟨_, rfl⟩
    rw [← hW3]
    have hn1 : D ≠ w.heap.size + 1 := fun e => hnD (Or.inl e)
    have hn2 : D ≠ w.heap.size + 1 + 1 := fun e => hnD (Or.inr (Or.inl e))
    have k3 : KeptC (fun k => k = w.heap.size + 1 ∨ k = w.heap.size + 1 + 1) W W3 := by
      rw [hW3]
      exact keptC_trans (keptC_setCell W 0 _ (Or.inl rfl)) (keptC_setCell (C := fun k => k = w.heap.size + 1 ∨ k = w.heap.size + 1 + 1) _ 0 _ (Or.inr rfl)) (fun j h => Or.inl h)
    have hD3 : W3.heap[D]? = some (.deferred (some [])) := (k3.2.2.2.2 D (Array.getElem?_eq_some_iff.1 HDe.out).1 (fun e => by rcases e with e | e; exact hn1 e; exact hn2 e)).trans HDe.out
    have g1 : W3.heap[w.heap.size + 1]? = some (.cells #[.slice xr lr yr] 27 (0, 0)) := by
      rw [hW3]
      exact (Below.heap_setCell _ _ _ _ (by simp)).trans (heap_setCell_same _ _ 0 _ _ _ H1.out)
    have g2 : W3.heap[w.heap.size + 1 + 1]? = some (.cells #[.bool true] 4 (0, 0)) := by
      rw [hW3]
      exact heap_setCell_same _ _ 0 _ _ _ ((Below.heap_setCell _ _ _ _ (by simp)).trans H2.out)
    refine ⟨by simp, .inl ⟨_, _, rfl, run_takeDeferred hD3, ?_⟩⟩
    obtain ⟨W4, hW4⟩ : ∃ W4, W4 = W3.putObj D (.deferred none) := ⟨_, rfl⟩
    rw [← hW4]
    have k4 : KeptC (fun k => k = D) W3 W4 := by rw [hW4]; exact keptC_putObj W3 _ rfl
    have e1 := (cell_at ((k4.2.2.2.2 _ (Array.getElem?_eq_some_iff.1 g1).1 (fun e => hn1 e.symm)).trans g1) 0).1
    have e2 := (cell_at ((k4.2.2.2.2 _ (Array.getElem?_eq_some_iff.1 g2).1 (fun e => hn2 e.symm)).trans g2) 0).1
    refine ⟨.tuple #[.slice xr lr yr, .bool true], ?_, ?_⟩
    · simp [results, e1, e2, go_sem]
    · rw [HA.out]
      refine ⟨_, rfl, ?_, ?_⟩
      · have := own_kept (own_kept H5.out k3 (fun j e hx => ?_)) k4 (fun j e hx => hnD (by rw [← hx]; exact Or.inr (Or.inr (Or.inr e))))
        · rw [HLr.out] at this ⊢
          exact this
        · rcases hx with hx | hx
          · subst hx; exact absurd (typ_one (own_typ H5.out e) ⟨_, _, H1.out⟩) (by decide)
          · subst hx; exact absurd (typ_one (own_typ H5.out e) ⟨_, _, H2.out⟩) (by decide)
      · have z1 : w.heap.size ≤ W.heap.size := HLo.out.size
        exact (HLo.out.trans (keptC_below k3 (fun k h => by rcases h with h | h <;> omega) z1)).trans (keptC_below k4 (fun k h => by rw [h]; omega) (Nat.le_trans z1 k3.2.2.2.1))
  case stop =>
    rintro D c pre C W hD hnD ⟨t, ht⟩ ⟨rfl, ⟨pr, x, rfl, hx⟩, v, h1, h2, h5, hC⟩ hlowW hdef
    have HA := hide (all_stop _ root hx ht).1
    obtain ⟨xr, yr, rfl⟩ := own_slice h5
    have hn1 : D ≠ w.heap.size + 1 := fun e => hnD (hC D (Or.inl e))
    have hn2 : D ≠ w.heap.size + 1 + 1 := fun e => hnD (hC D (Or.inr (Or.inl e)))
    have hn5 : ∀ j, (Value.slice xr 0 yr).ownBlock = some j → j ≠ D := fun j e h => hnD (by rw [← h]; exact hC j (Or.inr (Or.inr e)))
    have H1 := hide h1
    have H2 := hide h2
    have H5 := hide h5
    have HLo := hide (hlow.trans hlowW)
    have HDe := hide hdef
    clear h1 h2 h5 hlowW hdef b1 b2 b3 b4 b5 b6 hseq hI0 hP0 ht hx hC hp hl hps hls hT hd hlow
    gi_wp2_with fail
    refine ⟨by simp, .inl ⟨_, _, rfl, run_takeDeferred HDe.out, ?_⟩⟩
    obtain ⟨W4, hW4⟩ : ∃ W4, W4 = W.putObj D (.deferred none) := ⟨_, rfl⟩
    rw [← hW4]
    have k4 : KeptC (fun k => k = D) W W4 := by rw [hW4]; exact keptC_putObj W _ rfl
    have e1 := (cell_at ((k4.2.2.2.2 _ (Array.getElem?_eq_some_iff.1 H1.out).1 (fun e => hn1 e.symm)).trans H1.out) 0).1
    have e2 : W4.cell? ⟨w.heap.size + 1 + 1, 0, none⟩ = _ := (cell_at ((k4.2.2.2.2 _ (Array.getElem?_eq_some_iff.1 H2.out).1 (fun e => hn2 e.symm)).trans H2.out) 0).1
    refine ⟨.tuple #[.slice xr 0 yr, .bool false], ?_, ?_⟩
    · simp [results, e1, e2, go_sem]
    · rw [HA.out]
      exact ⟨_, rfl, own_kept H5.out k4 (fun j e h => hn5 j e h), HLo.out.trans (keptC_below k4 (fun k h => by rw [h]; have := hsz; omega) HLo.out.size)⟩
  case assign =>
    intro l m pre x C W K hI hLi hK
    have hw2 := fun o => api_wide hI o
    have HI2 := hide hw2
    have HK := hide hK
    have HLt : Hid (∀ o, KeptC C W (W.alloc o)) := hide (fun o => keptC_alloc C W o)
    clear b1 b2 b3 b4 b5 b6 hseq hI0 hP0 hw2 hK hI hp hl hps hls hT hd hlow hsz hWc
    simp only [encs]
    cases hok : x.ok with
    | false =>
      have hv := hLi.1 hok
      clear hLi
      have HV := hide hv
      have HOk := hide hok
      rw [hv, badVal]
      clear hv hok
      gi_wp2_with fail
      refine HK.out _ (fun k => C k ∨ k = W.heap.size) _ (HLt.out _) (fun k h => by rcases h with h | h; exact Or.inl h; exact Or.inr (by omega)) (HI2.out _) ⟨W.heap.size, _, by rw [HV.out, badVal], Or.inr rfl, by simp, heap_alloc_new W _, ?_⟩
      rw [apFrame, HV.out, HOk.out, badVal]
    | true =>
      obtain ⟨vk, vv, vc, vw, hv, hno, -, hwy⟩ := hLi.2 hok
      obtain ⟨a1, c1, a2, c2, a3, c3, e⟩ := nodeOwn_cells hno
      obtain ⟨-, rfl, rfl, rfl⟩ := agg4 e
      obtain ⟨a4, c4, rfl⟩ : ∃ a4 c4, vw = .slice a4 x.vis.way.length c4 := by obtain ⟨X, -, h, -⟩ := hwy; exact own_slice h
      clear hLi hno hwy e
      have HV := hide hv
      have HOk := hide hok
      rw [hv]
      clear hv hok
      gi_wp2_with fail
      refine HK.out _ (fun k => C k ∨ k = W.heap.size) _ (HLt.out _) (fun k h => by rcases h with h | h; exact Or.inl h; exact Or.inr (by omega)) (HI2.out _) ⟨W.heap.size, _, HV.out, Or.inr rfl, by simp, heap_alloc_new W _, ?_⟩
      rw [apFrame, HV.out, HOk.out]
  case body =>
    intro l m pre x a' C W hSp hI hAx hLi
    obtain ⟨gv, cs, hv, hCg, hgl, hgv, rfl⟩ := hAx
    obtain ⟨hpre, vr, hc, hn, ⟨v1, h1⟩, h2, h4, h5⟩ := hI
    clear b1 b2 b3 b4 b5 b6 hseq hI0 hP0 hlow hsz hWc
    cases hok : x.ok with
    | false =>
      have hvb := hLi.1 hok
      have q1 : W.cell? ⟨w.heap.size + 1, 0, none⟩ = some v1 := (cell_at h1 0).1
      have q2 : W.cell? ⟨w.heap.size + 1 + 1, 0, none⟩ = some (.bool false) := (cell_at h2 0).1
      have z1 : W.frozen? ⟨w.heap.size + 1, 0, none⟩ = false := (cell_at h1 0).2
      have z2 : W.frozen? ⟨w.heap.size + 1 + 1, 0, none⟩ = false := (cell_at h2 0).2
      have g1 : w.heap.size + 1 < W.heap.size := (Array.getElem?_eq_some_iff.1 h1).1
      have g2 : w.heap.size + 2 < W.heap.size := (Array.getElem?_eq_some_iff.1 h2).1
      have HS := hide (⟨hpre, hc, hn, h1, h2, hSp, hok, hvb⟩ : _ ∧ _ ∧ _ ∧ _ ∧ _ ∧ _ ∧ _ ∧ _)
      rw [apFrame, hok]
      clear hpre hc hn h1 h2 h4 h5 hSp hLi hvb hv hgv hgl hCg hp hl hps hls hT hd hok
      gi_wp2_with fail
      obtain ⟨-, hc, -, h1, h2, -, hok, -⟩ := HS.out
      exact ap_stop hok (hc _ (Or.inl rfl)) (hc _ (Or.inr (Or.inl rfl))) h1 h2
    | true =>
      obtain ⟨vk, vv, vc, vw, hv2, hno, hnc, -⟩ := hLi.2 hok
      obtain ⟨a1, c1, a2, c2, a3, c3, e⟩ := nodeOwn_cells hno
      obtain ⟨-, rfl, rfl, rfl⟩ := agg4 e
      obtain ⟨t, ht⟩ := hSp
      have hR := comes_vis _ root hok ht
      have hnok : x.vis.nd.ok = true := by have := rdN_right2 ps ls x.vis.page (by show (rdN (readD ps ls x.vis.page)).2 = true; rw [hR]); have h2 : (rdN (readD ps ls x.vis.page)).1 = x.vis.nd := by rw [hR]
                                           rw [← h2]; exact this
      obtain ⟨hvk, hv4, -⟩ := ok_cnt hnok
      rw [hv] at hv2
      injection hv2 with hv2
      subst hv2
      have hcnt := comes_cnt _ (fun p hp => (ok_cnt (rdN_right2 ps ls p hp)).2.2) root ht
      have hpl : (pairsV (pre.map Ev.vis)).length ≤ 88004 := by
        have h1 : (pairsV (pre.map Ev.vis)).length ≤ 4 * (pre.map Ev.vis).length := pairsV_len (fun v hv => by
          obtain ⟨y, hy, rfl⟩ := List.mem_map.1 hv
          obtain ⟨u1, u2, hu⟩ := List.append_of_mem hy
          have hoy := hpre y hy
          have hRy := comes_vis _ root hoy (pre := u1) (x := y) (t := (u2 ++ [x]).map Ev.plain ++ t) (by rw [← ht, hu]; simp)
          have h2 : (rdN (readD ps ls y.vis.page)).1 = y.vis.nd := by rw [hRy]
          have := rdN_right2 ps ls y.vis.page (by show (rdN (readD ps ls y.vis.page)).2 = true; rw [hRy])
          rw [← h2]
          exact (ok_cnt this).2.1)
        rw [List.length_map] at h1
        rw [List.length_append] at hcnt
        simp at hcnt
        omega
      obtain ⟨L0, hL0⟩ : ∃ L0, L0 = pairsV (pre.map Ev.vis) := ⟨_, rfl⟩
      have HEnd : Hid (pairsV ((pre ++ [x]).map Ev.vis) = L0 ++ pairsN x.vis.nd) := hide (by rw [hL0, List.map_append]; exact pairsV_snoc _ _)
      have HPre : Hid (∀ y ∈ pre ++ [x], y.ok = true) := hide (fun y hy => by rcases List.mem_append.1 hy with h | h; exact hpre y h; rw [List.mem_singleton.1 h]; exact hok)
      rw [← hL0] at hpl
      obtain ⟨nd, hnd⟩ : ∃ nd, nd = x.vis.nd := ⟨_, rfl⟩
      rw [← hnd] at HEnd hno hnc hvk hv4 hgv
      obtain ⟨lk, hlk⟩ : ∃ n, n = nd.ks.length := ⟨_, rfl⟩
      obtain ⟨lv, hlv⟩ : ∃ n, n = nd.vs.length := ⟨_, rfl⟩
      obtain ⟨lc, hlc⟩ : ∃ n, n = nd.cs.length := ⟨_, rfl⟩
      rw [← hlk, ← hlv, ← hlc] at hno hnc hgv
      rw [← hlk, ← hlv] at hvk
      rw [← hlv] at hv4
      have HLn := hide (⟨hlk, hlv, hlc⟩ : _ ∧ _ ∧ _)
      have HNo := hide hno
      have HNc := hide hnc
      have hPL : APL w W C gv #[.int .i64 x.vis.page, .bool nd.lf, .slice a1 lk c1, .slice a2 lv c2, .slice a3 lc c3, vw] L0 W := ⟨keptC_refl _ _, hgv, C, vr, fun _ h => Or.inl h, hc, hn, by rw [hL0]; exact ⟨⟨v1, h1⟩, h2, h4, h5⟩⟩
      have HPL := hide hPL
      have q3 : W.cell? ⟨gv, 3, none⟩ = some (.slice a2 lv c2) := (cell_at hgv 3).1
      rw [apFrame, hok]
      clear hno hnc hgv hPL hv hCg hgl hpre hc hn h1 h2 h4 h5 hLi ht hR hnok hcnt e hlk hlv hlc hL0 hnd hok hp hl hps hls hT hd
      gi_wp2_with fail
      clear q3
      gi_loopg [24] lv (fun q iv wr => ∃ i : Nat, i ≤ lv ∧ q + i = lv ∧ iv = .int .i64 (i : Int) ∧ Hid (APL w W C gv #[.int .i64 x.vis.page, .bool nd.lf, .slice a1 lk c1, .slice a2 lv c2, .slice a3 lc c3, vw] (L0 ++ (pairsN nd).take i) wr))
      case atStart => exact ⟨0, Nat.zero_le _, by omega, rfl, hide (by rw [List.take_zero, List.append_nil]; exact HPL.out)⟩
      case round =>
        obtain ⟨i, hi, hq, rfl, HP⟩ := hrel
        have HQi := hide hq
        clear hq
        by_cases hlt : i < lv
        · obtain ⟨o1, o2, -⟩ := node_rowsW HNo.out
          obtain ⟨g1, rfl⟩ : ∃ g, a1 = some ⟨g, 0, none⟩ := by
            obtain ⟨g, e, -⟩ := row_getS (i := 0) (by rw [← HLn.out.1] at o1; exact o1) (by rw [← HLn.out.1]; omega) HLn.out.1
            exact ⟨g, e⟩
          obtain ⟨g2, rfl⟩ : ∃ g, a2 = some ⟨g, 0, none⟩ := by
            obtain ⟨g, e, -⟩ := row_getS (i := 0) (by rw [← HLn.out.2.1] at o2; exact o2) (by rw [← HLn.out.2.1]; omega) HLn.out.2.1
            exact ⟨g, e⟩
          obtain ⟨xk, hxk⟩ : ∃ y, y = nd.ks.getD i ⟨#[]⟩ := ⟨_, rfl⟩
          obtain ⟨y, hy⟩ : ∃ y, y = nd.vs.getD i ⟨#[]⟩ := ⟨_, rfl⟩
          have hcell : ∀ wx, KeptC C W wx → wx.cell? ⟨g1, i, none⟩ = some (.string xk) ∧ wx.cell? ⟨g2, i, none⟩ = some (.string y) := fun wx hk => by
            have h := nodeOwn_kept HNo.out hk HNc.out
            exact ⟨by rw [hxk]; exact node_keyW h HLn.out.1 (by omega), by rw [hy]; exact node_valW h HLn.out.2.1 hlt⟩
          have HCe := hide hcell
          have HStep : Hid ((pairsN nd).take i ++ [(xk, y)] = (pairsN nd).take (i + 1)) := hide (by rw [hxk, hy]; exact pairs_step nd i (by rw [← HLn.out.2.1]; exact hlt))
          have hcy := (hcell wr HP.out.1).2
          have hi0 : (0 : Int) ≤ (i : Int) := by omega
          have hi1 : (i : Int) < (lv : Int) := by omega
          have hi2 : (i : Int) < (lk : Int) := by omega
          clear o1 o2 hxk hy hcell
          gi_wp2_with fail
          clear hcy
          obtain ⟨wd, hwd⟩ : ∃ wd, wd = wr.drew := ⟨_, rfl⟩
          have hbd0 : Below wr.heap.size wr wd := by rw [hwd]; exact (Below.refl _ _).drew
          obtain ⟨hk, hgv, C1, vr, hsub, hap, hbd, ⟨v1, h1⟩, h2, h4, h5⟩ := HP.out
          replace hk : KeptC C W wd := keptC_trans hk (keptC_of_below (C := fun _ => False) hbd0) (fun _ h => h.elim)
          replace hgv := stays hgv hbd0
          replace h1 := stays h1 hbd0
          replace h2 := stays h2 hbd0
          replace h4 := stays h4 hbd0
          replace h5 := own_stays h5 hbd0
          replace hbd : ∀ k, C1 k → w.heap.size ≤ k ∧ k < wd.heap.size := fun k h => ⟨(hbd k h).1, Nat.lt_of_lt_of_le (hbd k h).2 hbd0.size⟩
          obtain ⟨xr, yr, rfl⟩ := own_slice h5
          obtain ⟨lr, hlr⟩ : ∃ lr, lr = (L0 ++ (pairsN nd).take i).length := ⟨_, rfl⟩
          have hlrb : lr ≤ 100000 := by rw [hlr, List.length_append, List.length_take]; omega
          rw [← hlr] at h4 hap
          have h5' : wd.ownsRow w.heap.size 80 2 (.slice xr lr yr) (L0 ++ (pairsN nd).take i).length (prs (L0 ++ (pairsN nd).take i)) := by rw [← hlr] at h5 ⊢; exact h5
          have HAll := hide (⟨hlr, hk, hgv, hsub, hap, hbd, h1, h2, h4, h5'⟩ : _ ∧ _ ∧ _ ∧ _ ∧ _ ∧ _ ∧ _ ∧ _ ∧ _ ∧ _)
          have HSw : Hid (∀ wx, KeptC C W wx → wx.heap[gv]? = some (.cells #[.int .i64 x.vis.page, .bool nd.lf, .slice (some ⟨g1, 0, none⟩) lk c1, .slice (some ⟨g2, 0, none⟩) lv c2, .slice a3 lc c3, vw] 78 (0, 0)) → wx.cell? ⟨gv, 2, none⟩ = some (.slice (some ⟨g1, 0, none⟩) lk c1) ∧ wx.cell? ⟨g1, i, none⟩ = some (.string xk)) := hide (fun wx hk hg => ⟨(cell_at hg 2).1, (HCe.out wx hk).1⟩)
          have hHeld0 := HSw.out wd hk hgv
          clear hk hgv hsub hap hbd h1 h2 h4 h5 h5' hlr hbd0
          refine region_round (S := fun wx => wx.cell? ⟨gv, 2, none⟩ = some (.slice (some ⟨g1, 0, none⟩) lk c1) ∧ wx.cell? ⟨g1, i, none⟩ = some (.string xk)) (by kernel_rfl) ?hlo (noDefer_spec (by kernel_rfl)) (by rw [← hwd]; exact hHeld0) (fun _ => ?_)
          case hlo => simp [LetsOut, Exit.then, Exit.inBlock, sepPost]
          have hHeld := hHeld0
          rw [← hwd]
          clear hwd hHeld0
          refine takeW 1 30 ?_ rfl rfl (by kernel_rfl) (by kernel_rfl) (by kernel_rfl) (fun _ _ _ h => h) (Or.inl ⟨by rfl, ?_⟩) hHeld ?_
          rotate_left
          · (intro wx hSw; (try dsimp only at hSw); go_simp; try with_reducible rfl)
          simp only [List.setIfInBounds_toArray, List.set_cons_zero, List.set_cons_succ]
          refine takeW 2 31 ?_ rfl rfl (by kernel_rfl) (by kernel_rfl) (by kernel_rfl) (fun _ _ _ h => h) (Or.inl ⟨by rfl, ?_⟩) hHeld ?_
          rotate_left
          · (intro wx hSw; (try dsimp only at hSw); go_simp; try with_reducible rfl)
          simp only [List.setIfInBounds_toArray, List.set_cons_zero, List.set_cons_succ]
          refine takeW 3 32 ?_ rfl rfl (by kernel_rfl) (by kernel_rfl) (by kernel_rfl) (fun _ _ _ h => h) (Or.inl ⟨by rfl, ?_⟩) hHeld ?_
          rotate_left
          · (intro wx hSw; (try dsimp only at hSw); go_simp; try with_reducible rfl)
          simp only [List.setIfInBounds_toArray, List.set_cons_zero, List.set_cons_succ]
          refine takeW 4 33 ?_ rfl rfl (by kernel_rfl) (by kernel_rfl) (by kernel_rfl) (fun _ _ _ h => h) (Or.inl ⟨by rfl, ?_⟩) hHeld ?_
          rotate_left
          · (intro wx hSw; (try dsimp only at hSw); go_simp; try with_reducible rfl)
          simp only [List.setIfInBounds_toArray, List.set_cons_zero, List.set_cons_succ]
          refine takeW 5 34 ?_ rfl rfl (by kernel_rfl) (by kernel_rfl) (by kernel_rfl) (fun _ _ _ h => h) (Or.inl ⟨by rfl, ?_⟩) hHeld ?_
          rotate_left
          · (intro wx hSw; (try dsimp only at hSw); go_simp; try with_reducible rfl)
          simp only [List.setIfInBounds_toArray, List.set_cons_zero, List.set_cons_succ]
          refine takeW 6 35 ?_ rfl rfl (by kernel_rfl) (by kernel_rfl) (by kernel_rfl) (fun _ _ _ h => h) (Or.inl ⟨by rfl, ?_⟩) hHeld ?_
          rotate_left
          · (intro wx hSw; (try dsimp only at hSw); go_simp; try with_reducible rfl)
          simp only [List.setIfInBounds_toArray, List.set_cons_zero, List.set_cons_succ]
          refine takeW 7 36 ?_ rfl rfl (by kernel_rfl) (by kernel_rfl) (by kernel_rfl) (fun _ _ _ h => h) (Or.inl ⟨by rfl, ?_⟩) hHeld ?_
          rotate_left
          · (intro wx hSw; (try dsimp only at hSw); go_simp; try with_reducible rfl)
          simp only [List.setIfInBounds_toArray, List.set_cons_zero, List.set_cons_succ]
          refine takeW 8 37 ?_ rfl rfl (by kernel_rfl) (by kernel_rfl) (by kernel_rfl) (fun _ _ _ h => h) (Or.inl ⟨by rfl, ?_⟩) hHeld ?_
          rotate_left
          · (intro wx hSw; (try dsimp only at hSw); go_simp; try with_reducible rfl)
          simp only [List.setIfInBounds_toArray, List.set_cons_zero, List.set_cons_succ]
          refine wpAnyH_ready (rs := [0, 9]) (by kernel_rfl) (by simp) ?_
          have HSa : Hid (∀ o, (fun wx : World => wx.cell? ⟨gv, 2, none⟩ = some (.slice (some ⟨g1, 0, none⟩) lk c1) ∧ wx.cell? ⟨g1, i, none⟩ = some (.string xk)) (wd.alloc o)) := hide (fun o => HSw.out _ (keptC_trans HAll.out.2.1 (keptC_alloc (fun _ => False) wd o) (fun _ h => h.elim)) (stays HAll.out.2.2.1 ((Below.refl _ _).alloc (Nat.le_refl _) o)))
          have m0 : wd.cell? ⟨w.heap.size + 1 + 1 + 1 + 1, 0, none⟩ = some (.slice xr lr yr) := (cell_at HAll.out.2.2.2.2.2.2.2.2.1 0).1
          have m0a : ∀ o, (wd.alloc o).cell? ⟨w.heap.size + 1 + 1 + 1 + 1, 0, none⟩ = some (.slice xr lr yr) := fun o => (cell_at (stays HAll.out.2.2.2.2.2.2.2.2.1 ((Below.refl _ _).alloc (Nat.le_refl _) o)) 0).1
          refine ready2 rfl rfl ?_
          apply branch2
          · intro hG K hK
            go_simp
            refine hK.out _ _ hHeld (fun _ => ?_)
            clear hK K
            refine wpAnyH_ready (rs := [9]) (by kernel_rfl) (by simp) ?_
            refine AllReadyH.cons rfl (fun K hK => ?_) AllReadyH.nil
            go_simp
            refine hK.out _ _ (HSa.out _) (fun _ => ?_)
            clear hK K
            exact hG
          · intro hG K hK
            go_simp
            refine hK.out _ _ (HSa.out _) (fun _ => ?_)
            clear hK K
            refine wpAnyH_ready (rs := [0]) (by kernel_rfl) (by simp) ?_
            refine AllReadyH.cons rfl (fun K hK => ?_) AllReadyH.nil
            go_simp
            refine hK.out _ _ (HSa.out _) (fun _ => ?_)
            clear hK K
            exact hG
          clear m0 m0a
          refine wpAnyH_ready (rs := [10]) (by kernel_rfl) (by simp) ?_
          refine AllReadyH.cons rfl (fun K hK => ?_) AllReadyH.nil
          have hown := HAll.out.2.2.2.2.2.2.2.2.2
          rw [← HAll.out.1] at hown
          obtain ⟨ip, hj, hy0, hy1, hy2⟩ := info_parts Tryd.infoPair
          refine step_append_lies _ ?_ (.tmp 29) (.tmp 38) 27 ?_ w.heap.size 80 ip (.agg #[.string ⟨#[]⟩, .string ⟨#[]⟩]) 2 32 Tryd.underlying27 hj hy0 hy1 hy2 ?_ ?_ (.slice xr lr yr) lr (prs (L0 ++ (pairsN nd).take i)) ?_ (hown.alloc _) ⟨wd.heap.size, 0, none⟩ 1 1 [.string xk, .string y] ?_ ?_ (pair_cellsW wd _ rfl _ _ _) ?_ ?_ ?_ ?_ ?_ _ rfl ?_
          · exact rfl
          · exact rfl
          · exact rfl
          · decide
          · exact rfl
          · exact rfl
          · exact rfl
          · intro u hu; simp at hu; rcases hu with rfl | rfl <;> rfl
          · decide
          · unfold maxLen; omega
          · omega
          · have := (HAll.out.2.2.2.2.2.1 _ (HAll.out.2.2.2.2.1 _ (Or.inl rfl))).2; simp; omega
          intro b6 d6 wB hownB hgB hbB hlB
          obtain ⟨⟨kB, gB, fB⟩, hNew⟩ := ap_push HAll.out.1 HAll.out.2.1 HAll.out.2.2.1 HAll.out.2.2.2.1 HAll.out.2.2.2.2.1 HAll.out.2.2.2.2.2.1 HAll.out.2.2.2.2.2.2.1 HAll.out.2.2.2.2.2.2.2.1 HAll.out.2.2.2.2.2.2.2.2.1 HAll.out.2.2.2.2.2.2.2.2.2 hgB hownB (by simpa using hbB)
          rw [List.append_assoc, HStep.out] at hNew
          have HNew := hide hNew
          have hSB := HSw.out wB kB gB
          have cB : wB.cell? ⟨w.heap.size + 1 + 1 + 1 + 1, 0, none⟩ = some (.slice xr lr yr) := (cell_at fB 0).1
          have zB : wB.frozen? ⟨w.heap.size + 1 + 1 + 1 + 1, 0, none⟩ = false := (cell_at fB 0).2
          refine hK.out (Act.put _ (some 39) _) _ hSB (fun _ => ?_)
          clear hK K hownB hgB hbB hlB hNew kB gB fB hown
          simp only [Act.put, List.setIfInBounds_toArray, List.set_cons_zero, List.set_cons_succ]
          refine wpAnyH_ready (rs := [11]) (by kernel_rfl) (by simp) ?_
          refine AllReadyH.cons rfl (fun K hK => ?_) AllReadyH.nil
          go_simp
          refine hK.out _ _ (HSw.out _ HNew.out.1 HNew.out.2.1) (fun _ => ?_)
          clear hK K cB zB hSB
          refine wpAnyH_done (by kernel_rfl) ?_ _
          gi_wp2_with fail
          gi_roundg (gk - 1)
          case measure => have := HQi.out; omega
          case rel => exact ⟨i + 1, by omega, by have := HQi.out; omega, by go_num, HNew⟩
        · obtain rfl : i = lv := by omega
          gi_wp2_with fail
          obtain ⟨hk, -, C1, vr, hsub, hap, hbd, haps⟩ := HP.out
          refine ⟨C1, hk, hsub, HPre.out, vr, hap, hbd, ?_⟩
          rw [HEnd.out]
          rw [List.take_of_length_le (by rw [pairsN_len]; have := HLn.out.2.1; omega)] at haps
          exact haps
end Go.Proofs.YtejfmjejdopglaaDoor

namespace Go.Proofs.YtejfmjejdopglaaDoor
open Go.RowKit

theorem prs_cons (p : ByteArray × ByteArray) (l : List (ByteArray × ByteArray)) : prs (p :: l) = Value.string p.1 :: .string p.2 :: prs l := rfl

theorem prs_at (l : List (ByteArray × ByteArray)) : ∀ k (h : k < l.length), (prs l)[k * 2]? = some (.string l[k].1) ∧ (prs l)[k * 2 + 1]? = some (.string l[k].2) := by
  induction l with
  | nil => intro k h; simp at h
  | cons p l ih =>
    intro k h
    cases k with
    | zero => exact ⟨rfl, rfl⟩
    | succ k =>
      rw [prs_cons, show (k + 1) * 2 = k * 2 + 1 + 1 from by omega]
      exact ih k (by simpa using h)

theorem prs_set (l : List (ByteArray × ByteArray)) : ∀ (k : Nat) (p : ByteArray) (x : ByteArray), k < l.length → ((prs l).set (k * 2) (.string p)).set (k * 2 + 1) (.string x) = prs (l.set k (p, x)) := by
  induction l with
  | nil => intro k p x h; simp at h
  | cons q l ih =>
    intro k p x h
    cases k with
    | zero => rfl
    | succ k =>
      rw [prs_cons, show (k + 1) * 2 = k * 2 + 1 + 1 from by omega, List.set_cons_succ, List.set_cons_succ, List.set_cons_succ, List.set_cons_succ, ih k p x (by simpa using h), List.set_cons_succ, prs_cons]

set_option maxHeartbeats 2000000 in
set_option maxRecDepth 100000 in
theorem eqPair_any (p q t u : ByteArray) (w : World) :
    Calls Tryd.prog 43 #[.agg #[.string p, .string t], .agg #[.string q, .string u]] w fun e w' => e = .returned (.bool (decide ((p, t) = (q, u)))) ∧ Below w.heap.size w w' := by
  have hbB : ∀ o o' : Obj, Below w.heap.size w ((w.alloc o).alloc o') := fun o o' => ((Below.refl w.heap.size w).alloc (Nat.le_refl _) _).alloc (by simp) _
  have HB := hide hbB
  clear hbB
  have hbp := ba_beq p q
  have hbq := ba_beq t u
  by_cases hp : p = q
  · rw [decide_eq_true hp] at hbp
    by_cases ht : t = u
    · have HD : Hid (decide ((p, t) = (q, u)) = true) := hide (by subst ht hp; simp)
      rw [decide_eq_true ht] at hbq
      clear ht hp
      go_enter Tryd.func43, Tryd.ntmps43
      go_wp2
      go_ret
      rw [HD.out]
      exact ⟨rfl, HB.out _ _⟩
    · have HD : Hid (decide ((p, t) = (q, u)) = false) := hide (by simp [ht])
      rw [decide_eq_false ht] at hbq
      clear ht hp
      go_enter Tryd.func43, Tryd.ntmps43
      go_wp2
      go_ret
      rw [HD.out]
      exact ⟨rfl, HB.out _ _⟩
  · have HD : Hid (decide ((p, t) = (q, u)) = false) := hide (by simp [hp])
    rw [decide_eq_false hp] at hbp
    clear hp
    go_enter Tryd.func43, Tryd.ntmps43
    go_wp2
    go_ret
    rw [HD.out]
    exact ⟨rfl, HB.out _ _⟩

set_option maxHeartbeats 2000000 in
set_option maxRecDepth 100000 in
theorem eqPairS_row (l m : List (ByteArray × ByteArray)) (hl : l.length ≤ 9223372036854775807) (_hm : m.length ≤ 9223372036854775807) (v u : Value) (w : World) (hr : RowAt w 2 v l.length (prs l)) (hq : RowAt w 2 u m.length (prs m)) :
    Calls Tryd.prog 12 #[v, u] w fun e w' => e = .returned (.bool (decide (l = m))) ∧ Below w.heap.size w w' := by
  obtain ⟨-, a, cap, rfl, h2⟩ := hr
  obtain ⟨-, a', cap', rfl, h3⟩ := hq
  have HR := hide h2
  have HQ := hide h3
  clear h2 h3
  by_cases hne : l.length = m.length
  · have HN := hide hne
    rw [← hne]
    clear hne
    go_enter Tryd.func12, Tryd.ntmps12
    go_wp2
    go_loopg [5] l.length (fun q iv wr => ∃ k : Nat, k ≤ l.length ∧ iv = .int .i64 (k : Int) ∧ q + k = l.length ∧ Hid (l.take k = m.take k) ∧ Below w.heap.size w wr)
    case atStart => exact ⟨0, Nat.zero_le _, rfl, rfl, hide (by simp), Below.refl _ _⟩
    case round =>
      obtain ⟨k, hk, rfl, hg, HT, hb⟩ := hrel
      have HG := hide hg
      clear hg
      by_cases hlt : k < l.length
      · rcases HR.out with hn0 | ⟨b, off, rfl, hbl, hc⟩
        · omega
        · rcases HQ.out with hn0 | ⟨b', off', rfl, hbl', hc'⟩
          · have := HN.out; omega
          · have hltm : k < m.length := by have := HN.out; omega
            obtain ⟨p, x, hx⟩ : ∃ p x, (p, x) = l[k] := ⟨_, _, rfl⟩
            obtain ⟨q, y, hy⟩ : ∃ q y, (q, y) = m[k] := ⟨_, _, rfl⟩
            have hc0 : wr.cell? ⟨b, off + k * 2, none⟩ = some (.string p) := by rw [hb.cell (by exact hbl), hc (k * 2) (by omega), (prs_at l k hlt).1, ← hx]
            have hc1 : wr.cell? ⟨b, off + k * 2 + 1, none⟩ = some (.string x) := by rw [hb.cell (by exact hbl), Nat.add_assoc, hc (k * 2 + 1) (by omega), (prs_at l k hlt).2, ← hx]
            have hd0 : wr.cell? ⟨b', off' + k * 2, none⟩ = some (.string q) := by rw [hb.cell (by exact hbl'), hc' (k * 2) (by omega), (prs_at m k hltm).1, ← hy]
            have hd1 : wr.cell? ⟨b', off' + k * 2 + 1, none⟩ = some (.string y) := by rw [hb.cell (by exact hbl'), Nat.add_assoc, hc' (k * 2 + 1) (by omega), (prs_at m k hltm).2, ← hy]
            have HX := hide hx
            have HY := hide hy
            have hk0 : (0 : Int) ≤ (k : Int) := by omega
            have hk1 : (k : Int) < (l.length : Int) := by omega
            have hbw : b < wr.heap.size := Nat.lt_of_lt_of_le hbl hb.size
            have hbw' : b' < wr.heap.size := Nat.lt_of_lt_of_le hbl' hb.size
            clear hc hc' hx hy
            by_cases hxy : (p, x) = (q, y)
            · have HT2 : Hid (l.take (k + 1) = m.take (k + 1)) := hide (by rw [List.take_succ_eq_append_getElem hlt, List.take_succ_eq_append_getElem hltm, HT.out, ← HX.out, ← HY.out, hxy])
              have HC := hide (eqPair_any p q x y)
              rw [decide_eq_true hxy] at HC
              clear hxy
              go_wp2_with fail
              go_region_held3 (fun wx => wx.cell? ⟨b, off + k * 2, none⟩ = some (.string p) ∧ wx.cell? ⟨b, off + k * 2 + 1, none⟩ = some (.string x) ∧ wx.cell? ⟨b', off' + k * 2, none⟩ = some (.string q) ∧ wx.cell? ⟨b', off' + k * 2 + 1, none⟩ = some (.string y)) (first | exact ⟨hc0, hc1, hd0, hd1⟩ | exact hS2) ((go_at_call 43; refine (HC.out _).mono ?_; rintro e w2 ⟨rfl, hb2⟩; have hS2 : w2.cell? ⟨b, off + k * 2, none⟩ = some (.string p) ∧ w2.cell? ⟨b, off + k * 2 + 1, none⟩ = some (.string x) ∧ w2.cell? ⟨b', off' + k * 2, none⟩ = some (.string q) ∧ w2.cell? ⟨b', off' + k * 2 + 1, none⟩ = some (.string y) := ⟨(hb2.cell (by exact hbw)).trans hc0, (hb2.cell (by exact hbw)).trans hc1, (hb2.cell (by exact hbw')).trans hd0, (hb2.cell (by exact hbw')).trans hd1⟩))
              all_goals
                have hb3 : Below w.heap.size w w2 := hb.trans ((Below.refl _ _).drew.trans (hb2.mono hb.size))
                clear hb2
                go_wp2_with fail
                go_roundg (gk - 1)
                case measure => have := HG.out; omega
                case rel => exact ⟨k + 1, by omega, by go_num, by have := HG.out; omega, HT2, hb3⟩
            · have HD := hide (list_ne hlt hltm (by rw [← HX.out, ← HY.out]; exact hxy))
              have HC := hide (eqPair_any p q x y)
              rw [decide_eq_false hxy] at HC
              clear hxy
              go_wp2_with fail
              go_region_held3 (fun wx => wx.cell? ⟨b, off + k * 2, none⟩ = some (.string p) ∧ wx.cell? ⟨b, off + k * 2 + 1, none⟩ = some (.string x) ∧ wx.cell? ⟨b', off' + k * 2, none⟩ = some (.string q) ∧ wx.cell? ⟨b', off' + k * 2 + 1, none⟩ = some (.string y)) (first | exact ⟨hc0, hc1, hd0, hd1⟩ | exact hS2) ((go_at_call 43; refine (HC.out _).mono ?_; rintro e w2 ⟨rfl, hb2⟩; have hS2 : w2.cell? ⟨b, off + k * 2, none⟩ = some (.string p) ∧ w2.cell? ⟨b, off + k * 2 + 1, none⟩ = some (.string x) ∧ w2.cell? ⟨b', off' + k * 2, none⟩ = some (.string q) ∧ w2.cell? ⟨b', off' + k * 2 + 1, none⟩ = some (.string y) := ⟨(hb2.cell (by exact hbw)).trans hc0, (hb2.cell (by exact hbw)).trans hc1, (hb2.cell (by exact hbw')).trans hd0, (hb2.cell (by exact hbw')).trans hd1⟩))
              all_goals
                have hb3 : Below w.heap.size w w2 := hb.trans ((Below.refl _ _).drew.trans (hb2.mono hb.size))
                clear hb2
                go_wp2_with fail
                go_ret
                rw [HD.out]
                exact ⟨rfl, hb3⟩
      · have HD : Hid (decide (l = m) = true) := hide (decide_eq_true (by
          have h1 := HT.out
          rw [List.take_of_length_le (by omega), List.take_of_length_le (by have := HN.out; omega)] at h1
          exact h1))
        go_wp2
        go_ret
        rw [HD.out]
        exact ⟨rfl, hb⟩
  · have HD : Hid (decide (l = m) = false) := hide (decide_eq_false (fun e => hne (by rw [e])))
    have hq1 : ¬ ((l.length : Int) = (m.length : Int)) := by omega
    clear hne
    go_enter Tryd.func12, Tryd.ntmps12
    go_wp2
    go_ret
    rw [HD.out]
    exact ⟨rfl, Below.refl _ _⟩

/-- the marks of pairs from k on, n of them -/
def marksQ (k n : Nat) : List (ByteArray × ByteArray) := (List.range n).map fun i => (markB (k + i * 2), markB (k + i * 2 + 1))

theorem marksQ_length (k n : Nat) : (marksQ k n).length = n := by simp [marksQ]

theorem marksQ_at (k n i : Nat) (h : i < n) : (prs (marksQ k n))[i * 2]? = some (.string (markB (k + i * 2))) ∧ (prs (marksQ k n))[i * 2 + 1]? = some (.string (markB (k + i * 2 + 1))) := by
  have := prs_at (marksQ k n) i (by rw [marksQ_length]; exact h)
  simpa [marksQ] using this

theorem marksQ_of (k n : Nat) (m : List (ByteArray × ByteArray)) (hl : m.length = n) (h : ∀ i, i < n → m[i]? = some (markB (k + i * 2), markB (k + i * 2 + 1))) : m = marksQ k n := by
  apply List.ext_getElem?
  intro i
  by_cases hi : i < n
  · rw [h i hi]; simp [marksQ, hi]
  · rw [List.getElem?_eq_none (by omega), List.getElem?_eq_none (by rw [marksQ_length]; omega)]

set_option maxHeartbeats 2000000 in
set_option maxRecDepth 100000 in
theorem markPairS_row (l : List (ByteArray × ByteArray)) (hl : l.length ≤ 1048576) (v : Value) (B k0 : Nat) (hk0 : 0 < k0) (hk1 : k0 ≤ 1048576000) (w : World) (ha : w.ownsRow B 80 2 v l.length (prs l)) :
    Calls Tryd.prog 15 #[v, .int .i64 (k0 : Int)] w fun e w' => e = .returned (.int .i64 ((k0 + l.length * 2 : Nat) : Int)) ∧ w'.ownsRow B 80 2 v l.length (prs (marksQ k0 l.length)) ∧ Kept w w' (fun k => v.ownBlock = some k) := by
  obtain ⟨a, cap, rfl⟩ : ∃ a cap, v = .slice a l.length cap := by obtain ⟨-, a, cap, e, -⟩ := row_of_own ha; exact ⟨a, cap, e⟩
  have HA := hide ha
  clear ha
  go_enter Tryd.func15, Tryd.ntmps15
  go_wp2
  go_loopg [1, 5] l.length (fun q kv iv wr => ∃ (k : Nat) (m : List (ByteArray × ByteArray)), k ≤ l.length ∧ kv = .int .i64 ((k0 + k * 2 : Nat) : Int) ∧ iv = .int .i64 (k : Int) ∧ q + k = l.length ∧ Hid (wr.ownsRow B 80 2 (.slice a l.length cap) l.length (prs m)) ∧ Hid (m.length = l.length ∧ ∀ i, i < k → m[i]? = some (markB (k0 + i * 2), markB (k0 + i * 2 + 1))) ∧ Hid (Kept w wr (fun k => (Value.slice a l.length cap).ownBlock = some k)))
  case atStart => exact ⟨0, l, Nat.zero_le _, rfl, rfl, rfl, HA, hide ⟨rfl, fun i h => by omega⟩, hide (kept_refl _ _)⟩
  case round =>
    obtain ⟨k, m, hk, rfl, rfl, hg, HOwn, HM, HK⟩ := hrel
    have HG := hide hg
    clear hg
    by_cases hlt : k < l.length
    · obtain ⟨g, rfl⟩ : ∃ g, a = some ⟨g, 0, none⟩ := by
        rcases HOwn.out.2 with ⟨e, h0⟩ | ⟨g, c, cur, e, _⟩
        · omega
        · injection e with e1; exact ⟨g, e1⟩
      have hkm : k < m.length := by rw [HM.out.1]; exact hlt
      obtain ⟨u0, u1, hu⟩ : ∃ (u0 : ByteArray) (u1 : ByteArray), (prs m)[k * 2]? = some (.string u0) ∧ (prs m)[k * 2 + 1]? = some (.string u1) := ⟨_, _, prs_at m k hkm⟩
      obtain ⟨p, hp⟩ : ∃ p, p = k0 + k * 2 := ⟨_, rfl⟩
      have hp1 : ((k0 + k * 2 : Nat) : Int) = (p : Int) := by rw [hp]
      have hpl : p ≤ 1048576000 + 2097152 := by omega
      have HC0 := hide (markText_row p (by omega) (by omega))
      have HC := hide (markText_row (p + 1) (by omega) (by omega))
      rw [show ((p + 1 : Nat) : Int) = (p : Int) + 1 from by omega] at HC
      have HKm := hide hkm
      have HU := hide hu
      have HP := hide hp
      have hi0 : (0 : Int) ≤ (k : Int) := by omega
      have hi1 : (k : Int) < (l.length : Int) := by omega
      rw [hp1]
      clear hkm hu hp hp1
      go_wp2_with fail
      refine (HC0.out _).mono ?_
      rintro e w1 ⟨rfl, hb1⟩
      have hown1 := own_stays HOwn.out hb1
      have hf0 : w1.frozen? ⟨g, k * 2, none⟩ = false := hown1.frozenAt _
      have hc0 : w1.cell? ⟨g, k * 2, none⟩ = some (.string u0) := by rw [hown1.cellAt (k * 2) (by omega), HU.out.1]
      have HOw1 := hide ((hown1.stored (k * 2) (.string (markB p))).1)
      have HB1 := hide hb1
      clear hown1 hb1
      go_wp2_with fail
      refine (HC.out _).mono ?_
      rintro e w2 ⟨rfl, hb2⟩
      have hown2 := own_stays HOw1.out hb2
      have hf1 : w2.frozen? ⟨g, k * 2 + 1, none⟩ = false := hown2.frozenAt _
      have hc1 : w2.cell? ⟨g, k * 2 + 1, none⟩ = some (.string u1) := by rw [hown2.cellAt (k * 2 + 1) (by omega), List.getElem?_set_ne (by omega), HU.out.2]
      have HO := hide ((hown2.stored (k * 2 + 1) (.string (markB (p + 1)))).1)
      rw [prs_set m k _ _ HKm.out] at HO
      have HM2 : Hid ((m.set k (markB p, markB (p + 1))).length = l.length ∧ ∀ i, i < k + 1 → (m.set k (markB p, markB (p + 1)))[i]? = some (markB (k0 + i * 2), markB (k0 + i * 2 + 1))) := hide ⟨by rw [List.length_set]; exact HM.out.1, fun i hi => by
        by_cases e : k = i
        · subst e; rw [List.getElem?_set_self HKm.out, HP.out]
        · rw [List.getElem?_set_ne e]; exact HM.out.2 i (by omega)⟩
      have HK2 : Hid (Kept w (w2.setCell ⟨g, k * 2 + 1, none⟩ (.string (markB (p + 1)))) (fun k => (Value.slice (some ⟨g, 0, none⟩) l.length cap).ownBlock = some k)) := hide (kept_trans (kept_trans (kept_trans (kept_trans HK.out (kept_of_all HB1.out (fun _ => False)) (fun j _ h => h.elim)) (kept_setCell w1 g (k * 2) _) (fun j _ h => by rw [h]; rfl)) (kept_of_all hb2 (fun _ => False)) (fun j _ h => h.elim)) (kept_setCell w2 g _ _) (fun j _ h => by rw [h]; rfl))
      clear hc0 hf0
      clear hb2 hown2
      go_wp2_with fail
      go_roundg (gk - 1)
      case measure => have := HG.out; omega
      case rel => exact ⟨k + 1, _, by omega, by have := HP.out; go_num, by go_num, by have := HG.out; omega, HO, HM2, HK2⟩
    · have hkn : k = l.length := by omega
      have HO : Hid (wr.ownsRow B 80 2 (.slice a l.length cap) l.length (prs (marksQ k0 l.length))) := hide (by
        have e : m = marksQ k0 l.length := marksQ_of k0 l.length m HM.out.1 (fun i hi => HM.out.2 i (by omega))
        rw [← e]; exact HOwn.out)
      have HKn := hide hkn
      clear hkn
      go_wp2_with fail
      go_ret
      exact ⟨by rw [HKn.out]; rfl, HO.out, HK.out⟩

set_option maxHeartbeats 2000000 in
set_option maxRecDepth 100000 in
theorem heldPairS_row (n : Nat) (hn : n ≤ 1048576) (v : Value) (k0 : Nat) (hk0 : 0 < k0) (hk1 : k0 ≤ 1048576000) (w : World) (ha : RowAt w 2 v n (prs (marksQ k0 n))) :
    Calls Tryd.prog 16 #[v, .int .i64 (k0 : Int)] w fun e w' => e = .returned (.int .i64 ((k0 + n * 2 : Nat) : Int)) ∧ Below w.heap.size w w' := by
  obtain ⟨-, a, cap, rfl, h2⟩ := ha
  have HR := hide h2
  clear h2
  go_enter Tryd.func16, Tryd.ntmps16
  go_wp2
  go_loopg [1, 5] n (fun q kv iv wr => ∃ k : Nat, k ≤ n ∧ kv = .int .i64 ((k0 + k * 2 : Nat) : Int) ∧ iv = .int .i64 (k : Int) ∧ q + k = n ∧ Below w.heap.size w wr)
  case atStart => exact ⟨0, Nat.zero_le _, rfl, rfl, rfl, Below.refl _ _⟩
  case round =>
    obtain ⟨k, hk, rfl, rfl, hg, hb⟩ := hrel
    have HG := hide hg
    clear hg
    have hBw := hb.size
    by_cases hlt : k < n
    · rcases HR.out with h0 | ⟨g, off, rfl, hglt, hc⟩
      · omega
      · obtain ⟨p, hp⟩ : ∃ p, p = k0 + k * 2 := ⟨_, rfl⟩
        have hp1 : ((k0 + k * 2 : Nat) : Int) = (p : Int) := by rw [hp]
        have hpl : p ≤ 1048576000 + 2097152 := by omega
        have HC0 := hide (markText_row p (by omega) (by omega))
        have HC := hide (markText_row (p + 1) (by omega) (by omega))
        rw [show ((p + 1 : Nat) : Int) = (p : Int) + 1 from by omega] at HC
        obtain ⟨x0, hx0⟩ : ∃ x : ByteArray, x = markB p := ⟨_, rfl⟩
        obtain ⟨x, hx⟩ : ∃ x : ByteArray, x = markB (p + 1) := ⟨_, rfl⟩
        have hcell : ∀ wx, Below w.heap.size w wx → wx.cell? ⟨g, off + k * 2, none⟩ = some (.string x0) ∧ wx.cell? ⟨g, off + k * 2 + 1, none⟩ = some (.string x) := fun wx hbx => ⟨by rw [hbx.cell (by exact hglt), hc (k * 2) (by omega), (marksQ_at k0 n k hlt).1, hx0, hp], by rw [hbx.cell (by exact hglt), Nat.add_assoc, hc (k * 2 + 1) (by omega), (marksQ_at k0 n k hlt).2, hx, hp]⟩
        have HCe := hide hcell
        have hi0 : (0 : Int) ≤ (k : Int) := by omega
        have hi1 : (k : Int) < (n : Int) := by omega
        rw [← hx0] at HC0
        rw [← hx] at HC
        have HP := hide hp
        have hbe0 := ba_beq x0 x0
        have hbe1 := ba_beq x x
        rw [decide_eq_true rfl] at hbe0 hbe1
        rw [hp1]
        have hc0 := (hcell wr hb).1
        clear hx hx0 hc hp hp1 hcell
        go_wp2_with fail
        go_region_held3 (fun w' => w'.cell? ⟨g, off + k * 2, none⟩ = some (.string x0)) (first | go_keep | exact hc2) ((go_at_call 48; refine (HC0.out _).mono ?_; rintro e w2 ⟨rfl, hbw⟩; have hb2 : Below w.heap.size w w2 := hb.trans ((Below.refl _ _).drew.trans (hbw.mono hBw)); have hc2 : w2.cell? ⟨g, off + k * 2, none⟩ = some (.string x0) := (HCe.out w2 hb2).1))
        all_goals
          have hBw2 := hb2.size
          have hc1 := (HCe.out w2 hb2).2
          clear hbw hc2
          go_wp2_with fail
          go_region_held3 (fun w' => w'.cell? ⟨g, off + k * 2 + 1, none⟩ = some (.string x)) (first | go_keep | exact hc3) ((go_at_call 48; refine (HC.out _).mono ?_; rintro e w3 ⟨rfl, hbv⟩; have hb3 : Below w.heap.size w w3 := hb2.trans ((Below.refl _ _).drew.trans (hbv.mono hBw2)); have hc3 : w3.cell? ⟨g, off + k * 2 + 1, none⟩ = some (.string x) := (HCe.out w3 hb3).2))
          all_goals
            clear hbv hc3
            go_wp2_with fail
            go_roundg (gk - 1)
            case measure => have := HG.out; omega
            case rel => exact ⟨k + 1, by omega, by have := HP.out; go_num, by go_num, by have := HG.out; omega, hb3⟩
    · have hkn : k = n := by omega
      have HK := hide hkn
      clear hkn
      go_wp2_with fail
      go_ret
      exact ⟨by rw [HK.out]; rfl, hb⟩
end Go.Proofs.YtejfmjejdopglaaDoor

namespace Go.Proofs.YtejfmjejdopglaaDoor
open Go.RowKit

/-- a fact that hangs on the blocks B .. U - 1 alone -/
def Loc (B U : Nat) (p : World → Prop) : Prop := ∀ w w' : World, w.heap.size ≤ w'.heap.size → U ≤ w.heap.size → (∀ k, B ≤ k → k < U → w'.heap[k]? = w.heap[k]?) → p w → p w'

structure Held (wr : World) (B U : Nat) (p : World → Prop) : Prop where
  loc : Loc B U p
  le : U ≤ wr.heap.size
  is : p wr

theorem held_below {wr wr' : World} {B U : Nat} {p : World → Prop} (h : Held wr B U p) (hb : Below wr.heap.size wr wr') : Held wr' B U p :=
  ⟨h.loc, Nat.le_trans h.le hb.size, h.loc wr wr' hb.size h.le (fun k _ hk => hb.block k (Nat.lt_of_lt_of_le hk h.le)) h.is⟩

theorem held_kept {wr wr' : World} {B U : Nat} {p : World → Prop} {S : Nat → Prop} (h : Held wr B U p) (hk : Kept wr wr' S) (hS : ∀ k, B ≤ k → k < U → ¬ S k) : Held wr' B U p :=
  ⟨h.loc, Nat.le_trans h.le hk.2.2.2.1, h.loc wr wr' hk.2.2.2.1 h.le (fun k h1 h2 => hk.2.2.2.2 k (Nat.lt_of_lt_of_le h2 h.le) (hS k h1 h2)) h.is⟩

/-- a variable of two cells -/
def IsVar (g : Nat) (u0 u1 : Value) (t : TypeId) (w : World) : Prop := w.heap[g]? = some (Obj.cells #[u0, u1] t)

theorem held_var {w : World} {g : Nat} {u0 u1 : Value} {t : TypeId} (h : w.heap[g]? = some (Obj.cells #[u0, u1] t)) : Held w g (g + 1) (IsVar g u0 u1 t) :=
  ⟨fun a b _ _ hk hp => (hk g (Nat.le_refl _) (by omega)).trans hp, (Array.getElem?_eq_some_iff.1 h).1, h⟩

theorem held_cells {w : World} {B U g : Nat} {u0 u1 : Value} {t : TypeId} (h : Held w B U (IsVar g u0 u1 t)) : w.cell? ⟨g, 0, none⟩ = some u0 ∧ w.cell? ⟨g, 1, none⟩ = some u1 := ⟨(cell_at h.is 0).1, (cell_at h.is 1).1⟩

/-- a disk of our own whose rows lie in B .. U - 1 -/
def IsDisk (B U : Nat) (v : Value) (ps : List ByteArray) (ls : List (Int × ByteArray)) (w : World) : Prop := DiskOwn w B v ps ls ∧ ∀ k, diskBlocks v k → k < U

theorem diskOwn_loc {w w' : World} {B U : Nat} {v : Value} {ps : List ByteArray} {ls : List (Int × ByteArray)} (h : IsDisk B U v ps ls w) (_hs : w.heap.size ≤ w'.heap.size) (hk : ∀ k, B ≤ k → k < U → w'.heap[k]? = w.heap[k]?) : IsDisk B U v ps ls w' := by
  refine ⟨?_, h.2⟩
  have hl := diskOwn_lt h.1
  have hu := h.2
  obtain ⟨⟨vp, vl, rfl, h1, h2⟩, -⟩ := h
  have key : ∀ {e sz n : Nat} {u : Value} {xs : List Value}, w.ownsRow B e sz u n xs → (∀ k, u.ownBlock = some k → k < U) → w'.ownsRow B e sz u n xs := fun {e sz n u xs} h hlt => by
    refine ⟨h.1, ?_⟩
    rcases h.2 with ⟨rfl, hn⟩ | ⟨g, cap, cur, rfl, hg, hh, rest⟩
    · exact Or.inl ⟨rfl, hn⟩
    · exact Or.inr ⟨g, cap, cur, rfl, hg, (hk g hg (hlt g rfl)).trans hh, rest⟩
  exact ⟨vp, vl, rfl, key h1 (fun k e => hu k ⟨vp, vl, rfl, Or.inl e⟩), key h2 (fun k e => hu k ⟨vp, vl, rfl, Or.inr e⟩)⟩

theorem held_disk {w : World} {B : Nat} {v : Value} {ps : List ByteArray} {ls : List (Int × ByteArray)} (h : DiskOwn w B v ps ls) : Held w B w.heap.size (IsDisk B w.heap.size v ps ls) :=
  ⟨fun _ _ hs _ hk hp => diskOwn_loc hp hs hk, Nat.le_refl _, h, fun k hk => (diskOwn_lt h k hk).2⟩

/-- the same disk with other contents, turned in place -/
theorem held_again {w : World} {B U : Nat} {v : Value} {ps qs : List ByteArray} {ls ms : List (Int × ByteArray)} {w' : World} (h : Held w B U (IsDisk B U v ps ls)) (hd : DiskOwn w' B v qs ms) (hs : w.heap.size ≤ w'.heap.size) : Held w' B U (IsDisk B U v qs ms) :=
  ⟨fun _ _ hs _ hk hp => diskOwn_loc hp hs hk, Nat.le_trans h.le hs, hd, h.is.2⟩

theorem disk_form {w : World} {B : Nat} {v : Value} {ps : List ByteArray} {ls : List (Int × ByteArray)} (h : DiskOwn w B v ps ls) : ∃ x c y d, v = .agg #[.slice x ps.length c, .slice y ls.length d] := by
  obtain ⟨vp, vl, rfl, h1, h2⟩ := h
  obtain ⟨x, c, rfl⟩ := own_slice h1
  obtain ⟨y, d, rfl⟩ := own_slice h2
  exact ⟨x, c, y, d, rfl⟩

/-- a new variable behind what was -/
theorem new_var (w : World) (u0 u1 : Value) (t : TypeId) : Below w.heap.size w (w.alloc (Obj.cells #[u0, u1] t)) ∧ Held (w.alloc (Obj.cells #[u0, u1] t)) w.heap.size (w.heap.size + 1) (IsVar w.heap.size u0 u1 t) :=
  ⟨(Below.refl _ _).alloc (Nat.le_refl _) _, held_var (heap_alloc_new w _)⟩
end Go.Proofs.YtejfmjejdopglaaDoor

namespace Go.Proofs.YtejfmjejdopglaaDoor
open Go.RowKit

theorem all_len (ps : List ByteArray) (ls : List (Int × ByteArray)) (root : Int) : (allI (fun q => rdN (readD ps ls q)) root).1.length ≤ 100000 := by
  unfold allI
  split
  · show (pairsV _).length ≤ _
    have hv : ∀ v ∈ (seenI (fun q => rdN (readD ps ls q)) root).1, v.nd.vs.length ≤ 4 ∧ True := fun v hv => by
      unfold seenI at hv
      split at hv
      · cases hv
      · have h := down_vis (fun q => rdN (readD ps ls q)) 8 root [] [] v hv
        have h2 : (rdN (readD ps ls v.page)).1 = v.nd := by rw [show rdN (readD ps ls v.page) = (v.nd, true) from h]
        have := rdN_right2 ps ls v.page (by show (rdN (readD ps ls v.page)).2 = true; rw [show rdN (readD ps ls v.page) = (v.nd, true) from h])
        rw [← h2]
        exact ⟨(ok_cnt this).2.1, trivial⟩
    have h1 := pairsV_len (fun v h => (hv v h).1)
    have h2 : (seenI (fun q => rdN (readD ps ls q)) root).1.length ≤ 22000 := by
      unfold seenI
      split
      · exact Nat.zero_le _
      · exact Nat.le_trans (down_cnt _ (fun p hp => (ok_cnt (rdN_right2 ps ls p hp)).2.2) 8 root [] []) cntK8A
    omega
  · exact Nat.zero_le _

theorem bulk_inA {ps : List ByteArray} {ls : List (Int × ByteArray)} (h : bulkS ps + bulkP ls ≤ 1048576) : ps.length ≤ 1048576 ∧ (∀ s ∈ ps, s.size ≤ 1048576) ∧ ls.length ≤ 1048576 ∧ ∀ p ∈ ls, p.2.size ≤ 1048576 := by
  rw [bulkS_eq] at h
  unfold bulkP at h
  refine ⟨by omega, fun s hs => ?_, by omega, fun p hp => ?_⟩
  · obtain ⟨i, hi, rfl⟩ := List.getElem_of_mem hs
    have h1 := sumS_succ ps i hi
    have h2 := sumS_mono ps (i + 1)
    omega
  · obtain ⟨i, hi, rfl⟩ := List.getElem_of_mem hp
    have h1 := sumP_succ ls i hi
    have h2 := sumP_mono ls (i + 1)
    omega

/-- a row of pairs of our own that lies in B .. U - 1 -/
def IsPr (B U : Nat) (v : Value) (l : List (ByteArray × ByteArray)) (w : World) : Prop := w.ownsRow B 80 2 v l.length (prs l) ∧ ∀ j, v.ownBlock = some j → j < U

theorem pr_loc {w w' : World} {B U : Nat} {v : Value} {l : List (ByteArray × ByteArray)} (h : IsPr B U v l w) (hk : ∀ k, B ≤ k → k < U → w'.heap[k]? = w.heap[k]?) : IsPr B U v l w' := by
  refine ⟨⟨h.1.1, ?_⟩, h.2⟩
  have hu := h.2
  rcases h.1.2 with ⟨rfl, hn⟩ | ⟨g, cap, cur, rfl, hg, hh, rest⟩
  · exact Or.inl ⟨rfl, hn⟩
  · exact Or.inr ⟨g, cap, cur, rfl, hg, (hk g hg (hu g rfl)).trans hh, rest⟩

theorem held_pr {w : World} {B : Nat} {v : Value} {l : List (ByteArray × ByteArray)} (h : w.ownsRow B 80 2 v l.length (prs l)) : Held w B w.heap.size (IsPr B w.heap.size v l) :=
  ⟨fun _ _ _ _ hk hp => pr_loc hp hk, Nat.le_refl _, h, fun k hk => (h.lt k hk).2⟩

theorem held_prA {w : World} {B U : Nat} {v : Value} {l l' : List (ByteArray × ByteArray)} {w' : World} (h : Held w B U (IsPr B U v l)) (hd : w'.ownsRow B 80 2 v l'.length (prs l')) (hs : w.heap.size ≤ w'.heap.size) : Held w' B U (IsPr B U v l') :=
  ⟨fun _ _ _ _ hk hp => pr_loc hp hk, Nat.le_trans h.le hs, hd, h.is.2⟩

set_option maxHeartbeats 8000000 in
set_option maxRecDepth 100000 in
theorem lawAllPairs (v : Value) (ps : List ByteArray) (ls : List (Int × ByteArray)) (bp : ps.length ≤ maxLen) (bq : ∀ s ∈ ps, s.size ≤ maxLen) (bl : ls.length ≤ maxLen) (bm : ∀ p ∈ ls, p.2.size ≤ maxLen) (root : Int) (w : World) (hT : SumTab w) (hd : DiskAt w v ps ls) :
    Calls Tryd.prog 3 #[v, .int .i64 root] w fun e w' => e = .returned (.bool true) ∧ Below w.heap.size w w' := by
  have HSz := hide (fun wx h => szDisk_any v ps ls bp bq bl bm 1048576 (Nat.le_refl _) wx h)
  clear bp bq bl bm
  have HD := hide hd
  have HT := hide hT
  clear hT
  obtain ⟨vp, vl, rfl, -, -⟩ := hd
  obtain ⟨w0, hw0⟩ : ∃ w0, w0 = w.alloc (Obj.cells #[vp, vl] 25) := ⟨_, rfl⟩
  have HB_w0 : Hid (Below w.heap.size w w0) := hide (by rw [hw0]; exact (new_var w vp vl _).1)
  have Hbox_w0 : Hid (Held w0 w.heap.size (w.heap.size + 1) (IsVar w.heap.size vp vl 25)) := hide (by rw [hw0]; exact (new_var w vp vl _).2)
  by_cases hbk : bulkS ps + bulkP ls ≤ 1048576
  · obtain ⟨h1, h2, h3, h4⟩ := bulk_inA hbk
    obtain ⟨r, hr⟩ : ∃ r : Nat, szOut 1048576 (bulkS ps + bulkP ls) = (r : Int) := ⟨_, szOut_yes hbk⟩
    rw [hr] at HSz
    have HTo := hide (fun wx h => toDisk_any (.agg #[vp, vl]) ps ls h1 h3 wx h)
    have HSp := hide (fun u wx h hk => specAllPairs_any ps ls h1 h3 h2 h4 u root wx h hk)
    have HIm := hide (fun ap np cp al nl cl wx ht h => implAllPairs_any ps ls h1 h3 h2 h4 ap al np nl cp cl root wx ht h)
    rw [← both_all _ (rdN_right2 ps ls) root] at HSp
    have hrl := all_len ps ls root
    obtain ⟨R, hR⟩ : ∃ R, R = allI (fun q => rdN (readD ps ls q)) root := ⟨_, rfl⟩
    rw [← hR] at HSp HIm hrl
    obtain ⟨rl, fl⟩ := R
    have hrl : rl.length ≤ 100000 := hrl
    have HEx := hide (fun u u' wx h h' => eqDisk_any u u' ps ps ls ls (by omega) (by omega) (by omega) (by omega) wx h h')
    have HEr := hide (fun u u' wx h h' => eqPairS_row rl rl (by omega) (by omega) u u' wx h h')
    rw [decide_eq_true rfl] at HEx HEr
    have HMx := hide (fun u B wx h => markDisk_any u ps ls B 1 h1 h3 (by omega) (by omega) wx h)
    have HMr := hide (fun u B wx h => markPairS_row rl (by omega) u B 1 (by omega) (by omega) wx h)
    have HHr := hide (fun u wx h => heldPairS_row rl.length (by omega) u 1 (by omega) (by omega) wx h)
    obtain ⟨kx, hkx⟩ : ∃ kx, kx = 1 + ps.length + ls.length * 2 := ⟨_, rfl⟩
    obtain ⟨kr, hkr⟩ : ∃ kr, kr = 1 + rl.length * 2 := ⟨_, rfl⟩
    rw [← hkx] at HMx
    rw [← hkr] at HMr HHr
    have hkxl : kx ≤ 4000000 := by omega
    have hkrl : kr ≤ 4000000 := by omega
    clear hR hbk h1 h2 h3 h4 hr hkx hkr
    go_enter Tryd.func3, Tryd.ntmps3
    go_wp2_with fail
    rw [← hw0]
    clear hw0
    refine (HSz.out _ (disk_below HD.out HB_w0.out)).mono ?_
    rintro e w1 ⟨rfl, hb⟩
    have Hbox_w1 := hide (held_below Hbox_w0.out hb)
    have HB_w1 : Hid (Below w.heap.size w w1) := hide (HB_w0.out.trans (hb.mono HB_w0.out.size))
    clear hb
    obtain ⟨ffb0, ffb1⟩ := held_cells Hbox_w1.out
    go_wp2_with fail
    clear ffb0 ffb1
    refine (HTo.out _ (disk_below HD.out HB_w1.out)).mono ?_
    rintro e w2 ⟨u2, rfl, hown2, hb⟩
    have Hbox_w2 := hide (held_below Hbox_w1.out hb)
    have HB_w2 : Hid (Below w.heap.size w w2) := hide (HB_w1.out.trans (hb.mono HB_w1.out.size))
    clear hb
    have HO2 := hide hown2
    clear hown2
    go_wp2_with fail
    refine (HSp.out u2 _ (disk_of_own HO2.out) (fun k hk => (diskOwn_lt HO2.out k hk).2)).mono ?_
    rintro e w3 ⟨u3, rfl, hown, hb⟩
    have hown : w3.ownsRow w2.heap.size 80 2 u3 rl.length (prs rl) := hown
    have HZ3 : Hid (w2.heap.size ≤ w3.heap.size) := hide hb.size
    have Hbox_w3 := hide (held_below Hbox_w2.out hb)
    have HB_w3 : Hid (Below w.heap.size w w3) := hide (HB_w2.out.trans (hb.mono HB_w2.out.size))
    clear hb HO2
    have Hr3_w3 := hide (held_pr hown)
    obtain ⟨x3, c3, rfl⟩ := own_slice hown
    clear hown
    obtain ⟨ffb0, ffb1⟩ := held_cells Hbox_w3.out
    go_wp2_with fail
    clear ffb0 ffb1
    refine (HTo.out _ (disk_below HD.out HB_w3.out)).mono ?_
    rintro e w5 ⟨u5, rfl, hown, hb⟩
    have HZ5 : Hid (w3.heap.size ≤ w5.heap.size) := hide hb.size
    have Hbox_w5 := hide (held_below Hbox_w3.out hb)
    have Hr3_w5 := hide (held_below Hr3_w3.out hb)
    have HB_w5 : Hid (Below w.heap.size w w5) := hide (HB_w3.out.trans (hb.mono HB_w3.out.size))
    clear hb
    have Hd5_w5 := hide (held_disk hown)
    obtain ⟨x5, c5, y5, d5, rfl⟩ := disk_form hown
    clear hown
    obtain ⟨g5, hg⟩ : ∃ g, g = w5.heap.size := ⟨_, rfl⟩
    obtain ⟨w6, hnw⟩ : ∃ wx, wx = w5.alloc (Obj.cells #[.slice x5 ps.length c5, .slice y5 ls.length d5] 32) := ⟨_, rfl⟩
    have hnv := new_var w5 (.slice x5 ps.length c5) (.slice y5 ls.length d5) 32
    rw [← hnw, ← hg] at hnv
    have hbv : Below w5.heap.size w5 w6 := by rw [← hg]; exact hnv.1
    have Hg5_w6 := hide hnv.2
    have Hgt5 : Hid (w5.heap.size = g5) := hide hg.symm
    have Hbox_w6 := hide (held_below Hbox_w5.out hbv)
    have Hr3_w6 := hide (held_below Hr3_w5.out hbv)
    have Hd5_w6 := hide (held_below Hd5_w5.out hbv)
    have HB_w6 : Hid (Below w.heap.size w w6) := hide (HB_w5.out.trans (hbv.mono HB_w5.out.size))
    clear hnv hbv
    have HDx := hide (disk_of_own Hd5_w6.out.is.1)
    have HTx := hide (sumTab_below HT.out HB_w6.out)
    go_wp2_with fail
    rw [← hnw, ← hg]
    clear hnw hg
    refine (HIm.out _ _ _ _ _ _ _ HTx.out HDx.out).mono ?_
    rintro e w7 ⟨u7, rfl, hown, hb⟩
    have hown : w7.ownsRow w6.heap.size 80 2 u7 rl.length (prs rl) := hown
    have HZ7 : Hid (w6.heap.size ≤ w7.heap.size) := hide hb.size
    have Hbox_w7 := hide (held_below Hbox_w6.out hb)
    have Hr3_w7 := hide (held_below Hr3_w6.out hb)
    have Hd5_w7 := hide (held_below Hd5_w6.out hb)
    have Hg5_w7 := hide (held_below Hg5_w6.out hb)
    have HB_w7 : Hid (Below w.heap.size w w7) := hide (HB_w6.out.trans (hb.mono HB_w6.out.size))
    clear hb HDx HTx
    have Hr7_w7 := hide (held_pr hown)
    obtain ⟨x7, c7, rfl⟩ := own_slice hown
    clear hown
    go_wp2_with fail
    refine (HEr.out _ _ _ (row_of_own Hr7_w7.out.is.1) (row_of_own Hr3_w7.out.is.1)).mono ?_
    rintro e w9 ⟨rfl, hb⟩
    have Hbox_w9 := hide (held_below Hbox_w7.out hb)
    have Hr3_w9 := hide (held_below Hr3_w7.out hb)
    have Hd5_w9 := hide (held_below Hd5_w7.out hb)
    have Hg5_w9 := hide (held_below Hg5_w7.out hb)
    have Hr7_w9 := hide (held_below Hr7_w7.out hb)
    have HB_w9 : Hid (Below w.heap.size w w9) := hide (HB_w7.out.trans (hb.mono HB_w7.out.size))
    clear hb
    obtain ⟨ffb0, ffb1⟩ := held_cells Hbox_w9.out
    obtain ⟨ffx0, ffx1⟩ := held_cells Hg5_w9.out
    go_wp2_with fail
    have HSall : Hid (∀ wx, Below w9.heap.size w9 wx → wx.cell? ⟨w.heap.size, 0, none⟩ = some vp ∧ wx.cell? ⟨w.heap.size, 1, none⟩ = some vl ∧ wx.cell? ⟨g5, 0, none⟩ = some (.slice x5 ps.length c5) ∧ wx.cell? ⟨g5, 1, none⟩ = some (.slice y5 ls.length d5)) := hide (fun wx hb => by
      have h1 := (held_below Hbox_w9.out hb).is
      have h2 := (held_below Hg5_w9.out hb).is
      exact ⟨(cell_at h1 0).1, (cell_at h1 1).1, (cell_at h2 0).1, (cell_at h2 1).1⟩)
    have hS0 := HSall.out w9 (Below.refl _ _)
    clear ffb0 ffb1 ffx0 ffx1
    go_region_held3 (fun wx => wx.cell? ⟨w.heap.size, 0, none⟩ = some vp ∧ wx.cell? ⟨w.heap.size, 1, none⟩ = some vl ∧ wx.cell? ⟨g5, 0, none⟩ = some (.slice x5 ps.length c5) ∧ wx.cell? ⟨g5, 1, none⟩ = some (.slice y5 ls.length d5)) (first | exact hS0 | exact hS8 | exact hS9) (first | (go_at_call 10; refine (HTo.out _ ?_).mono ?_; exact disk_below HD.out HB_w9.out.drew; rintro e w10 ⟨u10, rfl, hown, hbA⟩; have hA8 : Below w9.heap.size w9 w10 := (Below.refl _ _).drew.trans hbA; have hS8 := HSall.out _ hA8) | (go_at_call 13; refine (HEx.out _ _ _ ?_ ?_).mono ?_; exact disk_below (disk_of_own Hd5_w9.out.is.1) hA8; exact disk_of_own hown; rintro e w11 ⟨rfl, hbC⟩; have hA9 : Below w9.heap.size w9 w11 := hA8.trans (hbC.mono hA8.size); have hS9 := HSall.out _ hA9))
    have hb := hA9
    have Hbox_w11 := hide (held_below Hbox_w9.out hb)
    have Hr3_w11 := hide (held_below Hr3_w9.out hb)
    have Hd5_w11 := hide (held_below Hd5_w9.out hb)
    have Hg5_w11 := hide (held_below Hg5_w9.out hb)
    have Hr7_w11 := hide (held_below Hr7_w9.out hb)
    have HB_w11 : Hid (Below w.heap.size w w11) := hide (HB_w9.out.trans (hb.mono HB_w9.out.size))
    clear hb hA8 hA9 hbA hbC hown hS0 hS8 hS9 HSall
    have HL : Hid (w.heap.size + 1 ≤ w2.heap.size ∧ w2.heap.size ≤ w3.heap.size ∧ w3.heap.size ≤ w5.heap.size ∧ w5.heap.size = g5 ∧ g5 + 1 ≤ w6.heap.size ∧ w6.heap.size ≤ w7.heap.size) := hide ⟨Hbox_w2.out.le, HZ3.out, HZ5.out, Hgt5.out, Hg5_w6.out.le, HZ7.out⟩
    obtain ⟨ffx0, ffx1⟩ := held_cells Hg5_w11.out
    go_wp2_with fail
    clear ffx0 ffx1
    have hin5 : ∀ k, diskBlocks (.agg #[.slice x5 ps.length c5, .slice y5 ls.length d5]) k → w3.heap.size ≤ k ∧ k < w5.heap.size := fun k h => ⟨(diskOwn_lt Hd5_w11.out.is.1 k h).1, Hd5_w11.out.is.2 k h⟩
    refine (HMx.out _ _ _ Hd5_w11.out.is.1).mono ?_
    rintro e w12 ⟨rfl, hownM, hk⟩
    have Hbox_w12 := hide (held_kept Hbox_w11.out hk (fun k h1 h2 h => by have h3 := hin5 k h; have h4 := HL.out; omega))
    have Hr3_w12 := hide (held_kept Hr3_w11.out hk (fun k h1 h2 h => by have h3 := hin5 k h; have h4 := HL.out; omega))
    have Hg5_w12 := hide (held_kept Hg5_w11.out hk (fun k h1 h2 h => by have h3 := hin5 k h; have h4 := HL.out; omega))
    have Hr7_w12 := hide (held_kept Hr7_w11.out hk (fun k h1 h2 h => by have h3 := hin5 k h; have h4 := HL.out; omega))
    have HB_w12 : Hid (Below w.heap.size w w12) := hide (HB_w11.out.trans (below_of_kept hk HB_w11.out.size (fun k h => by have h3 := hin5 k h; have h4 := HL.out; omega)))
    clear hk hownM hin5
    go_wp2_with fail
    refine (HEr.out _ _ _ (row_of_own Hr7_w12.out.is.1) (row_of_own Hr3_w12.out.is.1)).mono ?_
    rintro e w13 ⟨rfl, hb⟩
    have Hbox_w13 := hide (held_below Hbox_w12.out hb)
    have Hr3_w13 := hide (held_below Hr3_w12.out hb)
    have Hg5_w13 := hide (held_below Hg5_w12.out hb)
    have Hr7_w13 := hide (held_below Hr7_w12.out hb)
    have HB_w13 : Hid (Below w.heap.size w w13) := hide (HB_w12.out.trans (hb.mono HB_w12.out.size))
    clear hb
    go_wp2_with fail
    have hin6 : ∀ k, (Value.slice x7 rl.length c7).ownBlock = some k → w6.heap.size ≤ k ∧ k < w7.heap.size := fun k h => ⟨(Hr7_w13.out.is.1.lt k h).1, Hr7_w13.out.is.2 k h⟩
    refine (HMr.out _ _ _ Hr7_w13.out.is.1).mono ?_
    rintro e w14 ⟨rfl, hownM, hk⟩
    have HrM_w14 := hide (held_prA (l' := marksQ 1 rl.length) Hr7_w13.out (by rw [marksQ_length]; exact hownM) hk.2.2.2.1)
    have Hbox_w14 := hide (held_kept Hbox_w13.out hk (fun k h1 h2 h => by have h3 := hin6 k h; have h4 := HL.out; omega))
    have Hr3_w14 := hide (held_kept Hr3_w13.out hk (fun k h1 h2 h => by have h3 := hin6 k h; have h4 := HL.out; omega))
    have Hg5_w14 := hide (held_kept Hg5_w13.out hk (fun k h1 h2 h => by have h3 := hin6 k h; have h4 := HL.out; omega))
    have HB_w14 : Hid (Below w.heap.size w w14) := hide (HB_w13.out.trans (below_of_kept hk HB_w13.out.size (fun k h => by have h3 := hin6 k h; have h4 := HL.out; omega)))
    clear hk hownM hin6
    go_wp2_with fail
    have hrow : RowAt w14 2 (.slice x7 rl.length c7) rl.length (prs (marksQ 1 rl.length)) := by have h := row_of_own HrM_w14.out.is.1; rw [marksQ_length] at h; exact h
    refine (HHr.out _ _ hrow).mono ?_
    rintro e w15 ⟨rfl, hb⟩
    clear hrow
    have Hbox_w15 := hide (held_below Hbox_w14.out hb)
    have Hr3_w15 := hide (held_below Hr3_w14.out hb)
    have Hg5_w15 := hide (held_below Hg5_w14.out hb)
    have HrM_w15 := hide (held_below HrM_w14.out hb)
    have HB_w15 : Hid (Below w.heap.size w w15) := hide (HB_w14.out.trans (hb.mono HB_w14.out.size))
    clear hb
    obtain ⟨ffb0, ffb1⟩ := held_cells Hbox_w15.out
    go_wp2_with fail
    clear ffb0 ffb1
    refine (HTo.out _ (disk_below HD.out HB_w15.out)).mono ?_
    rintro e w16 ⟨u16, rfl, hown, hb⟩
    have Hbox_w16 := hide (held_below Hbox_w15.out hb)
    have Hr3_w16 := hide (held_below Hr3_w15.out hb)
    have Hg5_w16 := hide (held_below Hg5_w15.out hb)
    have HrM_w16 := hide (held_below HrM_w15.out hb)
    have HB_w16 : Hid (Below w.heap.size w w16) := hide (HB_w15.out.trans (hb.mono HB_w15.out.size))
    clear hb
    have HO16 := hide hown
    obtain ⟨x6, c6, y6, d6, rfl⟩ := disk_form hown
    clear hown
    go_wp2_with fail
    refine (HIm.out _ _ _ _ _ _ _ (sumTab_below HT.out HB_w16.out) (disk_of_own HO16.out)).mono ?_
    rintro e w17 ⟨u17, rfl, hown, hb⟩
    have hown : w17.ownsRow w16.heap.size 80 2 u17 rl.length (prs rl) := hown
    have Hbox_w17 := hide (held_below Hbox_w16.out hb)
    have Hr3_w17 := hide (held_below Hr3_w16.out hb)
    have Hg5_w17 := hide (held_below Hg5_w16.out hb)
    have HrM_w17 := hide (held_below HrM_w16.out hb)
    have HB_w17 : Hid (Below w.heap.size w w17) := hide (HB_w16.out.trans (hb.mono HB_w16.out.size))
    clear hb HO16
    have HOr := hide hown
    obtain ⟨x8, c8, rfl⟩ := own_slice hown
    clear hown
    go_wp2_with fail
    refine (HEr.out _ _ _ (row_of_own HOr.out) (row_of_own Hr3_w17.out.is.1)).mono ?_
    rintro e w19 ⟨rfl, hb⟩
    have Hbox_w19 := hide (held_below Hbox_w17.out hb)
    have Hr3_w19 := hide (held_below Hr3_w17.out hb)
    have Hg5_w19 := hide (held_below Hg5_w17.out hb)
    have HrM_w19 := hide (held_below HrM_w17.out hb)
    have HB_w19 : Hid (Below w.heap.size w w19) := hide (HB_w17.out.trans (hb.mono HB_w17.out.size))
    clear hb
    go_wp2_with fail
    have hrow : RowAt w19 2 (.slice x7 rl.length c7) rl.length (prs (marksQ 1 rl.length)) := by have h := row_of_own HrM_w19.out.is.1; rw [marksQ_length] at h; exact h
    refine (HHr.out _ _ hrow).mono ?_
    rintro e w20 ⟨rfl, hb⟩
    clear hrow
    have Hbox_w20 := hide (held_below Hbox_w19.out hb)
    have Hr3_w20 := hide (held_below Hr3_w19.out hb)
    have Hg5_w20 := hide (held_below Hg5_w19.out hb)
    have HrM_w20 := hide (held_below HrM_w19.out hb)
    have HB_w20 : Hid (Below w.heap.size w w20) := hide (HB_w19.out.trans (hb.mono HB_w19.out.size))
    clear hb
    go_wp2_with fail
    go_ret
    exact ⟨rfl, HB_w20.out⟩
  · rw [szOut_no (by omega)] at HSz
    go_enter Tryd.func3, Tryd.ntmps3
    go_wp2_with fail
    rw [← hw0]
    refine (HSz.out _ (disk_below HD.out HB_w0.out)).mono ?_
    rintro e w1 ⟨rfl, hb1⟩
    clear hw0
    go_wp2_with fail
    go_ret
    exact ⟨rfl, HB_w0.out.trans (hb1.mono HB_w0.out.size)⟩
end Go.Proofs.YtejfmjejdopglaaDoor
