/-
  Several texts in one. Metas without a program: which are right (metaOkB), the numbers that their text tells (metaNums), the text (metaT), and what reading number by number tells. · Metas held to the rule step by step: what is known ahead of the k-th free (MSt), and within one ahead of its j-th page (PSt). · The specification's l01In and l06In by contracts. · Plain facts of sorted lists of numbers: a list has one sorted order; the step of a sort by insertion. No program. · spec.l07Sorted by a contract: a new row of the same numbers, in order. · spec.DropPage by a contract: a fresh page is usable again, another one is gone. · Rows of frees (a number and a row of pages each), read only ('FreesAt') or in new memory ('OwnF'), and the laws' own helpers over them by contracts: szFree, szFreeS, toFree, toFreeS, eqFree, eqFreeS. · Rows of frees copied and compared by contracts: toFree, toFreeS, eqFree, eqFreeS. · Metas (three numbers and frees), read only ('MetaAt') or in new memory ('MetaOwn'), and the laws' own helpers over them by contracts: szMeta, toMeta, eqMeta.
-/
import Derived.Test.YtbokjfjdjgopeaaGreatDoorRgP
import Derived.Test.YtbokjfjdjgopeaaGreatDoorIntRow
import Derived.Test.YtbokjfjdjgopeaaGreatDoorVar
import Derived.Test.YtbokjfjdjgopeaaGreatDoorRow
import Derived.BigQuiet
import Derived.Deep.RegionHeld3
import Derived.WalkKit
import Derived.Test.YtbokjfjdjgopeaaGreatDoorRgC
import Derived.Test.YtbokjfjdjgopeaaGreatDoorRgD
import Derived.Test.YtbokjfjdjgopeaaGreatDoorNode
namespace Go.Proofs.YtbokjfjdjgopeaaGreatDoor

/-- the pages of one free, held against those seen before -/
def pgsB (next : Int) : List Int → Int → List Int → Option (List Int)
  | seen, _, [] => some seen
  | seen, last, p :: ps => if 2 ≤ p ∧ p < next ∧ last < p ∧ p ∉ seen then pgsB next (seen ++ [p]) p ps else none

def freesB (tx next : Int) : List Int → Int → List (Int × List Int) → Bool
  | _, _, [] => true
  | seen, last, f :: fs => if last < f.1 ∧ f.1 ≤ tx ∧ 1 ≤ f.2.length ∧ f.2.length ≤ 40 then (match pgsB next seen 1 f.2 with | none => false | some s => freesB tx next s f.1 fs) else false

/-- the numbers of a meta but its frees -/
def headOkB (tx root next : Int) (n : Nat) : Bool := decide (0 ≤ tx ∧ tx ≤ 100000 ∧ 2 ≤ next ∧ next ≤ 40 ∧ (root = 0 ∨ 2 ≤ root ∧ root < next) ∧ n ≤ 20)

/-- a meta as plain data -/
structure Mt where
  tx : Int
  root : Int
  next : Int
  fs : List (Int × List Int)

def Mt.none : Mt := ⟨0, 0, 0, []⟩

def Mt.ok (m : Mt) : Bool := headOkB m.tx m.root m.next m.fs.length && freesB m.tx m.next [m.root] 0 m.fs

/-- the numbers that frees tell -/
def freeNums (fs : List (Int × List Int)) : List Int := fs.flatMap fun f => f.1 :: (f.2.length : Int) :: f.2

def Mt.nums (m : Mt) : List Int := m.tx :: m.root :: m.next :: (m.fs.length : Int) :: freeNums m.fs

/-- numbers in bytes -/
def numsL (l : List Int) : List UInt8 := l.flatMap fun n => vtext n.toNat

def numsB (l : List Int) : ByteArray := ⟨(numsL l).toArray⟩

/-- numbers that have a text -/
def NumsIn (l : List Int) : Prop := ∀ n ∈ l, 0 ≤ n ∧ n ≤ 1000000000

/-- a meta's text, sealed -/
def Mt.text (m : Mt) : ByteArray := ⟨(sealL (numsL m.nums)).toArray⟩

/-- there is a text -/
def Mt.good (m : Mt) : Bool := m.ok && decide ((numsL m.nums).length + 4 ≤ 240)

theorem numsL_snoc (l : List Int) (n : Int) : numsL (l ++ [n]) = numsL l ++ vtext n.toNat := by simp [numsL]

theorem numsL_append (l m : List Int) : numsL (l ++ m) = numsL l ++ numsL m := by simp [numsL]

theorem numsL_cons (n : Int) (l : List Int) : numsL (n :: l) = vtext n.toNat ++ numsL l := by simp [numsL]

theorem numsB_snoc (l : List Int) (n : Int) : numsB (l ++ [n]) = numsB l ++ ⟨(vtext n.toNat).toArray⟩ := by
  apply ByteArray.ext
  simp [numsB, numsL_snoc, ByteArray.data_append]

theorem numsB_append (l m : List Int) : numsB (l ++ m) = numsB l ++ numsB m := by
  apply ByteArray.ext
  simp [numsB, numsL_append, ByteArray.data_append]

theorem numsB_nil : numsB [] = ⟨#[]⟩ := rfl

theorem numsB_list (l : List Int) : (numsB l).data.toList = numsL l := by simp [numsB]

theorem numsL_size (l : List Int) : l.length ≤ (numsL l).length ∧ (numsL l).length ≤ 5 * l.length := by
  induction l with
  | nil => simp [numsL]
  | cons n l ih =>
    have := vtext_length n.toNat
    rw [numsL_cons, List.length_append, List.length_cons]
    omega

theorem numsB_size (l : List Int) : (numsB l).size = (numsL l).length := by rw [← numsB_list, ba_len]

theorem freeNums_append (a b : List (Int × List Int)) : freeNums (a ++ b) = freeNums a ++ freeNums b := by simp [freeNums]

theorem freeNums_cons (f : Int × List Int) (b : List (Int × List Int)) : freeNums (f :: b) = f.1 :: (f.2.length : Int) :: (f.2 ++ freeNums b) := by simp [freeNums]

theorem freeNums_snoc (a : List (Int × List Int)) (f : Int × List Int) : freeNums (a ++ [f]) = freeNums a ++ (f.1 :: (f.2.length : Int) :: f.2) := by simp [freeNums]

theorem freeNums_len (fs : List (Int × List Int)) (h : ∀ f ∈ fs, f.2.length ≤ 40) : (freeNums fs).length ≤ 42 * fs.length := by
  induction fs with
  | nil => simp [freeNums]
  | cons f fs ih =>
    have h1 := ih (fun g hg => h g (List.mem_cons_of_mem _ hg))
    have h2 := h f List.mem_cons_self
    rw [freeNums_cons]
    simp
    omega

theorem pgsB_in {next : Int} {seen s : List Int} {last : Int} {ps : List Int} (h : pgsB next seen last ps = some s) : ∀ p ∈ ps, 2 ≤ p ∧ p < next := by
  induction ps generalizing seen last with
  | nil => intro p hp; cases hp
  | cons q ps ih =>
    rw [pgsB] at h
    split at h
    · next hq =>
      intro p hp
      rcases List.mem_cons.1 hp with rfl | hp
      · exact ⟨hq.1, hq.2.1⟩
      · exact ih h p hp
    · cases h

theorem freesB_in {tx next : Int} {seen : List Int} {last : Int} {fs : List (Int × List Int)} (h0 : 0 ≤ last) (h : freesB tx next seen last fs = true) : ∀ f ∈ fs, 1 ≤ f.1 ∧ f.1 ≤ tx ∧ 1 ≤ f.2.length ∧ f.2.length ≤ 40 ∧ ∀ p ∈ f.2, 2 ≤ p ∧ p < next := by
  induction fs generalizing seen last with
  | nil => intro p hp; cases hp
  | cons g fs ih =>
    rw [freesB] at h
    split at h
    · next hq =>
      split at h
      · cases h
      · next s hs =>
        intro f hf
        rcases List.mem_cons.1 hf with rfl | hf
        · exact ⟨by omega, hq.2.1, hq.2.2.1, hq.2.2.2, pgsB_in hs⟩
        · exact ih (by omega) h f hf
    · cases h

theorem ok_parts {m : Mt} (h : m.ok = true) : (0 ≤ m.tx ∧ m.tx ≤ 100000 ∧ 2 ≤ m.next ∧ m.next ≤ 40 ∧ (m.root = 0 ∨ 2 ≤ m.root ∧ m.root < m.next) ∧ m.fs.length ≤ 20) ∧ ∀ f ∈ m.fs, 1 ≤ f.1 ∧ f.1 ≤ m.tx ∧ 1 ≤ f.2.length ∧ f.2.length ≤ 40 ∧ ∀ p ∈ f.2, 2 ≤ p ∧ p < m.next := by
  rw [Mt.ok, Bool.and_eq_true, headOkB, decide_eq_true_eq] at h
  exact ⟨h.1, freesB_in (Int.le_refl _) h.2⟩

theorem nums_in {m : Mt} (h : m.ok = true) : ∀ n ∈ m.nums, 0 ≤ n ∧ n ≤ 100000 := by
  obtain ⟨⟨h1, h2, h3, h4, h5, h6⟩, h7⟩ := ok_parts h
  intro n hn
  rw [Mt.nums] at hn
  simp only [List.mem_cons] at hn
  rcases hn with rfl | rfl | rfl | rfl | hn
  · omega
  · omega
  · omega
  · omega
  · rw [freeNums, List.mem_flatMap] at hn
    obtain ⟨f, hf, hn⟩ := hn
    obtain ⟨g1, g2, g3, g4, g5⟩ := h7 f hf
    simp only [List.mem_cons] at hn
    rcases hn with rfl | rfl | hn
    · omega
    · omega
    · have := g5 n hn; omega

theorem ok_numsIn {m : Mt} (h : m.ok = true) : NumsIn m.nums := fun n hn => by
  have := nums_in h n hn
  omega

theorem nums_len {m : Mt} (h : m.ok = true) : m.nums.length ≤ 844 := by
  obtain ⟨⟨h1, h2, h3, h4, h5, h6⟩, h7⟩ := ok_parts h
  have := freeNums_len m.fs (fun f hf => (h7 f hf).2.2.2.1)
  simp [Mt.nums]
  omega

theorem nums_size {m : Mt} (h : m.ok = true) : (numsB m.nums).size ≤ 4220 ∧ 4 ≤ (numsB m.nums).size := by
  rw [numsB_size]
  have h1 := numsL_size m.nums
  have h2 := nums_len h
  have h3 : 4 ≤ m.nums.length := by simp [Mt.nums]
  omega

/-- what was read so far: ns, up to p -/
def Got (s : ByteArray) (p : Nat) (ns : List Int) : Prop := NumsIn ns ∧ p ≤ s.size ∧ s.extract 0 p = numsB ns

theorem got_start (s : ByteArray) : Got s 0 [] := ⟨fun n h => (by cases h), Nat.zero_le _, by rw [numsB_nil]; apply ByteArray.ext; simp⟩

theorem got_next {s : ByteArray} {p q n : Nat} {ns : List Int} (h : Got s p ns) (hr : rdV s p = some (n, q)) : Got s q (ns ++ [(n : Int)]) := by
  obtain ⟨h1, h2, h3, h4⟩ := rdV_back hr
  refine ⟨fun k hk => ?_, h2, ?_⟩
  · rcases List.mem_append.1 hk with hk | hk
    · exact h.1 k hk
    · rw [List.mem_singleton] at hk; omega
  · rw [extract_two s 0 p q (Nat.zero_le _) (by omega), h.2.2, h4, numsB_snoc, Int.toNat_natCast]

theorem got_place {s : ByteArray} {p : Nat} {ns : List Int} (h : Got s p ns) : p = (numsB ns).size := by
  rw [← h.2.2, ByteArray.size_extract]
  have := h.2.1
  omega

theorem numsB_cons (n : Int) (l : List Int) : numsB (n :: l) = ⟨(vtext n.toNat).toArray⟩ ++ numsB l := by
  apply ByteArray.ext
  simp [numsB, numsL_cons, ByteArray.data_append]

/-- what is written behind what was read is read next -/
theorem got_reads {s : ByteArray} {p : Nat} {ns rest : List Int} {n : Int} (h : Got s p ns) (hn : 0 ≤ n ∧ n ≤ 1000000000) (hs : s = numsB (ns ++ n :: rest)) : ∃ q, rdV s p = some (n.toNat, q) := by
  have h1 := rdV_at s (numsB ns) (numsB rest) n.toNat (by omega) (by rw [hs, numsB_append, numsB_cons, ByteArray.append_assoc])
  rw [← got_place h] at h1
  exact ⟨_, h1⟩

theorem numsB_pos (n : Int) (l : List Int) : 0 < (numsB (n :: l)).size := by
  rw [numsB_size]
  have := (numsL_size (n :: l)).1
  simp at this
  omega

/-- numbers read are a beginning of those written -/
theorem got_begins {s : ByteArray} {p : Nat} {ns N : List Int} (h : Got s p ns) (hN : NumsIn N) (hs : s = numsB N) : ∃ rest, N = ns ++ rest := by
  have key : ∀ (a b pre : List Int) (X : ByteArray), NumsIn a → NumsIn b → (numsB pre ++ numsB a) ++ X = numsB pre ++ numsB b → ∃ rest, b = a ++ rest := by
    intro a
    induction a with
    | nil => intro b _ _ _ _ _; exact ⟨b, rfl⟩
    | cons x a ih =>
      intro b pre X ha hb he
      cases b with
      | nil =>
        exfalso
        have := congrArg ByteArray.size he
        rw [ByteArray.size_append, ByteArray.size_append, ByteArray.size_append] at this
        have h1 := numsB_pos x a
        rw [numsB_nil, show (⟨#[]⟩ : ByteArray).size = 0 from rfl] at this
        omega
      | cons y b =>
        have hx := ha x List.mem_cons_self
        have hy := hb y List.mem_cons_self
        have r1 := rdV_at ((numsB pre ++ numsB (x :: a)) ++ X) (numsB pre) (numsB a ++ X) x.toNat (by omega) (by rw [numsB_cons]; simp only [ByteArray.append_assoc])
        have r2 := rdV_at (numsB pre ++ numsB (y :: b)) (numsB pre) (numsB b) y.toNat (by omega) (by rw [numsB_cons]; simp only [ByteArray.append_assoc])
        rw [he, r2] at r1
        injection r1 with r1
        injection r1 with r1 _
        have hxy : x = y := by omega
        subst hxy
        have := ih b (pre ++ [x]) X (fun n hn => ha n (List.mem_cons_of_mem _ hn)) (fun n hn => hb n (List.mem_cons_of_mem _ hn)) (by
          rw [numsB_append]
          rw [numsB_cons x a, numsB_cons x b] at he
          rw [show numsB [x] = ⟨(vtext x.toNat).toArray⟩ from by rw [numsB_cons, numsB_nil]; apply ByteArray.ext; simp [ByteArray.data_append]]
          simpa only [ByteArray.append_assoc] using he)
        obtain ⟨rest, hr⟩ := this
        exact ⟨rest, by rw [hr]; rfl⟩
  have hp := h.2.1
  have h0 : s = s.extract 0 p ++ s.extract p s.size := by
    rw [← extract_two s 0 p s.size (Nat.zero_le _) hp]
    apply ByteArray.ext
    simp
  refine key ns N [] (s.extract p s.size) h.1 hN ?_
  rw [numsB_nil, ← h.2.2, show (⟨#[]⟩ : ByteArray) ++ s.extract 0 p = s.extract 0 p from by apply ByteArray.ext; simp [ByteArray.data_append], ← h0, hs]
  apply ByteArray.ext
  simp [ByteArray.data_append]

/-- frees whose numbers begin frees' numbers -/
theorem frees_begin : ∀ (fs gs : List (Int × List Int)) (X Y : List Int), freeNums gs = freeNums fs ++ X ++ Y → fs.length ≤ gs.length → ∃ rest, gs = fs ++ rest ∧ freeNums rest = X ++ Y
  | [], gs, X, Y, h, _ => ⟨gs, rfl, by simpa [freeNums] using h⟩
  | f :: fs, [], X, Y, _, hl => by simp at hl
  | f :: fs, g :: gs, X, Y, h, hl => by
    rw [freeNums_cons, freeNums_cons] at h
    simp only [List.cons_append, List.cons.injEq] at h
    obtain ⟨h1, h2, h3⟩ := h
    have hlen : g.2.length = f.2.length := by omega
    rw [List.append_assoc, List.append_assoc] at h3
    have h4 := List.append_inj h3 hlen
    obtain ⟨rest, r1, r2⟩ := frees_begin fs gs X Y (by rw [List.append_assoc]; exact h4.2) (by simpa using hl)
    refine ⟨rest, ?_, r2⟩
    rw [r1]
    have : g = f := Prod.ext h1 h4.1
    rw [this]
    rfl
end Go.Proofs.YtbokjfjdjgopeaaGreatDoor

namespace Go.Proofs.YtbokjfjdjgopeaaGreatDoor

def MSt (tx root next : Int) (fs : List (Int × List Int)) (k : Nat) (seen : List Int) (last : Int) : Prop :=
  seen.length ≤ 1 + 40 * k ∧ freesB tx next seen last (fs.drop k) = freesB tx next [root] 0 fs ∧ 0 ≤ last ∧ (k = 0 → last = 0) ∧ (∀ f, 0 < k → fs[k - 1]? = some f → f.1 = last) ∧ root ∈ seen ∧ ∀ x ∈ seen, x = root ∨ (2 ≤ x ∧ x < next)

def PSt (next : Int) (seen0 ps : List Int) (j : Nat) (seen : List Int) (prev : Int) : Prop :=
  seen.length = seen0.length + j ∧ pgsB next seen prev (ps.drop j) = pgsB next seen0 1 ps ∧ (j = 0 → prev = 1) ∧ (∀ x, 0 < j → ps[j - 1]? = some x → x = prev) ∧ (0 < j → prev ∈ seen) ∧ (∀ x, x ∈ seen0 → x ∈ seen) ∧ ∀ x ∈ seen, x ∈ seen0 ∨ (2 ≤ x ∧ x < next)

theorem mst_start (tx root next : Int) (fs : List (Int × List Int)) : MSt tx root next fs 0 [root] 0 :=
  ⟨by simp, by simp, Int.le_refl _, fun _ => rfl, fun f h => by omega, by simp, fun x hx => Or.inl (by simpa using hx)⟩

theorem drop_at {α : Type} {l : List α} {k : Nat} {x : α} (h : l[k]? = some x) : l.drop k = x :: l.drop (k + 1) := by
  obtain ⟨hk, e⟩ := List.getElem?_eq_some_iff.1 h
  rw [List.drop_eq_getElem_cons hk, e]

theorem mst_end {tx root next : Int} {fs : List (Int × List Int)} {k : Nat} {seen : List Int} {last : Int} (h : MSt tx root next fs k seen last) (hk : fs.length ≤ k) : freesB tx next [root] 0 fs = true := by
  rw [← h.2.1, List.drop_eq_nil_of_le hk, freesB]

theorem mst_bad {tx root next : Int} {fs : List (Int × List Int)} {k : Nat} {seen : List Int} {last ftx : Int} {ps : List Int} (h : MSt tx root next fs k seen last) (hf : fs[k]? = some (ftx, ps)) (hb : ¬ (last < ftx ∧ ftx ≤ tx ∧ 1 ≤ ps.length ∧ ps.length ≤ 40)) : freesB tx next [root] 0 fs = false := by
  rw [← h.2.1, drop_at hf, freesB, if_neg hb]

theorem mst_none {tx root next : Int} {fs : List (Int × List Int)} {k : Nat} {seen : List Int} {last ftx : Int} {ps : List Int} (h : MSt tx root next fs k seen last) (hf : fs[k]? = some (ftx, ps)) (hb : pgsB next seen 1 ps = none) : freesB tx next [root] 0 fs = false := by
  rw [← h.2.1, drop_at hf, freesB]
  split
  · rw [hb]
  · rfl

theorem mst_next {tx root next : Int} {fs : List (Int × List Int)} {k : Nat} {seen s : List Int} {last ftx : Int} {ps : List Int} (h : MSt tx root next fs k seen last) (hf : fs[k]? = some (ftx, ps)) (hb : last < ftx ∧ ftx ≤ tx ∧ 1 ≤ ps.length ∧ ps.length ≤ 40)
    {prev : Int} (hp : PSt next seen ps ps.length s prev) : MSt tx root next fs (k + 1) s ftx := by
  obtain ⟨p1, p2, p3, p4, p5, p6, p7⟩ := hp
  rw [List.drop_length, pgsB] at p2
  refine ⟨by have := h.1; omega, ?_, by have := h.2.2.1; omega, fun e => by omega, fun f _ e => ?_, p6 _ h.2.2.2.2.2.1, fun x hx => ?_⟩
  · rw [← h.2.1, drop_at hf, freesB, if_pos hb]
    simp only [← p2]
  · rw [Nat.add_sub_cancel, hf] at e
    injection e with e
    rw [← e]
  · rcases p7 x hx with h1 | h1
    · exact h.2.2.2.2.2.2 x h1
    · exact Or.inr h1

theorem pst_start (next : Int) (seen ps : List Int) : PSt next seen ps 0 seen 1 := ⟨rfl, by simp, fun _ => rfl, fun x h => by omega, fun h => by omega, fun x h => h, fun x h => Or.inl h⟩

theorem pst_bad {next : Int} {seen0 ps : List Int} {j : Nat} {seen : List Int} {prev p : Int} (h : PSt next seen0 ps j seen prev) (hf : ps[j]? = some p) (hb : ¬ (2 ≤ p ∧ p < next ∧ prev < p ∧ p ∉ seen)) : pgsB next seen0 1 ps = none := by
  rw [← h.2.1, drop_at hf, pgsB, if_neg hb]

theorem pst_next {next : Int} {seen0 ps : List Int} {j : Nat} {seen : List Int} {prev p : Int} (h : PSt next seen0 ps j seen prev) (hf : ps[j]? = some p) (hb : 2 ≤ p ∧ p < next ∧ prev < p ∧ p ∉ seen) : PSt next seen0 ps (j + 1) (seen ++ [p]) p := by
  refine ⟨by rw [List.length_append]; have := h.1; simp; omega, ?_, fun e => by omega, fun x _ e => ?_, fun _ => by simp, fun x hx => List.mem_append_left _ (h.2.2.2.2.2.1 x hx), fun x hx => ?_⟩
  · rw [← h.2.1, drop_at hf, pgsB, if_pos hb]
  · rw [Nat.add_sub_cancel, hf] at e
    injection e with e
    exact e.symm
  · rcases List.mem_append.1 hx with h1 | h1
    · exact h.2.2.2.2.2.2 x h1
    · rw [List.mem_singleton] at h1
      subst h1
      exact Or.inr ⟨hb.1, hb.2.1⟩

theorem ok_head {m : Mt} (h : headOkB m.tx m.root m.next m.fs.length = false) : m.ok = false := by rw [Mt.ok, h]; rfl

theorem ok_frees {m : Mt} (h : headOkB m.tx m.root m.next m.fs.length = true) : m.ok = freesB m.tx m.next [m.root] 0 m.fs := by rw [Mt.ok, h]; rfl
end Go.Proofs.YtbokjfjdjgopeaaGreatDoor

namespace Go.Proofs.YtbokjfjdjgopeaaGreatDoor
open Go.RowKit

theorem in_dec (x a b : Int) (w : World) : Calls Tryz.prog 57 #[.int .i64 x, .int .i64 a, .int .i64 b] w fun e w' => e = .returned (.bool (decide (a ≤ x ∧ x ≤ b))) ∧ w = w' := by
  by_cases h : a ≤ x ∧ x ≤ b
  · rw [decide_eq_true h]; exact l01In_yes x a b w h.1 h.2
  · rw [decide_eq_false h]; exact l01In_no x a b w (by omega)

theorem bel_dn {B : Nat} {a b : World} {n : Nat} (h : Below B a b) : Below B a (b.drewN n) := below_drewN h n

end Go.Proofs.YtbokjfjdjgopeaaGreatDoor

namespace Go.Proofs.YtbokjfjdjgopeaaGreatDoor

def Srt (l : List Int) : Prop := l.Pairwise (fun x y => x ≤ y)

theorem srt_one {l m : List Int} (h : l.Perm m) (hl : Srt l) (hm : Srt m) : l = m :=
  h.eq_of_pairwise (fun _ _ _ _ h1 h2 => Int.le_antisymm h1 h2) hl hm

/-- the sort by insertion, in the midst of its inner loop: what lies up to i is in order, but what is at k may be too great a place up -/
structure InsI (l0 l : List Int) (i k : Nat) : Prop where
  perm : l.Perm l0
  ki : k ≤ i
  il : i < l.length
  ord : ∀ a b, a < b → b ≤ i → b ≠ k → l.getD a 0 ≤ l.getD b 0

theorem srt_of {l : List Int} (h : ∀ a b, a < b → b < l.length → l.getD a 0 ≤ l.getD b 0) : Srt l := by
  rw [Srt, List.pairwise_iff_getElem]
  intro i j hi hj hij
  have := h i j hij hj
  simpa [List.getD_eq_getElem?_getD, hi, hj] using this

/-- the list with its k-th and the one ahead of it exchanged -/
def xch (l : List Int) (k : Nat) : List Int := (l.set k (l.getD (k - 1) 0)).set (k - 1) (l.getD k 0)

theorem xch_length (l : List Int) (k : Nat) : (xch l k).length = l.length := by simp [xch]

theorem xch_perm (l : List Int) (k : Nat) (h : k < l.length) : (xch l k).Perm l := by
  have h1 : k - 1 < l.length := by omega
  have := List.set_set_perm (i := k) (j := k - 1) h h1
  simpa [xch, List.getD_eq_getElem?_getD, h, h1] using this

theorem xch_at (l : List Int) (k a : Nat) (hk : 0 < k) (h : k < l.length) : (xch l k).getD a 0 = if a = k then l.getD (k - 1) 0 else if a = k - 1 then l.getD k 0 else l.getD a 0 := by
  have h1 : k - 1 < l.length := by omega
  simp only [xch, List.getD_eq_getElem?_getD, List.getElem?_set, List.length_set]
  by_cases e1 : a = k
  · subst e1
    have : ¬ a - 1 = a := by omega
    simp [this, h]
  · by_cases e2 : a = k - 1
    · subst e2; simp [h1, e1]
    · have g1 : ¬ k - 1 = a := fun e => e2 e.symm
      have g2 : ¬ k = a := fun e => e1 e.symm
      simp [g1, g2, e1, e2]

theorem InsI.step {l0 l : List Int} {i k : Nat} (h : InsI l0 l i k) (hk : 0 < k) (hgt : l.getD k 0 < l.getD (k - 1) 0) : InsI l0 (xch l k) i (k - 1) where
  perm := (xch_perm l k (Nat.lt_of_le_of_lt h.ki h.il)).trans h.perm
  ki := by have := h.ki; omega
  il := by rw [xch_length]; exact h.il
  ord a b hab hb hbk := by
    have hkl := Nat.lt_of_le_of_lt h.ki h.il
    rw [xch_at l k a hk hkl, xch_at l k b hk hkl]
    by_cases b1 : b = k
    · subst b1
      rw [if_pos rfl, if_neg (by omega)]
      by_cases a1 : a = b - 1
      · rw [if_pos a1]; omega
      · rw [if_neg a1]; exact h.ord a (b - 1) (by omega) (by omega) (by omega)
    · rw [if_neg b1, if_neg hbk]
      by_cases a1 : a = k
      · rw [if_pos a1]; exact h.ord (k - 1) b (by omega) hb b1
      · rw [if_neg a1]
        by_cases a2 : a = k - 1
        · rw [if_pos a2]; have := h.ord k b (by omega) hb b1; exact this
        · rw [if_neg a2]; exact h.ord a b hab hb b1

theorem InsI.fin {l0 l : List Int} {i k : Nat} (h : InsI l0 l i k) (hd : k = 0 ∨ ¬ (l.getD k 0 < l.getD (k - 1) 0)) : ∀ a b, a < b → b ≤ i → l.getD a 0 ≤ l.getD b 0 := by
  intro a b hab hb
  by_cases b1 : b = k
  · subst b1
    rcases hd with hd | hd
    · omega
    · by_cases a1 : a = b - 1
      · rw [a1]; omega
      · have := h.ord a (b - 1) (by omega) (by omega) (by omega); omega
  · exact h.ord a b hab hb b1
end Go.Proofs.YtbokjfjdjgopeaaGreatDoor

namespace Go.Proofs.YtbokjfjdjgopeaaGreatDoor
open Go.RowKit

theorem at_getD {l : List Int} {k : Nat} (h : k < l.length) : (ints l)[k]? = some (.int .i64 (l.getD k 0)) := by rw [ints_at l k h]; simp [List.getD_eq_getElem?_getD, h]

end Go.Proofs.YtbokjfjdjgopeaaGreatDoor

namespace Go.Proofs.YtbokjfjdjgopeaaGreatDoor
open Go.RowKit

theorem rowForm {w : World} {sz n : Nat} {v : Value} {xs : List Value} (h : RowAt w sz v n xs) : ∃ a cap, v = .slice a n cap := by
  obtain ⟨-, a, cap, e, -⟩ := h
  exact ⟨a, cap, e⟩

theorem srt_mergeL (l : List Int) : Srt (l.mergeSort fun x y => decide (x ≤ y)) := by
  have h := List.pairwise_mergeSort (le := fun x y : Int => decide (x ≤ y)) (fun a b c h1 h2 => by simp at h1 h2 ⊢; omega) (fun a b => by simp; omega) l
  exact h.imp (fun h => by simpa using h)

def srtL (l : List Int) : List Int := l.mergeSort fun x y => decide (x ≤ y)

theorem srtL_of {l m : List Int} (h : m.Perm l) (hs : Srt m) : m = srtL l := srt_one (h.trans (List.mergeSort_perm _ _).symm) hs (srt_mergeL _)

theorem srtL_len (l : List Int) : (srtL l).length = l.length := List.length_mergeSort _

def dropS (k : Wk) (page : Int) : Wk := if page ∈ k.fs then { k with us := srtL (k.us ++ [page]), fs := k.fs.filter (fun x => x != page) } else { k with gs := k.gs ++ [page] }

end Go.Proofs.YtbokjfjdjgopeaaGreatDoor

namespace Go.Proofs.YtbokjfjdjgopeaaGreatDoor
open Go.RowKit

/-- the cells of a row of frees: a number, and the value of the row of pages -/
def frs (l : List (Int × Value)) : List Value := l.flatMap fun p => [.int .i64 p.1, p.2]

theorem frs_cons (p : Int × Value) (l : List (Int × Value)) : frs (p :: l) = Value.int .i64 p.1 :: p.2 :: frs l := rfl

theorem frs_append (l m : List (Int × Value)) : frs (l ++ m) = frs l ++ frs m := by simp [frs]

theorem frs_length (l : List (Int × Value)) : (frs l).length = l.length * 2 := by
  induction l with
  | nil => rfl
  | cons p l ih => rw [frs_cons, List.length_cons, List.length_cons, ih, List.length_cons]; omega

theorem frs_at (l : List (Int × Value)) : ∀ k p, l[k]? = some p → (frs l)[k * 2]? = some (.int .i64 p.1) ∧ (frs l)[k * 2 + 1]? = some p.2 := by
  induction l with
  | nil => intro k p h; simp at h
  | cons q l ih =>
    intro k p h
    rw [frs_cons]
    cases k with
    | zero => simp at h; subst h; exact ⟨rfl, rfl⟩
    | succ k =>
      have := ih k p (by simpa using h)
      rw [show (k + 1) * 2 = k * 2 + 1 + 1 from by omega]
      simpa using this

theorem frs_set (l : List (Int × Value)) : ∀ (k : Nat) (x : Int) (u : Value), k < l.length → ((frs l).set (k * 2) (.int .i64 x)).set (k * 2 + 1) u = frs (l.set k (x, u)) := by
  induction l with
  | nil => intro k p x h; simp at h
  | cons q l ih =>
    intro k x u h
    cases k with
    | zero => rfl
    | succ k =>
      have h2 := ih k x u (by simpa using h)
      rw [List.set_cons_succ, frs_cons, show (k + 1) * 2 = k * 2 + 1 + 1 from by omega, frs_cons, ← h2]
      rfl

theorem frs_set0 (l : List (Int × Value)) : ∀ (k : Nat) (x : Int) (p : Int × Value), l[k]? = some p → (frs l).set (k * 2) (.int .i64 x) = frs (l.set k (x, p.2)) := by
  induction l with
  | nil => intro k x p h; simp at h
  | cons q l ih =>
    intro k x p h
    cases k with
    | zero => simp at h; subst h; rfl
    | succ k =>
      have h2 := ih k x p (by simpa using h)
      rw [List.set_cons_succ, frs_cons, show (k + 1) * 2 = k * 2 + 1 + 1 from by omega, frs_cons, ← h2]
      rfl

theorem frs_made (n : Nat) : (madeCells #[Value.int .i64 0, .slice none 0 0] (n * 2)).toList = frs (List.replicate n (0, .slice none 0 0)) := by
  apply List.ext_getElem?
  intro i
  have hlen : (frs (List.replicate n ((0 : Int), Value.slice none 0 0))).length = n * 2 := by rw [frs_length, List.length_replicate]
  by_cases hi : i < n * 2
  · have h1 : (madeCells #[Value.int .i64 0, .slice none 0 0] (n * 2)).toList[i]? = some (#[Value.int .i64 0, .slice none 0 0][i % 2]!) := by
      simp [madeCells, hi]
    have h2 := frs_at (List.replicate n ((0 : Int), Value.slice none 0 0)) (i / 2) (0, .slice none 0 0) (by rw [List.getElem?_replicate, if_pos (by omega)])
    rw [h1]
    rcases Nat.mod_two_eq_zero_or_one i with h | h
    · rw [h, show i = i / 2 * 2 from by omega, h2.1]; simp
    · rw [h, show i = i / 2 * 2 + 1 from by omega, h2.2]; simp
  · rw [List.getElem?_eq_none (by simp [madeCells]; omega), List.getElem?_eq_none (by rw [hlen]; omega)]

/-- a row of frees that reads so -/
def FreesAt (w : World) (v : Value) (fs : List (Int × List Int)) : Prop :=
  ∃ l : List (Int × Value), l.length = fs.length ∧ RowAt w 2 v fs.length (frs l) ∧ ∀ (k : Nat) (p : Int × Value) (f : Int × List Int), l[k]? = some p → fs[k]? = some f → p.1 = f.1 ∧ RowAt w 1 p.2 f.2.length (ints f.2)

theorem frees_below {w w' : World} {v : Value} {fs : List (Int × List Int)} (h : FreesAt w v fs) (hb : Below w.heap.size w w') : FreesAt w' v fs := by
  obtain ⟨l, h1, h2, h3⟩ := h
  exact ⟨l, h1, row_below h2 hb, fun k p f hp hf => ⟨(h3 k p f hp hf).1, row_below (h3 k p f hp hf).2 hb⟩⟩

theorem frees_slice {w : World} {v : Value} {fs : List (Int × List Int)} (h : FreesAt w v fs) : ∃ a cap, v = .slice a fs.length cap := by
  obtain ⟨l, h1, h2, h3⟩ := h
  obtain ⟨-, a, cap, e, -⟩ := h2
  exact ⟨a, cap, e⟩

theorem frees_at {w : World} {a : Option Addr} {n cap : Nat} {fs : List (Int × List Int)} (h : FreesAt w (.slice a n cap) fs) {k : Nat} {tx : Int} {ps : List Int} (hk : fs[k]? = some (tx, ps)) :
    ∃ b off x c, a = some ⟨b, off, none⟩ ∧ b < w.heap.size ∧ w.cell? ⟨b, off + k * 2, none⟩ = some (.int .i64 tx) ∧ w.cell? ⟨b, off + k * 2 + 1, none⟩ = some (.slice x ps.length c) ∧ RowAt w 1 (.slice x ps.length c) ps.length (ints ps) := by
  obtain ⟨l, h1, h2, h3⟩ := h
  have hlt : k < fs.length := (List.getElem?_eq_some_iff.1 hk).1
  obtain ⟨p, hp⟩ : ∃ p, l[k]? = some p := ⟨_, List.getElem?_eq_getElem (by omega)⟩
  obtain ⟨e1, e2⟩ := h3 k p _ hp hk
  obtain ⟨-, a', cap', e, hr⟩ := h2
  injection e with e _ _
  subst e
  rcases hr with h0 | ⟨b, off, rfl, hb, hc⟩
  · omega
  · obtain ⟨x, c, hx⟩ : ∃ x c, p.2 = .slice x ps.length c := by obtain ⟨-, x, c, e, -⟩ := e2; exact ⟨x, c, e⟩
    rw [hx] at e2
    refine ⟨b, off, x, c, rfl, hb, ?_, ?_, e2⟩
    · rw [hc (k * 2) (by omega), (frs_at l k p hp).1, e1]
    · rw [Nat.add_assoc, hc (k * 2 + 1) (by omega), (frs_at l k p hp).2, hx]

/-- frees of which the first k are in memory of their own: no two rows share a block -/
def OwnTo (w : World) (B : Nat) (m : List (Int × Value)) (fs : List (Int × List Int)) (k : Nat) : Prop :=
  m.length = fs.length ∧ (∀ (i : Nat) (p : Int × Value) (f : Int × List Int), i < k → m[i]? = some p → fs[i]? = some f → p.1 = f.1 ∧ w.ownsRow B 3 1 p.2 f.2.length (ints f.2)) ∧ ∀ (i j : Nat) (p q : Int × Value) (b : Nat), i < k → j < k → m[i]? = some p → m[j]? = some q → p.2.ownBlock = some b → q.2.ownBlock = some b → i = j

def OwnF (w : World) (B : Nat) (v : Value) (m : List (Int × Value)) (fs : List (Int × List Int)) : Prop := w.ownsRow B 128 2 v fs.length (frs m) ∧ OwnTo w B m fs fs.length

theorem ownTo_kept {w w' : World} {B k : Nat} {m : List (Int × Value)} {fs : List (Int × List Int)} {S : Nat → Prop} (h : OwnTo w B m fs k) (hk : Kept w w' S) (hS : ∀ (i : Nat) (p : Int × Value) (b : Nat), i < k → m[i]? = some p → p.2.ownBlock = some b → ¬ S b) : OwnTo w' B m fs k :=
  ⟨h.1, fun i p f hi hp hf => ⟨(h.2.1 i p f hi hp hf).1, own_kept (h.2.1 i p f hi hp hf).2 hk (fun b hb => hS i p b hi hp hb)⟩, h.2.2⟩

theorem ownTo_stays {w w' : World} {B k : Nat} {m : List (Int × Value)} {fs : List (Int × List Int)} (h : OwnTo w B m fs k) (hb : Below w.heap.size w w') : OwnTo w' B m fs k :=
  ⟨h.1, fun i p f hi hp hf => ⟨(h.2.1 i p f hi hp hf).1, own_stays (h.2.1 i p f hi hp hf).2 hb⟩, h.2.2⟩

theorem ownTo_down {w : World} {B B' k : Nat} {m : List (Int × Value)} {fs : List (Int × List Int)} (h : OwnTo w B m fs k) (hb : B' ≤ B) : OwnTo w B' m fs k :=
  ⟨h.1, fun i p f hi hp hf => ⟨(h.2.1 i p f hi hp hf).1, own_down (h.2.1 i p f hi hp hf).2 hb⟩, h.2.2⟩

theorem ownF_stays {w w' : World} {B : Nat} {v : Value} {m : List (Int × Value)} {fs : List (Int × List Int)} (h : OwnF w B v m fs) (hb : Below w.heap.size w w') : OwnF w' B v m fs := ⟨own_stays h.1 hb, ownTo_stays h.2 hb⟩

theorem ownF_down {w : World} {B B' : Nat} {v : Value} {m : List (Int × Value)} {fs : List (Int × List Int)} (h : OwnF w B v m fs) (hb : B' ≤ B) : OwnF w B' v m fs := ⟨own_down h.1 hb, ownTo_down h.2 hb⟩

theorem frees_of_own {w : World} {B : Nat} {v : Value} {m : List (Int × Value)} {fs : List (Int × List Int)} (h : OwnF w B v m fs) : FreesAt w v fs :=
  ⟨m, h.2.1, row_of_own h.1, fun k p f hp hf => ⟨(h.2.2.1 k p f (List.getElem?_eq_some_iff.1 hf).1 hp hf).1, row_of_own (h.2.2.1 k p f (List.getElem?_eq_some_iff.1 hf).1 hp hf).2⟩⟩

theorem Tryz.free_int : (128 : Nat) ≠ 3 := by decide

/-- the blocks of frees: the row's own, and those of the pages -/
def freeBlocks (v : Value) (m : List (Int × Value)) (b : Nat) : Prop := v.ownBlock = some b ∨ ∃ (i : Nat) (p : Int × Value), m[i]? = some p ∧ p.2.ownBlock = some b

theorem ownF_lt {w : World} {B : Nat} {v : Value} {m : List (Int × Value)} {fs : List (Int × List Int)} (h : OwnF w B v m fs) : ∀ b, freeBlocks v m b → B ≤ b ∧ b < w.heap.size := by
  rintro b (hb | ⟨i, p, hp, hb⟩)
  · exact h.1.lt b hb
  · have hi : i < fs.length := by have := (List.getElem?_eq_some_iff.1 hp).1; have := h.2.1; omega
    exact (h.2.2.1 i p _ hi hp (List.getElem?_eq_getElem hi)).2.lt b hb

theorem ownF_kept {w w' : World} {B : Nat} {v : Value} {m : List (Int × Value)} {fs : List (Int × List Int)} {S : Nat → Prop} (h : OwnF w B v m fs) (hk : Kept w w' S) (hS : ∀ b, freeBlocks v m b → ¬ S b) : OwnF w' B v m fs :=
  ⟨own_kept h.1 hk (fun b hb => hS b (Or.inl hb)), ownTo_kept h.2 hk (fun i p b _ hp hb => hS b (Or.inr ⟨i, p, hp, hb⟩))⟩

/-- a row of pages more -/
theorem ownTo_set {w : World} {B k : Nat} {m : List (Int × Value)} {fs : List (Int × List Int)} {tx : Int} {ps : List Int} {u : Value} (h : OwnTo w B m fs k) (hf : fs[k]? = some (tx, ps)) (hu : w.ownsRow B 3 1 u ps.length (ints ps))
    (hn : ∀ (i : Nat) (p : Int × Value) (b : Nat), i < k → m[i]? = some p → p.2.ownBlock = some b → u.ownBlock ≠ some b) : OwnTo w B (m.set k (tx, u)) fs (k + 1) := by
  have hkl : k < m.length := by rw [h.1]; exact (List.getElem?_eq_some_iff.1 hf).1
  refine ⟨by rw [List.length_set]; exact h.1, fun i p f hi hp hf' => ?_, fun i j p q b hi hj hp hq h1 h2 => ?_⟩
  · by_cases e : k = i
    · subst e
      rw [List.getElem?_set_self hkl] at hp
      injection hp with hp
      rw [hf] at hf'
      injection hf' with hf'
      subst hp hf'
      exact ⟨rfl, hu⟩
    · rw [List.getElem?_set_ne e] at hp
      exact h.2.1 i p f (by omega) hp hf'
  · by_cases e : k = i
    · by_cases e' : k = j
      · omega
      · subst e
        rw [List.getElem?_set_self hkl] at hp
        rw [List.getElem?_set_ne e'] at hq
        injection hp with hp
        subst hp
        exact absurd h1 (hn j q b (by omega) hq h2)
    · by_cases e' : k = j
      · subst e'
        rw [List.getElem?_set_self hkl] at hq
        rw [List.getElem?_set_ne e] at hp
        injection hq with hq
        subst hq
        exact absurd h2 (hn i p b (by omega) hp h1)
      · rw [List.getElem?_set_ne e] at hp
        rw [List.getElem?_set_ne e'] at hq
        exact h.2.2 i j p q b (by omega) (by omega) hp hq h1 h2

/-- how many pages the first k frees have -/
def sumF (l : List (Int × List Int)) (k : Nat) : Nat := ((l.take k).map fun p => p.2.length).sum

theorem sumF_succ (l : List (Int × List Int)) (k : Nat) {tx : Int} {ps : List Int} (h : l[k]? = some (tx, ps)) : sumF l (k + 1) = sumF l k + ps.length := by
  obtain ⟨hk, e⟩ := List.getElem?_eq_some_iff.1 h
  unfold sumF
  rw [List.take_succ_eq_append_getElem hk, List.map_append, List.sum_append, e]
  simp

theorem sumF_zero (l : List (Int × List Int)) : sumF l 0 = 0 := by simp [sumF]

theorem sumF_mono (l : List (Int × List Int)) (k : Nat) : sumF l k ≤ sumF l l.length := by
  unfold sumF
  conv => rhs; rw [List.take_length, ← List.take_append_drop k l, List.map_append, List.sum_append]
  omega

/-- how much a list of frees holds -/
def bulkF (l : List (Int × List Int)) : Nat := l.length + sumF l l.length

theorem bulkF_in {l : List (Int × List Int)} {m : Nat} (h : bulkF l ≤ m) : l.length ≤ m ∧ ∀ f ∈ l, f.2.length ≤ m := by
  unfold bulkF at h
  refine ⟨by omega, fun f hf => ?_⟩
  obtain ⟨i, hi, rfl⟩ := List.getElem_of_mem hf
  have h1 := sumF_succ l i (tx := l[i].1) (ps := l[i].2) (List.getElem?_eq_getElem hi)
  have h2 := sumF_mono l (i + 1)
  omega

set_option maxHeartbeats 400000 in
theorem szFree_any (tx : Int) (a : Option Addr) (n cap : Nat) (hn : n ≤ maxLen) (left : Nat) (hleft : left ≤ 1048576) (w : World) :
    Calls Tryz.prog 51 #[.agg #[.int .i64 tx, .slice a n cap], .int .i64 (left : Int)] w fun e w' => e = .returned (.int .i64 (szOut left n)) ∧ Below w.heap.size w w' := by
  have HC := hide (fun wx => szIntS_any a n cap hn left hleft wx)
  have HB : Hid (∀ o, Below w.heap.size w (w.alloc o)) := hide (fun o => (Below.refl w.heap.size w).alloc (Nat.le_refl _) _)
  by_cases h : n ≤ left
  · rw [szOut_yes h] at HC ⊢
    obtain ⟨z, hz⟩ : ∃ z, z = left - n := ⟨_, rfl⟩
    rw [← hz] at HC ⊢
    clear hz h hn
    go_enter Tryz.func51, Tryz.ntmps51
    go_wp2_with fail
    refine (HC.out _).mono ?_
    rintro e w1 ⟨rfl, rfl⟩
    go_wp2_with fail
    go_ret
    exact ⟨rfl, HB.out _⟩
  · rw [szOut_no (by omega)] at HC ⊢
    clear h hn
    go_enter Tryz.func51, Tryz.ntmps51
    go_wp2_with fail
    refine (HC.out _).mono ?_
    rintro e w1 ⟨rfl, rfl⟩
    go_wp2_with fail
    go_ret
    exact ⟨rfl, HB.out _⟩

set_option maxHeartbeats 1000000 in
theorem szFreeS_any (l : List (Int × List Int)) (hl : l.length ≤ maxLen) (hs : ∀ p ∈ l, p.2.length ≤ maxLen) (v : Value) (left : Nat) (hleft : left ≤ 1048576) (w : World) (hr : FreesAt w v l) :
    Calls Tryz.prog 28 #[v, .int .i64 (left : Int)] w fun e w' => e = .returned (.int .i64 (szOut left (bulkF l))) ∧ Below w.heap.size w w' := by
  obtain ⟨a, cap, rfl⟩ := frees_slice hr
  have HR := hide hr
  have HS := hide hs
  clear hr hs
  unfold maxLen at hl
  have HBk : Hid (bulkF l = l.length + sumF l l.length) := hide rfl
  by_cases h0 : left < l.length
  · have HO : Hid (szOut left (bulkF l) = -1) := hide (szOut_no (by rw [HBk.out]; omega))
    go_enter Tryz.func28, Tryz.ntmps28
    go_wp2
    go_ret
    rw [HO.out]
    exact ⟨rfl, Below.refl _ _⟩
  · go_enter Tryz.func28, Tryz.ntmps28
    go_wp2
    go_loopg [1, 5] l.length (fun g lv iv wr => ∃ k m : Nat, k ≤ l.length ∧ iv = .int .i64 (k : Int) ∧ g + k = l.length ∧ lv = .int .i64 (m : Int) ∧ m ≤ 1048576 ∧ Hid (m + l.length + sumF l k = left) ∧ Below w.heap.size w wr)
    case atStart => exact ⟨0, left - l.length, Nat.zero_le _, rfl, rfl, by go_num, by omega, hide (by rw [sumF_zero]; omega), Below.refl _ _⟩
    case round =>
      obtain ⟨k, m, hk, rfl, hg, rfl, hm, HM, hb⟩ := hrel
      have HG := hide hg
      clear hg
      by_cases hlt : k < l.length
      · obtain ⟨tx, ps, hf⟩ : ∃ tx ps, l[k]? = some (tx, ps) := ⟨_, _, List.getElem?_eq_getElem hlt⟩
        obtain ⟨b, off, x, c, rfl, hbl, hc0, hc1, -⟩ := frees_at (frees_below HR.out hb) hf
        have hxs : ps.length ≤ maxLen := HS.out _ (List.mem_of_getElem? hf)
        have HSum := hide (sumF_succ l k hf)
        obtain ⟨n, hn⟩ : ∃ n, n = ps.length := ⟨_, rfl⟩
        rw [← hn] at hc1 hxs HSum
        have hk0 : (0 : Int) ≤ (k : Int) := by omega
        have hk1 : (k : Int) < (l.length : Int) := by omega
        clear hf hn
        by_cases hneg : m < n
        · have HO : Hid (szOut left (bulkF l) = -1) := hide (szOut_no (by have h1 := HBk.out; have h2 := HM.out; have h3 := HSum.out; have h4 := sumF_mono l (k + 1); omega))
          have HC := hide (szFree_any tx x n c hxs m hm)
          rw [szOut_no hneg] at HC
          go_wp2_with fail
          refine (HC.out _).mono ?_
          rintro e w2 ⟨rfl, hb2⟩
          go_wp2_with fail
          go_ret
          rw [HO.out]
          exact ⟨rfl, hb.trans (hb2.mono hb.size)⟩
        · have HC := hide (szFree_any tx x n c hxs m hm)
          rw [szOut_yes (by omega)] at HC
          obtain ⟨m', hm'⟩ : ∃ m', m' = m - n := ⟨_, rfl⟩
          rw [← hm'] at HC
          have hml : m' ≤ 1048576 := by omega
          have HM2 : Hid (m' + l.length + sumF l (k + 1) = left) := hide (by have h2 := HM.out; have h3 := HSum.out; omega)
          clear hm' hneg
          go_wp2_with fail
          refine (HC.out _).mono ?_
          rintro e w2 ⟨rfl, hb2⟩
          go_wp2_with fail
          go_roundg (gk - 1)
          case measure => have := HG.out; omega
          case rel => exact ⟨k + 1, m', by omega, by go_num, by have := HG.out; omega, rfl, hml, HM2, hb.trans (hb2.mono hb.size)⟩
      · have HO : Hid (szOut left (bulkF l) = (m : Int)) := hide (by
          have h1 := HBk.out
          have h2 := HM.out
          obtain rfl : k = l.length := by omega
          rw [szOut_yes (by omega)]
          congr 1
          omega)
        go_wp2
        go_ret
        rw [HO.out]
        exact ⟨rfl, hb⟩
end Go.Proofs.YtbokjfjdjgopeaaGreatDoor

namespace Go.Proofs.YtbokjfjdjgopeaaGreatDoor
open Go.RowKit

set_option maxHeartbeats 1000000 in
set_option maxRecDepth 100000 in
theorem toFree_any (tx : Int) (ps : List Int) (hp : ps.length ≤ 1048576) (v : Value) (w : World) (hr : RowAt w 1 v ps.length (ints ps)) :
    Calls Tryz.prog 59 #[.agg #[.int .i64 tx, v]] w fun e w' => ∃ v', e = .returned (.agg #[.int .i64 tx, v']) ∧ w'.ownsRow w.heap.size 3 1 v' ps.length (ints ps) ∧ Below w.heap.size w w' := by
  obtain ⟨pa, pc, rfl⟩ : ∃ a cap, v = .slice a ps.length cap := by obtain ⟨-, a, cap, e, -⟩ := hr; exact ⟨a, cap, e⟩
  have HC3 := hide (fun wx h => toIntS_any ps hp (.slice pa ps.length pc) wx h)
  have H3 := hide hr
  clear hr hp
  obtain ⟨w0, hw0⟩ : ∃ w0, w0 = ((w.alloc (Obj.cells #[.int .i64 tx, .slice pa ps.length pc] 116)).alloc (Obj.cells #[.int .i64 0, .slice none 0 0] 128)).alloc (Obj.cells #[.int .i64 tx, .slice none 0 0] 128) := ⟨_, rfl⟩
  have hb0 : Below w.heap.size w w0 := by rw [hw0]; exact (((Below.refl w.heap.size w).alloc (Nat.le_refl _) _).alloc (by simp) _).alloc (by simp; omega) _
  obtain ⟨-, q1, q2, hs0⟩ := three_allocs w (Obj.cells #[.int .i64 tx, .slice pa ps.length pc] 116) (Obj.cells #[.int .i64 0, .slice none 0 0] 128) (Obj.cells #[.int .i64 tx, .slice none 0 0] 128)
  rw [← hw0] at q1 q2 hs0
  have HB0 := hide hb0
  clear hb0
  go_enter Tryz.func59, Tryz.ntmps59
  go_wp2_with fail
  rw [← hw0]
  clear hw0
  refine (HC3.out _ (row_below H3.out HB0.out)).mono ?_
  rintro e w3 ⟨u3, rfl, hown3, hb3⟩
  obtain ⟨x3, c3, rfl⟩ := own_slice hown3
  obtain ⟨a1, ha1⟩ : ∃ a, a = w.heap.size + 1 := ⟨_, rfl⟩
  obtain ⟨a2, ha2⟩ : ∃ a, a = w.heap.size + 1 + 1 := ⟨_, rfl⟩
  rw [← ha2, ← ha1]
  rw [← ha1] at q1
  rw [← ha2] at q2
  have HA := hide (⟨ha1, ha2, hs0⟩ : a1 = w.heap.size + 1 ∧ a2 = w.heap.size + 1 + 1 ∧ w0.heap.size = w.heap.size + 3)
  have hne : a1 ≠ a2 := by omega
  have r3 := (hb3.block a1 (by omega)).trans q1
  have o3 := (hb3.block a2 (by omega)).trans q2
  have c23 : w3.cell? ⟨a2, 1, none⟩ = some (.slice none 0 0) := (cell_at o3 1).1
  have f23 := (cell_at o3 1).2
  obtain ⟨y3, hy3⟩ : ∃ y, y = w3.setCell ⟨a2, 1, none⟩ (.slice x3 ps.length c3) := ⟨_, rfl⟩
  have r3' : y3.heap[a1]? = some (Obj.cells #[.int .i64 0, .slice none 0 0] 128) := by rw [hy3]; exact blk_other r3 hne
  have o3' : y3.heap[a2]? = some (Obj.cells #[.int .i64 tx, .slice x3 ps.length c3] 128) := by rw [hy3]; exact heap_setCell_same w3 a2 1 _ _ _ o3
  have k3 : Kept w3 y3 (fun k => k = a1 ∨ k = a2) := by rw [hy3]; exact kept_mono (kept_setCell _ _ _ _) (fun j _ h => Or.inr h)
  have d0 : (w3.setCell ⟨a2, 1, none⟩ (.slice x3 ps.length c3)).cell? ⟨a2, 0, none⟩ = some (.int .i64 tx) := by rw [← hy3]; exact (cell_at o3' 0).1
  have d1 : (w3.setCell ⟨a2, 1, none⟩ (.slice x3 ps.length c3)).cell? ⟨a2, 1, none⟩ = some (.slice x3 ps.length c3) := by rw [← hy3]; exact (cell_at o3' 1).1
  have e0 : (w3.setCell ⟨a2, 1, none⟩ (.slice x3 ps.length c3)).cell? ⟨a1, 0, none⟩ = some (.int .i64 0) := by rw [← hy3]; exact (cell_at r3' 0).1
  have e1 : (w3.setCell ⟨a2, 1, none⟩ (.slice x3 ps.length c3)).cell? ⟨a1, 1, none⟩ = some (.slice none 0 0) := by rw [← hy3]; exact (cell_at r3' 1).1
  have g0 : (w3.setCell ⟨a2, 1, none⟩ (.slice x3 ps.length c3)).frozen? ⟨a1, 0, none⟩ = false := by rw [← hy3]; exact (cell_at r3' 0).2
  have g1 : (w3.setCell ⟨a2, 1, none⟩ (.slice x3 ps.length c3)).frozen? ⟨a1, 1, none⟩ = false := by rw [← hy3]; exact (cell_at r3' 1).2
  have HR3 := hide r3'
  have HK3 := hide k3
  have HY3 := hide hy3
  have HO3 := hide hown3
  have HB3 := hide hb3
  clear hb3 hown3 r3 o3 r3' o3' k3 hy3 ha1 ha2 hs0 q1 q2 hne
  go_wp2_with fail
  rw [← HY3.out]
  have k4 : Kept w3 ((y3.setCell ⟨a1, 0, none⟩ (.int .i64 tx)).setCell ⟨a1, 1, none⟩ (.slice x3 ps.length c3)) (fun k => k = a1 ∨ k = a2) := kept_trans (kept_trans HK3.out (kept_setCell _ _ _ _) (fun j _ h => Or.inl h)) (kept_setCell _ _ _ _) (fun j _ h => Or.inl h)
  have z : ((y3.setCell ⟨a1, 0, none⟩ (.int .i64 tx)).setCell ⟨a1, 1, none⟩ (.slice x3 ps.length c3)).heap[a1]? = some (Obj.cells #[.int .i64 tx, .slice x3 ps.length c3] 128) := heap_setCell_same _ a1 1 _ _ _ (heap_setCell_same _ a1 0 _ _ _ HR3.out)
  have z0 := (cell_at z 0).1
  have z1 := (cell_at z 1).1
  have hA := HA.out
  have hsz3 := HB3.out.size
  refine bodyPost_ret (v := .agg #[.int .i64 tx, .slice x3 ps.length c3]) (by simp [results, Tryz.results59, go_sem, z0, z1]) rfl ⟨_, rfl, ?_, ?_⟩
  · exact own_down (own_kept HO3.out k4 (fun k hk => by have := (HO3.out.lt k hk).1; omega)) (by omega)
  · exact (HB0.out.trans (HB3.out.mono HB0.out.size)).trans (below_of_kept k4 (by have := HB0.out.size; omega) (fun k hk => by omega))

theorem Tryz.infoFree : (Tryz.prog.info? 128).map (fun i => (i.zero, i.size, i.bytes)) = some (some (.agg #[.int .i64 0, .slice none 0 0]), 2, 32) := by kernel_rfl

set_option maxHeartbeats 1000000 in
set_option maxRecDepth 100000 in
theorem toFreeS_any (fs : List (Int × List Int)) (hl : fs.length ≤ 1048576) (hs : ∀ f ∈ fs, f.2.length ≤ 1048576) (v : Value) (w : World) (hr : FreesAt w v fs) :
    Calls Tryz.prog 36 #[v] w fun e w' => ∃ v' m, e = .returned v' ∧ OwnF w' w.heap.size v' m fs ∧ Below w.heap.size w w' := by
  obtain ⟨i0, hi, hz0, hz1, hz2⟩ := info_parts Tryz.infoFree
  obtain ⟨a, cap, rfl⟩ := frees_slice hr
  have HR := hide hr
  have HS := hide hs
  clear hr hs
  go_enter Tryz.func36, Tryz.ntmps36
  go_wp2_with (at_make; refine wpList_make_full _ rfl _ _ 43 rfl w.heap.size 128 i0 (.agg #[.int .i64 0, .slice none 0 0]) 2 Tryz.underlying43 hi hz0 hz1 .i64 .i64 _ _ fs.length rfl rfl rfl rfl (by rw [hz2]; omega) (by unfold maxLen; omega) (Nat.le_refl _) ?_)
  intro w1 hown1 hg1
  have hb1 : Below w.heap.size w w1 := (Below.refl _ _).grown hg1 (Nat.le_refl _) (fun k hk => by cases hk)
  have hown2 : w1.ownsRow w.heap.size 128 2 (.slice (some ⟨w.heap.size, 0, none⟩) fs.length fs.length) fs.length (frs (List.replicate fs.length (0, .slice none 0 0))) := own_n hown1 rfl (frs_made _)
  clear hg1 hown1
  go_wp2
  go_loopg [4] fs.length (fun q iv wr => ∃ (k : Nat) (m : List (Int × Value)), k ≤ fs.length ∧ iv = .int .i64 (k : Int) ∧ q + k = fs.length ∧ wr.ownsRow w.heap.size 128 2 (.slice (some ⟨w.heap.size, 0, none⟩) fs.length fs.length) fs.length (frs m) ∧ Hid (OwnTo wr w.heap.size m fs k) ∧ Below w.heap.size w wr)
  case atStart => exact ⟨0, _, Nat.zero_le _, rfl, rfl, hown2, hide ⟨by simp, fun i p f h => by omega, fun i j p q b h => by omega⟩, hb1⟩
  case round =>
    obtain ⟨k, m, hk, rfl, hg, hown, HM, hb⟩ := hrel
    have HG := hide hg
    clear hg hown2 hb1
    by_cases hlt : k < fs.length
    · obtain ⟨tx, ps, hf⟩ : ∃ tx ps, fs[k]? = some (tx, ps) := ⟨_, _, List.getElem?_eq_getElem hlt⟩
      obtain ⟨b, off, x, c, rfl, hbl, hc0, hc1, hrow⟩ := frees_at (frees_below HR.out hb) hf
      have HC := hide (fun wx h => toFree_any tx ps (HS.out _ (List.mem_of_getElem? hf)) (.slice x ps.length c) wx h)
      have HRow := hide hrow
      have hkm : k < m.length := by rw [HM.out.1]; exact hlt
      obtain ⟨p, hp⟩ : ∃ p, m[k]? = some p := ⟨_, List.getElem?_eq_getElem hkm⟩
      obtain ⟨u0, u1, hu⟩ : ∃ (u0 : Int) (u1 : Value), (frs m)[k * 2]? = some (.int .i64 u0) ∧ (frs m)[k * 2 + 1]? = some u1 := ⟨_, _, frs_at m k p hp⟩
      have HU := hide hu
      have HF := hide hf
      have HKm := hide hkm
      have hk0 : (0 : Int) ≤ (k : Int) := by omega
      have hk1 : (k : Int) < (fs.length : Int) := by omega
      clear hkm hu hf hrow hp
      go_wp2_with fail
      refine (HC.out _ HRow.out).mono ?_
      rintro e w2 ⟨u, rfl, hou, hb2⟩
      obtain ⟨ua, uc, rfl⟩ := own_slice hou
      have hown2 := own_stays hown hb2
      have hd0 : w2.cell? ⟨w.heap.size, k * 2, none⟩ = some (.int .i64 u0) := by rw [hown2.cellAt (k * 2) (by omega), HU.out.1]
      have hd1 : w2.cell? ⟨w.heap.size, k * 2 + 1, none⟩ = some u1 := by rw [hown2.cellAt (k * 2 + 1) (by omega), HU.out.2]
      have hf0 : w2.frozen? ⟨w.heap.size, k * 2, none⟩ = false := hown2.frozenAt _
      have hf1 : w2.frozen? ⟨w.heap.size, k * 2 + 1, none⟩ = false := hown2.frozenAt _
      have hb3 : Below w.heap.size w w2 := hb.trans (hb2.mono hb.size)
      have HO := hide (((hown2.stored (k * 2) (.int .i64 tx)).1.stored (k * 2 + 1) (.slice ua ps.length uc)).1)
      rw [frs_set m k tx _ HKm.out] at HO
      have HM2 : Hid (OwnTo ((w2.setCell ⟨w.heap.size, k * 2, none⟩ (.int .i64 tx)).setCell ⟨w.heap.size, k * 2 + 1, none⟩ (.slice ua ps.length uc)) w.heap.size (m.set k (tx, .slice ua ps.length uc)) fs (k + 1)) := hide (by
        have h1 := ownTo_stays HM.out hb2
        have h2 : OwnTo w2 w.heap.size (m.set k (tx, .slice ua ps.length uc)) fs (k + 1) := ownTo_set h1 HF.out (own_down hou hb.size) (fun i p b hi hp hpb hub => by
          have hil : i < fs.length := by omega
          have := ((HM.out.2.1 i p _ hi hp (List.getElem?_eq_getElem hil)).2.lt b hpb).2
          have := (hou.lt b hub).1
          omega)
        refine ownTo_kept h2 (kept_trans (kept_setCell w2 w.heap.size (k * 2) _) (kept_setCell _ w.heap.size (k * 2 + 1) _) (fun j _ h => h)) (fun i p b hi hp hpb hbw => ?_)
        have hil : i < fs.length := by omega
        have h3 := (h2.2.1 i p _ hi hp (List.getElem?_eq_getElem hil)).2
        exact one_type hown2 h3 Tryz.free_int b (by rw [hbw]; rfl) hpb)
      clear hown hb2 hou
      go_wp2_with fail
      go_roundg (gk - 1)
      case measure => have := HG.out; omega
      case rel => exact ⟨k + 1, _, by omega, by go_num, by have := HG.out; omega, HO.out, HM2, (hb3.setCell (Nat.le_refl _) _).setCell (Nat.le_refl _) _⟩
    · obtain rfl : k = fs.length := by omega
      go_wp2
      go_ret
      exact ⟨_, m, rfl, ⟨hown, HM.out⟩, hb⟩

set_option maxHeartbeats 400000 in
theorem eqFree_same (tx : Int) (ps : List Int) (hp : ps.length ≤ 1048576) (v u : Value) (w : World) (hr : RowAt w 1 v ps.length (ints ps)) (hq : RowAt w 1 u ps.length (ints ps)) :
    Calls Tryz.prog 77 #[.agg #[.int .i64 tx, v], .agg #[.int .i64 tx, u]] w fun e w' => e = .returned (.bool true) ∧ Below w.heap.size w w' := by
  have HC3 := hide (fun wx h h' => eqIntS_row ps ps (by omega) (by omega) v u wx h h')
  rw [decide_eq_true rfl] at HC3
  have HR := hide (⟨hr, hq⟩ : _ ∧ _)
  clear hr hq hp
  obtain ⟨w0, hw0⟩ : ∃ w0, w0 = (w.alloc (Obj.cells #[.int .i64 tx, v] 128)).alloc (Obj.cells #[.int .i64 tx, u] 128) := ⟨_, rfl⟩
  have hb0 : Below w.heap.size w w0 := by rw [hw0]; exact ((Below.refl w.heap.size w).alloc (Nat.le_refl _) _).alloc (by simp) _
  have HB0 := hide hb0
  have dl : (tx != tx) = false := by simp
  clear hb0
  go_enter Tryz.func77, Tryz.ntmps77
  go_wp2_with fail
  rw [← hw0]
  clear hw0
  refine (HC3.out _ (row_below HR.out.1 HB0.out) (row_below HR.out.2 HB0.out)).mono ?_
  rintro e w3 ⟨rfl, hb3⟩
  have HB3 : Hid (Below w.heap.size w w3) := hide (HB0.out.trans (hb3.mono HB0.out.size))
  clear hb3
  go_wp2_with fail
  go_ret
  exact ⟨rfl, HB3.out⟩

set_option maxHeartbeats 2000000 in
set_option maxRecDepth 100000 in
theorem eqFreeS_same (fs : List (Int × List Int)) (hl : fs.length ≤ 1048576) (hs : ∀ f ∈ fs, f.2.length ≤ 1048576) (v u : Value) (w : World) (hr : FreesAt w v fs) (hq : FreesAt w u fs) :
    Calls Tryz.prog 47 #[v, u] w fun e w' => e = .returned (.bool true) ∧ Below w.heap.size w w' := by
  obtain ⟨a, cap, rfl⟩ := frees_slice hr
  obtain ⟨a', cap', rfl⟩ := frees_slice hq
  have HR := hide hr
  have HQ := hide hq
  have HS := hide hs
  clear hr hq hs
  go_enter Tryz.func47, Tryz.ntmps47
  go_wp2
  go_loopg [5] fs.length (fun q iv wr => ∃ k : Nat, k ≤ fs.length ∧ iv = .int .i64 (k : Int) ∧ q + k = fs.length ∧ Below w.heap.size w wr)
  case atStart => exact ⟨0, Nat.zero_le _, rfl, rfl, Below.refl _ _⟩
  case round =>
    obtain ⟨k, hk, rfl, hg, hb⟩ := hrel
    have HG := hide hg
    clear hg
    by_cases hlt : k < fs.length
    · obtain ⟨tx, ps, hf⟩ : ∃ tx ps, fs[k]? = some (tx, ps) := ⟨_, _, List.getElem?_eq_getElem hlt⟩
      obtain ⟨b, off, x, c, rfl, hbl, hc0, hc1, hrow⟩ := frees_at (frees_below HR.out hb) hf
      obtain ⟨b', off', x', c', rfl, hbl', hd0, hd1, hrow'⟩ := frees_at (frees_below HQ.out hb) hf
      have HC := hide (fun wx h h' => eqFree_same tx ps (HS.out _ (List.mem_of_getElem? hf)) (.slice x ps.length c) (.slice x' ps.length c') wx h h')
      have HRow := hide (⟨hrow, hrow'⟩ : _ ∧ _)
      have hk0 : (0 : Int) ≤ (k : Int) := by omega
      have hk1 : (k : Int) < (fs.length : Int) := by omega
      obtain ⟨n, hn⟩ : ∃ n, n = ps.length := ⟨_, rfl⟩
      rw [← hn] at hc1 hd1 HC HRow
      clear hf hrow hrow' hn
      go_wp2_with fail
      go_region_held3 (fun wx => wx.cell? ⟨b, off + k * 2, none⟩ = some (.int .i64 tx) ∧ wx.cell? ⟨b, off + k * 2 + 1, none⟩ = some (.slice x n c) ∧ wx.cell? ⟨b', off' + k * 2, none⟩ = some (.int .i64 tx) ∧ wx.cell? ⟨b', off' + k * 2 + 1, none⟩ = some (.slice x' n c')) (first | exact ⟨hc0, hc1, hd0, hd1⟩ | exact hS2) ((go_at_call 77; refine (HC.out _ (row_below HRow.out.1 (Below.refl _ _).drew) (row_below HRow.out.2 (Below.refl _ _).drew)).mono ?_; rintro e w2 ⟨rfl, hb2⟩; have hS2 : w2.cell? ⟨b, off + k * 2, none⟩ = some (.int .i64 tx) ∧ w2.cell? ⟨b, off + k * 2 + 1, none⟩ = some (.slice x n c) ∧ w2.cell? ⟨b', off' + k * 2, none⟩ = some (.int .i64 tx) ∧ w2.cell? ⟨b', off' + k * 2 + 1, none⟩ = some (.slice x' n c') := ⟨(hb2.cell (by exact hbl)).trans hc0, (hb2.cell (by exact hbl)).trans hc1, (hb2.cell (by exact hbl')).trans hd0, (hb2.cell (by exact hbl')).trans hd1⟩))
      all_goals
        have hb3 : Below w.heap.size w w2 := hb.trans ((Below.refl _ _).drew.trans (hb2.mono hb.size))
        clear hb2
        go_wp2_with fail
        go_roundg (gk - 1)
        case measure => have := HG.out; omega
        case rel => exact ⟨k + 1, by omega, by go_num, by have := HG.out; omega, hb3⟩
    · go_wp2
      go_ret
      exact ⟨rfl, hb⟩
end Go.Proofs.YtbokjfjdjgopeaaGreatDoor

namespace Go.Proofs.YtbokjfjdjgopeaaGreatDoor
open Go.RowKit

/-- a meta that reads so -/
def MetaAt (w : World) (v : Value) (m : Mt) : Prop := ∃ vf, v = .agg #[.int .i64 m.tx, .int .i64 m.root, .int .i64 m.next, vf] ∧ FreesAt w vf m.fs

/-- a meta in memory of its own -/
def MetaOwn (w : World) (B : Nat) (v : Value) (m : Mt) : Prop := ∃ vf l, v = .agg #[.int .i64 m.tx, .int .i64 m.root, .int .i64 m.next, vf] ∧ OwnF w B vf l m.fs

theorem meta_of_own {w : World} {B : Nat} {v : Value} {m : Mt} (h : MetaOwn w B v m) : MetaAt w v m := by
  obtain ⟨vf, l, e, h⟩ := h
  exact ⟨vf, e, frees_of_own h⟩

theorem meta_below {w w' : World} {v : Value} {m : Mt} (h : MetaAt w v m) (hb : Below w.heap.size w w') : MetaAt w' v m := by
  obtain ⟨vf, e, h⟩ := h
  exact ⟨vf, e, frees_below h hb⟩

theorem metaOwn_below {w w' : World} {B : Nat} {v : Value} {m : Mt} (h : MetaOwn w B v m) (hb : Below w.heap.size w w') : MetaOwn w' B v m := by
  obtain ⟨vf, l, e, h⟩ := h
  exact ⟨vf, l, e, ownF_stays h hb⟩

theorem metaOwn_down {w : World} {B B' : Nat} {v : Value} {m : Mt} (h : MetaOwn w B v m) (hb : B' ≤ B) : MetaOwn w B' v m := by
  obtain ⟨vf, l, e, h⟩ := h
  exact ⟨vf, l, e, ownF_down h hb⟩

/-- the blocks of a meta's rows -/
def metaBlocks (w : World) (B : Nat) (v : Value) (m : Mt) (b : Nat) : Prop := ∃ vf l, v = .agg #[.int .i64 m.tx, .int .i64 m.root, .int .i64 m.next, vf] ∧ OwnF w B vf l m.fs ∧ freeBlocks vf l b

set_option maxHeartbeats 1000000 in
theorem szMeta_any (v : Value) (m : Mt) (hl : m.fs.length ≤ maxLen) (hs : ∀ f ∈ m.fs, f.2.length ≤ maxLen) (left : Nat) (hleft : left ≤ 1048576) (w : World) (hd : MetaAt w v m) :
    Calls Tryz.prog 10 #[v, .int .i64 (left : Int)] w fun e w' => e = .returned (.int .i64 (szOut left (bulkF m.fs))) ∧ Below w.heap.size w w' := by
  obtain ⟨vf, rfl, h1⟩ := hd
  obtain ⟨tx, root, next, fs⟩ := m
  dsimp only at h1 hl hs ⊢
  obtain ⟨w0, hw0⟩ : ∃ w0, w0 = w.alloc (Obj.cells #[.int .i64 tx, .int .i64 root, .int .i64 next, vf] 28) := ⟨_, rfl⟩
  have hb0 : Below w.heap.size w w0 := by rw [hw0]; exact (Below.refl w.heap.size w).alloc (Nat.le_refl _) _
  have HC1 := hide (szFreeS_any fs hl hs vf left hleft w0 (frees_below h1 hb0))
  have HB := hide hb0
  clear h1 hb0 hl hs
  by_cases n1 : bulkF fs ≤ left
  · rw [szOut_yes n1] at HC1 ⊢
    obtain ⟨z, hz⟩ : ∃ z, z = left - bulkF fs := ⟨_, rfl⟩
    rw [← hz] at HC1 ⊢
    clear hz n1
    go_enter Tryz.func10, Tryz.ntmps10
    go_wp2_with fail
    rw [← hw0]
    clear hw0
    refine HC1.out.mono ?_
    rintro e w1 ⟨rfl, hb1⟩
    have HB1 := hide (HB.out.trans (hb1.mono HB.out.size))
    clear hb1
    go_wp2_with fail
    go_ret
    exact ⟨rfl, HB1.out⟩
  · rw [szOut_no (by omega)] at HC1 ⊢
    clear n1
    go_enter Tryz.func10, Tryz.ntmps10
    go_wp2_with fail
    rw [← hw0]
    clear hw0
    refine HC1.out.mono ?_
    rintro e w1 ⟨rfl, hb1⟩
    have HB1 := hide (HB.out.trans (hb1.mono HB.out.size))
    clear hb1
    go_wp2_with fail
    go_ret
    exact ⟨rfl, HB1.out⟩

set_option maxHeartbeats 2000000 in
set_option maxRecDepth 100000 in
theorem toMeta_any (v : Value) (m : Mt) (hl : m.fs.length ≤ 1048576) (hs : ∀ f ∈ m.fs, f.2.length ≤ 1048576) (w : World) (hd : MetaAt w v m) :
    Calls Tryz.prog 16 #[v] w fun e w' => ∃ v', e = .returned v' ∧ MetaOwn w' w.heap.size v' m ∧ Below w.heap.size w w' := by
  obtain ⟨vf, rfl, hr⟩ := hd
  obtain ⟨tx, root, next, fs⟩ := m
  dsimp only at hr hl hs ⊢
  obtain ⟨pa, pc, rfl⟩ := frees_slice hr
  have HC3 := hide (fun wx h => toFreeS_any fs hl hs (.slice pa fs.length pc) wx h)
  have H3 := hide hr
  clear hr hl hs
  obtain ⟨w0, hw0⟩ : ∃ w0, w0 = ((w.alloc (Obj.cells #[.int .i64 tx, .int .i64 root, .int .i64 next, .slice pa fs.length pc] 28)).alloc (Obj.cells #[.int .i64 0, .int .i64 0, .int .i64 0, .slice none 0 0] 45)).alloc (Obj.cells #[.int .i64 tx, .int .i64 root, .int .i64 next, .slice none 0 0] 45) := ⟨_, rfl⟩
  have hb0 : Below w.heap.size w w0 := by rw [hw0]; exact (((Below.refl w.heap.size w).alloc (Nat.le_refl _) _).alloc (by simp) _).alloc (by simp; omega) _
  obtain ⟨-, q1, q2, hs0⟩ := three_allocs w (Obj.cells #[.int .i64 tx, .int .i64 root, .int .i64 next, .slice pa fs.length pc] 28) (Obj.cells #[.int .i64 0, .int .i64 0, .int .i64 0, .slice none 0 0] 45) (Obj.cells #[.int .i64 tx, .int .i64 root, .int .i64 next, .slice none 0 0] 45)
  rw [← hw0] at q1 q2 hs0
  have HB0 := hide hb0
  clear hb0
  go_enter Tryz.func16, Tryz.ntmps16
  go_wp2_with fail
  rw [← hw0]
  clear hw0
  refine (HC3.out _ (frees_below H3.out HB0.out)).mono ?_
  rintro e w3 ⟨u3, l, rfl, hown3, hb3⟩
  obtain ⟨x3, c3, rfl⟩ := own_slice hown3.1
  obtain ⟨a1, ha1⟩ : ∃ a, a = w.heap.size + 1 := ⟨_, rfl⟩
  obtain ⟨a2, ha2⟩ : ∃ a, a = w.heap.size + 1 + 1 := ⟨_, rfl⟩
  rw [← ha2, ← ha1]
  rw [← ha1] at q1
  rw [← ha2] at q2
  have HA := hide (⟨ha1, ha2, hs0⟩ : a1 = w.heap.size + 1 ∧ a2 = w.heap.size + 1 + 1 ∧ w0.heap.size = w.heap.size + 3)
  have hne : a1 ≠ a2 := by omega
  have r3 := (hb3.block a1 (by omega)).trans q1
  have o3 := (hb3.block a2 (by omega)).trans q2
  have c23 : w3.cell? ⟨a2, 3, none⟩ = some (.slice none 0 0) := (cell_at o3 3).1
  have f23 := (cell_at o3 3).2
  obtain ⟨y3, hy3⟩ : ∃ y, y = w3.setCell ⟨a2, 3, none⟩ (.slice x3 fs.length c3) := ⟨_, rfl⟩
  have r3' : y3.heap[a1]? = some (Obj.cells #[.int .i64 0, .int .i64 0, .int .i64 0, .slice none 0 0] 45) := by rw [hy3]; exact blk_other r3 hne
  have o3' : y3.heap[a2]? = some (Obj.cells #[.int .i64 tx, .int .i64 root, .int .i64 next, .slice x3 fs.length c3] 45) := by rw [hy3]; exact heap_setCell_same w3 a2 3 _ _ _ o3
  have k3 : Kept w3 y3 (fun k => k = a1 ∨ k = a2) := by rw [hy3]; exact kept_mono (kept_setCell _ _ _ _) (fun j _ h => Or.inr h)
  have d0 : (w3.setCell ⟨a2, 3, none⟩ (.slice x3 fs.length c3)).cell? ⟨a2, 0, none⟩ = some (.int .i64 tx) := by rw [← hy3]; exact (cell_at o3' 0).1
  have d1 : (w3.setCell ⟨a2, 3, none⟩ (.slice x3 fs.length c3)).cell? ⟨a2, 1, none⟩ = some (.int .i64 root) := by rw [← hy3]; exact (cell_at o3' 1).1
  have d2 : (w3.setCell ⟨a2, 3, none⟩ (.slice x3 fs.length c3)).cell? ⟨a2, 2, none⟩ = some (.int .i64 next) := by rw [← hy3]; exact (cell_at o3' 2).1
  have d3 : (w3.setCell ⟨a2, 3, none⟩ (.slice x3 fs.length c3)).cell? ⟨a2, 3, none⟩ = some (.slice x3 fs.length c3) := by rw [← hy3]; exact (cell_at o3' 3).1
  have e0 : (w3.setCell ⟨a2, 3, none⟩ (.slice x3 fs.length c3)).cell? ⟨a1, 0, none⟩ = some (.int .i64 0) := by rw [← hy3]; exact (cell_at r3' 0).1
  have e1 : (w3.setCell ⟨a2, 3, none⟩ (.slice x3 fs.length c3)).cell? ⟨a1, 1, none⟩ = some (.int .i64 0) := by rw [← hy3]; exact (cell_at r3' 1).1
  have e2 : (w3.setCell ⟨a2, 3, none⟩ (.slice x3 fs.length c3)).cell? ⟨a1, 2, none⟩ = some (.int .i64 0) := by rw [← hy3]; exact (cell_at r3' 2).1
  have e3 : (w3.setCell ⟨a2, 3, none⟩ (.slice x3 fs.length c3)).cell? ⟨a1, 3, none⟩ = some (.slice none 0 0) := by rw [← hy3]; exact (cell_at r3' 3).1
  have g0 : (w3.setCell ⟨a2, 3, none⟩ (.slice x3 fs.length c3)).frozen? ⟨a1, 0, none⟩ = false := by rw [← hy3]; exact (cell_at r3' 0).2
  have g1 : (w3.setCell ⟨a2, 3, none⟩ (.slice x3 fs.length c3)).frozen? ⟨a1, 1, none⟩ = false := by rw [← hy3]; exact (cell_at r3' 1).2
  have g2 : (w3.setCell ⟨a2, 3, none⟩ (.slice x3 fs.length c3)).frozen? ⟨a1, 2, none⟩ = false := by rw [← hy3]; exact (cell_at r3' 2).2
  have g3 : (w3.setCell ⟨a2, 3, none⟩ (.slice x3 fs.length c3)).frozen? ⟨a1, 3, none⟩ = false := by rw [← hy3]; exact (cell_at r3' 3).2
  have HR3 := hide r3'
  have HK3 := hide k3
  have HY3 := hide hy3
  have HO3 := hide hown3
  have HB3 := hide hb3
  clear hb3 hown3 r3 o3 r3' o3' k3 hy3 ha1 ha2 hs0 q1 q2 hne
  go_wp2_with fail
  rw [← HY3.out]
  have k4 : Kept w3 ((((y3.setCell ⟨a1, 0, none⟩ (.int .i64 tx)).setCell ⟨a1, 1, none⟩ (.int .i64 root)).setCell ⟨a1, 2, none⟩ (.int .i64 next)).setCell ⟨a1, 3, none⟩ (.slice x3 fs.length c3)) (fun k => k = a1 ∨ k = a2) := kept_trans (kept_trans (kept_trans (kept_trans HK3.out (kept_setCell _ _ _ _) (fun j _ h => Or.inl h)) (kept_setCell _ _ _ _) (fun j _ h => Or.inl h)) (kept_setCell _ _ _ _) (fun j _ h => Or.inl h)) (kept_setCell _ _ _ _) (fun j _ h => Or.inl h)
  have z : ((((y3.setCell ⟨a1, 0, none⟩ (.int .i64 tx)).setCell ⟨a1, 1, none⟩ (.int .i64 root)).setCell ⟨a1, 2, none⟩ (.int .i64 next)).setCell ⟨a1, 3, none⟩ (.slice x3 fs.length c3)).heap[a1]? = some (Obj.cells #[.int .i64 tx, .int .i64 root, .int .i64 next, .slice x3 fs.length c3] 45) := heap_setCell_same _ a1 3 _ _ _ (heap_setCell_same _ a1 2 _ _ _ (heap_setCell_same _ a1 1 _ _ _ (heap_setCell_same _ a1 0 _ _ _ HR3.out)))
  have z0 := (cell_at z 0).1
  have z1 := (cell_at z 1).1
  have z2 := (cell_at z 2).1
  have z3 := (cell_at z 3).1
  have hA := HA.out
  have hsz3 := HB3.out.size
  refine bodyPost_ret (v := .agg #[.int .i64 tx, .int .i64 root, .int .i64 next, .slice x3 fs.length c3]) (by simp [results, Tryz.results16, go_sem, z0, z1, z2, z3]) rfl ⟨_, rfl, ⟨_, l, rfl, ?_⟩, ?_⟩
  · exact ownF_down (ownF_kept HO3.out k4 (fun b hb => by have := (ownF_lt HO3.out b hb).1; omega)) (by omega)
  · exact (HB0.out.trans (HB3.out.mono HB0.out.size)).trans (below_of_kept k4 (by have := HB0.out.size; omega) (fun k hk => by omega))

set_option maxHeartbeats 1000000 in
set_option maxRecDepth 100000 in
theorem eqMeta_same (v u : Value) (m : Mt) (hl : m.fs.length ≤ 1048576) (hs : ∀ f ∈ m.fs, f.2.length ≤ 1048576) (w : World) (hd : MetaAt w v m) (hu : MetaAt w u m) :
    Calls Tryz.prog 23 #[v, u] w fun e w' => e = .returned (.bool true) ∧ Below w.heap.size w w' := by
  obtain ⟨vf, rfl, hr⟩ := hd
  obtain ⟨uf, rfl, hq⟩ := hu
  obtain ⟨tx, root, next, fs⟩ := m
  dsimp only at hr hq hl hs ⊢
  have HC3 := hide (fun wx h h' => eqFreeS_same fs hl hs vf uf wx h h')
  have HR := hide (⟨hr, hq⟩ : _ ∧ _)
  clear hr hq hl hs
  obtain ⟨w0, hw0⟩ : ∃ w0, w0 = (w.alloc (Obj.cells #[.int .i64 tx, .int .i64 root, .int .i64 next, vf] 45)).alloc (Obj.cells #[.int .i64 tx, .int .i64 root, .int .i64 next, uf] 45) := ⟨_, rfl⟩
  have hb0 : Below w.heap.size w w0 := by rw [hw0]; exact ((Below.refl w.heap.size w).alloc (Nat.le_refl _) _).alloc (by simp) _
  have HB0 := hide hb0
  have dl : (tx != tx) = false := by simp
  have dr : (root != root) = false := by simp
  have dn : (next != next) = false := by simp
  clear hb0
  go_enter Tryz.func23, Tryz.ntmps23
  go_wp2_with fail
  rw [← hw0]
  clear hw0
  refine (HC3.out _ (frees_below HR.out.1 HB0.out) (frees_below HR.out.2 HB0.out)).mono ?_
  rintro e w3 ⟨rfl, hb3⟩
  have HB3 : Hid (Below w.heap.size w w3) := hide (HB0.out.trans (hb3.mono HB0.out.size))
  clear hb3
  go_wp2_with fail
  go_ret
  exact ⟨rfl, HB3.out⟩
end Go.Proofs.YtbokjfjdjgopeaaGreatDoor
