/-
  Metas without a program: which are right (metaOkB), the numbers that their text tells (metaNums), the text (metaT), and what reading number by number tells.
-/
import Derived.Test.YthcakofocbileaaPlain13
import Derived.Test.YthcakofocbileaaPlain8
namespace Go.Proofs.Ythcakofocbileaa

/-- the pages of one free, held against those seen before -/
def pgsB (next : Int) : List Int → Int → List Int → Option (List Int)
  | seen, _, [] => some seen
  | seen, last, p :: ps => if 2 ≤ p ∧ p < next ∧ last < p ∧ p ∉ seen then pgsB next (seen ++ [p]) p ps else none

def freesB (tx next : Int) : List Int → Int → List (Int × List Int) → Bool
  | _, _, [] => true
  | seen, last, f :: fs => if last < f.1 ∧ f.1 ≤ tx ∧ 1 ≤ f.2.length ∧ f.2.length ≤ 40 then (match pgsB next seen 1 f.2 with | none => false | some s => freesB tx next s f.1 fs) else false

/-- the numbers of a meta but its frees -/
def headOkB (tx root next : Int) (n : Nat) : Bool := decide (0 ≤ tx ∧ tx ≤ 100000 ∧ 2 ≤ next ∧ next ≤ 40 ∧ (root = 0 ∨ 2 ≤ root ∧ root < next) ∧ n ≤ 20)

/-- a meta as plain data -/
structure Mt where
  tx : Int
  root : Int
  next : Int
  fs : List (Int × List Int)

def Mt.none : Mt := ⟨0, 0, 0, []⟩

def Mt.ok (m : Mt) : Bool := headOkB m.tx m.root m.next m.fs.length && freesB m.tx m.next [m.root] 0 m.fs

/-- the numbers that frees tell -/
def freeNums (fs : List (Int × List Int)) : List Int := fs.flatMap fun f => f.1 :: (f.2.length : Int) :: f.2

def Mt.nums (m : Mt) : List Int := m.tx :: m.root :: m.next :: (m.fs.length : Int) :: freeNums m.fs

/-- numbers in bytes -/
def numsL (l : List Int) : List UInt8 := l.flatMap fun n => vtext n.toNat

def numsB (l : List Int) : ByteArray := ⟨(numsL l).toArray⟩

/-- numbers that have a text -/
def NumsIn (l : List Int) : Prop := ∀ n ∈ l, 0 ≤ n ∧ n ≤ 1000000000

/-- a meta's text, sealed -/
def Mt.text (m : Mt) : ByteArray := ⟨(sealL (numsL m.nums)).toArray⟩

/-- there is a text -/
def Mt.good (m : Mt) : Bool := m.ok && decide ((numsL m.nums).length + 4 ≤ 240)

theorem numsL_snoc (l : List Int) (n : Int) : numsL (l ++ [n]) = numsL l ++ vtext n.toNat := by simp [numsL]

theorem numsL_append (l m : List Int) : numsL (l ++ m) = numsL l ++ numsL m := by simp [numsL]

theorem numsL_cons (n : Int) (l : List Int) : numsL (n :: l) = vtext n.toNat ++ numsL l := by simp [numsL]

theorem numsB_snoc (l : List Int) (n : Int) : numsB (l ++ [n]) = numsB l ++ ⟨(vtext n.toNat).toArray⟩ := by
  apply ByteArray.ext
  simp [numsB, numsL_snoc, ByteArray.data_append]

theorem numsB_append (l m : List Int) : numsB (l ++ m) = numsB l ++ numsB m := by
  apply ByteArray.ext
  simp [numsB, numsL_append, ByteArray.data_append]

theorem numsB_nil : numsB [] = ⟨#[]⟩ := rfl

theorem numsB_list (l : List Int) : (numsB l).data.toList = numsL l := by simp [numsB]

theorem numsL_size (l : List Int) : l.length ≤ (numsL l).length ∧ (numsL l).length ≤ 5 * l.length := by
  induction l with
  | nil => simp [numsL]
  | cons n l ih =>
    have := vtext_length n.toNat
    rw [numsL_cons, List.length_append, List.length_cons]
    omega

theorem numsB_size (l : List Int) : (numsB l).size = (numsL l).length := by rw [← numsB_list, ba_len]

theorem freeNums_append (a b : List (Int × List Int)) : freeNums (a ++ b) = freeNums a ++ freeNums b := by simp [freeNums]

theorem freeNums_cons (f : Int × List Int) (b : List (Int × List Int)) : freeNums (f :: b) = f.1 :: (f.2.length : Int) :: (f.2 ++ freeNums b) := by simp [freeNums]

theorem freeNums_snoc (a : List (Int × List Int)) (f : Int × List Int) : freeNums (a ++ [f]) = freeNums a ++ (f.1 :: (f.2.length : Int) :: f.2) := by simp [freeNums]

theorem freeNums_len (fs : List (Int × List Int)) (h : ∀ f ∈ fs, f.2.length ≤ 40) : (freeNums fs).length ≤ 42 * fs.length := by
  induction fs with
  | nil => simp [freeNums]
  | cons f fs ih =>
    have h1 := ih (fun g hg => h g (List.mem_cons_of_mem _ hg))
    have h2 := h f List.mem_cons_self
    rw [freeNums_cons]
    simp
    omega

theorem pgsB_in {next : Int} {seen s : List Int} {last : Int} {ps : List Int} (h : pgsB next seen last ps = some s) : ∀ p ∈ ps, 2 ≤ p ∧ p < next := by
  induction ps generalizing seen last with
  | nil => intro p hp; cases hp
  | cons q ps ih =>
    rw [pgsB] at h
    split at h
    · next hq =>
      intro p hp
      rcases List.mem_cons.1 hp with rfl | hp
      · exact ⟨hq.1, hq.2.1⟩
      · exact ih h p hp
    · cases h

theorem freesB_in {tx next : Int} {seen : List Int} {last : Int} {fs : List (Int × List Int)} (h0 : 0 ≤ last) (h : freesB tx next seen last fs = true) : ∀ f ∈ fs, 1 ≤ f.1 ∧ f.1 ≤ tx ∧ 1 ≤ f.2.length ∧ f.2.length ≤ 40 ∧ ∀ p ∈ f.2, 2 ≤ p ∧ p < next := by
  induction fs generalizing seen last with
  | nil => intro p hp; cases hp
  | cons g fs ih =>
    rw [freesB] at h
    split at h
    · next hq =>
      split at h
      · cases h
      · next s hs =>
        intro f hf
        rcases List.mem_cons.1 hf with rfl | hf
        · exact ⟨by omega, hq.2.1, hq.2.2.1, hq.2.2.2, pgsB_in hs⟩
        · exact ih (by omega) h f hf
    · cases h

theorem ok_parts {m : Mt} (h : m.ok = true) : (0 ≤ m.tx ∧ m.tx ≤ 100000 ∧ 2 ≤ m.next ∧ m.next ≤ 40 ∧ (m.root = 0 ∨ 2 ≤ m.root ∧ m.root < m.next) ∧ m.fs.length ≤ 20) ∧ ∀ f ∈ m.fs, 1 ≤ f.1 ∧ f.1 ≤ m.tx ∧ 1 ≤ f.2.length ∧ f.2.length ≤ 40 ∧ ∀ p ∈ f.2, 2 ≤ p ∧ p < m.next := by
  rw [Mt.ok, Bool.and_eq_true, headOkB, decide_eq_true_eq] at h
  exact ⟨h.1, freesB_in (Int.le_refl _) h.2⟩

theorem nums_in {m : Mt} (h : m.ok = true) : ∀ n ∈ m.nums, 0 ≤ n ∧ n ≤ 100000 := by
  obtain ⟨⟨h1, h2, h3, h4, h5, h6⟩, h7⟩ := ok_parts h
  intro n hn
  rw [Mt.nums] at hn
  simp only [List.mem_cons] at hn
  rcases hn with rfl | rfl | rfl | rfl | hn
  · omega
  · omega
  · omega
  · omega
  · rw [freeNums, List.mem_flatMap] at hn
    obtain ⟨f, hf, hn⟩ := hn
    obtain ⟨g1, g2, g3, g4, g5⟩ := h7 f hf
    simp only [List.mem_cons] at hn
    rcases hn with rfl | rfl | hn
    · omega
    · omega
    · have := g5 n hn; omega

theorem ok_numsIn {m : Mt} (h : m.ok = true) : NumsIn m.nums := fun n hn => by
  have := nums_in h n hn
  omega

theorem nums_len {m : Mt} (h : m.ok = true) : m.nums.length ≤ 844 := by
  obtain ⟨⟨h1, h2, h3, h4, h5, h6⟩, h7⟩ := ok_parts h
  have := freeNums_len m.fs (fun f hf => (h7 f hf).2.2.2.1)
  simp [Mt.nums]
  omega

theorem nums_size {m : Mt} (h : m.ok = true) : (numsB m.nums).size ≤ 4220 ∧ 4 ≤ (numsB m.nums).size := by
  rw [numsB_size]
  have h1 := numsL_size m.nums
  have h2 := nums_len h
  have h3 : 4 ≤ m.nums.length := by simp [Mt.nums]
  omega

/-- what was read so far: ns, up to p -/
def Got (s : ByteArray) (p : Nat) (ns : List Int) : Prop := NumsIn ns ∧ p ≤ s.size ∧ s.extract 0 p = numsB ns

theorem got_start (s : ByteArray) : Got s 0 [] := ⟨fun n h => (by cases h), Nat.zero_le _, by rw [numsB_nil]; apply ByteArray.ext; simp⟩

theorem got_next {s : ByteArray} {p q n : Nat} {ns : List Int} (h : Got s p ns) (hr : rdV s p = some (n, q)) : Got s q (ns ++ [(n : Int)]) := by
  obtain ⟨h1, h2, h3, h4⟩ := rdV_back hr
  refine ⟨fun k hk => ?_, h2, ?_⟩
  · rcases List.mem_append.1 hk with hk | hk
    · exact h.1 k hk
    · rw [List.mem_singleton] at hk; omega
  · rw [extract_two s 0 p q (Nat.zero_le _) (by omega), h.2.2, h4, numsB_snoc, Int.toNat_natCast]

theorem got_place {s : ByteArray} {p : Nat} {ns : List Int} (h : Got s p ns) : p = (numsB ns).size := by
  rw [← h.2.2, ByteArray.size_extract]
  have := h.2.1
  omega

theorem numsB_cons (n : Int) (l : List Int) : numsB (n :: l) = ⟨(vtext n.toNat).toArray⟩ ++ numsB l := by
  apply ByteArray.ext
  simp [numsB, numsL_cons, ByteArray.data_append]

/-- what is written behind what was read is read next -/
theorem got_reads {s : ByteArray} {p : Nat} {ns rest : List Int} {n : Int} (h : Got s p ns) (hn : 0 ≤ n ∧ n ≤ 1000000000) (hs : s = numsB (ns ++ n :: rest)) : ∃ q, rdV s p = some (n.toNat, q) := by
  have h1 := rdV_at s (numsB ns) (numsB rest) n.toNat (by omega) (by rw [hs, numsB_append, numsB_cons, ByteArray.append_assoc])
  rw [← got_place h] at h1
  exact ⟨_, h1⟩

theorem numsB_pos (n : Int) (l : List Int) : 0 < (numsB (n :: l)).size := by
  rw [numsB_size]
  have := (numsL_size (n :: l)).1
  simp at this
  omega

/-- numbers read are a beginning of those written -/
theorem got_begins {s : ByteArray} {p : Nat} {ns N : List Int} (h : Got s p ns) (hN : NumsIn N) (hs : s = numsB N) : ∃ rest, N = ns ++ rest := by
  have key : ∀ (a b pre : List Int) (X : ByteArray), NumsIn a → NumsIn b → (numsB pre ++ numsB a) ++ X = numsB pre ++ numsB b → ∃ rest, b = a ++ rest := by
    intro a
    induction a with
    | nil => intro b _ _ _ _ _; exact ⟨b, rfl⟩
    | cons x a ih =>
      intro b pre X ha hb he
      cases b with
      | nil =>
        exfalso
        have := congrArg ByteArray.size he
        rw [ByteArray.size_append, ByteArray.size_append, ByteArray.size_append] at this
        have h1 := numsB_pos x a
        rw [numsB_nil, show (⟨#[]⟩ : ByteArray).size = 0 from rfl] at this
        omega
      | cons y b =>
        have hx := ha x List.mem_cons_self
        have hy := hb y List.mem_cons_self
        have r1 := rdV_at ((numsB pre ++ numsB (x :: a)) ++ X) (numsB pre) (numsB a ++ X) x.toNat (by omega) (by rw [numsB_cons]; simp only [ByteArray.append_assoc])
        have r2 := rdV_at (numsB pre ++ numsB (y :: b)) (numsB pre) (numsB b) y.toNat (by omega) (by rw [numsB_cons]; simp only [ByteArray.append_assoc])
        rw [he, r2] at r1
        injection r1 with r1
        injection r1 with r1 _
        have hxy : x = y := by omega
        subst hxy
        have := ih b (pre ++ [x]) X (fun n hn => ha n (List.mem_cons_of_mem _ hn)) (fun n hn => hb n (List.mem_cons_of_mem _ hn)) (by
          rw [numsB_append]
          rw [numsB_cons x a, numsB_cons x b] at he
          rw [show numsB [x] = ⟨(vtext x.toNat).toArray⟩ from by rw [numsB_cons, numsB_nil]; apply ByteArray.ext; simp [ByteArray.data_append]]
          simpa only [ByteArray.append_assoc] using he)
        obtain ⟨rest, hr⟩ := this
        exact ⟨rest, by rw [hr]; rfl⟩
  have hp := h.2.1
  have h0 : s = s.extract 0 p ++ s.extract p s.size := by
    rw [← extract_two s 0 p s.size (Nat.zero_le _) hp]
    apply ByteArray.ext
    simp
  refine key ns N [] (s.extract p s.size) h.1 hN ?_
  rw [numsB_nil, ← h.2.2, show (⟨#[]⟩ : ByteArray) ++ s.extract 0 p = s.extract 0 p from by apply ByteArray.ext; simp [ByteArray.data_append], ← h0, hs]
  apply ByteArray.ext
  simp [ByteArray.data_append]

/-- frees whose numbers begin frees' numbers -/
theorem frees_begin : ∀ (fs gs : List (Int × List Int)) (X Y : List Int), freeNums gs = freeNums fs ++ X ++ Y → fs.length ≤ gs.length → ∃ rest, gs = fs ++ rest ∧ freeNums rest = X ++ Y
  | [], gs, X, Y, h, _ => ⟨gs, rfl, by simpa [freeNums] using h⟩
  | f :: fs, [], X, Y, _, hl => by simp at hl
  | f :: fs, g :: gs, X, Y, h, hl => by
    rw [freeNums_cons, freeNums_cons] at h
    simp only [List.cons_append, List.cons.injEq] at h
    obtain ⟨h1, h2, h3⟩ := h
    have hlen : g.2.length = f.2.length := by omega
    rw [List.append_assoc, List.append_assoc] at h3
    have h4 := List.append_inj h3 hlen
    obtain ⟨rest, r1, r2⟩ := frees_begin fs gs X Y (by rw [List.append_assoc]; exact h4.2) (by simpa using hl)
    refine ⟨rest, ?_, r2⟩
    rw [r1]
    have : g = f := Prod.ext h1 h4.1
    rw [this]
    rfl
end Go.Proofs.Ythcakofocbileaa
