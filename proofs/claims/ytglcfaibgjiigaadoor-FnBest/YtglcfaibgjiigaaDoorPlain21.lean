/-
  Reading a meta number by number: what is known of it on the way (Rh, Ro, Rf, Ri), and what the end tells (ReadM). No program.
-/
import Derived.Test.YtglcfaibgjiigaaDoorPlain20
namespace Go.Proofs.YtglcfaibgjiigaaDoor

/-- no meta has these bytes (ahead of the sum) -/
def NoM (s : ByteArray) : Prop := ∀ m : Mt, m.good = true → s ≠ numsB m.nums

theorem good_ok {m : Mt} (h : m.good = true) : m.ok = true := by rw [Mt.good, Bool.and_eq_true] at h; exact h.1

/-- something is written behind ns, whatever meta begins so -/
def More (ns : List Int) : Prop := ∀ m : Mt, m.good = true → (∃ r, m.nums = ns ++ r) → ∃ x r, m.nums = ns ++ x :: r

theorem noM_of {s : ByteArray} {p : Nat} {ns : List Int} (h : Got s p ns) (hm : More ns) (hr : rdV s p = none) : NoM s := fun m hg hs => by
  have hin := ok_numsIn (good_ok hg)
  obtain ⟨r, e⟩ := got_begins h hin hs
  obtain ⟨x, r', e'⟩ := hm m hg ⟨r, e⟩
  rw [e'] at hs
  obtain ⟨q, hq⟩ := got_reads h (hin x (by rw [e']; simp)) hs
  rw [hr] at hq
  cases hq

/-- the head's numbers: fewer than four were read -/
def Rh (s : ByteArray) (bad : Bool) (p : Nat) (ns : List Int) : Prop := NoM s ∨ (bad = false ∧ Got s p ns)

/-- ahead of a free -/
def Ro (s : ByteArray) (bad : Bool) (p : Nat) (tx root next : Int) (cnt : Nat) (fs : List (Int × List Int)) : Prop :=
  NoM s ∨ (bad = false ∧ Got s p ([tx, root, next, (cnt : Int)] ++ freeNums fs) ∧ cnt ≤ 20 ∧ fs.length ≤ cnt)

/-- behind a free's number -/
def Rf (s : ByteArray) (bad : Bool) (p : Nat) (tx root next : Int) (cnt : Nat) (fs : List (Int × List Int)) (ftx : Int) : Prop :=
  NoM s ∨ (bad = false ∧ Got s p ([tx, root, next, (cnt : Int)] ++ freeNums fs ++ [ftx]) ∧ cnt ≤ 20 ∧ fs.length < cnt)

/-- ahead of a page of a free -/
def Ri (s : ByteArray) (bad : Bool) (p : Nat) (tx root next : Int) (cnt : Nat) (fs : List (Int × List Int)) (ftx : Int) (k : Nat) (ps : List Int) : Prop :=
  NoM s ∨ (bad = false ∧ Got s p ([tx, root, next, (cnt : Int)] ++ freeNums fs ++ [ftx] ++ (k : Int) :: ps) ∧ cnt ≤ 20 ∧ fs.length < cnt ∧ k ≤ 40 ∧ ps.length ≤ k)

theorem more_head {ns : List Int} (h : ns.length < 4) : More ns := fun m _ ⟨r, e⟩ => by
  cases r with
  | nil =>
    have := congrArg List.length e
    simp [Mt.nums] at this
    omega
  | cons x r => exact ⟨x, r, e⟩

theorem head_eq {m : Mt} {tx root next cnt : Int} {X : List Int} (h : m.nums = [tx, root, next, cnt] ++ X) : m.tx = tx ∧ m.root = root ∧ m.next = next ∧ (m.fs.length : Int) = cnt ∧ freeNums m.fs = X := by
  simpa [Mt.nums] using h

/-- a meta that begins so has a free more -/
theorem rest_of {m : Mt} {tx root next : Int} {cnt : Nat} {fs : List (Int × List Int)} {X Y : List Int} (h : m.nums = [tx, root, next, (cnt : Int)] ++ (freeNums fs ++ X) ++ Y) (hl : fs.length ≤ cnt) :
    m.fs.length = cnt ∧ ∃ rest, m.fs = fs ++ rest ∧ freeNums rest = X ++ Y := by
  rw [List.append_assoc] at h
  obtain ⟨-, -, -, h4, h5⟩ := head_eq h
  have h4 : m.fs.length = cnt := by omega
  refine ⟨h4, ?_⟩
  exact frees_begin fs m.fs X Y h5 (by omega)

theorem more_tx {tx root next : Int} {cnt : Nat} {fs : List (Int × List Int)} (hl : fs.length < cnt) : More ([tx, root, next, (cnt : Int)] ++ freeNums fs) := fun m _ ⟨r, e⟩ => by
  obtain ⟨h1, rest, h2, h3⟩ := rest_of (X := []) (Y := r) (by simpa using e) (by omega)
  cases rest with
  | nil => rw [h2] at h1; simp at h1; omega
  | cons f rest =>
    rw [freeNums_cons] at h3
    exact ⟨f.1, (f.2.length : Int) :: (f.2 ++ freeNums rest), by rw [e]; congr 1; simpa using h3.symm⟩

theorem more_cnt {tx root next : Int} {cnt : Nat} {fs : List (Int × List Int)} {ftx : Int} (hl : fs.length < cnt) : More ([tx, root, next, (cnt : Int)] ++ freeNums fs ++ [ftx]) := fun m _ ⟨r, e⟩ => by
  obtain ⟨h1, rest, h2, h3⟩ := rest_of (X := [ftx]) (Y := r) (by simpa using e) (by omega)
  cases rest with
  | nil => rw [h2] at h1; simp at h1; omega
  | cons f rest =>
    rw [freeNums_cons] at h3
    simp at h3
    exact ⟨(f.2.length : Int), f.2 ++ freeNums rest, by rw [e, ← h3.2]⟩

theorem inner_of {m : Mt} {tx root next : Int} {cnt : Nat} {fs : List (Int × List Int)} {ftx : Int} {k : Nat} {ps r : List Int} (hl : fs.length < cnt) (e : m.nums = [tx, root, next, (cnt : Int)] ++ freeNums fs ++ [ftx] ++ (k : Int) :: ps ++ r) :
    ∃ f rest, m.fs = fs ++ f :: rest ∧ f.1 = ftx ∧ f.2.length = k ∧ f.2 ++ freeNums rest = ps ++ r ∧ m.fs.length = cnt := by
  obtain ⟨h1, rest, h2, h3⟩ := rest_of (X := ftx :: (k : Int) :: ps) (Y := r) (by simpa using e) (by omega)
  cases rest with
  | nil => rw [h2] at h1; simp at h1; omega
  | cons f rest =>
    rw [freeNums_cons] at h3
    simp at h3
    exact ⟨f, rest, h2, h3.1, by omega, h3.2.2, h1⟩

theorem more_pg {tx root next : Int} {cnt : Nat} {fs : List (Int × List Int)} {ftx : Int} {k : Nat} {ps : List Int} (hl : fs.length < cnt) (hk : ps.length < k) : More ([tx, root, next, (cnt : Int)] ++ freeNums fs ++ [ftx] ++ (k : Int) :: ps) := fun m _ ⟨r, e⟩ => by
  obtain ⟨f, rest, h1, h2, h3, h4, h5⟩ := inner_of hl e
  cases r with
  | nil =>
    have := congrArg List.length h4
    simp at this
    omega
  | cons x r => exact ⟨x, r, e⟩

theorem rh_start (s : ByteArray) (bad : Bool) (h : bad = true → NoM s) : Rh s bad 0 [] := by
  cases bad with
  | true => exact Or.inl (h rfl)
  | false => exact Or.inr ⟨rfl, got_start s⟩

theorem rh_good {s : ByteArray} {p n q : Nat} {ns : List Int} (h : Rh s false p ns) (hr : rdV s p = some (n, q)) : Rh s false q (ns ++ [(n : Int)]) :=
  h.imp id (fun h => ⟨rfl, got_next h.2 hr⟩)

theorem rh_bad {s : ByteArray} {bad : Bool} {p : Nat} {ns : List Int} (h : Rh s bad p ns) (hn : ns.length < 4) (hb : bad = true ∨ rdV s p = none) : NoM s := by
  rcases h with h | ⟨h1, h2⟩
  · exact h
  · rcases hb with hb | hb
    · rw [h1] at hb; cases hb
    · exact noM_of h2 (more_head hn) hb

/-- the count of the frees was read -/
theorem ro_start {s : ByteArray} {bad : Bool} {p n : Nat} {tx root next : Int} (h : Rh s bad p [tx, root, next, (n : Int)]) : (n ≤ 20 ∧ Ro s bad p tx root next n []) ∨ NoM s := by
  rcases h with h | ⟨h1, h2⟩
  · exact Or.inr h
  · by_cases hn : n ≤ 20
    · exact Or.inl ⟨hn, Or.inr ⟨h1, by simpa [freeNums] using h2, hn, Nat.zero_le _⟩⟩
    · refine Or.inr (fun m hg hs => ?_)
      obtain ⟨r, e⟩ := got_begins h2 (ok_numsIn (good_ok hg)) hs
      have := (head_eq e).2.2.2.1
      have := (ok_parts (good_ok hg)).1.2.2.2.2.2
      omega

theorem rf_good {s : ByteArray} {p n q : Nat} {tx root next : Int} {cnt : Nat} {fs : List (Int × List Int)} (h : Ro s false p tx root next cnt fs) (hl : fs.length < cnt) (hr : rdV s p = some (n, q)) : Rf s false q tx root next cnt fs (n : Int) :=
  h.imp id (fun h => ⟨rfl, got_next h.2.1 hr, h.2.2.1, hl⟩)

theorem rf_bad {s : ByteArray} {bad : Bool} {p : Nat} {tx root next : Int} {cnt : Nat} {fs : List (Int × List Int)} (h : Ro s bad p tx root next cnt fs) (hl : fs.length < cnt) (hb : bad = true ∨ rdV s p = none) : NoM s := by
  rcases h with h | ⟨h1, h2, -, -⟩
  · exact h
  · rcases hb with hb | hb
    · rw [h1] at hb; cases hb
    · exact noM_of h2 (more_tx hl) hb

theorem ri_good {s : ByteArray} {p k q : Nat} {tx root next ftx : Int} {cnt : Nat} {fs : List (Int × List Int)} (h : Rf s false p tx root next cnt fs ftx) (hr : rdV s p = some (k, q)) : (k ≤ 40 ∧ Ri s false q tx root next cnt fs ftx k []) ∨ NoM s := by
  rcases h with h | ⟨-, h2, h3, h4⟩
  · exact Or.inr h
  · have h5 := got_next h2 hr
    by_cases hk : k ≤ 40
    · exact Or.inl ⟨hk, Or.inr ⟨rfl, h5, h3, h4, hk, Nat.zero_le _⟩⟩
    · refine Or.inr (fun m hg hs => ?_)
      obtain ⟨r, e⟩ := got_begins h5 (ok_numsIn (good_ok hg)) hs
      obtain ⟨f, rest, g1, g2, g3, g4, g5⟩ := inner_of (ps := []) h4 e
      have := ((ok_parts (good_ok hg)).2 f (by rw [g1]; simp)).2.2.2.1
      omega

theorem ri_bad0 {s : ByteArray} {bad : Bool} {p : Nat} {tx root next ftx : Int} {cnt : Nat} {fs : List (Int × List Int)} (h : Rf s bad p tx root next cnt fs ftx) (hb : bad = true ∨ rdV s p = none) : NoM s := by
  rcases h with h | ⟨h1, h2, -, h4⟩
  · exact h
  · rcases hb with hb | hb
    · rw [h1] at hb; cases hb
    · exact noM_of h2 (more_cnt h4) hb

theorem ri_next {s : ByteArray} {p n q : Nat} {tx root next ftx : Int} {cnt k : Nat} {fs : List (Int × List Int)} {ps : List Int} (h : Ri s false p tx root next cnt fs ftx k ps) (hl : ps.length < k) (hr : rdV s p = some (n, q)) : Ri s false q tx root next cnt fs ftx k (ps ++ [(n : Int)]) :=
  h.imp id (fun h => ⟨rfl, by have := got_next h.2.1 hr; simpa using this, h.2.2.1, h.2.2.2.1, h.2.2.2.2.1, by simp; omega⟩)

theorem ri_bad {s : ByteArray} {bad : Bool} {p : Nat} {tx root next ftx : Int} {cnt k : Nat} {fs : List (Int × List Int)} {ps : List Int} (h : Ri s bad p tx root next cnt fs ftx k ps) (hl : ps.length < k) (hb : bad = true ∨ rdV s p = none) : NoM s := by
  rcases h with h | ⟨h1, h2, -, h4, -⟩
  · exact h
  · rcases hb with hb | hb
    · rw [h1] at hb; cases hb
    · exact noM_of h2 (more_pg h4 hl) hb

theorem ri_end {s : ByteArray} {bad : Bool} {p : Nat} {tx root next ftx : Int} {cnt k : Nat} {fs : List (Int × List Int)} {ps : List Int} (h : Ri s bad p tx root next cnt fs ftx k ps) (hk : k ≤ ps.length) : Ro s bad p tx root next cnt (fs ++ [(ftx, ps)]) :=
  h.imp id (fun ⟨h1, h2, h3, h4, h5, h6⟩ => by
    obtain rfl : k = ps.length := by omega
    exact ⟨h1, by rw [freeNums_snoc]; simpa using h2, h3, by simp; omega⟩)

/-- all frees were read -/
theorem ro_end {s : ByteArray} {bad : Bool} {p : Nat} {tx root next : Int} {cnt : Nat} {fs : List (Int × List Int)} (h : Ro s bad p tx root next cnt fs) (hk : cnt ≤ fs.length) :
    NoM s ∨ (bad = false ∧ Got s p (Mt.nums ⟨tx, root, next, fs⟩) ∧ ∀ m : Mt, m.good = true → s = numsB m.nums → m = ⟨tx, root, next, fs⟩) := by
  rcases h with h | ⟨h1, h2, h3, h4⟩
  · exact Or.inl h
  · obtain rfl : cnt = fs.length := by omega
    refine Or.inr ⟨h1, by simpa [Mt.nums] using h2, fun m hg hs => ?_⟩
    obtain ⟨r, e⟩ := got_begins h2 (ok_numsIn (good_ok hg)) hs
    obtain ⟨g1, rest, g2, g3⟩ := rest_of (X := []) (Y := r) (by simpa using e) (Nat.le_refl _)
    rw [List.append_assoc] at e
    obtain ⟨k1, k2, k3, -, -⟩ := head_eq e
    have : rest = [] := by
      rw [g2, List.length_append] at g1
      exact List.length_eq_zero_iff.1 (by omega)
    subst this
    obtain ⟨a, b, c, d⟩ := m
    simp at k1 k2 k3 g2
    subst k1 k2 k3 g2
    rfl

/-- the right meta whose text this is -/
def IsM (t : ByteArray) (m : Mt) : Prop := m.good = true ∧ m.text = t

def ReadM (t : ByteArray) (m : Mt) (ok : Bool) : Prop := (ok = true ∧ IsM t m ∧ ∀ m', IsM t m' → m' = m) ∨ (ok = false ∧ m = Mt.none ∧ ∀ m', ¬ IsM t m')

theorem readM_one {t : ByteArray} {n m : Mt} {ok ko : Bool} (h : ReadM t n ok) (k : ReadM t m ko) : n = m ∧ ok = ko := by
  rcases h with ⟨h1, h2, h3⟩ | ⟨h1, h2, h3⟩
  · rcases k with ⟨k1, k2, k3⟩ | ⟨k1, k2, k3⟩
    · exact ⟨(h3 _ k2).symm, by rw [h1, k1]⟩
    · exact absurd h2 (k3 _)
  · rcases k with ⟨k1, k2, k3⟩ | ⟨k1, k2, k3⟩
    · exact absurd k2 (h3 _)
    · exact ⟨by rw [h2, k2], by rw [h1, k1]⟩

theorem good_size {m : Mt} (h : m.good = true) : (numsL m.nums).length + 4 ≤ 240 := by
  rw [Mt.good, Bool.and_eq_true, decide_eq_true_eq] at h
  exact h.2

theorem text_list (m : Mt) : m.text.data.toList = sealL (numsL m.nums) := by rw [Mt.text]

theorem isM_unsealed {t : ByteArray} (h : isSealed t.data.toList = false) : ∀ m, ¬ IsM t m := fun m hm => by
  have h1 := good_size hm.1
  have h2 := sealL_is (numsL m.nums) (by omega)
  rw [← text_list, hm.2, h] at h2
  cases h2

/-- what is sealed is that of the text inside -/
theorem isM_sealed {t : ByteArray} (h : isSealed t.data.toList = true) (m : Mt) : IsM t m ↔ (m.good = true ∧ t.extract 0 (t.size - 4) = numsB m.nums) := by
  have h' := h
  rw [isSealed, decide_eq_true_eq] at h'
  obtain ⟨h4, -, hs⟩ := h'
  rw [ba_len] at h4 hs
  have he : (t.extract 0 (t.size - 4)).data.toList = t.data.toList.take (t.size - 4) := by rw [Lib.extract_data, List.drop_zero, Nat.sub_zero]
  have ht : t.data.toList = sealL (t.extract 0 (t.size - 4)).data.toList := by
    rw [he, sealL, ← hs, List.take_append_drop]
  constructor
  · rintro ⟨h1, h2⟩
    refine ⟨h1, ?_⟩
    have h3 := text_list m
    rw [h2] at h3
    have h5 : (numsL m.nums).length = t.size - 4 := by
      have := congrArg List.length h3
      rw [sealL_length, ba_len] at this
      omega
    apply ByteArray.ext
    apply Array.toList_inj.1
    rw [he, h3, sealL, List.take_left' h5, numsB_list]
  · rintro ⟨h1, h2⟩
    refine ⟨h1, ?_⟩
    apply ByteArray.ext
    apply Array.toList_inj.1
    rw [text_list, ht, h2, numsB_list]

theorem got_all {s : ByteArray} {p : Nat} {ns : List Int} (h : Got s p ns) (hp : p = s.size) : s = numsB ns := by
  rw [← h.2.2, hp]
  apply ByteArray.ext
  simp

theorem got_size {s : ByteArray} {p : Nat} {ns : List Int} (h : Got s p ns) (hs : s = numsB ns) : p = s.size := by rw [got_place h, ← hs]

theorem good_of {m : Mt} (h : m.ok = true) {t : ByteArray} (ht : t.size ≤ 240) (h4 : 4 ≤ t.size) (hs : t.extract 0 (t.size - 4) = numsB m.nums) : m.good = true := by
  rw [Mt.good, h, Bool.true_and, decide_eq_true_eq, ← numsB_size, ← hs, ByteArray.size_extract]
  omega

theorem isM_of_text {t : ByteArray} {m : Mt} : IsM t m ↔ m.good = true ∧ m.textO = t := by
  constructor
  · rintro ⟨h1, h2⟩
    exact ⟨h1, by rw [Mt.textO, if_pos h1]; exact h2⟩
  · rintro ⟨h1, h2⟩
    rw [Mt.textO, if_pos h1] at h2
    exact ⟨h1, h2⟩
end Go.Proofs.YtglcfaibgjiigaaDoor
