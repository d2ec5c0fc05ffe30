/-
  Reading a meta where what was read stands as long as no fault is met: the states of Plain21 with what was got.
-/
import Derived.Test.YtplkioelbdemjaaGreatDoorImplMetaRd
namespace Go.Proofs.YtplkioelbdemjaaGreatDoor

def RhI (s : ByteArray) (bad : Bool) (p : Nat) (ns : List Int) : Prop := Rh s bad p ns ∧ (bad = false → Got s p ns)

def RoI (s : ByteArray) (bad : Bool) (p : Nat) (tx root next : Int) (cnt : Nat) (fs : List (Int × List Int)) : Prop := Ro s bad p tx root next cnt fs ∧ (bad = false → Got s p ([tx, root, next, (cnt : Int)] ++ freeNums fs))

def RfI (s : ByteArray) (bad : Bool) (p : Nat) (tx root next : Int) (cnt : Nat) (fs : List (Int × List Int)) (ftx : Int) : Prop := Rf s bad p tx root next cnt fs ftx ∧ (bad = false → Got s p ([tx, root, next, (cnt : Int)] ++ freeNums fs ++ [ftx]))

def RiI (s : ByteArray) (bad : Bool) (p : Nat) (tx root next : Int) (cnt : Nat) (fs : List (Int × List Int)) (ftx : Int) (k : Nat) (ps : List Int) : Prop := Ri s bad p tx root next cnt fs ftx k ps ∧ (bad = false → Got s p ([tx, root, next, (cnt : Int)] ++ freeNums fs ++ [ftx] ++ (k : Int) :: ps))

def REndI (s : ByteArray) (bad : Bool) (p : Nat) (m : Mt) : Prop := REnd s bad p m ∧ (bad = false → Got s p m.nums)

theorem got_num {s : ByteArray} {bad : Bool} {p x q : Nat} {bad' : Bool} {ns : List Int} (h : bad = false → Got s p ns) (ho : NumOut s bad p x q bad') (hb : bad' = false) : Got s q (ns ++ [(x : Int)]) := by
  rcases ho with ⟨h1, -, hr⟩ | ⟨h1, -, -, -⟩
  · exact got_next (h h1) hr
  · rw [hb] at h1; cases h1

theorem rhI_start (s : ByteArray) : RhI s false 0 [] := ⟨rh_start s false (fun h => by cases h), fun _ => got_start s⟩

theorem rhI_step {s : ByteArray} {bad : Bool} {p x q : Nat} {bad' : Bool} {ns : List Int} (h : RhI s bad p ns) (hn : ns.length < 4) (ho : NumOut s bad p x q bad') : RhI s bad' q (ns ++ [(x : Int)]) := ⟨rh_step h.1 hn ho, fun hb => got_num h.2 ho hb⟩

theorem cntI_ro {s : ByteArray} {bad : Bool} {p x q : Nat} {bad' : Bool} {tx root next : Int} (h : RhI s bad p [tx, root, next]) (ho : CntOut s bad p 20 x q bad') : x ≤ 20 ∧ RoI s bad' q tx root next x [] := by
  obtain ⟨y, b, h1, h2⟩ := ho
  have h3 := rh_step h.1 (by simp) h1
  rcases h2 with ⟨e1, rfl, rfl⟩ | ⟨e1, rfl, rfl⟩
  · exact ⟨e1, ro_step h3, fun hb => by have := got_num h.2 h1 hb; simpa [freeNums] using this⟩
  · exact ⟨by omega, Or.inl (ro_big h3 e1), fun h => by cases h⟩

theorem rfI_step {s : ByteArray} {bad : Bool} {p x q : Nat} {bad' : Bool} {tx root next : Int} {cnt : Nat} {fs : List (Int × List Int)} (h : RoI s bad p tx root next cnt fs) (hl : fs.length < cnt) (ho : NumOut s bad p x q bad') : RfI s bad' q tx root next cnt fs (x : Int) := ⟨rf_step h.1 hl ho, fun hb => got_num h.2 ho hb⟩

theorem cntI_ri {s : ByteArray} {bad : Bool} {p x q : Nat} {bad' : Bool} {tx root next ftx : Int} {cnt : Nat} {fs : List (Int × List Int)} (h : RfI s bad p tx root next cnt fs ftx) (ho : CntOut s bad p 40 x q bad') : x ≤ 40 ∧ RiI s bad' q tx root next cnt fs ftx x [] := by
  obtain ⟨y, b, h1, h2⟩ := ho
  have h3 := ri_step0 h.1 h1
  rcases h2 with ⟨e1, rfl, rfl⟩ | ⟨e1, rfl, rfl⟩
  · exact ⟨e1, h3.1, fun hb => got_num h.2 h1 hb⟩
  · exact ⟨by omega, Or.inl (h3.2 e1), fun h => by cases h⟩

theorem riI_step {s : ByteArray} {bad : Bool} {p x q : Nat} {bad' : Bool} {tx root next ftx : Int} {cnt k : Nat} {fs : List (Int × List Int)} {ps : List Int} (h : RiI s bad p tx root next cnt fs ftx k ps) (hl : ps.length < k) (ho : NumOut s bad p x q bad') : RiI s bad' q tx root next cnt fs ftx k (ps ++ [(x : Int)]) :=
  ⟨ri_step h.1 hl ho, fun hb => by have := got_num h.2 ho hb; simpa using this⟩

theorem riI_end {s : ByteArray} {bad : Bool} {p : Nat} {tx root next ftx : Int} {cnt k : Nat} {fs : List (Int × List Int)} {ps : List Int} (h : RiI s bad p tx root next cnt fs ftx k ps) (hk : ps.length = k) : RoI s bad p tx root next cnt (fs ++ [(ftx, ps)]) :=
  ⟨ri_end h.1 (by omega), fun hb => by have := h.2 hb; rw [freeNums_snoc, hk]; simpa using this⟩

theorem roI_end {s : ByteArray} {bad : Bool} {p : Nat} {tx root next : Int} {cnt : Nat} {fs : List (Int × List Int)} (h : RoI s bad p tx root next cnt fs) (hk : fs.length = cnt) : REndI s bad p ⟨tx, root, next, fs⟩ :=
  ⟨ro_end h.1 (by omega), fun hb => by have := h.2 hb; rw [← hk] at this; simpa [Mt.nums] using this⟩

theorem isM_size {t : ByteArray} {m : Mt} (h : IsM t m) : t.size ≤ 240 := by
  rw [← h.2, text_size]
  exact good_size h.1

/-- nothing was at fault: it is the one -/
theorem rdI_true {t s : ByteArray} {p : Nat} {m : Mt} (hE : REndI s false p m) (hF : ∀ m', IsM t m' → m'.good = true ∧ s = numsB m'.nums) (hsl : isSealed t.data.toList = true) (hs : s = t.extract 0 (t.size - 4)) (ht : t.size ≤ 240) (hp : p = s.size) (hok : m.ok = true) : ReadM t m true := by
  have hg := hE.2 rfl
  have e := got_all hg hp
  have h4 : 4 ≤ t.size := by
    rw [isSealed, decide_eq_true_eq] at hsl
    have := hsl.1
    rwa [ba_len] at this
  have hgood : m.good = true := good_of hok ht h4 (by rw [← hs]; exact e)
  have hm : IsM t m := (isM_sealed hsl m).2 ⟨hgood, by rw [← hs]; exact e⟩
  refine Or.inl ⟨rfl, hm, fun m' hm' => ?_⟩
  obtain ⟨g1, g2⟩ := hF m' hm'
  rcases hE.1 with hE | hE
  · exact absurd g2 (hE m' g1)
  · exact hE.2.2 m' g1 g2

/-- something was at fault: there is none -/
theorem rdI_none {t s : ByteArray} {bad : Bool} {p : Nat} {m : Mt} (hE : REndI s bad p m) (hF : ∀ m', IsM t m' → m'.good = true ∧ s = numsB m'.nums) (h : bad = true ∨ p ≠ s.size ∨ m.ok = false) : ∀ m', ¬ IsM t m' := fun m' hm' => by
  obtain ⟨g1, g2⟩ := hF m' hm'
  rcases hE.1 with hE | ⟨e1, e2, e3⟩
  · exact hE m' g1 g2
  · have e := e3 m' g1 g2
    subst e
    rcases h with h | h | h
    · rw [e1] at h; cases h
    · exact h (got_size e2 g2)
    · rw [good_ok g1] at h; cases h
end Go.Proofs.YtplkioelbdemjaaGreatDoor
