/-
  Reading a meta: one number more, good or not (NumOut), at every place of the way.
-/
import Derived.Test.YtglcfaibgjiigaaDoorPlain21
namespace Go.Proofs.YtglcfaibgjiigaaDoor

/-- what reading one number at p tells, the reader being good or bad: x, the place q behind it, and whether it is bad now -/
def NumOut (s : ByteArray) (bad : Bool) (p x q : Nat) (bad' : Bool) : Prop := (bad = false ∧ bad' = false ∧ rdV s p = some (x, q)) ∨ (bad' = true ∧ x = 0 ∧ q = p ∧ (bad = true ∨ rdV s p = none))

theorem num_small {s : ByteArray} {bad : Bool} {p x q : Nat} {bad' : Bool} (h : NumOut s bad p x q bad') : x ≤ 1000000000 := by
  rcases h with ⟨-, -, h⟩ | ⟨-, h, -⟩
  · exact (rdV_back h).2.2.1
  · omega

theorem rh_step {s : ByteArray} {bad : Bool} {p x q : Nat} {bad' : Bool} {ns : List Int} (h : Rh s bad p ns) (hn : ns.length < 4) (ho : NumOut s bad p x q bad') : Rh s bad' q (ns ++ [(x : Int)]) := by
  rcases ho with ⟨rfl, rfl, hr⟩ | ⟨rfl, -, -, hb⟩
  · exact rh_good h hr
  · exact Or.inl (rh_bad h hn hb)

theorem ro_step {s : ByteArray} {bad : Bool} {p n : Nat} {tx root next : Int} (h : Rh s bad p [tx, root, next, (n : Int)]) : Ro s bad p tx root next n [] := by
  rcases ro_start h with h | h
  · exact h.2
  · exact Or.inl h

theorem ro_big {s : ByteArray} {bad : Bool} {p n : Nat} {tx root next : Int} (h : Rh s bad p [tx, root, next, (n : Int)]) (hn : 20 < n) : NoM s := by
  rcases ro_start h with h | h
  · omega
  · exact h

theorem rf_step {s : ByteArray} {bad : Bool} {p x q : Nat} {bad' : Bool} {tx root next : Int} {cnt : Nat} {fs : List (Int × List Int)} (h : Ro s bad p tx root next cnt fs) (hl : fs.length < cnt) (ho : NumOut s bad p x q bad') : Rf s bad' q tx root next cnt fs (x : Int) := by
  rcases ho with ⟨rfl, rfl, hr⟩ | ⟨rfl, -, -, hb⟩
  · exact rf_good h hl hr
  · exact Or.inl (rf_bad h hl hb)

theorem ri_step0 {s : ByteArray} {bad : Bool} {p x q : Nat} {bad' : Bool} {tx root next ftx : Int} {cnt : Nat} {fs : List (Int × List Int)} (h : Rf s bad p tx root next cnt fs ftx) (ho : NumOut s bad p x q bad') : Ri s bad' q tx root next cnt fs ftx x [] ∧ (40 < x → NoM s) := by
  rcases ho with ⟨rfl, rfl, hr⟩ | ⟨rfl, -, -, hb⟩
  · rcases ri_good h hr with h | h
    · exact ⟨h.2, fun h' => by omega⟩
    · exact ⟨Or.inl h, fun _ => h⟩
  · exact ⟨Or.inl (ri_bad0 h hb), fun _ => ri_bad0 h hb⟩

theorem ri_step {s : ByteArray} {bad : Bool} {p x q : Nat} {bad' : Bool} {tx root next ftx : Int} {cnt k : Nat} {fs : List (Int × List Int)} {ps : List Int} (h : Ri s bad p tx root next cnt fs ftx k ps) (hl : ps.length < k) (ho : NumOut s bad p x q bad') : Ri s bad' q tx root next cnt fs ftx k (ps ++ [(x : Int)]) := by
  rcases ho with ⟨rfl, rfl, hr⟩ | ⟨rfl, -, -, hb⟩
  · exact ri_next h hl hr
  · exact Or.inl (ri_bad h hl hb)

/-- the end of a free, by any of the ways that end its loop -/
theorem ri_out {s : ByteArray} {bad : Bool} {p : Nat} {tx root next ftx : Int} {cnt k : Nat} {fs : List (Int × List Int)} {ps : List Int} (h : Ri s bad p tx root next cnt fs ftx k ps) (he : k ≤ ps.length ∨ 50 ≤ ps.length ∨ bad = true) : Ro s bad p tx root next cnt (fs ++ [(ftx, ps)]) := by
  rcases h with h | h
  · exact Or.inl h
  · obtain ⟨h1, h2, h3, h4, h5, h6⟩ := h
    rcases he with he | he | he
    · exact ri_end (Or.inr ⟨h1, h2, h3, h4, h5, h6⟩) he
    · omega
    · rw [h1] at he; cases he

theorem ro_out {s : ByteArray} {bad : Bool} {p : Nat} {tx root next : Int} {cnt : Nat} {fs : List (Int × List Int)} (h : Ro s bad p tx root next cnt fs) (he : cnt ≤ fs.length ∨ 30 ≤ fs.length ∨ bad = true) :
    NoM s ∨ (bad = false ∧ Got s p (Mt.nums ⟨tx, root, next, fs⟩) ∧ ∀ m : Mt, m.good = true → s = numsB m.nums → m = ⟨tx, root, next, fs⟩) := by
  rcases h with h | h
  · exact Or.inl h
  · obtain ⟨h1, h2, h3, h4⟩ := h
    rcases he with he | he | he
    · exact ro_end (Or.inr ⟨h1, h2, h3, h4⟩) he
    · omega
    · rw [h1] at he; cases he
end Go.Proofs.YtglcfaibgjiigaaDoor
