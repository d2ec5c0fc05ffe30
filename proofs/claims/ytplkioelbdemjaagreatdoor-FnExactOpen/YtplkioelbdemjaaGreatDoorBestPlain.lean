/-
  Which of two metas counts. No program.
-/
import Derived.Test.YtplkioelbdemjaaGreatDoorSpecReadMeta
import Derived.Test.YtplkioelbdemjaaGreatDoorOpC
namespace Go.Proofs.YtplkioelbdemjaaGreatDoor

def bestOf (m0 : Mt) (ok0 : Bool) (m1 : Mt) (ok1 : Bool) : Mt × Bool := if ok0 = true ∧ (ok1 = false ∨ m1.tx ≤ m0.tx) then (m0, true) else if ok1 = true then (m1, true) else (Mt.none, false)

def BestM (t0 t1 : ByteArray) (m : Mt) (ok : Bool) : Prop := ∃ m0 ok0 m1 ok1, ReadM t0 m0 ok0 ∧ ReadM t1 m1 ok1 ∧ (m, ok) = bestOf m0 ok0 m1 ok1

theorem bestM_one {t0 t1 : ByteArray} {m n : Mt} {ok ko : Bool} (h : BestM t0 t1 m ok) (k : BestM t0 t1 n ko) : m = n ∧ ok = ko := by
  obtain ⟨m0, b0, m1, b1, h0, h1, h2⟩ := h
  obtain ⟨n0, d0, n1, d1, k0, k1, k2⟩ := k
  obtain ⟨rfl, rfl⟩ := readM_one h0 k0
  obtain ⟨rfl, rfl⟩ := readM_one h1 k1
  have := h2.trans k2.symm
  injection this with e1 e2
  exact ⟨e1, e2⟩

theorem readM_false {t : ByteArray} {m : Mt} (h : ReadM t m false) : m = Mt.none := by
  rcases h with ⟨h, -⟩ | ⟨-, h, -⟩
  · cases h
  · exact h

theorem readD_small {ps : List ByteArray} {ls : List (Int × ByteArray)} {M : Nat} (hps : ∀ s ∈ ps, s.size ≤ M) (hls : ∀ p ∈ ls, p.2.size ≤ M) (page : Int) : (readD ps ls page).size ≤ M := by
  have hlate : ∀ k t, lateAt ls page k = some t → t.size ≤ M := fun k => by
    induction k with
    | zero => intro t h; simp [lateAt] at h
    | succ k ih =>
      intro t h
      rw [lateAt] at h
      split at h
      · next p hp =>
        split at h
        · injection h with h
          rw [← h]
          exact hls p (List.mem_of_getElem? hp)
        · exact ih t h
      · exact ih t h
  unfold readD
  split
  · split
    · next t h => exact hlate _ _ h
    · rw [List.getD_eq_getElem?_getD]
      cases h : ps[page.toNat]? with
      | none => exact Nat.zero_le _
      | some x => exact hps x (List.mem_of_getElem? h)
  · exact Nat.zero_le _
end Go.Proofs.YtplkioelbdemjaaGreatDoor
