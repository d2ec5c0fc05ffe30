/-
  Chapter 7, plain: what a page tells (rdN), and what GetKey tells (getL).
-/
import Derived.Test.YtmmepgincbngeaaPlain16
namespace Go.Proofs.Ytmmepgincbngeaa

open Classical in
/-- the right node whose bytes these are, and whether there is one -/
noncomputable def rdN (t : ByteArray) : Nd × Bool := if h : ∃ n, IsNd t n then (Classical.choose h, true) else (Nd.none, false)

theorem rdN_of {t : ByteArray} {n : Nd} {ok : Bool} (h : ReadN t n ok) : rdN t = (n, ok) := by
  unfold rdN
  rcases h with ⟨rfl, h1, h2⟩ | ⟨rfl, rfl, h2⟩
  · have hx : ∃ n, IsNd t n := ⟨n, h1⟩
    rw [dif_pos hx, h2 _ (Classical.choose_spec hx)]
  · rw [dif_neg (fun ⟨m, hm⟩ => h2 m hm)]

theorem rdN_ok {t : ByteArray} {n : Nd} (h : rdN t = (n, true)) : n.ok = true := by
  unfold rdN at h
  split at h
  · rename_i hx
    injection h with h1 h2
    rw [← h1]
    exact (Classical.choose_spec hx).1
  · injection h with h1 h2
    cases h2

theorem placeK_range (ks : List ByteArray) (key : ByteArray) : ∀ k : Nat, -1 ≤ placeK ks key k ∧ placeK ks key k < (k : Int)
  | 0 => by simp [placeK]
  | k + 1 => by
    have := placeK_range ks key k
    rw [placeK]
    split <;> omega

/-- GetKey, k levels from page p on -/
noncomputable def getL (D : Int → ByteArray) (key : ByteArray) : Nat → Int → Option ByteArray
  | 0, _ => none
  | k + 1, p =>
    if (rdN (D p)).2 = false ∨ placeK (rdN (D p)).1.ks key (rdN (D p)).1.ks.length < 0 then none
    else if (rdN (D p)).1.lf = true then
      (if (rdN (D p)).1.ks.getD (placeK (rdN (D p)).1.ks key (rdN (D p)).1.ks.length).toNat ⟨#[]⟩ = key then some ((rdN (D p)).1.vs.getD (placeK (rdN (D p)).1.ks key (rdN (D p)).1.ks.length).toNat ⟨#[]⟩) else none)
    else getL D key k ((rdN (D p)).1.cs.getD (placeK (rdN (D p)).1.ks key (rdN (D p)).1.ks.length).toNat 0)

/-- what the two results are -/
def getO : Option ByteArray → Value
  | none => .tuple #[.string ⟨#[]⟩, .bool false]
  | some v => .tuple #[.string v, .bool true]

noncomputable def getK (D : Int → ByteArray) (root : Int) (key : ByteArray) : Option ByteArray := if root = 0 then none else getL D key 8 root
end Go.Proofs.Ytmmepgincbngeaa
