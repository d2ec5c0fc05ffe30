/-
  spec.GetKey, at every disk whose lists and texts are of at most 1048576: it tells getK of what the pages read.
-/
import Derived.Test.YtaefmkmldfbjeaaDoorPlJ
import Derived.Test.YtaefmkmldfbjeaaDoorNodeLawRead
import Derived.Test.YtaefmkmldfbjeaaDoorNodeSpec3
import Derived.Test.YtaefmkmldfbjeaaDoorDiskSpecN
namespace Go.Proofs.YtaefmkmldfbjeaaDoor
open Go.RowKit

theorem readD_smallG {ps : List ByteArray} {ls : List (Int × ByteArray)} {M : Nat} (hps : ∀ s ∈ ps, s.size ≤ M) (hls : ∀ p ∈ ls, p.2.size ≤ M) (page : Int) : (readD ps ls page).size ≤ M := by
  have hlate : ∀ k t, lateAt ls page k = some t → t.size ≤ M := fun k => by
    induction k with
    | zero => intro t h; simp [lateAt] at h
    | succ k ih =>
      intro t h
      rw [lateAt] at h
      split at h
      · next p hp =>
        split at h
        · injection h with h
          rw [← h]
          exact hls p (List.mem_of_getElem? hp)
        · exact ih t h
      · exact ih t h
  unfold readD
  split
  · split
    · next t h => exact hlate _ _ h
    · rw [List.getD_eq_getElem?_getD]
      cases h : ps[page.toNat]? with
      | none => exact Nat.zero_le _
      | some x => exact hps x (List.mem_of_getElem? h)
  · exact Nat.zero_le _

/-- from page p on, q levels (page 0: nothing) -/
noncomputable def getZ (D : Int → ByteArray) (key : ByteArray) (q : Nat) (p : Int) : Option ByteArray := if p = 0 then none else getL D key q p

theorem getL_no {D : Int → ByteArray} {key : ByteArray} {q : Nat} {p : Int} {n : Nd} {ok : Bool} (h : rdN (D p) = (n, ok)) (hb : ok = false ∨ placeK n.ks key n.ks.length < 0) : getL D key (q + 1) p = none := by
  rw [getL, h, if_pos hb]

theorem getL_leaf {D : Int → ByteArray} {key : ByteArray} {q : Nat} {p : Int} {n : Nd} {i : Nat} (h : rdN (D p) = (n, true)) (hl : n.lf = true) (hi : placeK n.ks key n.ks.length = (i : Int)) : getL D key (q + 1) p = if n.ks.getD i ⟨#[]⟩ = key then some (n.vs.getD i ⟨#[]⟩) else none := by
  rw [getL, h, if_neg (by rintro (h | h); cases h; rw [hi] at h; omega), if_pos hl]
  simp only [hi, Int.toNat_natCast]

theorem getL_kid {D : Int → ByteArray} {key : ByteArray} {q : Nat} {p : Int} {n : Nd} {i : Nat} (h : rdN (D p) = (n, true)) (hl : n.lf = false) (hi : placeK n.ks key n.ks.length = (i : Int)) : getL D key (q + 1) p = getL D key q (n.cs.getD i 0) := by
  rw [getL, h, if_neg (by rintro (h | h); cases h; rw [hi] at h; omega), if_neg (by rw [hl]; decide)]
  simp only [hi, Int.toNat_natCast]

/-- a kid of a right node is no page 0 -/
theorem kid_pos {n : Nd} (h : n.ok = true) {i : Nat} (hi : i < n.cs.length) : 2 ≤ n.cs.getD i 0 ∧ n.cs.getD i 0 ≤ 39 := by
  have := (node_yes h).2.2.2 i hi
  unfold kidB at this
  rw [Bool.and_eq_true, decide_eq_true_eq] at this
  exact this.1

theorem row_getS {w : World} {B n c : Nat} {a : Option Addr} {l : List ByteArray} (h : w.ownsRow B 9 1 (.slice a n c) n (strs l)) {i : Nat} (hi : i < l.length) (hn : n = l.length) : ∃ g, a = some ⟨g, 0, none⟩ ∧ w.cell? ⟨g, i, none⟩ = some (.string (l.getD i ⟨#[]⟩)) := by
  rcases h.2 with ⟨-, h0⟩ | ⟨g, c', cur, e, -⟩
  · omega
  · injection e with e1 _ e2
    subst e1 e2
    refine ⟨g, rfl, ?_⟩
    rw [h.cellAt i (by omega), strs_at l i hi]
    simp [List.getD, hi]

theorem row_getI {w : World} {B n c : Nat} {a : Option Addr} {l : List Int} (h : w.ownsRow B 3 1 (.slice a n c) n (ints l)) {i : Nat} (hi : i < l.length) (hn : n = l.length) : ∃ g, a = some ⟨g, 0, none⟩ ∧ w.cell? ⟨g, i, none⟩ = some (.int .i64 (l.getD i 0)) := by
  rcases h.2 with ⟨-, h0⟩ | ⟨g, c', cur, e, -⟩
  · omega
  · injection e with e1 _ e2
    subst e1 e2
    refine ⟨g, rfl, ?_⟩
    rw [h.cellAt i (by omega), ints, List.getElem?_map, List.getElem?_eq_getElem hi]
    simp [List.getD, hi]

/-- what one level tells -/
inductive Lvl (D : Int → ByteArray) (key : ByteArray) (n : Nd) (ok : Bool) (at_ : Int) (q : Nat) (p : Int) : Prop
  | no (h : (!ok || decide (at_ < 0)) = true) (e : getL D key (q + 1) p = none)
  | leaf (i : Nat) (h1 : ok = true) (h2 : n.lf = true) (h3 : at_ = (i : Int)) (h4 : i < n.ks.length) (h5 : i < n.vs.length) (e : getL D key (q + 1) p = if n.ks.getD i ⟨#[]⟩ = key then some (n.vs.getD i ⟨#[]⟩) else none)
  | kid (i : Nat) (h1 : ok = true) (h2 : n.lf = false) (h3 : at_ = (i : Int)) (h4 : i < n.cs.length) (h5 : n.cs.getD i 0 ≠ 0) (e : getL D key (q + 1) p = getL D key q (n.cs.getD i 0))

theorem lvl_of {D : Int → ByteArray} {key : ByteArray} {n : Nd} {ok : Bool} {p : Int} (h : ReadN (D p) n ok) (q : Nat) : Lvl D key n ok (placeK n.ks key n.ks.length) q p := by
  have hr := rdN_of h
  obtain ⟨hp1, hp2⟩ := placeK_range n.ks key n.ks.length
  cases ok with
  | false => exact .no rfl (getL_no hr (Or.inl rfl))
  | true =>
    have hok := rdN_ok hr
    obtain ⟨e1, e2⟩ := even_ok hok
    by_cases hneg : placeK n.ks key n.ks.length < 0
    · exact .no (by simp [hneg]) (getL_no hr (Or.inr hneg))
    · obtain ⟨i, hi⟩ : ∃ i : Nat, placeK n.ks key n.ks.length = (i : Int) := ⟨(placeK n.ks key n.ks.length).toNat, by omega⟩
      cases hl : n.lf with
      | true => exact .leaf i rfl hl hi (by omega) (by rw [(e1 hl).1]; omega) (getL_leaf hr hl hi)
      | false =>
        have hc : i < n.cs.length := by rw [(e2 hl).1]; omega
        exact .kid i rfl hl hi hc (by have := kid_pos hok hc; omega) (getL_kid hr hl hi)

end Go.Proofs.YtaefmkmldfbjeaaDoor
