/-
  Several texts in one. spec.SamePairs and spec.ShowPairs by contracts. · laws.samePairs by a contract (SpecShow's text of spec.SamePairs with other names). · Chapter 7, plain: what a page tells (rdN), and what GetKey tells (getL). · Chapter 7, plain: how a tree is gone through, by the program (downL: what is visited, and what was seen where it went on) and by the document's model (walkS), and that both tell the same pairs and pages. · A range over a function whose iterator keeps state of its own in cells: the caller's memory (C) and the iterator's are told apart by their blocks. No program. · What is met in a tree (spec.l07All) behind a pointer: three lists and two flags, and how each of them grows. No function of the program. · Rows of pairs (a key and a value each), and the laws' own helpers over them by contracts: eqPairS, markPairS, heldPairS. · laws.FnModels by contracts: it returns true at every code, given the program's contracts over pairs that ascend.
-/
import Derived.Test.YthcakofocbileaaSpecModel
import Derived.Test.YthcakofocbileaaFrame
import Derived.BigQuiet
import Derived.Laws.StructEq
import Derived.Test.YthcakofocbileaaPlain16
import Derived.RangeFuncNested
import Derived.RangeFuncBound
import Derived.RangeFuncCalls
import Derived.RangeFuncLeaves
import Derived.RangeFuncBox
import Derived.Below
import Derived.Test.YthcakofocbileaaNode
import Derived.Deep.RegionHeld3
import Derived.Test.YthcakofocbileaaDrawPairs
namespace Go.Proofs.Ythcakofocbileaa
open Go.RowKit

/-- what is shown of pairs -/
def showP (L : List (ByteArray × ByteArray)) : ByteArray := L.foldl (fun s p => s ++ p.1 ++ ⟨#[32]⟩ ++ p.2 ++ ⟨#[10]⟩) ⟨#[]⟩

theorem showP_next (L : List (ByteArray × ByteArray)) (i : Nat) {p : ByteArray × ByteArray} (h : L[i]? = some p) : showP (L.take (i + 1)) = showP (L.take i) ++ p.1 ++ ⟨#[32]⟩ ++ p.2 ++ ⟨#[10]⟩ := by
  rw [take_nextM L i p h, showP, List.foldl_append]
  rfl

theorem ba_inj {x y : ByteArray} (h : x.toList = y.toList) : x = y := by
  rw [ByteArray.toList_eq, ByteArray.toList_eq] at h
  exact ByteArray.ext (Array.toList_inj.1 h)

theorem eqPairA (a b c d : ByteArray) (w : World) : (Op.equalIn 10000 30 (.agg #[.string a, .string b]) (.agg #[.string c, .string d])).run Try.prog w = .ok (a.toList == c.toList && b.toList == d.toList) w := by
  have u9 := Try.underlying9
  have a9 := Try.isAgg9
  have z9 := Try.sizeOf9
  have hS : Try.prog.underlying 30 = some (.struct (Try.prog.fieldsOf 30)) := by kernel_rfl
  rw [show (10000 : Nat) = 9999 + 1 from rfl, run_equalIn_agg w 9999 30 _ _ hS (by kernel_rfl)]
  simp only [Program.fieldsOf, Try.underlying30]
  go_simp
  by_cases h1 : a.toList = c.toList <;> by_cases h2 : b.toList = d.toList <;> simp [h1, h2]

end Go.Proofs.Ythcakofocbileaa

namespace Go.Proofs.Ythcakofocbileaa
open Go.RowKit

set_option maxHeartbeats 1000000 in
set_option maxRecDepth 100000 in
theorem lawsSamePairs_any (L L2 : List (ByteArray × ByteArray)) (hl : L.length ≤ 1200000) (hl2 : L2.length ≤ 1200000) (v v2 : Value) (w : World) (hr : RowAt w 2 v L.length (prq L)) (hr2 : RowAt w 2 v2 L2.length (prq L2)) :
    Calls Try.prog 11 #[v, v2] w fun e w' => e = .returned (.bool (decide (L = L2))) ∧ Below w.heap.size w w' := by
  obtain ⟨hlen, a, cap, rfl, hrow⟩ := hr
  obtain ⟨hlen2, a2, cap2, rfl, hrow2⟩ := hr2
  have HC := hide (fun (wr : World) (hb : Below w.heap.size w wr) (k : Nat) (hk : k < L.length) (p : ByteArray × ByteArray) (hp : L[k]? = some p) => prq_cells (⟨hlen, a, cap, rfl, hrow⟩ : RowAt w 2 (.slice a L.length cap) L.length (prq L)) hb hk hp)
  have HC2 := hide (fun (wr : World) (hb : Below w.heap.size w wr) (k : Nat) (hk : k < L2.length) (p : ByteArray × ByteArray) (hp : L2[k]? = some p) => prq_cells (⟨hlen2, a2, cap2, rfl, hrow2⟩ : RowAt w 2 (.slice a2 L2.length cap2) L2.length (prq L2)) hb hk hp)
  obtain ⟨n, hn⟩ : ∃ n, L.length = n := ⟨_, rfl⟩
  obtain ⟨n2, hn2⟩ : ∃ n, L2.length = n := ⟨_, rfl⟩
  have HN := hide (⟨hn, hn2⟩ : _ ∧ _)
  rw [hn] at HC hl
  rw [hn2] at HC2 hl2
  rw [hn, hn2]
  clear hn hrow hlen hn2 hrow2 hlen2
  by_cases hnn : n = n2
  rotate_left
  · have d1 : ((n : Int) != (n2 : Int)) = true := by simp; omega
    have HF : Hid (decide (L = L2) = false) := hide (decide_eq_false fun e => hnn (by rw [← HN.out.1, ← HN.out.2, e]))
    clear hnn
    go_enter Try.func11, Try.ntmps11
    go_wp2
    go_ret
    rw [HF.out]
    exact ⟨rfl, Below.refl _ _⟩
  subst hnn
  have d1 : ((n : Int) != (n : Int)) = false := by simp
  go_enter Try.func11, Try.ntmps11
  go_wp2
  go_loopg [5] n (fun q iv wr => ∃ (i : Nat), i ≤ n ∧ q + i = n ∧ iv = .int .i64 (i : Int) ∧ Hid (L.take i = L2.take i) ∧ Hid (Below w.heap.size w wr))
  case atStart => exact ⟨0, Nat.zero_le _, rfl, rfl, hide rfl, hide (Below.refl _ _)⟩
  case round =>
    obtain ⟨i, hin, hq, rfl, HT, HB⟩ := hrel
    have HQ := hide hq
    clear hq
    by_cases hlt : i < n
    · obtain ⟨p, hp⟩ : ∃ p, L[i]? = some p := ⟨L[i]'(by have := HN.out; omega), List.getElem?_eq_getElem _⟩
      obtain ⟨p2, hp2⟩ : ∃ p, L2[i]? = some p := ⟨L2[i]'(by have := HN.out; omega), List.getElem?_eq_getElem _⟩
      obtain ⟨x, y⟩ := p
      obtain ⟨x2, y2⟩ := p2
      obtain ⟨g, off, rfl, c0, c1⟩ := HC.out wr HB.out i hlt (x, y) hp
      obtain ⟨g2, off2, rfl, e0, e1⟩ := HC2.out wr HB.out i hlt (x2, y2) hp2
      have hi0 : (0 : Int) ≤ (i : Int) := by omega
      have hi1 : (i : Int) < (n : Int) := by omega
      have HPp := hide (⟨hp, hp2⟩ : _ ∧ _)
      have hS := fun wx => eqPairA x y x2 y2 wx
      have hS3 : Try.prog.eqGuardType Try.prog.depth 30 = false := by kernel_rfl
      obtain ⟨t, ht⟩ : ∃ t, (x.toList == x2.toList && y.toList == y2.toList) = t := ⟨_, rfl⟩
      rw [ht] at hS
      have HTt := hide ht
      clear ht
      clear hp hp2
      go_wp2_with fail
      go_quiet (fail)
      cases t with
      | true =>
        go_wp2_with fail
        go_roundg (gk - 1)
        case measure => have := HQ.out; omega
        case rel => exact ⟨i + 1, by omega, by have := HQ.out; omega, by go_num, hide (by
          have h := HTt.out
          rw [Bool.and_eq_true] at h
          have e1 := ba_inj (eq_of_beq h.1)
          have e2 := ba_inj (eq_of_beq h.2)
          rw [take_nextM L i _ HPp.out.1, take_nextM L2 i _ HPp.out.2, HT.out, e1, e2]), hide (below_drewN HB.out _)⟩
      | false =>
        have HF : Hid (decide (L = L2) = false) := hide (decide_eq_false fun e => by
          have h1 := HPp.out.1
          rw [e, HPp.out.2] at h1
          injection h1 with h1
          injection h1 with h1 h2
          have h := HTt.out
          rw [h1, h2] at h
          simp at h)
        go_wp2_with fail
        go_ret
        rw [HF.out]
        exact ⟨rfl, below_drewN HB.out _⟩
    · obtain rfl : i = n := by omega
      have HF : Hid (decide (L = L2) = true) := hide (decide_eq_true (by have h := HT.out; rw [List.take_of_length_le (by rw [HN.out.1]; exact Nat.le_refl _), List.take_of_length_le (by rw [HN.out.2]; exact Nat.le_refl _)] at h; exact h))
      go_wp2
      go_ret
      rw [HF.out]
      exact ⟨rfl, HB.out⟩

end Go.Proofs.Ythcakofocbileaa

namespace Go.Proofs.Ythcakofocbileaa

open Classical in
/-- the right node whose bytes these are, and whether there is one -/
noncomputable def rdN (t : ByteArray) : Nd × Bool := if h : ∃ n, IsNd t n then (Classical.choose h, true) else (Nd.none, false)

theorem rdN_of {t : ByteArray} {n : Nd} {ok : Bool} (h : ReadN t n ok) : rdN t = (n, ok) := by
  unfold rdN
  rcases h with ⟨rfl, h1, h2⟩ | ⟨rfl, rfl, h2⟩
  · have hx : ∃ n, IsNd t n := ⟨n, h1⟩
    rw [dif_pos hx, h2 _ (Classical.choose_spec hx)]
  · rw [dif_neg (fun ⟨m, hm⟩ => h2 m hm)]

theorem rdN_ok {t : ByteArray} {n : Nd} (h : rdN t = (n, true)) : n.ok = true := by
  unfold rdN at h
  split at h
  · rename_i hx
    injection h with h1 h2
    rw [← h1]
    exact (Classical.choose_spec hx).1
  · injection h with h1 h2
    cases h2

theorem placeK_range (ks : List ByteArray) (key : ByteArray) : ∀ k : Nat, -1 ≤ placeK ks key k ∧ placeK ks key k < (k : Int)
  | 0 => by simp [placeK]
  | k + 1 => by
    have := placeK_range ks key k
    rw [placeK]
    split <;> omega

/-- GetKey, k levels from page p on -/
noncomputable def getL (D : Int → ByteArray) (key : ByteArray) : Nat → Int → Option ByteArray
  | 0, _ => none
  | k + 1, p =>
    if (rdN (D p)).2 = false ∨ placeK (rdN (D p)).1.ks key (rdN (D p)).1.ks.length < 0 then none
    else if (rdN (D p)).1.lf = true then
      (if (rdN (D p)).1.ks.getD (placeK (rdN (D p)).1.ks key (rdN (D p)).1.ks.length).toNat ⟨#[]⟩ = key then some ((rdN (D p)).1.vs.getD (placeK (rdN (D p)).1.ks key (rdN (D p)).1.ks.length).toNat ⟨#[]⟩) else none)
    else getL D key k ((rdN (D p)).1.cs.getD (placeK (rdN (D p)).1.ks key (rdN (D p)).1.ks.length).toNat 0)

/-- what the two results are -/
def getO : Option ByteArray → Value
  | none => .tuple #[.string ⟨#[]⟩, .bool false]
  | some v => .tuple #[.string v, .bool true]

noncomputable def getK (D : Int → ByteArray) (root : Int) (key : ByteArray) : Option ByteArray := if root = 0 then none else getL D key 8 root
end Go.Proofs.Ythcakofocbileaa

namespace Go.Proofs.Ythcakofocbileaa

/-- a page that was come to, what it tells, and the way down to it -/
structure Vis where
  page : Int
  nd : Nd
  way : List (Nd × Nat)

/-- behind the first i kids -/
def kidsL (f : Int → List (Nd × Nat) → List Int → List Vis × Option (List Int)) (n : Nd) (way : List (Nd × Nat)) (seen : List Int) : Nat → List Vis × Option (List Int)
  | 0 => ([], some seen)
  | i + 1 =>
    match kidsL f n way seen i with
    | (vs, none) => (vs, none)
    | (vs, some s) => (vs ++ (f (n.cs.getD i 0) (way ++ [(n, i)]) s).1, (f (n.cs.getD i 0) (way ++ [(n, i)]) s).2)

/-- k levels from page p on -/
def downL (R : Int → Nd × Bool) : Nat → Int → List (Nd × Nat) → List Int → List Vis × Option (List Int)
  | 0, _, _, _ => ([], none)
  | k + 1, p, way, seen =>
    if (R p).2 = false ∨ p ∈ seen then ([], none)
    else (⟨p, (R p).1, way⟩ :: (kidsL (downL R k) (R p).1 way (seen ++ [p]) (R p).1.cs.length).1, (kidsL (downL R k) (R p).1 way (seen ++ [p]) (R p).1.cs.length).2)

theorem kidsL_succ_some {f : Int → List (Nd × Nat) → List Int → List Vis × Option (List Int)} {n : Nd} {way : List (Nd × Nat)} {seen s : List Int} {i : Nat} (h : (kidsL f n way seen i).2 = some s) :
    kidsL f n way seen (i + 1) = ((kidsL f n way seen i).1 ++ (f (n.cs.getD i 0) (way ++ [(n, i)]) s).1, (f (n.cs.getD i 0) (way ++ [(n, i)]) s).2) := by
  rw [kidsL]
  generalize kidsL f n way seen i = r at h ⊢
  obtain ⟨vs, o⟩ := r
  simp only at h
  subst h
  rfl

theorem kidsL_succ_none {f : Int → List (Nd × Nat) → List Int → List Vis × Option (List Int)} {n : Nd} {way : List (Nd × Nat)} {seen : List Int} {i : Nat} (h : (kidsL f n way seen i).2 = none) :
    kidsL f n way seen (i + 1) = kidsL f n way seen i := by
  rw [kidsL]
  generalize kidsL f n way seen i = r at h ⊢
  obtain ⟨vs, o⟩ := r
  simp only at h
  subst h
  rfl

theorem kidsL_none {f : Int → List (Nd × Nat) → List Int → List Vis × Option (List Int)} {n : Nd} {way : List (Nd × Nat)} {seen : List Int} {i : Nat} (h : (kidsL f n way seen i).2 = none) : ∀ d, kidsL f n way seen (i + d) = kidsL f n way seen i
  | 0 => rfl
  | d + 1 => by
    have h2 := kidsL_none h d
    rw [Nat.add_succ, kidsL_succ_none (by rw [h2]; exact h), h2]

/-- what is met in a tree -/
structure Al where
  pairs : List (ByteArray × ByteArray)
  pages : List Int
  depths : List Int
  bad : Bool
  loose : Bool

def Al.none : Al := ⟨[], [], [], false, false⟩

def lessB (x y : ByteArray) : Bool := Op.bytesLess x.toList y.toList

/-- the bounds for the i-th kid -/
def leastB (n : Nd) (i : Nat) (low : ByteArray) : ByteArray := if lessB low (n.ks.getD i ⟨#[]⟩) = true then n.ks.getD i ⟨#[]⟩ else low
def nearB (n : Nd) (i : Nat) (high : ByteArray) (has : Bool) : Bool := decide (i + 1 < n.ks.length) && (!has || lessB (n.ks.getD (i + 1) ⟨#[]⟩) high)
def nextB (n : Nd) (i : Nat) (high : ByteArray) (has : Bool) : ByteArray := if nearB n i high has = true then n.ks.getD (i + 1) ⟨#[]⟩ else high
def moreB (n : Nd) (i : Nat) (high : ByteArray) (has : Bool) : Bool := if nearB n i high has = true then true else has

/-- is a key of a leaf outside -/
def outB (k low high : ByteArray) (has : Bool) : Bool := lessB k low || (has && !lessB k high)

/-- one key -/
def stepS (f : Int → Nat → ByteArray → ByteArray → Bool → Al → Al) (n : Nd) (deep : Nat) (low high : ByteArray) (has : Bool) (i : Nat) (a : Al) : Al :=
  if n.lf = true then { a with loose := a.loose || outB (n.ks.getD i ⟨#[]⟩) low high has, pairs := a.pairs ++ [(n.ks.getD i ⟨#[]⟩, n.vs.getD i ⟨#[]⟩)] }
  else f (n.cs.getD i 0) (deep + 1) (leastB n i low) (nextB n i high has) (moreB n i high has) a

/-- behind the first i keys -/
def loopS (f : Int → Nat → ByteArray → ByteArray → Bool → Al → Al) (n : Nd) (deep : Nat) (low high : ByteArray) (has : Bool) (a : Al) : Nat → Al
  | 0 => a
  | i + 1 => stepS f n deep low high has i (loopS f n deep low high has a i)

def walkS (R : Int → Nd × Bool) : Nat → Int → Nat → ByteArray → ByteArray → Bool → Al → Al
  | 0, _, _, _, _, _, a => { a with bad := true }
  | k + 1, p, deep, low, high, has, a =>
    if (R p).2 = false ∨ p ∈ a.pages ∨ a.bad = true then { a with bad := true }
    else if (R p).1.lf = true then { (loopS (walkS R k) (R p).1 deep low high has { a with pages := a.pages ++ [p] } (R p).1.ks.length) with depths := (loopS (walkS R k) (R p).1 deep low high has { a with pages := a.pages ++ [p] } (R p).1.ks.length).depths ++ [(deep : Int)] }
    else loopS (walkS R k) (R p).1 deep low high has { a with pages := a.pages ++ [p] } (R p).1.ks.length

theorem walkS_bad (R : Int → Nd × Bool) (k : Nat) (p : Int) (deep : Nat) (low high : ByteArray) (has : Bool) (a : Al) (h : a.bad = true) : walkS R k p deep low high has a = a := by
  cases a
  simp only at h
  subst h
  cases k with
  | zero => rfl
  | succ k => rw [walkS, if_pos (Or.inr (Or.inr rfl))]

/-- the pairs of one node -/
def pairsN (n : Nd) : List (ByteArray × ByteArray) := (List.range n.vs.length).map fun i => (n.ks.getD i ⟨#[]⟩, n.vs.getD i ⟨#[]⟩)
def pairsV (l : List Vis) : List (ByteArray × ByteArray) := l.flatMap fun v => pairsN v.nd
def pagesV (l : List Vis) : List Int := l.map Vis.page

/-- the nodes that are read are right -/
def Right (R : Int → Nd × Bool) : Prop := ∀ p, (R p).2 = true → (R p).1.ok = true

theorem loopS_leaf (f : Int → Nat → ByteArray → ByteArray → Bool → Al → Al) (n : Nd) (hl : n.lf = true) (deep : Nat) (low high : ByteArray) (has : Bool) (a : Al) : ∀ i,
    (loopS f n deep low high has a i).bad = a.bad ∧ (loopS f n deep low high has a i).pages = a.pages ∧ (loopS f n deep low high has a i).depths = a.depths ∧
    (loopS f n deep low high has a i).pairs = a.pairs ++ (List.range i).map (fun i => (n.ks.getD i ⟨#[]⟩, n.vs.getD i ⟨#[]⟩))
  | 0 => by simp [loopS]
  | i + 1 => by
    obtain ⟨h1, h2, h3, h4⟩ := loopS_leaf f n hl deep low high has a i
    rw [loopS, stepS, if_pos hl]
    refine ⟨h1, h2, h3, ?_⟩
    simp only
    rw [h4, List.range_succ, List.map_append, List.append_assoc]
    rfl

theorem both_walk (R : Int → Nd × Bool) (hR : Right R) : ∀ (k : Nat) (p : Int) (way : List (Nd × Nat)) (deep : Nat) (low high : ByteArray) (has : Bool) (a : Al), a.bad = false →
    ((downL R k p way a.pages).2 = none → (walkS R k p deep low high has a).bad = true) ∧
    (∀ s, (downL R k p way a.pages).2 = some s → (walkS R k p deep low high has a).bad = false ∧ (walkS R k p deep low high has a).pages = s ∧ s = a.pages ++ pagesV (downL R k p way a.pages).1 ∧ (walkS R k p deep low high has a).pairs = a.pairs ++ pairsV (downL R k p way a.pages).1)
  | 0, p, way, deep, low, high, has, a, h => by
    refine ⟨fun _ => rfl, fun s hs => ?_⟩
    rw [downL] at hs
    cases hs
  | k + 1, p, way, deep, low, high, has, a, h => by
    by_cases hb : (R p).2 = false ∨ p ∈ a.pages
    · rw [downL, if_pos hb, walkS, if_pos (by rcases hb with hb | hb; exact Or.inl hb; exact Or.inr (Or.inl hb))]
      exact ⟨fun _ => rfl, fun s hs => by cases hs⟩
    · rw [downL, if_neg hb, walkS, if_neg (fun hh => by rcases hh with hh | hh | hh; exact hb (Or.inl hh); exact hb (Or.inr hh); rw [h] at hh; cases hh)]
      have hok : (R p).1.ok = true := hR p (by cases hc : (R p).2; exact absurd (Or.inl hc) hb; rfl)
      obtain ⟨n, hn⟩ : ∃ n, n = (R p).1 := ⟨_, rfl⟩
      rw [← hn] at hok ⊢
      obtain ⟨he1, he2⟩ := even_ok hok
      cases hlf : n.lf with
      | true =>
        obtain ⟨e1, e2⟩ := he1 hlf
        rw [if_pos rfl, e2, List.length_nil, kidsL]
        obtain ⟨h1, h2, h3, h4⟩ := loopS_leaf (walkS R k) n hlf deep low high has { a with pages := a.pages ++ [p] } n.ks.length
        refine ⟨fun hh => (by cases hh), fun s hs => ?_⟩
        injection hs with hs
        refine ⟨h1.trans h, h2.trans hs, ?_, ?_⟩
        · rw [← hs]
          rfl
        · simp only
          rw [h4, pairsV]
          simp only [List.flatMap_cons, List.flatMap_nil, List.append_nil, pairsN, e1]
      | false =>
        obtain ⟨e1, e2⟩ := he2 hlf
        rw [if_neg (by decide)]
        obtain ⟨b, hbb⟩ : ∃ b : Al, b = { a with pages := a.pages ++ [p] } := ⟨_, rfl⟩
        have hb1 : b.bad = false := by rw [hbb]; exact h
        have hb2 : b.pages = a.pages ++ [p] := by rw [hbb]
        have hb3 : b.pairs = a.pairs := by rw [hbb]
        rw [← hbb, ← hb2]
        have key : ∀ i, ((kidsL (downL R k) n way b.pages i).2 = none → (loopS (walkS R k) n deep low high has b i).bad = true) ∧
            (∀ s, (kidsL (downL R k) n way b.pages i).2 = some s → (loopS (walkS R k) n deep low high has b i).bad = false ∧ (loopS (walkS R k) n deep low high has b i).pages = s ∧ s = b.pages ++ pagesV (kidsL (downL R k) n way b.pages i).1 ∧ (loopS (walkS R k) n deep low high has b i).pairs = b.pairs ++ pairsV (kidsL (downL R k) n way b.pages i).1) := by
          intro i
          induction i with
          | zero =>
            refine ⟨fun hh => (by cases hh), fun s hs => ?_⟩
            injection hs with hs
            refine ⟨hb1, hs, ?_, ?_⟩
            · rw [← hs]; simp [kidsL, pagesV]
            · simp [kidsL, pairsV, loopS]
          | succ i ih =>
            rw [loopS, stepS, if_neg (by rw [hlf]; decide)]
            cases hk : (kidsL (downL R k) n way b.pages i).2 with
            | none =>
              rw [kidsL_succ_none hk]
              have hbad := ih.1 hk
              rw [walkS_bad _ _ _ _ _ _ _ _ hbad]
              exact ⟨fun _ => hbad, fun s hs => by rw [hk] at hs; cases hs⟩
            | some s0 =>
              obtain ⟨i1, i2, i3, i4⟩ := ih.2 s0 hk
              rw [kidsL_succ_some hk]
              have hrec := both_walk R hR k (n.cs.getD i 0) (way ++ [(n, i)]) (deep + 1) (leastB n i low) (nextB n i high has) (moreB n i high has) (loopS (walkS R k) n deep low high has b i) i1
              rw [i2] at hrec
              refine ⟨hrec.1, fun s hs => ?_⟩
              obtain ⟨r1, r2, r3, r4⟩ := hrec.2 s hs
              refine ⟨r1, r2, ?_, ?_⟩
              · refine r3.trans ((congrArg (fun l => l ++ pagesV _) i3).trans ?_)
                simp only [pagesV, List.map_append, List.append_assoc]
              · rw [r4, i4]
                simp only [pairsV, List.flatMap_append, List.append_assoc]
        obtain ⟨k1, k2⟩ := key n.ks.length
        rw [e1]
        refine ⟨k1, fun s hs => ?_⟩
        obtain ⟨r1, r2, r3, r4⟩ := k2 s hs
        refine ⟨r1, r2, ?_, ?_⟩
        · rw [r3, hb2]
          simp only [pagesV, List.map_cons, List.append_assoc, List.singleton_append]
        · rw [r4, hb3]
          simp only [pairsV, List.flatMap_cons, pairsN, e2, List.length_nil, List.range_zero, List.map_nil, List.nil_append]

/-- what the program meets -/
def seenI (R : Int → Nd × Bool) (root : Int) : List Vis × Bool := if root = 0 then ([], true) else ((downL R 8 root [] []).1, (downL R 8 root [] []).2.isSome)

/-- what the model meets -/
def seenS (R : Int → Nd × Bool) (root : Int) : Al := if root = 0 then Al.none else walkS R 8 root 0 ⟨#[]⟩ ⟨#[]⟩ false Al.none

def allI (R : Int → Nd × Bool) (root : Int) : List (ByteArray × ByteArray) × Bool := if (seenI R root).2 = true then (pairsV (seenI R root).1, true) else ([], false)
def allS (R : Int → Nd × Bool) (root : Int) : List (ByteArray × ByteArray) × Bool := if (seenS R root).bad = true then ([], false) else ((seenS R root).pairs, true)

theorem both_seen (R : Int → Nd × Bool) (hR : Right R) (root : Int) : (seenS R root).bad = !(seenI R root).2 ∧ ((seenI R root).2 = true → (seenS R root).pages = pagesV (seenI R root).1 ∧ (seenS R root).pairs = pairsV (seenI R root).1) := by
  unfold seenS seenI
  by_cases h : root = 0
  · rw [if_pos h, if_pos h]
    exact ⟨rfl, fun _ => ⟨rfl, rfl⟩⟩
  · rw [if_neg h, if_neg h]
    obtain ⟨h1, h2⟩ := both_walk R hR 8 root [] 0 ⟨#[]⟩ ⟨#[]⟩ false Al.none rfl
    simp only [Al.none] at h1 h2 ⊢
    cases hd : (downL R 8 root [] []).2 with
    | none => exact ⟨h1 hd, fun hh => by cases hh⟩
    | some s =>
      obtain ⟨r1, r2, r3, r4⟩ := h2 s hd
      refine ⟨r1, fun _ => ⟨?_, ?_⟩⟩
      · rw [r2, r3]; rfl
      · rw [r4]; rfl

theorem both_all (R : Int → Nd × Bool) (hR : Right R) (root : Int) : allI R root = allS R root := by
  obtain ⟨h1, h2⟩ := both_seen R hR root
  unfold allI allS
  cases hi : (seenI R root).2 with
  | true => rw [hi] at h1 h2; rw [if_pos rfl, if_neg (by rw [h1]; decide), (h2 rfl).2]
  | false => rw [hi] at h1; rw [if_neg (by decide), if_pos (by rw [h1]; rfl)]
end Go.Proofs.Ythcakofocbileaa

namespace Go.Proofs.Ythcakofocbileaa
open Go Go.RowKit

/-- of what lay nothing but C's blocks has turned -/
def KeptC (C : Nat → Prop) (W W' : World) : Prop := W'.os = W.os ∧ W'.tape = W.tape ∧ W'.output = W.output ∧ W.heap.size ≤ W'.heap.size ∧ ∀ k, k < W.heap.size → ¬ C k → W'.heap[k]? = W.heap[k]?

theorem keptC_refl (C : Nat → Prop) (W : World) : KeptC C W W := ⟨rfl, rfl, rfl, Nat.le_refl _, fun _ _ _ => rfl⟩

theorem keptC_trans {C C' : Nat → Prop} {A B D : World} (h : KeptC C A B) (k : KeptC C' B D) (hC : ∀ j, C' j → C j ∨ A.heap.size ≤ j) : KeptC C A D :=
  ⟨k.1.trans h.1, k.2.1.trans h.2.1, k.2.2.1.trans h.2.2.1, Nat.le_trans h.2.2.2.1 k.2.2.2.1, fun j hj hn => (k.2.2.2.2 j (Nat.lt_of_lt_of_le hj h.2.2.2.1) (fun hc => by rcases hC j hc with h1 | h1; exact hn h1; omega)).trans (h.2.2.2.2 j hj hn)⟩

theorem keptC_mono {C C' : Nat → Prop} {A B : World} (h : KeptC C A B) (hC : ∀ j, j < A.heap.size → C j → C' j) : KeptC C' A B :=
  ⟨h.1, h.2.1, h.2.2.1, h.2.2.2.1, fun j hj hn => h.2.2.2.2 j hj (fun hc => hn (hC j hj hc))⟩

theorem keptC_below {C : Nat → Prop} {A B : World} {n0 : Nat} (h : KeptC C A B) (hC : ∀ k, C k → n0 ≤ k) (hn : n0 ≤ A.heap.size) : Below n0 A B :=
  ⟨h.1, h.2.1, h.2.2.1, h.2.2.2.1, fun k hk => h.2.2.2.2 k (by omega) (fun hc => by have := hC k hc; omega)⟩

theorem keptC_of_below {C : Nat → Prop} {A B : World} (h : Below A.heap.size A B) : KeptC C A B :=
  ⟨h.os, h.tape, h.output, h.size, fun k hk _ => h.block k hk⟩

theorem keptC_alloc (C : Nat → Prop) (W : World) (o : Obj) : KeptC C W (W.alloc o) := keptC_of_below ((Below.refl _ W).alloc (Nat.le_refl _) _)

theorem keptC_putObj {C : Nat → Prop} (W : World) {l : Nat} (o : Obj) (hl : C l) : KeptC C W (W.putObj l o) :=
  ⟨rfl, rfl, rfl, by simp, fun k _ hn => World.putObj_heap_other (fun e => hn (e ▸ hl))⟩

theorem keptC_setCell {C : Nat → Prop} (W : World) {b : Nat} (j : Nat) (v : Value) (hl : C b) : KeptC C W (W.setCell ⟨b, j, none⟩ v) :=
  ⟨rfl, rfl, rfl, (KeepsWalks.setCell W _ v).size, fun k _ hn => Below.heap_setCell _ _ _ k (fun e => hn (by rw [e]; exact hl))⟩

theorem room_none {F : Fence} (hd : F.depth = none) (k : Nat) : F.room k := fun d h => by rw [hd] at h; cases h

/-- the contract of an iterator that keeps its own state: J: between two rounds; Jx: where a round has said that it is enough; M: what the iterator's value has captured -/
def SeqSep {α : Type} (F : Fence) (n : Nat) (P : Program) (g : Nat) (lb : Array Value) (encs : α → Array Value) (Lies : α → (Nat → Prop) → World → Prop) (M : Nat → Prop) (n0 : Nat) (S Sp : List α → Prop) (w : World) : Prop :=
  ∀ (l : Nat) (J Jx : List α → (Nat → Prop) → World → Prop) (C0 : Nat → Prop) (W : World), Below w.heap.size w W → (∀ k, C0 k → ¬ M k) →
    (∀ pre C A B, J pre C A → KeptC (fun k => ¬ C k) A B → J pre C B) →
    (∀ pre C A, J pre C A → ∀ k, C k → n0 ≤ k ∧ k < A.heap.size) →
    (∀ pre x C W1 m, J pre C W1 → Lies x C W1 → YieldAt F m P l (encs x) W1 fun e W' => ∃ C', KeptC C W1 W' ∧ (∀ k, C' k → C k ∨ W1.heap.size ≤ k) ∧
      ((e = .returned (.bool true) ∧ J (pre ++ [x]) C' W') ∨ (e = .returned (.bool false) ∧ Jx (pre ++ [x]) C' W'))) →
    J [] C0 W →
    CallsIn F n P g (#[.func (.yield l) #[] #[]] ++ lb) W fun e W' => (∃ v, e = .returned v) ∧ Below n0 W W' ∧ ((∃ xs C, S xs ∧ J xs C W') ∨ (∃ pre C, Sp pre ∧ Jx pre C W'))

/-- how the body of a round may be left -/
def sepPost {α : Type} (I : List α → (Nat → Prop) → World → Prop) (Ix : Code → List α → (Nat → Prop) → World → Prop) (xs : List α) (C : Nat → Prop) (W : World) : Exit → Act → World → Prop
  | .normal, _, W' => ∃ C', KeptC C W W' ∧ (∀ k, C' k → C k ∨ W.heap.size ≤ k) ∧ I xs C' W'
  | .ret, _, W' => ∃ C', KeptC C W W' ∧ (∀ k, C' k → C k ∨ W.heap.size ≤ k) ∧ Ix .ret xs C' W'
  | .exit _, _, _ => False
  | .goto _, _, _ => False
  | .panic _, _, _ => False
  | .outgrown, _, _ => False

theorem wpIn_rangeFunc_sep {F : Fence} {n : Nat} {P : Program} {α : Type} {g : Operand} {ps : Array Tmp} {assign body : Code} {Q : Exit → Act → World → Prop} {a : Act} {w : World}
    (hro : F.round = none) (hdep : F.depth = none) {gf : Nat} {lb : Array Value} (hg : a.eval g = .func (.func gf) #[] lb) (hFg : F.fn gf) (eg : ∀ args w, (callFunc gf args).run P w = .ok (.enter gf args) w)
    {encs : α → Array Value} {Lies : α → (Nat → Prop) → World → Prop} {M : Nat → Prop} {n0 : Nat} {S Sp : List α → Prop} (hseq : SeqSep F (n - 1) P gf lb encs Lies M n0 S Sp w) (hn0 : n0 ≤ w.heap.size) (hM : ∀ k, M k → k < w.heap.size)
    (hL : ∀ x C C' A B, Lies x C A → KeptC C A B → (∀ k, C' k → C k ∨ A.heap.size ≤ k) → Lies x C' B)
    (hps : ∀ x, (encs x).size = ps.size)
    (I : List α → (Nat → Prop) → World → Prop) (Ix : Code → List α → (Nat → Prop) → World → Prop)
    (hI : ∀ pre C A B, I pre C A → KeptC (fun k => ¬ C k) A B → I pre C B) (hIx : ∀ c pre C A B, Ix c pre C A → KeptC (fun k => ¬ C k) A B → Ix c pre C B)
    (hIn : ∀ pre C A, I pre C A → ∀ k, C k → n0 ≤ k ∧ k < A.heap.size)
    (C0 : Nat → Prop) (h0 : I [] C0 w) (hC0 : ∀ k, C0 k → ¬ M k)
    (Ax : α → Act → (Nat → Prop) → World → Prop) (hAx : ∀ x a' C A B, Ax x a' C A → KeptC (fun k => ¬ C k) A B → Ax x a' C B)
    (hassign : ∀ (l : Nat) (m : Nat) (pre : List α) (x : α) (C : Nat → Prop) (W : World) (K : Act → World → Prop), I pre C W → Lies x C W → (∀ a' C' W', KeptC C W W' → (∀ k, C' k → C k ∨ W.heap.size ≤ k) → I pre C' W' → Ax x a' C' W' → K a' W') →
      assign.wpIn (F.inRound l) m P (Exit.then K (fun _ _ _ => False)) { tmps := (ps.zip (encs x)).foldl (fun t (p, v) => t.setIfInBounds p v) a.tmps, defers := [] } W)
    (hbody : ∀ (l : Nat) (m : Nat) (pre : List α) (x : α) (a' : Act) (C : Nat → Prop) (W : World), I pre C W → Ax x a' C W → Lies x C W → body.wpIn (F.inRound l) m P (sepPost I Ix (pre ++ [x]) C W) a' W)
    (hdone : ∀ (D : Nat) (xs : List α) (C : Nat → Prop) (W : World), w.heap.size ≤ D → ¬ C D → S xs → I xs C W → Below n0 w W → W.heap[D]? = some (.deferred (some [])) → Q .normal { a with defers := { target := .collected D, args := #[] } :: a.defers } W)
    (hstop : ∀ (D : Nat) (c : Code) (pre : List α) (C : Nat → Prop) (W : World), w.heap.size ≤ D → ¬ C D → Sp pre → Ix c pre C W → Below n0 w W → W.heap[D]? = some (.deferred (some [])) → c.wpIn F n P Q { a with defers := { target := .collected D, args := #[] } :: a.defers } W) :
    (Code.rangeFunc g ps assign body).wpIn F n P Q a w := by
  refine wpIn_rangeFunc ?_
  intro fn hfn
  rw [hro]
  obtain ⟨rec, hrec⟩ : ∃ rec : LoopState → Option Code → Loop, rec = fun st pe => { state := st, pending := pe, fn, tmps := a.tmps, params := ps, assign, body, defers := w.heap.size } := ⟨_, rfl⟩
  obtain ⟨W1, hW1⟩ : ∃ W1, (w.alloc (.deferred (some []))).alloc (.loop (rec .ready none)) = W1 := ⟨_, rfl⟩
  have hL1 : W1.heap[w.heap.size + 1]? = some (.loop (rec .ready none)) := by
    rw [← hW1]; have := World.alloc_heap_new (w.alloc (.deferred (some []))) (.loop (rec .ready none)); rwa [World.size_alloc] at this
  have hK1 : W1.heap[w.heap.size]? = some (.deferred (some [])) := by
    rw [← hW1]; exact (Below.heap_alloc _ _ _ (by simp)).trans (World.alloc_heap_new w _)
  have hB1 : Below w.heap.size w W1 := by
    rw [← hW1]; exact ((Below.refl _ w).alloc (Nat.le_refl _) _).alloc (by simp) _
  have hI1 : I [] C0 W1 := hI _ _ _ _ h0 (keptC_of_below hB1)
  have hlw : ∀ k, C0 k → k < w.heap.size := fun k hk => (hIn _ _ _ h0 k hk).2
  refine ⟨w.heap.size + 1, [{ target := .collected w.heap.size, args := #[] }], W1, { target := .fn (.func gf) lb, args := #[.func (.yield (w.heap.size + 1)) #[] #[]] }, W1, gf,
    #[.func (.yield (w.heap.size + 1)) #[] #[]] ++ lb, W1, ?_, ?_, ?_, ?_, (fun h => by rw [hdep] at h; cases h), ?_⟩
  · rw [← hW1, hrec]; exact run_enterLoop_outer _ _ _ _ _
  · simp only [resolve, hg]
    simp [go_sem]
  · intro f' hf'; simp [Target.leads] at hf'; subst hf'; exact hFg
  · simp [invoke, go_sem, eg]
  · obtain ⟨X, hX⟩ : ∃ X : Nat → Prop, X = fun k => k = w.heap.size + 1 ∨ k = w.heap.size := ⟨_, rfl⟩
    have hXl : X (w.heap.size + 1) := by rw [hX]; exact Or.inl rfl
    have hXd : X w.heap.size := by rw [hX]; exact Or.inr rfl
    have hXc : ∀ k, X k → k = w.heap.size + 1 ∨ k = w.heap.size := fun k h => by rw [hX] at h; exact h
    refine (hseq (w.heap.size + 1)
      (fun pre C W => ∃ C1, C = (fun k => C1 k ∨ X k) ∧ (∀ k, C1 k → ¬ X k) ∧ I pre C1 W ∧ W.heap[w.heap.size + 1]? = some (.loop (rec .ready none)) ∧ W.heap[w.heap.size]? = some (.deferred (some [])))
      (fun pre C W => ∃ c C1, C = (fun k => C1 k ∨ X k) ∧ (∀ k, C1 k → ¬ X k) ∧ Ix c pre C1 W ∧ W.heap[w.heap.size + 1]? = some (.loop (rec .done (some c))) ∧ W.heap[w.heap.size]? = some (.deferred (some [])))
      (fun k => C0 k ∨ X k) W1 hB1 ?_ ?_ ?_ ?_ ⟨C0, rfl, fun k hk hx => by have := hlw k hk; rcases hXc k hx with h | h <;> omega, hI1, hL1, hK1⟩).mono ?_
    · rintro k (hk | hk) hm
      · exact hC0 k hk hm
      · have := hM k hm
        rcases hXc k hk with h | h <;> omega
    · rintro pre C A B ⟨C1, rfl, hd, hi, hl, hk⟩ hAB
      have hs : ∀ j, (C1 j ∨ X j) → j < A.heap.size → B.heap[j]? = A.heap[j]? := fun j hj hlt => hAB.2.2.2.2 j hlt (fun h => h hj)
      exact ⟨C1, rfl, hd, hI _ _ _ _ hi (keptC_mono hAB (fun j _ hn hc => hn (Or.inl hc))), (hs _ (Or.inr hXl) (Array.getElem?_eq_some_iff.1 hl).1).trans hl, (hs _ (Or.inr hXd) (Array.getElem?_eq_some_iff.1 hk).1).trans hk⟩
    · rintro pre C A ⟨C1, rfl, hd, hi, hl, hk⟩ k (hc | hc)
      · exact hIn _ _ _ hi k hc
      · have h1 := (Array.getElem?_eq_some_iff.1 hl).1
        rcases hXc k hc with h | h <;> constructor <;> omega
    · -- one round
      rintro pre x C W m ⟨C1, rfl, hd, hi, hl, hk⟩ hlies
      have hlt : w.heap.size + 1 < W.heap.size := (Array.getElem?_eq_some_iff.1 hl).1
      have hy := run_yield (P := P) (args := encs x) hl (by rw [hrec]; exact hps x)
      rw [hrec] at hy
      have hlies1 : Lies x C1 W := hL x _ C1 W W hlies (keptC_refl _ _) (fun k h => Or.inl (Or.inl h))
      refine ⟨fn, _, assign, body, hy, roundIn_of_wpIn hfn (hassign _ m pre x C1 W _ hi hlies1 ?_)⟩
      clear hy
      intro a' C2 Wa hka hca hia hax
      have hnl : ¬ C1 (w.heap.size + 1) := fun h => hd _ h hXl
      have hnd : ¬ C1 w.heap.size := fun h => hd _ h hXd
      have hla := (hka.2.2.2.2 _ hlt hnl).trans hl
      have hkaa := (hka.2.2.2.2 _ (by omega) hnd).trans hk
      have hnl2 : ¬ C2 (w.heap.size + 1) := fun h => by rcases hca _ h with h | h; exact hnl h; omega
      have hnd2 : ¬ C2 w.heap.size := fun h => by rcases hca _ h with h | h; exact hnd h; omega
      have hlta : w.heap.size + 1 < Wa.heap.size := (Array.getElem?_eq_some_iff.1 hla).1
      refine ⟨_, run_beginRound hla (by rw [hrec]), ?_⟩
      obtain ⟨Wb, hWb⟩ : ∃ Wb, Wb = Wa.putObj (w.heap.size + 1) (.loop { rec .ready none with state := .busy }) := ⟨_, rfl⟩
      rw [← hWb]
      have hlb : Wb.heap[w.heap.size + 1]? = some (.loop { rec .ready none with state := .busy }) := by rw [hWb]; exact World.putObj_heap_same hlta
      have hkb : Wb.heap[w.heap.size]? = some (.deferred (some [])) := by rw [hWb]; exact (World.putObj_heap_other (by omega)).trans hkaa
      have hab : KeptC (fun k => ¬ C2 k) Wa Wb := by rw [hWb]; exact keptC_putObj Wa _ hnl2
      have habX : KeptC X Wa Wb := by rw [hWb]; exact keptC_putObj Wa _ hXl
      have hszb : Wb.heap.size = Wa.heap.size := by rw [hWb]; simp
      have hlies2 : Lies x C2 Wb := hL x (fun k => C2 k ∨ X k) C2 Wa Wb (hL x _ _ W Wa hlies (keptC_mono hka (fun j _ h => Or.inl h)) (fun k h => by
        rcases h with h | h
        · rcases hca k h with h | h
          · exact Or.inl (Or.inl h)
          · exact Or.inr h
        · exact Or.inl (Or.inr h))) (keptC_mono habX (fun j _ h => Or.inr h)) (fun k h => Or.inl (Or.inl h))
      refine wpIn_mono (hbody _ m pre x a' C2 Wb (hI _ _ _ _ hia hab) (hAx _ _ _ _ _ hax hab) hlies2) ?_
      have hWX : KeptC (fun k => C1 k ∨ X k) W Wb := keptC_trans (keptC_mono hka (fun j _ h => Or.inl h)) habX (fun j h => Or.inl (Or.inr h))
      have hszW : W.heap.size ≤ Wb.heap.size := hWX.2.2.2.1
      have fin : ∀ (jump : Option Code) (C3 : Nat → Prop) (W3 : World), KeptC C2 Wb W3 → (∀ k, C3 k → C2 k ∨ Wb.heap.size ≤ k) →
          (Instr.endRound (w.heap.size + 1) jump).run P W3 = .ok (.bool jump.isNone) (W3.putObj (w.heap.size + 1) (.loop (rec (if jump.isNone then .ready else .done) jump))) ∧
          (W3.putObj (w.heap.size + 1) (.loop (rec (if jump.isNone then .ready else .done) jump))).heap[w.heap.size + 1]? = some (.loop (rec (if jump.isNone then .ready else .done) jump)) ∧
          (W3.putObj (w.heap.size + 1) (.loop (rec (if jump.isNone then .ready else .done) jump))).heap[w.heap.size]? = some (.deferred (some [])) ∧
          (∀ k, C3 k → ¬ X k) ∧ KeptC (fun k => ¬ C3 k) W3 (W3.putObj (w.heap.size + 1) (.loop (rec (if jump.isNone then .ready else .done) jump))) ∧
          KeptC (fun k => C1 k ∨ X k) W (W3.putObj (w.heap.size + 1) (.loop (rec (if jump.isNone then .ready else .done) jump))) ∧ (∀ k, (C3 k ∨ X k) → (C1 k ∨ X k) ∨ W.heap.size ≤ k) := fun jump C3 W3 hk3 hc3 => by
        have hl3 := (hk3.2.2.2.2 _ (Array.getElem?_eq_some_iff.1 hlb).1 hnl2).trans hlb
        have hd3 := (hk3.2.2.2.2 _ (Array.getElem?_eq_some_iff.1 hkb).1 hnd2).trans hkb
        have := run_endRound (P := P) jump hl3
        have hx3 : ∀ k, C3 k → ¬ X k := fun k h hx => by
          rcases hc3 k h with h | h
          · rcases hXc k hx with e | e <;> subst e
            · exact hnl2 h
            · exact hnd2 h
          · rcases hXc k hx with e | e <;> omega
        rw [hrec] at this ⊢
        refine ⟨this, World.putObj_heap_same (Array.getElem?_eq_some_iff.1 hl3).1, (World.putObj_heap_other (by omega)).trans hd3, hx3, keptC_putObj W3 _ (fun h => hx3 _ h hXl), ?_, ?_⟩
        · refine keptC_trans (keptC_trans hWX hk3 (fun j h => ?_)) (keptC_putObj (C := X) W3 _ hXl) (fun j h => Or.inl (Or.inr h))
          rcases hca j h with h | h
          · exact Or.inl (Or.inl h)
          · exact Or.inr h
        · rintro k (h | h)
          · rcases hc3 k h with h | h
            · rcases hca k h with h | h
              · exact Or.inl (Or.inl h)
              · exact Or.inr h
            · exact Or.inr (by omega)
          · exact Or.inl (Or.inr h)
      rintro e a3 W3 hp
      cases e with
      | normal =>
        obtain ⟨C3, hk3, hc3, hi3⟩ := hp
        obtain ⟨hr, hl4, hk4, hx4, hs4, hw4, hn4⟩ := fin none C3 W3 hk3 hc3
        exact ⟨_, _, hr, _, hw4, hn4, .inl ⟨rfl, C3, rfl, hx4, hI _ _ _ _ hi3 hs4, hl4, hk4⟩⟩
      | ret =>
        obtain ⟨C3, hk3, hc3, hi3⟩ := hp
        obtain ⟨hr, hl4, hk4, hx4, hs4, hw4, hn4⟩ := fin (some .ret) C3 W3 hk3 hc3
        exact ⟨_, _, hr, _, hw4, hn4, .inr ⟨rfl, .ret, C3, rfl, hx4, hIx _ _ _ _ _ hi3 hs4, hl4, hk4⟩⟩
      | exit id => exact hp.elim
      | goto t => exact hp.elim
      | panic ch => exact hp.elim
      | outgrown => exact hp.elim
    · -- behind the iterator
      rintro e W2 ⟨⟨v, rfl⟩, hb2, (⟨xs, C, hS, C1, rfl, hd, hi, hl, hk⟩ | ⟨pre, C, hSp, c, C1, rfl, hd, hi, hl, hk⟩)⟩
      · have hnl : ¬ C1 (w.heap.size + 1) := fun h => hd _ h hXl
        refine ⟨none, _, by have := run_endLoop (P := P) hl (by rw [hrec]; simp); rw [hrec] at this; exact this, hdone _ xs C1 _ (Nat.le_refl _) (fun h => hd _ h hXd) hS (hI _ _ _ _ hi (keptC_putObj W2 _ hnl)) ?_ ((World.putObj_heap_other (by omega)).trans hk)⟩
        exact ((hB1.mono hn0).trans hb2).trans (keptC_below (keptC_putObj (C := X) W2 _ hXl) (fun k h => by rcases hXc k h with e | e <;> omega) (by have := hb2.size; have := hB1.size; omega))
      · have hnl : ¬ C1 (w.heap.size + 1) := fun h => hd _ h hXl
        refine ⟨some c, _, by have := run_endLoop (P := P) hl (by rw [hrec]; simp); rw [hrec] at this; exact this, hstop _ c pre C1 _ (Nat.le_refl _) (fun h => hd _ h hXd) hSp (hIx _ _ _ _ _ hi (keptC_putObj W2 _ hnl)) ?_ ((World.putObj_heap_other (by omega)).trans hk)⟩
        exact ((hB1.mono hn0).trans hb2).trans (keptC_below (keptC_putObj (C := X) W2 _ hXl) (fun k h => by rcases hXc k h with e | e <;> omega) (by have := hb2.size; have := hB1.size; omega))
end Go.Proofs.Ythcakofocbileaa

namespace Go.Proofs.Ythcakofocbileaa
open Go.RowKit

/-- a row of pairs -/
def prs (l : List (ByteArray × ByteArray)) : List Value := l.flatMap fun p => [.string p.1, .string p.2]

theorem prs_snoc (l : List (ByteArray × ByteArray)) (k v : ByteArray) : prs l ++ [.string k, .string v] = prs (l ++ [(k, v)]) := by simp [prs]

theorem prs_length (l : List (ByteArray × ByteArray)) : (prs l).length = l.length * 2 := by
  induction l with
  | nil => rfl
  | cons p l ih => simp only [prs, List.flatMap_cons, List.length_append, List.length_cons, List.length_nil] at ih ⊢; omega

theorem ints_snoc (l : List Int) (x : Int) : ints l ++ [.int .i64 x] = ints (l ++ [x]) := by simp [ints]

/-- its blocks -/
def AlF (ga : Nat) (vp vg vd : Value) (k : Nat) : Prop := k = ga ∨ vp.ownBlock = some k ∨ vg.ownBlock = some k ∨ vd.ownBlock = some k

theorem Try.pair_int : (30 : Nat) ≠ 3 := by decide

theorem kept_app {W w' : World} {o : Obj} {v : Value} (hg : (W.alloc o).grownBy w' v.ownBlock) : Kept W w' (fun k => v.ownBlock = some k) :=
  ⟨hg.os, hg.tape, hg.output, Nat.le_trans (by simp) hg.size, fun k hk hn => (hg.block k (by simp; omega) (fun e => hn e.symm)).trans (heap_alloc_old W o hk)⟩

end Go.Proofs.Ythcakofocbileaa

namespace Go.Proofs.Ythcakofocbileaa
open Go.RowKit

theorem prs_cons (p : ByteArray × ByteArray) (l : List (ByteArray × ByteArray)) : prs (p :: l) = Value.string p.1 :: .string p.2 :: prs l := rfl

theorem prs_at (l : List (ByteArray × ByteArray)) : ∀ k (h : k < l.length), (prs l)[k * 2]? = some (.string l[k].1) ∧ (prs l)[k * 2 + 1]? = some (.string l[k].2) := by
  induction l with
  | nil => intro k h; simp at h
  | cons p l ih =>
    intro k h
    cases k with
    | zero => exact ⟨rfl, rfl⟩
    | succ k =>
      rw [prs_cons, show (k + 1) * 2 = k * 2 + 1 + 1 from by omega]
      exact ih k (by simpa using h)

theorem prs_set (l : List (ByteArray × ByteArray)) : ∀ (k : Nat) (p : ByteArray) (x : ByteArray), k < l.length → ((prs l).set (k * 2) (.string p)).set (k * 2 + 1) (.string x) = prs (l.set k (p, x)) := by
  induction l with
  | nil => intro k p x h; simp at h
  | cons q l ih =>
    intro k p x h
    cases k with
    | zero => rfl
    | succ k =>
      rw [prs_cons, show (k + 1) * 2 = k * 2 + 1 + 1 from by omega, List.set_cons_succ, List.set_cons_succ, List.set_cons_succ, List.set_cons_succ, ih k p x (by simpa using h), List.set_cons_succ, prs_cons]

set_option maxHeartbeats 2000000 in
set_option maxRecDepth 100000 in
theorem eqPair_any (p q t u : ByteArray) (w : World) :
    Calls Try.prog 37 #[.agg #[.string p, .string t], .agg #[.string q, .string u]] w fun e w' => e = .returned (.bool (decide ((p, t) = (q, u)))) ∧ Below w.heap.size w w' := by
  have hbB : ∀ o o' : Obj, Below w.heap.size w ((w.alloc o).alloc o') := fun o o' => ((Below.refl w.heap.size w).alloc (Nat.le_refl _) _).alloc (by simp) _
  have HB := hide hbB
  clear hbB
  have hbp := ba_beq p q
  have hbq := ba_beq t u
  by_cases hp : p = q
  · rw [decide_eq_true hp] at hbp
    by_cases ht : t = u
    · have HD : Hid (decide ((p, t) = (q, u)) = true) := hide (by subst ht hp; simp)
      rw [decide_eq_true ht] at hbq
      clear ht hp
      go_enter Try.func37, Try.ntmps37
      go_wp2
      go_ret
      rw [HD.out]
      exact ⟨rfl, HB.out _ _⟩
    · have HD : Hid (decide ((p, t) = (q, u)) = false) := hide (by simp [ht])
      rw [decide_eq_false ht] at hbq
      clear ht hp
      go_enter Try.func37, Try.ntmps37
      go_wp2
      go_ret
      rw [HD.out]
      exact ⟨rfl, HB.out _ _⟩
  · have HD : Hid (decide ((p, t) = (q, u)) = false) := hide (by simp [hp])
    rw [decide_eq_false hp] at hbp
    clear hp
    go_enter Try.func37, Try.ntmps37
    go_wp2
    go_ret
    rw [HD.out]
    exact ⟨rfl, HB.out _ _⟩

set_option maxHeartbeats 2000000 in
set_option maxRecDepth 100000 in
theorem eqPairS_row (l m : List (ByteArray × ByteArray)) (hl : l.length ≤ 9223372036854775807) (_hm : m.length ≤ 9223372036854775807) (v u : Value) (w : World) (hr : RowAt w 2 v l.length (prs l)) (hq : RowAt w 2 u m.length (prs m)) :
    Calls Try.prog 21 #[v, u] w fun e w' => e = .returned (.bool (decide (l = m))) ∧ Below w.heap.size w w' := by
  obtain ⟨-, a, cap, rfl, h2⟩ := hr
  obtain ⟨-, a', cap', rfl, h3⟩ := hq
  have HR := hide h2
  have HQ := hide h3
  clear h2 h3
  by_cases hne : l.length = m.length
  · have HN := hide hne
    rw [← hne]
    clear hne
    go_enter Try.func21, Try.ntmps21
    go_wp2
    go_loopg [5] l.length (fun q iv wr => ∃ k : Nat, k ≤ l.length ∧ iv = .int .i64 (k : Int) ∧ q + k = l.length ∧ Hid (l.take k = m.take k) ∧ Below w.heap.size w wr)
    case atStart => exact ⟨0, Nat.zero_le _, rfl, rfl, hide (by simp), Below.refl _ _⟩
    case round =>
      obtain ⟨k, hk, rfl, hg, HT, hb⟩ := hrel
      have HG := hide hg
      clear hg
      by_cases hlt : k < l.length
      · rcases HR.out with hn0 | ⟨b, off, rfl, hbl, hc⟩
        · omega
        · rcases HQ.out with hn0 | ⟨b', off', rfl, hbl', hc'⟩
          · have := HN.out; omega
          · have hltm : k < m.length := by have := HN.out; omega
            obtain ⟨p, x, hx⟩ : ∃ p x, (p, x) = l[k] := ⟨_, _, rfl⟩
            obtain ⟨q, y, hy⟩ : ∃ q y, (q, y) = m[k] := ⟨_, _, rfl⟩
            have hc0 : wr.cell? ⟨b, off + k * 2, none⟩ = some (.string p) := by rw [hb.cell (by exact hbl), hc (k * 2) (by omega), (prs_at l k hlt).1, ← hx]
            have hc1 : wr.cell? ⟨b, off + k * 2 + 1, none⟩ = some (.string x) := by rw [hb.cell (by exact hbl), Nat.add_assoc, hc (k * 2 + 1) (by omega), (prs_at l k hlt).2, ← hx]
            have hd0 : wr.cell? ⟨b', off' + k * 2, none⟩ = some (.string q) := by rw [hb.cell (by exact hbl'), hc' (k * 2) (by omega), (prs_at m k hltm).1, ← hy]
            have hd1 : wr.cell? ⟨b', off' + k * 2 + 1, none⟩ = some (.string y) := by rw [hb.cell (by exact hbl'), Nat.add_assoc, hc' (k * 2 + 1) (by omega), (prs_at m k hltm).2, ← hy]
            have HX := hide hx
            have HY := hide hy
            have hk0 : (0 : Int) ≤ (k : Int) := by omega
            have hk1 : (k : Int) < (l.length : Int) := by omega
            have hbw : b < wr.heap.size := Nat.lt_of_lt_of_le hbl hb.size
            have hbw' : b' < wr.heap.size := Nat.lt_of_lt_of_le hbl' hb.size
            clear hc hc' hx hy
            by_cases hxy : (p, x) = (q, y)
            · have HT2 : Hid (l.take (k + 1) = m.take (k + 1)) := hide (by rw [List.take_succ_eq_append_getElem hlt, List.take_succ_eq_append_getElem hltm, HT.out, ← HX.out, ← HY.out, hxy])
              have HC := hide (eqPair_any p q x y)
              rw [decide_eq_true hxy] at HC
              clear hxy
              go_wp2_with fail
              go_region_held3 (fun wx => wx.cell? ⟨b, off + k * 2, none⟩ = some (.string p) ∧ wx.cell? ⟨b, off + k * 2 + 1, none⟩ = some (.string x) ∧ wx.cell? ⟨b', off' + k * 2, none⟩ = some (.string q) ∧ wx.cell? ⟨b', off' + k * 2 + 1, none⟩ = some (.string y)) (first | exact ⟨hc0, hc1, hd0, hd1⟩ | exact hS2) ((go_at_call 37; refine (HC.out _).mono ?_; rintro e w2 ⟨rfl, hb2⟩; have hS2 : w2.cell? ⟨b, off + k * 2, none⟩ = some (.string p) ∧ w2.cell? ⟨b, off + k * 2 + 1, none⟩ = some (.string x) ∧ w2.cell? ⟨b', off' + k * 2, none⟩ = some (.string q) ∧ w2.cell? ⟨b', off' + k * 2 + 1, none⟩ = some (.string y) := ⟨(hb2.cell (by exact hbw)).trans hc0, (hb2.cell (by exact hbw)).trans hc1, (hb2.cell (by exact hbw')).trans hd0, (hb2.cell (by exact hbw')).trans hd1⟩))
              all_goals
                have hb3 : Below w.heap.size w w2 := hb.trans ((Below.refl _ _).drew.trans (hb2.mono hb.size))
                clear hb2
                go_wp2_with fail
                go_roundg (gk - 1)
                case measure => have := HG.out; omega
                case rel => exact ⟨k + 1, by omega, by go_num, by have := HG.out; omega, HT2, hb3⟩
            · have HD := hide (list_ne hlt hltm (by rw [← HX.out, ← HY.out]; exact hxy))
              have HC := hide (eqPair_any p q x y)
              rw [decide_eq_false hxy] at HC
              clear hxy
              go_wp2_with fail
              go_region_held3 (fun wx => wx.cell? ⟨b, off + k * 2, none⟩ = some (.string p) ∧ wx.cell? ⟨b, off + k * 2 + 1, none⟩ = some (.string x) ∧ wx.cell? ⟨b', off' + k * 2, none⟩ = some (.string q) ∧ wx.cell? ⟨b', off' + k * 2 + 1, none⟩ = some (.string y)) (first | exact ⟨hc0, hc1, hd0, hd1⟩ | exact hS2) ((go_at_call 37; refine (HC.out _).mono ?_; rintro e w2 ⟨rfl, hb2⟩; have hS2 : w2.cell? ⟨b, off + k * 2, none⟩ = some (.string p) ∧ w2.cell? ⟨b, off + k * 2 + 1, none⟩ = some (.string x) ∧ w2.cell? ⟨b', off' + k * 2, none⟩ = some (.string q) ∧ w2.cell? ⟨b', off' + k * 2 + 1, none⟩ = some (.string y) := ⟨(hb2.cell (by exact hbw)).trans hc0, (hb2.cell (by exact hbw)).trans hc1, (hb2.cell (by exact hbw')).trans hd0, (hb2.cell (by exact hbw')).trans hd1⟩))
              all_goals
                have hb3 : Below w.heap.size w w2 := hb.trans ((Below.refl _ _).drew.trans (hb2.mono hb.size))
                clear hb2
                go_wp2_with fail
                go_ret
                rw [HD.out]
                exact ⟨rfl, hb3⟩
      · have HD : Hid (decide (l = m) = true) := hide (decide_eq_true (by
          have h1 := HT.out
          rw [List.take_of_length_le (by omega), List.take_of_length_le (by have := HN.out; omega)] at h1
          exact h1))
        go_wp2
        go_ret
        rw [HD.out]
        exact ⟨rfl, hb⟩
  · have HD : Hid (decide (l = m) = false) := hide (decide_eq_false (fun e => hne (by rw [e])))
    have hq1 : ¬ ((l.length : Int) = (m.length : Int)) := by omega
    clear hne
    go_enter Try.func21, Try.ntmps21
    go_wp2
    go_ret
    rw [HD.out]
    exact ⟨rfl, Below.refl _ _⟩

/-- the marks of pairs from k on, n of them -/
def marksQ (k n : Nat) : List (ByteArray × ByteArray) := (List.range n).map fun i => (markB (k + i * 2), markB (k + i * 2 + 1))

theorem marksQ_length (k n : Nat) : (marksQ k n).length = n := by simp [marksQ]

theorem marksQ_at (k n i : Nat) (h : i < n) : (prs (marksQ k n))[i * 2]? = some (.string (markB (k + i * 2))) ∧ (prs (marksQ k n))[i * 2 + 1]? = some (.string (markB (k + i * 2 + 1))) := by
  have := prs_at (marksQ k n) i (by rw [marksQ_length]; exact h)
  simpa [marksQ] using this

theorem marksQ_of (k n : Nat) (m : List (ByteArray × ByteArray)) (hl : m.length = n) (h : ∀ i, i < n → m[i]? = some (markB (k + i * 2), markB (k + i * 2 + 1))) : m = marksQ k n := by
  apply List.ext_getElem?
  intro i
  by_cases hi : i < n
  · rw [h i hi]; simp [marksQ, hi]
  · rw [List.getElem?_eq_none (by omega), List.getElem?_eq_none (by rw [marksQ_length]; omega)]

set_option maxHeartbeats 2000000 in
set_option maxRecDepth 100000 in
theorem markPairS_big (l : List (ByteArray × ByteArray)) (hl : l.length ≤ 2000000) (v : Value) (B k0 : Nat) (hk0 : 0 < k0) (hk1 : k0 ≤ 1048576000) (w : World) (ha : w.ownsRow B 30 2 v l.length (prs l)) :
    Calls Try.prog 22 #[v, .int .i64 (k0 : Int)] w fun e w' => e = .returned (.int .i64 ((k0 + l.length * 2 : Nat) : Int)) ∧ w'.ownsRow B 30 2 v l.length (prs (marksQ k0 l.length)) ∧ Kept w w' (fun k => v.ownBlock = some k) := by
  obtain ⟨a, cap, rfl⟩ : ∃ a cap, v = .slice a l.length cap := by obtain ⟨-, a, cap, e, -⟩ := row_of_own ha; exact ⟨a, cap, e⟩
  have HA := hide ha
  clear ha
  go_enter Try.func22, Try.ntmps22
  go_wp2
  go_loopg [1, 5] l.length (fun q kv iv wr => ∃ (k : Nat) (m : List (ByteArray × ByteArray)), k ≤ l.length ∧ kv = .int .i64 ((k0 + k * 2 : Nat) : Int) ∧ iv = .int .i64 (k : Int) ∧ q + k = l.length ∧ Hid (wr.ownsRow B 30 2 (.slice a l.length cap) l.length (prs m)) ∧ Hid (m.length = l.length ∧ ∀ i, i < k → m[i]? = some (markB (k0 + i * 2), markB (k0 + i * 2 + 1))) ∧ Hid (Kept w wr (fun k => (Value.slice a l.length cap).ownBlock = some k)))
  case atStart => exact ⟨0, l, Nat.zero_le _, rfl, rfl, rfl, HA, hide ⟨rfl, fun i h => by omega⟩, hide (kept_refl _ _)⟩
  case round =>
    obtain ⟨k, m, hk, rfl, rfl, hg, HOwn, HM, HK⟩ := hrel
    have HG := hide hg
    clear hg
    by_cases hlt : k < l.length
    · obtain ⟨g, rfl⟩ : ∃ g, a = some ⟨g, 0, none⟩ := by
        rcases HOwn.out.2 with ⟨e, h0⟩ | ⟨g, c, cur, e, _⟩
        · omega
        · injection e with e1; exact ⟨g, e1⟩
      have hkm : k < m.length := by rw [HM.out.1]; exact hlt
      obtain ⟨u0, u1, hu⟩ : ∃ (u0 : ByteArray) (u1 : ByteArray), (prs m)[k * 2]? = some (.string u0) ∧ (prs m)[k * 2 + 1]? = some (.string u1) := ⟨_, _, prs_at m k hkm⟩
      obtain ⟨p, hp⟩ : ∃ p, p = k0 + k * 2 := ⟨_, rfl⟩
      have hp1 : ((k0 + k * 2 : Nat) : Int) = (p : Int) := by rw [hp]
      have hpl : p ≤ 1048576000 + 4000000 := by omega
      have HC0 := hide (markText_row p (by omega) (by omega))
      have HC := hide (markText_row (p + 1) (by omega) (by omega))
      rw [show ((p + 1 : Nat) : Int) = (p : Int) + 1 from by omega] at HC
      have HKm := hide hkm
      have HU := hide hu
      have HP := hide hp
      have hi0 : (0 : Int) ≤ (k : Int) := by omega
      have hi1 : (k : Int) < (l.length : Int) := by omega
      rw [hp1]
      clear hkm hu hp hp1
      go_wp2_with fail
      refine (HC0.out _).mono ?_
      rintro e w1 ⟨rfl, hb1⟩
      have hown1 := own_stays HOwn.out hb1
      have hf0 : w1.frozen? ⟨g, k * 2, none⟩ = false := hown1.frozenAt _
      have hc0 : w1.cell? ⟨g, k * 2, none⟩ = some (.string u0) := by rw [hown1.cellAt (k * 2) (by omega), HU.out.1]
      have HOw1 := hide ((hown1.stored (k * 2) (.string (markB p))).1)
      have HB1 := hide hb1
      clear hown1 hb1
      go_wp2_with fail
      refine (HC.out _).mono ?_
      rintro e w2 ⟨rfl, hb2⟩
      have hown2 := own_stays HOw1.out hb2
      have hf1 : w2.frozen? ⟨g, k * 2 + 1, none⟩ = false := hown2.frozenAt _
      have hc1 : w2.cell? ⟨g, k * 2 + 1, none⟩ = some (.string u1) := by rw [hown2.cellAt (k * 2 + 1) (by omega), List.getElem?_set_ne (by omega), HU.out.2]
      have HO := hide ((hown2.stored (k * 2 + 1) (.string (markB (p + 1)))).1)
      rw [prs_set m k _ _ HKm.out] at HO
      have HM2 : Hid ((m.set k (markB p, markB (p + 1))).length = l.length ∧ ∀ i, i < k + 1 → (m.set k (markB p, markB (p + 1)))[i]? = some (markB (k0 + i * 2), markB (k0 + i * 2 + 1))) := hide ⟨by rw [List.length_set]; exact HM.out.1, fun i hi => by
        by_cases e : k = i
        · subst e; rw [List.getElem?_set_self HKm.out, HP.out]
        · rw [List.getElem?_set_ne e]; exact HM.out.2 i (by omega)⟩
      have HK2 : Hid (Kept w (w2.setCell ⟨g, k * 2 + 1, none⟩ (.string (markB (p + 1)))) (fun k => (Value.slice (some ⟨g, 0, none⟩) l.length cap).ownBlock = some k)) := hide (kept_trans (kept_trans (kept_trans (kept_trans HK.out (kept_of_all HB1.out (fun _ => False)) (fun j _ h => h.elim)) (kept_setCell w1 g (k * 2) _) (fun j _ h => by rw [h]; rfl)) (kept_of_all hb2 (fun _ => False)) (fun j _ h => h.elim)) (kept_setCell w2 g _ _) (fun j _ h => by rw [h]; rfl))
      clear hc0 hf0
      clear hb2 hown2
      go_wp2_with fail
      go_roundg (gk - 1)
      case measure => have := HG.out; omega
      case rel => exact ⟨k + 1, _, by omega, by have := HP.out; go_num, by go_num, by have := HG.out; omega, HO, HM2, HK2⟩
    · have hkn : k = l.length := by omega
      have HO : Hid (wr.ownsRow B 30 2 (.slice a l.length cap) l.length (prs (marksQ k0 l.length))) := hide (by
        have e : m = marksQ k0 l.length := marksQ_of k0 l.length m HM.out.1 (fun i hi => HM.out.2 i (by omega))
        rw [← e]; exact HOwn.out)
      have HKn := hide hkn
      clear hkn
      go_wp2_with fail
      go_ret
      exact ⟨by rw [HKn.out]; rfl, HO.out, HK.out⟩

set_option maxHeartbeats 2000000 in
set_option maxRecDepth 100000 in
theorem heldPairS_big (n : Nat) (hn : n ≤ 2000000) (v : Value) (k0 : Nat) (hk0 : 0 < k0) (hk1 : k0 ≤ 1048576000) (w : World) (ha : RowAt w 2 v n (prs (marksQ k0 n))) :
    Calls Try.prog 23 #[v, .int .i64 (k0 : Int)] w fun e w' => e = .returned (.int .i64 ((k0 + n * 2 : Nat) : Int)) ∧ Below w.heap.size w w' := by
  obtain ⟨-, a, cap, rfl, h2⟩ := ha
  have HR := hide h2
  clear h2
  go_enter Try.func23, Try.ntmps23
  go_wp2
  go_loopg [1, 5] n (fun q kv iv wr => ∃ k : Nat, k ≤ n ∧ kv = .int .i64 ((k0 + k * 2 : Nat) : Int) ∧ iv = .int .i64 (k : Int) ∧ q + k = n ∧ Below w.heap.size w wr)
  case atStart => exact ⟨0, Nat.zero_le _, rfl, rfl, rfl, Below.refl _ _⟩
  case round =>
    obtain ⟨k, hk, rfl, rfl, hg, hb⟩ := hrel
    have HG := hide hg
    clear hg
    have hBw := hb.size
    by_cases hlt : k < n
    · rcases HR.out with h0 | ⟨g, off, rfl, hglt, hc⟩
      · omega
      · obtain ⟨p, hp⟩ : ∃ p, p = k0 + k * 2 := ⟨_, rfl⟩
        have hp1 : ((k0 + k * 2 : Nat) : Int) = (p : Int) := by rw [hp]
        have hpl : p ≤ 1048576000 + 4000000 := by omega
        have HC0 := hide (markText_row p (by omega) (by omega))
        have HC := hide (markText_row (p + 1) (by omega) (by omega))
        rw [show ((p + 1 : Nat) : Int) = (p : Int) + 1 from by omega] at HC
        obtain ⟨x0, hx0⟩ : ∃ x : ByteArray, x = markB p := ⟨_, rfl⟩
        obtain ⟨x, hx⟩ : ∃ x : ByteArray, x = markB (p + 1) := ⟨_, rfl⟩
        have hcell : ∀ wx, Below w.heap.size w wx → wx.cell? ⟨g, off + k * 2, none⟩ = some (.string x0) ∧ wx.cell? ⟨g, off + k * 2 + 1, none⟩ = some (.string x) := fun wx hbx => ⟨by rw [hbx.cell (by exact hglt), hc (k * 2) (by omega), (marksQ_at k0 n k hlt).1, hx0, hp], by rw [hbx.cell (by exact hglt), Nat.add_assoc, hc (k * 2 + 1) (by omega), (marksQ_at k0 n k hlt).2, hx, hp]⟩
        have HCe := hide hcell
        have hi0 : (0 : Int) ≤ (k : Int) := by omega
        have hi1 : (k : Int) < (n : Int) := by omega
        rw [← hx0] at HC0
        rw [← hx] at HC
        have HP := hide hp
        have hbe0 := ba_beq x0 x0
        have hbe1 := ba_beq x x
        rw [decide_eq_true rfl] at hbe0 hbe1
        rw [hp1]
        have hc0 := (hcell wr hb).1
        clear hx hx0 hc hp hp1 hcell
        go_wp2_with fail
        go_region_held3 (fun w' => w'.cell? ⟨g, off + k * 2, none⟩ = some (.string x0)) (first | go_keep | exact hc2) ((go_at_call 38; refine (HC0.out _).mono ?_; rintro e w2 ⟨rfl, hbw⟩; have hb2 : Below w.heap.size w w2 := hb.trans ((Below.refl _ _).drew.trans (hbw.mono hBw)); have hc2 : w2.cell? ⟨g, off + k * 2, none⟩ = some (.string x0) := (HCe.out w2 hb2).1))
        all_goals
          have hBw2 := hb2.size
          have hc1 := (HCe.out w2 hb2).2
          clear hbw hc2
          go_wp2_with fail
          go_region_held3 (fun w' => w'.cell? ⟨g, off + k * 2 + 1, none⟩ = some (.string x)) (first | go_keep | exact hc3) ((go_at_call 38; refine (HC.out _).mono ?_; rintro e w3 ⟨rfl, hbv⟩; have hb3 : Below w.heap.size w w3 := hb2.trans ((Below.refl _ _).drew.trans (hbv.mono hBw2)); have hc3 : w3.cell? ⟨g, off + k * 2 + 1, none⟩ = some (.string x) := (HCe.out w3 hb3).2))
          all_goals
            clear hbv hc3
            go_wp2_with fail
            go_roundg (gk - 1)
            case measure => have := HG.out; omega
            case rel => exact ⟨k + 1, by omega, by have := HP.out; go_num, by go_num, by have := HG.out; omega, hb3⟩
    · have hkn : k = n := by omega
      have HK := hide hkn
      clear hkn
      go_wp2_with fail
      go_ret
      exact ⟨by rw [HK.out]; rfl, hb⟩

theorem markPairS_row (l : List (ByteArray × ByteArray)) (hl : l.length ≤ 1048576) (v : Value) (B k0 : Nat) (hk0 : 0 < k0) (hk1 : k0 ≤ 1048576000) (w : World) (ha : w.ownsRow B 30 2 v l.length (prs l)) :
    Calls Try.prog 22 #[v, .int .i64 (k0 : Int)] w fun e w' => e = .returned (.int .i64 ((k0 + l.length * 2 : Nat) : Int)) ∧ w'.ownsRow B 30 2 v l.length (prs (marksQ k0 l.length)) ∧ Kept w w' (fun k => v.ownBlock = some k) :=
  markPairS_big l (by omega) v B k0 hk0 hk1 w ha

theorem heldPairS_row (n : Nat) (hn : n ≤ 1048576) (v : Value) (k0 : Nat) (hk0 : 0 < k0) (hk1 : k0 ≤ 1048576000) (w : World) (ha : RowAt w 2 v n (prs (marksQ k0 n))) :
    Calls Try.prog 23 #[v, .int .i64 (k0 : Int)] w fun e w' => e = .returned (.int .i64 ((k0 + n * 2 : Nat) : Int)) ∧ Below w.heap.size w w' :=
  heldPairS_big n (by omega) v k0 hk0 hk1 w ha

end Go.Proofs.Ythcakofocbileaa

namespace Go.Proofs.Ythcakofocbileaa
open Go.RowKit

/-- behind a new cursor nothing that was there is turned -/
theorem cap_own {w : World} {B e sz n : Nat} {v : Value} {xs : List Value} (h : w.ownsRow B e sz v n xs) : ∃ a c, v = .slice a n c ∧ n ≤ c := by
  rcases h.2 with ⟨rfl, rfl⟩ | ⟨g, cap, cur, rfl, -, -, hn, -⟩
  · exact ⟨_, _, rfl, Nat.le_refl _⟩
  · exact ⟨_, _, rfl, hn⟩

theorem below_cur {w w1 w2 : World} {B : Nat} {a : Option Addr} {len cap : Nat} (h : Below w.heap.size w w1) (hd : Drawn w1 w2 w.heap.size B a len cap) : Below w.heap.size w w2 :=
  h.grown hd.2.1 h.size (fun k hk => by injection hk with hk; omega)

set_option maxHeartbeats 1000000 in
theorem drawModelPut_any (a : Option Addr) (len cap : Nat) (w : World) (hd : CodeIn w w.heap.size a len) :
    Calls Try.prog 7 #[.slice a len cap] w fun e w' => ∃ (L : List (ByteArray × ByteArray)) (v : Value) (key : ByteArray), e = .returned (.tuple #[v, .string key, .string ⟨#[110, 101, 119]⟩]) ∧ DrwP L ∧ key.size ≤ 1 ∧ w'.ownsRow w.heap.size 30 2 v L.length (prq L) ∧ Below w.heap.size w w' := by
  have HD := hide hd
  clear hd
  go_enter Try.func7, Try.ntmps7
  go_wp2_with fail
  refine (l01New_any a len cap w HD.out).mono ?_
  rintro e w1 ⟨rfl, hc1, hd1, hb1⟩
  have HC := hide (⟨hc1, hd1, hb1⟩ : _ ∧ _ ∧ _)
  clear hc1 hd1 hb1
  go_wp2_with fail
  refine (l05Key_any w.heap.size w.heap.size a len cap w1 HC.out.1 HC.out.2.1 (Nat.le_refl _)).mono ?_
  rintro e w2 ⟨z, hz, rfl, hd2⟩
  have HZ := hide (bases_size hz)
  have HD2 := hide hd2
  clear hz hd2
  go_wp2_with fail
  refine (l15Pairs_any w.heap.size w.heap.size a len cap w2 HD2.out.1 HD2.out.2.2 (Nat.le_refl _)).mono ?_
  rintro e w3 ⟨L, v, rfl, hp, ho, hd3⟩
  have HP := hide (⟨hp, own_down ho (Nat.le_trans HC.out.2.2.size HD2.out.2.1.size), below_cur (below_cur HC.out.2.2 HD2.out) hd3⟩ : _ ∧ _ ∧ _)
  clear hp ho hd3
  go_wp2_with fail
  refine bodyPost_ret (v := .tuple #[v, .string z, .string ⟨#[110, 101, 119]⟩]) (by simp [results, Try.results7, go_sem]) rfl ⟨L, v, z, rfl, HP.out.1, HZ.out, HP.out.2.1, HP.out.2.2⟩

set_option maxHeartbeats 1000000 in
theorem drawModelDrop_any (a : Option Addr) (len cap : Nat) (w : World) (hd : CodeIn w w.heap.size a len) :
    Calls Try.prog 10 #[.slice a len cap] w fun e w' => ∃ (L : List (ByteArray × ByteArray)) (v : Value) (key : ByteArray), e = .returned (.tuple #[v, .string key]) ∧ DrwP L ∧ key.size ≤ 1 ∧ w'.ownsRow w.heap.size 30 2 v L.length (prq L) ∧ Below w.heap.size w w' := by
  have HD := hide hd
  clear hd
  go_enter Try.func10, Try.ntmps10
  go_wp2_with fail
  refine (l01New_any a len cap w HD.out).mono ?_
  rintro e w1 ⟨rfl, hc1, hd1, hb1⟩
  have HC := hide (⟨hc1, hd1, hb1⟩ : _ ∧ _ ∧ _)
  clear hc1 hd1 hb1
  go_wp2_with fail
  refine (l05Key_any w.heap.size w.heap.size a len cap w1 HC.out.1 HC.out.2.1 (Nat.le_refl _)).mono ?_
  rintro e w2 ⟨z, hz, rfl, hd2⟩
  have HZ := hide (bases_size hz)
  have HD2 := hide hd2
  clear hz hd2
  go_wp2_with fail
  refine (l15Pairs_any w.heap.size w.heap.size a len cap w2 HD2.out.1 HD2.out.2.2 (Nat.le_refl _)).mono ?_
  rintro e w3 ⟨L, v, rfl, hp, ho, hd3⟩
  have HP := hide (⟨hp, own_down ho (Nat.le_trans HC.out.2.2.size HD2.out.2.1.size), below_cur (below_cur HC.out.2.2 HD2.out) hd3⟩ : _ ∧ _ ∧ _)
  clear hp ho hd3
  go_wp2_with fail
  refine bodyPost_ret (v := .tuple #[v, .string z]) (by simp [results, Try.results10, go_sem]) rfl ⟨L, v, z, rfl, HP.out.1, HZ.out, HP.out.2.1, HP.out.2.2⟩

theorem code_stays {w w' : World} {a : Option Addr} {len : Nat} (h : CodeIn w w.heap.size a len) (hb : Below w.heap.size w w') : CodeIn w' w'.heap.size a len := by
  refine ⟨h.1, ?_⟩
  rcases h.2 with h0 | ⟨b, off, e, hlt, hz⟩
  · exact Or.inl h0
  · refine Or.inr ⟨b, off, e, Nat.lt_of_lt_of_le hlt hb.size, fun j hj => ?_⟩
    obtain ⟨z, h1, h2⟩ := hz j hj
    exact ⟨z, h1, by rw [hb.cell (by exact hlt)]; exact h2⟩

set_option maxHeartbeats 8000000 in
set_option maxRecDepth 100000 in
theorem lawModels (a : Option Addr) (len cap : Nat)
    (hP : ∀ (L : List (ByteArray × ByteArray)) (key val : ByteArray) (u : Value) (wx : World), AscM L → L.length ≤ 1000 → (∀ p ∈ L, p.1.size ≤ 1000 ∧ p.2.size ≤ 1000) → RowAt wx 2 u L.length (prq L) → (∃ a c, u = .slice a L.length c ∧ L.length ≤ c) → key.size ≤ 1000 → val.size ≤ 1000 → Calls Try.prog 8 #[u, .string key, .string val] wx fun e w' => ∃ v', e = .returned v' ∧ w'.ownsRow wx.heap.size 30 2 v' (modelP L key val).length (prq (modelP L key val)) ∧ Below wx.heap.size wx w')
    (hD : ∀ (L : List (ByteArray × ByteArray)) (key : ByteArray) (u : Value) (wx : World), AscM L → L.length ≤ 1000 → (∀ p ∈ L, p.1.size ≤ 1000 ∧ p.2.size ≤ 1000) → RowAt wx 2 u L.length (prq L) → Calls Try.prog 9 #[u, .string key] wx fun e w' => ∃ v', e = .returned v' ∧ w'.ownsRow wx.heap.size 30 2 v' (modelD L key).length (prq (modelD L key)) ∧ Below wx.heap.size wx w')
    (w : World) (h : 1048576 < len ∨ CodeIn w w.heap.size a len) :
    Calls Try.prog 3 #[.slice a len cap] w fun e w' => e = .returned (.bool true) ∧ Below w.heap.size w w' := by
  rcases h with hbig | hd
  · go_enter Try.func3, Try.ntmps3
    go_wp2_with fail
    refine (big_yes a len cap hbig w).mono ?_
    rintro e w1 ⟨rfl, rfl⟩
    go_wp2_with fail
    go_ret
    exact ⟨rfl, Below.refl _ _⟩
  have HD := hide hd
  have hlen := hd.1
  have HPi := hide hP
  have HDi := hide hD
  clear hd hP hD
  go_enter Try.func3, Try.ntmps3
  go_wp2_with fail
  refine (big_no a len cap hlen w).mono ?_
  rintro e w1 ⟨rfl, rfl⟩
  go_wp2_with fail
  refine (drawModelPut_any a len cap w HD.out).mono ?_
  rintro e w1 ⟨L, lv, key, rfl, hL, hks, ho, hb1⟩
  have HL := hide hL
  have HB1 := hide hb1
  have HR1 : Hid (∀ wx, Below w1.heap.size w1 wx → RowAt wx 2 lv L.length (prq L)) := hide (fun wx h => row_below (row_of_own ho) h)
  have HLz : Hid (∀ p ∈ L, p.1.size ≤ 1000 ∧ p.2.size ≤ 1000) := hide (fun p hp => ⟨Nat.le_trans (hL.2.2 p hp).1 (by omega), Nat.le_trans (hL.2.2 p hp).2 (by omega)⟩)
  have HCap := hide (cap_own ho)
  clear hL ho hb1
  obtain ⟨M, hM⟩ : ∃ M, modelP L key ⟨#[110, 101, 119]⟩ = M := ⟨_, rfl⟩
  have HMa : Hid (AscM M ∧ M.length ≤ 21 ∧ ∀ p ∈ M, p.1.size ≤ 1000 ∧ p.2.size ≤ 1000) := hide (by
    rw [← hM]
    refine ⟨modelP_asc HL.out.1 _ _, by have := modelP_len L key ⟨#[110, 101, 119]⟩; have := HL.out.2.1; omega, fun p hp => ?_⟩
    rcases modelP_mem hp with hp | rfl
    · exact HLz.out p hp
    · exact ⟨by show key.size ≤ 1000; omega, by show (⟨#[110, 101, 119]⟩ : ByteArray).size ≤ 1000; decide⟩)
  have HMo : Hid ((M.filter (fun p => p.1.toList == key.toList)).length = 1) := hide (by rw [← hM]; exact modelP_once L key _)
  have HMd : Hid (modelD M key = modelD L key) := hide (by rw [← hM]; exact modelD_put HL.out.1 key _)
  have HCp := hide (fun wx hb => HPi.out L key ⟨#[110, 101, 119]⟩ lv wx HL.out.1 (by have := HL.out.2.1; omega) HLz.out (HR1.out wx hb) HCap.out (by omega) (by decide))
  rw [hM] at HCp
  have HMe := hide hM
  clear hM
  go_wp2_with fail
  refine (HCp.out w1 (Below.refl _ _)).mono ?_
  rintro e w2 ⟨av, rfl, ho, hb⟩
  have HRa : Hid (∀ wx, Below w2.heap.size w2 wx → RowAt wx 2 av M.length (prq M)) := hide (fun wx h => row_below (row_of_own ho) h)
  have HB12 := hide hb
  have HB2 : Hid (Below w.heap.size w w2) := hide (HB1.out.trans (hb.mono HB1.out.size))
  clear ho hb HCp
  have HCd := hide (fun wx hb => HDi.out M key av wx HMa.out.1 (by have := HMa.out.2.1; omega) HMa.out.2.2 (HRa.out wx hb))
  obtain ⟨N, hN⟩ : ∃ N, modelD M key = N := ⟨_, rfl⟩
  rw [hN] at HCd HMd
  have HNe := hide hN
  clear hN
  go_wp2_with fail
  refine (HCd.out w2 (Below.refl _ _)).mono ?_
  rintro e w3 ⟨bv, rfl, ho, hb⟩
  have HRb : Hid (∀ wx, Below w3.heap.size w3 wx → RowAt wx 2 bv N.length (prq N)) := hide (fun wx h => row_below (row_of_own ho) h)
  have HB23 := hide hb
  have HB3 : Hid (Below w.heap.size w w3) := hide (HB2.out.trans (hb.mono HB2.out.size))
  clear ho hb HCd
  obtain ⟨xa, ca, hav⟩ : ∃ xa ca, av = .slice xa M.length ca := by obtain ⟨-, x, c, e, -⟩ := HRa.out w2 (Below.refl _ _); exact ⟨x, c, e⟩
  obtain ⟨m, hm⟩ : ∃ m, M.length = m := ⟨_, rfl⟩
  have HMl := hide hm
  rw [hm] at hav
  subst hav
  have hm21 : m ≤ 21 := by rw [← hm]; exact HMa.out.2.1
  rw [hm] at HRa
  clear hm
  go_wp2_with fail
  go_loopg [8, 9] m (fun q nv iv wr => ∃ (i n : Nat), i ≤ m ∧ q + i = m ∧ iv = .int .i64 (i : Int) ∧ nv = .int .i64 (n : Int) ∧ n ≤ i ∧ Hid (((M.take i).filter (fun p => p.1.toList == key.toList)).length = n) ∧ Hid (Below w3.heap.size w3 wr))
  case atStart => exact ⟨0, 0, Nat.zero_le _, rfl, rfl, rfl, Nat.le_refl _, hide rfl, hide (Below.refl _ _)⟩
  case round =>
    obtain ⟨i, n, him, hq, rfl, rfl, hni, HN, HW⟩ := hrel
    have HQ := hide hq
    clear hq
    by_cases hlt : i < m
    · obtain ⟨p, hp⟩ : ∃ p, M[i]? = some p := ⟨M[i]'(by have := HMl.out; omega), List.getElem?_eq_getElem _⟩
      obtain ⟨x, y⟩ := p
      have hb2r : Below w2.heap.size w2 wr := HB23.out.trans (HW.out.mono HB23.out.size)
      obtain ⟨g, off, rfl, c0, -⟩ := prq_cells (HRa.out w2 (Below.refl _ _)) hb2r hlt hp
      have hi0 : (0 : Int) ≤ (i : Int) := by omega
      have hi1 : (i : Int) < (m : Int) := by omega
      obtain ⟨t, ht⟩ : ∃ t, (x.toList == key.toList) = t := ⟨_, rfl⟩
      obtain ⟨n2, hn2⟩ : ∃ n2 : Nat, n2 = (if t = true then n + 1 else n) := ⟨_, rfl⟩
      have hn2i : n2 ≤ i + 1 := by rw [hn2]; split <;> omega
      have HN2 : Hid (((M.take (i + 1)).filter (fun p => p.1.toList == key.toList)).length = n2) := hide (by
        have e := HN.out
        cases t with
        | true => rw [tf_yes hp (p := fun p => p.1.toList == key.toList) ht, List.length_append, e, hn2]; rfl
        | false => rw [tf_no hp (p := fun p => p.1.toList == key.toList) ht, e, hn2]; rfl)
      have HAs : Hid (∀ j, i = j + 1 → ∃ x0, Op.bytesLess x0.toList x.toList = true ∧ (∀ wx, Below w2.heap.size w2 wx → wx.cell? ⟨g, off + j * 2, none⟩ = some (.string x0))) := hide (fun j hj => by
        have hjl : j < M.length := by have := HMl.out; omega
        have hil : i < M.length := by have := HMl.out; omega
        refine ⟨M[j].1, ?_, fun wx hb => ?_⟩
        · have h1 := List.pairwise_iff_getElem.1 HMa.out.1 j i hjl hil (by omega)
          rw [List.getElem?_eq_getElem hil] at hp
          injection hp with hp
          rw [hp] at h1
          exact h1
        · obtain ⟨g', off', e', q0, -⟩ := prq_cells (HRa.out w2 (Below.refl _ _)) hb (show j < m by omega) (List.getElem?_eq_getElem hjl)
          injection e' with e'
          injection e' with e1 e2
          subst e1 e2
          exact q0)
      have HB2r := hide hb2r
      clear hp hb2r HN
      cases i with
      | zero =>
        simp only [Nat.zero_mul, Nat.add_zero] at c0
        cases t with
        | true =>
          obtain rfl : n2 = n + 1 := hn2
          go_wp2_with fail
          go_quiet (fail)
          go_wp2_with fail
          go_roundg (gk - 1)
          case measure => have := HQ.out; omega
          case rel => exact ⟨1, n + 1, by omega, by have := HQ.out; omega, by go_num, by go_num, by omega, HN2, hide (below_drewN HW.out _)⟩
        | false =>
          obtain rfl : n2 = n := hn2
          go_wp2_with fail
          go_quiet (fail)
          go_wp2_with fail
          go_roundg (gk - 1)
          case measure => have := HQ.out; omega
          case rel => exact ⟨1, n2, by omega, by have := HQ.out; omega, by go_num, by go_num, by omega, HN2, hide (below_drewN HW.out _)⟩
      | succ j =>
        obtain ⟨x0, hlx, hcx⟩ := HAs.out j rfl
        have e0 := hcx wr HB2r.out
        have hj0 : (0 : Int) ≤ (j : Int) := by omega
        have hj1 : (j : Int) < (m : Int) := by omega
        have hj2 : (j : Int) + 1 < (m : Int) := by omega
        have hj3 : (0 : Int) < (j : Int) + 1 := by omega
        clear hcx HAs
        cases t with
        | true =>
          obtain rfl : n2 = n + 1 := hn2
          go_wp2_with fail
          go_quiet (fail)
          go_wp2_with fail
          go_roundg (gk - 1)
          case measure => have := HQ.out; omega
          case rel => exact ⟨j + 1 + 1, n + 1, by omega, by have := HQ.out; omega, by go_num, by go_num, by omega, HN2, hide (below_drewN HW.out _)⟩
        | false =>
          obtain rfl : n2 = n := hn2
          go_wp2_with fail
          go_quiet (fail)
          go_wp2_with fail
          go_roundg (gk - 1)
          case measure => have := HQ.out; omega
          case rel => exact ⟨j + 1 + 1, n2, by omega, by have := HQ.out; omega, by go_num, by go_num, by omega, HN2, hide (below_drewN HW.out _)⟩
    · obtain rfl : i = m := by omega
      obtain rfl : n = 1 := by
        have e := HN.out
        rw [List.take_of_length_le (by rw [HMl.out]; exact Nat.le_refl _), HMo.out] at e
        exact e.symm
      have HBr : Hid (Below w.heap.size w wr) := hide (HB3.out.trans (HW.out.mono HB3.out.size))
      have HDr := hide (code_stays HD.out HBr.out)
      have HB2r : Hid (Below w2.heap.size w2 wr) := hide (HB23.out.trans (HW.out.mono HB23.out.size))
      have HB1r : Hid (Below w1.heap.size w1 wr) := hide (HB12.out.trans (HB2r.out.mono HB12.out.size))
      clear HN hni
      go_wp2_with fail
      refine (drawModelDrop_any a len cap wr HDr.out).mono ?_
      rintro e w4 ⟨X, xv, ky, rfl, hX, hkx, ho, hb⟩
      have HX := hide hX
      have HXz : Hid (∀ p ∈ X, p.1.size ≤ 1000 ∧ p.2.size ≤ 1000) := hide (fun p hp => ⟨Nat.le_trans (hX.2.2 p hp).1 (by omega), Nat.le_trans (hX.2.2 p hp).2 (by omega)⟩)
      have HRx : Hid (∀ wx, Below w4.heap.size w4 wx → RowAt wx 2 xv X.length (prq X)) := hide (fun wx h => row_below (row_of_own ho) h)
      have HTr : Hid (∀ {u v x : World}, Below u.heap.size u v → Below v.heap.size v x → Below u.heap.size u x) := hide (fun h1 h2 => h1.trans (h2.mono h1.size))
      have HR4 := hide hb
      clear hX ho hb
      have HSp := hide (fun wx hb => specModelPut_any L (by have := HL.out.2.1; omega) key ⟨#[110, 101, 119]⟩ lv wx (HR1.out wx hb))
      rw [HMe.out] at HSp
      go_wp2_with fail
      refine (HSp.out w4 (HTr.out HB1r.out HR4.out)).mono ?_
      rintro e w5 ⟨sv, rfl, ho, hb⟩
      have HRs := hide (row_of_own ho)
      have H45 := hide hb
      clear ho hb HSp
      have HE1 := hide (lawsSamePairs_any M M (by have := HMa.out.2.1; omega) (by have := HMa.out.2.1; omega) (.slice xa i ca) sv w5 (by rw [HMl.out]; exact HRa.out w5 (HTr.out HB2r.out (HTr.out HR4.out H45.out))) HRs.out)
      rw [decide_eq_true rfl] at HE1
      go_wp2_with fail
      refine HE1.out.mono ?_
      rintro e w6 ⟨rfl, hb⟩
      have H46 := hide (HTr.out H45.out hb)
      clear hb HE1 HRs H45
      have HSd := hide (fun wx hb => specModelDrop_any L (by have := HL.out.2.1; omega) key lv wx (HR1.out wx hb))
      rw [← HMd.out] at HSd
      go_wp2_with fail
      refine (HSd.out w6 (HTr.out HB1r.out (HTr.out HR4.out H46.out))).mono ?_
      rintro e w7 ⟨sd, rfl, ho, hb⟩
      have HRs := hide (row_of_own ho)
      have H47 := hide (HTr.out H46.out hb)
      clear ho hb HSd H46
      have hnl : N.length ≤ 21 := by rw [← HNe.out]; have := modelD_len M key; have := HMa.out.2.1; omega
      have HE2 := hide (lawsSamePairs_any N N (by omega) (by omega) bv sd w7 (HRb.out w7 (HTr.out HW.out (HTr.out HR4.out H47.out))) HRs.out)
      rw [decide_eq_true rfl] at HE2
      go_wp2_with fail
      refine HE2.out.mono ?_
      rintro e w8 ⟨rfl, hb⟩
      have H48 := hide (HTr.out H47.out hb)
      clear hb HE2 HRs H47
      have HId := hide (fun wx hb => HDi.out X ky xv wx HX.out.1 (by have := HX.out.2.1; omega) HXz.out (HRx.out wx hb))
      have HSx := hide (fun wx hb => specModelDrop_any X (by have := HX.out.2.1; omega) ky xv wx (HRx.out wx hb))
      obtain ⟨Y, hY⟩ : ∃ Y, modelD X ky = Y := ⟨_, rfl⟩
      rw [hY] at HId HSx
      have hyl : Y.length ≤ 20 := by rw [← hY]; have := modelD_len X ky; have := HX.out.2.1; omega
      clear hY
      go_wp2_with fail
      refine (HId.out w8 H48.out).mono ?_
      rintro e w9 ⟨yi, rfl, ho, hb⟩
      have HRi : Hid (∀ wx, Below w9.heap.size w9 wx → RowAt wx 2 yi Y.length (prq Y)) := hide (fun wx h => row_below (row_of_own ho) h)
      have H49 := hide (HTr.out H48.out hb)
      clear ho hb H48 HId
      go_wp2_with fail
      refine (HSx.out w9 H49.out).mono ?_
      rintro e w10 ⟨ys, rfl, ho, hb⟩
      have HE3 := hide (lawsSamePairs_any Y Y (by omega) (by omega) yi ys w10 (HRi.out w10 hb) (row_of_own ho))
      rw [decide_eq_true rfl] at HE3
      have H410 := hide (HTr.out H49.out hb)
      clear ho hb H49 HSx
      go_wp2_with fail
      refine HE3.out.mono ?_
      rintro e w11 ⟨rfl, hb⟩
      have HF : Hid (Below w.heap.size w w11) := hide (HTr.out HBr.out (HTr.out HR4.out (HTr.out H410.out hb)))
      clear hb
      go_wp2_with fail
      go_ret
      exact ⟨rfl, HF.out⟩

end Go.Proofs.Ythcakofocbileaa
