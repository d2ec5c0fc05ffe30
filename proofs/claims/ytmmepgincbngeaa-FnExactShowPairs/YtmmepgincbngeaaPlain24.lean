/-
  Chapter 7, plain: how a tree is gone through, by the program (downL: what is visited, and what was seen where it went on) and by the document's model (walkS), and that both tell the same pairs and pages.
-/
import Derived.Test.YtmmepgincbngeaaPlain23
namespace Go.Proofs.Ytmmepgincbngeaa

/-- a page that was come to, what it tells, and the way down to it -/
structure Vis where
  page : Int
  nd : Nd
  way : List (Nd × Nat)

/-- behind the first i kids -/
def kidsL (f : Int → List (Nd × Nat) → List Int → List Vis × Option (List Int)) (n : Nd) (way : List (Nd × Nat)) (seen : List Int) : Nat → List Vis × Option (List Int)
  | 0 => ([], some seen)
  | i + 1 =>
    match kidsL f n way seen i with
    | (vs, none) => (vs, none)
    | (vs, some s) => (vs ++ (f (n.cs.getD i 0) (way ++ [(n, i)]) s).1, (f (n.cs.getD i 0) (way ++ [(n, i)]) s).2)

/-- k levels from page p on -/
def downL (R : Int → Nd × Bool) : Nat → Int → List (Nd × Nat) → List Int → List Vis × Option (List Int)
  | 0, _, _, _ => ([], none)
  | k + 1, p, way, seen =>
    if (R p).2 = false ∨ p ∈ seen then ([], none)
    else (⟨p, (R p).1, way⟩ :: (kidsL (downL R k) (R p).1 way (seen ++ [p]) (R p).1.cs.length).1, (kidsL (downL R k) (R p).1 way (seen ++ [p]) (R p).1.cs.length).2)

theorem kidsL_succ_some {f : Int → List (Nd × Nat) → List Int → List Vis × Option (List Int)} {n : Nd} {way : List (Nd × Nat)} {seen s : List Int} {i : Nat} (h : (kidsL f n way seen i).2 = some s) :
    kidsL f n way seen (i + 1) = ((kidsL f n way seen i).1 ++ (f (n.cs.getD i 0) (way ++ [(n, i)]) s).1, (f (n.cs.getD i 0) (way ++ [(n, i)]) s).2) := by
  rw [kidsL]
  generalize kidsL f n way seen i = r at h ⊢
  obtain ⟨vs, o⟩ := r
  simp only at h
  subst h
  rfl

theorem kidsL_succ_none {f : Int → List (Nd × Nat) → List Int → List Vis × Option (List Int)} {n : Nd} {way : List (Nd × Nat)} {seen : List Int} {i : Nat} (h : (kidsL f n way seen i).2 = none) :
    kidsL f n way seen (i + 1) = kidsL f n way seen i := by
  rw [kidsL]
  generalize kidsL f n way seen i = r at h ⊢
  obtain ⟨vs, o⟩ := r
  simp only at h
  subst h
  rfl

theorem kidsL_none {f : Int → List (Nd × Nat) → List Int → List Vis × Option (List Int)} {n : Nd} {way : List (Nd × Nat)} {seen : List Int} {i : Nat} (h : (kidsL f n way seen i).2 = none) : ∀ d, kidsL f n way seen (i + d) = kidsL f n way seen i
  | 0 => rfl
  | d + 1 => by
    have h2 := kidsL_none h d
    rw [Nat.add_succ, kidsL_succ_none (by rw [h2]; exact h), h2]

/-- what is met in a tree -/
structure Al where
  pairs : List (ByteArray × ByteArray)
  pages : List Int
  depths : List Int
  bad : Bool
  loose : Bool

def Al.none : Al := ⟨[], [], [], false, false⟩

def lessB (x y : ByteArray) : Bool := Op.bytesLess x.toList y.toList

/-- the bounds for the i-th kid -/
def leastB (n : Nd) (i : Nat) (low : ByteArray) : ByteArray := if lessB low (n.ks.getD i ⟨#[]⟩) = true then n.ks.getD i ⟨#[]⟩ else low
def nearB (n : Nd) (i : Nat) (high : ByteArray) (has : Bool) : Bool := decide (i + 1 < n.ks.length) && (!has || lessB (n.ks.getD (i + 1) ⟨#[]⟩) high)
def nextB (n : Nd) (i : Nat) (high : ByteArray) (has : Bool) : ByteArray := if nearB n i high has = true then n.ks.getD (i + 1) ⟨#[]⟩ else high
def moreB (n : Nd) (i : Nat) (high : ByteArray) (has : Bool) : Bool := if nearB n i high has = true then true else has

/-- is a key of a leaf outside -/
def outB (k low high : ByteArray) (has : Bool) : Bool := lessB k low || (has && !lessB k high)

/-- one key -/
def stepS (f : Int → Nat → ByteArray → ByteArray → Bool → Al → Al) (n : Nd) (deep : Nat) (low high : ByteArray) (has : Bool) (i : Nat) (a : Al) : Al :=
  if n.lf = true then { a with loose := a.loose || outB (n.ks.getD i ⟨#[]⟩) low high has, pairs := a.pairs ++ [(n.ks.getD i ⟨#[]⟩, n.vs.getD i ⟨#[]⟩)] }
  else f (n.cs.getD i 0) (deep + 1) (leastB n i low) (nextB n i high has) (moreB n i high has) a

/-- behind the first i keys -/
def loopS (f : Int → Nat → ByteArray → ByteArray → Bool → Al → Al) (n : Nd) (deep : Nat) (low high : ByteArray) (has : Bool) (a : Al) : Nat → Al
  | 0 => a
  | i + 1 => stepS f n deep low high has i (loopS f n deep low high has a i)

def walkS (R : Int → Nd × Bool) : Nat → Int → Nat → ByteArray → ByteArray → Bool → Al → Al
  | 0, _, _, _, _, _, a => { a with bad := true }
  | k + 1, p, deep, low, high, has, a =>
    if (R p).2 = false ∨ p ∈ a.pages ∨ a.bad = true then { a with bad := true }
    else if (R p).1.lf = true then { (loopS (walkS R k) (R p).1 deep low high has { a with pages := a.pages ++ [p] } (R p).1.ks.length) with depths := (loopS (walkS R k) (R p).1 deep low high has { a with pages := a.pages ++ [p] } (R p).1.ks.length).depths ++ [(deep : Int)] }
    else loopS (walkS R k) (R p).1 deep low high has { a with pages := a.pages ++ [p] } (R p).1.ks.length

theorem walkS_bad (R : Int → Nd × Bool) (k : Nat) (p : Int) (deep : Nat) (low high : ByteArray) (has : Bool) (a : Al) (h : a.bad = true) : walkS R k p deep low high has a = a := by
  cases a
  simp only at h
  subst h
  cases k with
  | zero => rfl
  | succ k => rw [walkS, if_pos (Or.inr (Or.inr rfl))]

/-- the pairs of one node -/
def pairsN (n : Nd) : List (ByteArray × ByteArray) := (List.range n.vs.length).map fun i => (n.ks.getD i ⟨#[]⟩, n.vs.getD i ⟨#[]⟩)
def pairsV (l : List Vis) : List (ByteArray × ByteArray) := l.flatMap fun v => pairsN v.nd
def pagesV (l : List Vis) : List Int := l.map Vis.page

/-- the nodes that are read are right -/
def Right (R : Int → Nd × Bool) : Prop := ∀ p, (R p).2 = true → (R p).1.ok = true

theorem loopS_leaf (f : Int → Nat → ByteArray → ByteArray → Bool → Al → Al) (n : Nd) (hl : n.lf = true) (deep : Nat) (low high : ByteArray) (has : Bool) (a : Al) : ∀ i,
    (loopS f n deep low high has a i).bad = a.bad ∧ (loopS f n deep low high has a i).pages = a.pages ∧ (loopS f n deep low high has a i).depths = a.depths ∧
    (loopS f n deep low high has a i).pairs = a.pairs ++ (List.range i).map (fun i => (n.ks.getD i ⟨#[]⟩, n.vs.getD i ⟨#[]⟩))
  | 0 => by simp [loopS]
  | i + 1 => by
    obtain ⟨h1, h2, h3, h4⟩ := loopS_leaf f n hl deep low high has a i
    rw [loopS, stepS, if_pos hl]
    refine ⟨h1, h2, h3, ?_⟩
    simp only
    rw [h4, List.range_succ, List.map_append, List.append_assoc]
    rfl

theorem both_walk (R : Int → Nd × Bool) (hR : Right R) : ∀ (k : Nat) (p : Int) (way : List (Nd × Nat)) (deep : Nat) (low high : ByteArray) (has : Bool) (a : Al), a.bad = false →
    ((downL R k p way a.pages).2 = none → (walkS R k p deep low high has a).bad = true) ∧
    (∀ s, (downL R k p way a.pages).2 = some s → (walkS R k p deep low high has a).bad = false ∧ (walkS R k p deep low high has a).pages = s ∧ s = a.pages ++ pagesV (downL R k p way a.pages).1 ∧ (walkS R k p deep low high has a).pairs = a.pairs ++ pairsV (downL R k p way a.pages).1)
  | 0, p, way, deep, low, high, has, a, h => by
    refine ⟨fun _ => rfl, fun s hs => ?_⟩
    rw [downL] at hs
    cases hs
  | k + 1, p, way, deep, low, high, has, a, h => by
    by_cases hb : (R p).2 = false ∨ p ∈ a.pages
    · rw [downL, if_pos hb, walkS, if_pos (by rcases hb with hb | hb; exact Or.inl hb; exact Or.inr (Or.inl hb))]
      exact ⟨fun _ => rfl, fun s hs => by cases hs⟩
    · rw [downL, if_neg hb, walkS, if_neg (fun hh => by rcases hh with hh | hh | hh; exact hb (Or.inl hh); exact hb (Or.inr hh); rw [h] at hh; cases hh)]
      have hok : (R p).1.ok = true := hR p (by cases hc : (R p).2; exact absurd (Or.inl hc) hb; rfl)
      obtain ⟨n, hn⟩ : ∃ n, n = (R p).1 := ⟨_, rfl⟩
      rw [← hn] at hok ⊢
      obtain ⟨he1, he2⟩ := even_ok hok
      cases hlf : n.lf with
      | true =>
        obtain ⟨e1, e2⟩ := he1 hlf
        rw [if_pos rfl, e2, List.length_nil, kidsL]
        obtain ⟨h1, h2, h3, h4⟩ := loopS_leaf (walkS R k) n hlf deep low high has { a with pages := a.pages ++ [p] } n.ks.length
        refine ⟨fun hh => (by cases hh), fun s hs => ?_⟩
        injection hs with hs
        refine ⟨h1.trans h, h2.trans hs, ?_, ?_⟩
        · rw [← hs]
          rfl
        · simp only
          rw [h4, pairsV]
          simp only [List.flatMap_cons, List.flatMap_nil, List.append_nil, pairsN, e1]
      | false =>
        obtain ⟨e1, e2⟩ := he2 hlf
        rw [if_neg (by decide)]
        obtain ⟨b, hbb⟩ : ∃ b : Al, b = { a with pages := a.pages ++ [p] } := ⟨_, rfl⟩
        have hb1 : b.bad = false := by rw [hbb]; exact h
        have hb2 : b.pages = a.pages ++ [p] := by rw [hbb]
        have hb3 : b.pairs = a.pairs := by rw [hbb]
        rw [← hbb, ← hb2]
        have key : ∀ i, ((kidsL (downL R k) n way b.pages i).2 = none → (loopS (walkS R k) n deep low high has b i).bad = true) ∧
            (∀ s, (kidsL (downL R k) n way b.pages i).2 = some s → (loopS (walkS R k) n deep low high has b i).bad = false ∧ (loopS (walkS R k) n deep low high has b i).pages = s ∧ s = b.pages ++ pagesV (kidsL (downL R k) n way b.pages i).1 ∧ (loopS (walkS R k) n deep low high has b i).pairs = b.pairs ++ pairsV (kidsL (downL R k) n way b.pages i).1) := by
          intro i
          induction i with
          | zero =>
            refine ⟨fun hh => (by cases hh), fun s hs => ?_⟩
            injection hs with hs
            refine ⟨hb1, hs, ?_, ?_⟩
            · rw [← hs]; simp [kidsL, pagesV]
            · simp [kidsL, pairsV, loopS]
          | succ i ih =>
            rw [loopS, stepS, if_neg (by rw [hlf]; decide)]
            cases hk : (kidsL (downL R k) n way b.pages i).2 with
            | none =>
              rw [kidsL_succ_none hk]
              have hbad := ih.1 hk
              rw [walkS_bad _ _ _ _ _ _ _ _ hbad]
              exact ⟨fun _ => hbad, fun s hs => by rw [hk] at hs; cases hs⟩
            | some s0 =>
              obtain ⟨i1, i2, i3, i4⟩ := ih.2 s0 hk
              rw [kidsL_succ_some hk]
              have hrec := both_walk R hR k (n.cs.getD i 0) (way ++ [(n, i)]) (deep + 1) (leastB n i low) (nextB n i high has) (moreB n i high has) (loopS (walkS R k) n deep low high has b i) i1
              rw [i2] at hrec
              refine ⟨hrec.1, fun s hs => ?_⟩
              obtain ⟨r1, r2, r3, r4⟩ := hrec.2 s hs
              refine ⟨r1, r2, ?_, ?_⟩
              · refine r3.trans ((congrArg (fun l => l ++ pagesV _) i3).trans ?_)
                simp only [pagesV, List.map_append, List.append_assoc]
              · rw [r4, i4]
                simp only [pairsV, List.flatMap_append, List.append_assoc]
        obtain ⟨k1, k2⟩ := key n.ks.length
        rw [e1]
        refine ⟨k1, fun s hs => ?_⟩
        obtain ⟨r1, r2, r3, r4⟩ := k2 s hs
        refine ⟨r1, r2, ?_, ?_⟩
        · rw [r3, hb2]
          simp only [pagesV, List.map_cons, List.append_assoc, List.singleton_append]
        · rw [r4, hb3]
          simp only [pairsV, List.flatMap_cons, pairsN, e2, List.length_nil, List.range_zero, List.map_nil, List.nil_append]

/-- what the program meets -/
def seenI (R : Int → Nd × Bool) (root : Int) : List Vis × Bool := if root = 0 then ([], true) else ((downL R 8 root [] []).1, (downL R 8 root [] []).2.isSome)

/-- what the model meets -/
def seenS (R : Int → Nd × Bool) (root : Int) : Al := if root = 0 then Al.none else walkS R 8 root 0 ⟨#[]⟩ ⟨#[]⟩ false Al.none

def allI (R : Int → Nd × Bool) (root : Int) : List (ByteArray × ByteArray) × Bool := if (seenI R root).2 = true then (pairsV (seenI R root).1, true) else ([], false)
def allS (R : Int → Nd × Bool) (root : Int) : List (ByteArray × ByteArray) × Bool := if (seenS R root).bad = true then ([], false) else ((seenS R root).pairs, true)

theorem both_seen (R : Int → Nd × Bool) (hR : Right R) (root : Int) : (seenS R root).bad = !(seenI R root).2 ∧ ((seenI R root).2 = true → (seenS R root).pages = pagesV (seenI R root).1 ∧ (seenS R root).pairs = pairsV (seenI R root).1) := by
  unfold seenS seenI
  by_cases h : root = 0
  · rw [if_pos h, if_pos h]
    exact ⟨rfl, fun _ => ⟨rfl, rfl⟩⟩
  · rw [if_neg h, if_neg h]
    obtain ⟨h1, h2⟩ := both_walk R hR 8 root [] 0 ⟨#[]⟩ ⟨#[]⟩ false Al.none rfl
    simp only [Al.none] at h1 h2 ⊢
    cases hd : (downL R 8 root [] []).2 with
    | none => exact ⟨h1 hd, fun hh => by cases hh⟩
    | some s =>
      obtain ⟨r1, r2, r3, r4⟩ := h2 s hd
      refine ⟨r1, fun _ => ⟨?_, ?_⟩⟩
      · rw [r2, r3]; rfl
      · rw [r4]; rfl

theorem both_all (R : Int → Nd × Bool) (hR : Right R) (root : Int) : allI R root = allS R root := by
  obtain ⟨h1, h2⟩ := both_seen R hR root
  unfold allI allS
  cases hi : (seenI R root).2 with
  | true => rw [hi] at h1 h2; rw [if_pos rfl, if_neg (by rw [h1]; decide), (h2 rfl).2]
  | false => rw [hi] at h1; rw [if_neg (by decide), if_pos (by rw [h1]; rfl)]
end Go.Proofs.Ytmmepgincbngeaa
