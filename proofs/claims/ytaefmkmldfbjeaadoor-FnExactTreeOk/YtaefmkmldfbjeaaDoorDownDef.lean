/-
  impl's walk through a tree: what lies where while it goes on (the walk's struct, what was seen, a way), what comes to the loop's body, and what a call of down leaves. No function of the program.
-/
import Derived.Test.YtaefmkmldfbjeaaDoorPlJ
import Derived.Test.YtaefmkmldfbjeaaDoorAlSpec
import Derived.Test.YtaefmkmldfbjeaaDoorDown0
import Derived.Test.YtaefmkmldfbjeaaDoorImplDiskN
import Derived.Test.YtaefmkmldfbjeaaDoorImplReadNode
namespace Go.Proofs.YtaefmkmldfbjeaaDoor
open Go.RowKit

/-- what comes to the loop's body: the value, whether it is a page, and which -/
structure Ev where
  val : Value
  ok : Bool
  vis : Vis

def Ev.plain (x : Ev) : Option Vis := if x.ok = true then some x.vis else none

def encs (x : Ev) : Array Value := #[x.val, .bool x.ok]

/-- all that comes of a walk -/
def evs (r : List Vis × Option (List Int)) : List (Option Vis) := r.1.map some ++ (if r.2 = none then [none] else [])

/-- a node on the way, as it lies -/
structure WStep where
  k : Value
  v : Value
  c : Value
  nd : Nd
  at_ : Nat

def wcells (X : List WStep) : List Value := X.flatMap fun x => [.bool x.nd.lf, x.k, x.v, x.c, .int .i64 (x.at_ : Int)]

/-- its values and kids are slices -/
def Slc (x : WStep) : Prop := (∃ a n c, x.v = .slice a n c) ∧ ∃ a n c, x.c = .slice a n c

/-- a way down, apart from the blocks of C -/
def WayAt (W : World) (B : Nat) (C : Nat → Prop) (v : Value) (way : List (Nd × Nat)) : Prop :=
  ∃ X : List WStep, X.map (fun x => (x.nd, x.at_)) = way ∧ W.ownsRow B 68 5 v way.length (wcells X) ∧ (∀ j, v.ownBlock = some j → ¬ C j) ∧
    ∀ x ∈ X, W.ownsRow B 9 1 x.k x.nd.ks.length (strs x.nd.ks) ∧ (∀ j, x.k.ownBlock = some j → ¬ C j) ∧ Slc x

/-- what comes where there is no page -/
def badVal : Value := .agg #[.int .i64 0, .bool false, .slice none 0 0, .slice none 0 0, .slice none 0 0, .slice none 0 0]

/-- a page that comes lies apart from C -/
def Lies (B : Nat) (x : Ev) (C : Nat → Prop) (W : World) : Prop :=
  (x.ok = false → x.val = badVal) ∧ (x.ok = true → ∃ vk vv vc vw, x.val = .agg #[.int .i64 x.vis.page, .bool x.vis.nd.lf, vk, vv, vc, vw] ∧ NodeOwn W B (.agg #[.bool x.vis.nd.lf, vk, vv, vc]) x.vis.nd.lf x.vis.nd.ks x.vis.nd.vs x.vis.nd.cs ∧ (∀ k, nodeBlocks (.agg #[.bool x.vis.nd.lf, vk, vv, vc]) k → ¬ C k) ∧ WayAt W B C vw x.vis.way)

/-- a block of cells of one type -/
def Typ (W : World) (j T : Nat) : Prop := ∃ cur fz, W.heap[j]? = some (.cells cur T fz)

theorem own_typ {W : World} {B e sz n : Nat} {v : Value} {xs : List Value} (h : W.ownsRow B e sz v n xs) {j : Nat} (hj : v.ownBlock = some j) : Typ W j e := by
  rcases h.2 with ⟨rfl, -⟩ | ⟨g, cap, cur, rfl, -, hh, -⟩
  · cases hj
  · injection hj with hj
    subst hj
    exact ⟨cur, _, hh⟩

theorem typ_one {W : World} {j T T' : Nat} (h : Typ W j T) (h' : Typ W j T') : T = T' := by
  obtain ⟨c, f, h⟩ := h
  obtain ⟨c', f', h'⟩ := h'
  rw [h] at h'
  cases h'
  rfl

theorem Tryd.step_ne : (68 : Nat) ≠ 65 ∧ (68 : Nat) ≠ 3 ∧ (9 : Nat) ≠ 65 ∧ (9 : Nat) ≠ 3 ∧ (3 : Nat) ≠ 65 := by decide

theorem way_kept {W W' : World} {B : Nat} {C C' S : Nat → Prop} {v : Value} {way : List (Nd × Nat)} (h : WayAt W B C v way) (hk : KeptC S W W') (hS : ∀ j, S j → C j ∨ Typ W j 65 ∨ Typ W j 3 ∨ W.heap.size ≤ j) (hC : ∀ k, C' k → C k ∨ W.heap.size ≤ k) : WayAt W' B C' v way := by
  obtain ⟨X, e, h1, h2, h3⟩ := h
  refine ⟨X, e, own_kept h1 hk (fun j hj hs => ?_), fun j hj hc => ?_, fun x hx => ⟨own_kept (h3 x hx).1 hk (fun j hj hs => ?_), fun j hj hc => ?_, (h3 x hx).2.2⟩⟩
  · rcases hS j hs with h | h | h | h
    · exact h2 j hj h
    · exact Tryd.step_ne.1 (typ_one (own_typ h1 hj) h)
    · exact Tryd.step_ne.2.1 (typ_one (own_typ h1 hj) h)
    · have := (h1.lt j hj).2; omega
  · rcases hC j hc with h | h
    · exact h2 j hj h
    · have := (h1.lt j hj).2; omega
  · rcases hS j hs with h | h | h | h
    · exact (h3 x hx).2.1 j hj h
    · exact Tryd.step_ne.2.2.1 (typ_one (own_typ (h3 x hx).1 hj) h)
    · exact Tryd.step_ne.2.2.2.1 (typ_one (own_typ (h3 x hx).1 hj) h)
    · have := ((h3 x hx).1.lt j hj).2; omega
  · rcases hC j hc with h | h
    · exact (h3 x hx).2.1 j hj h
    · have := ((h3 x hx).1.lt j hj).2; omega

theorem lies_kept {B : Nat} {x : Ev} {C C' : Nat → Prop} {A D : World} (h : Lies B x C A) (hk : KeptC C A D) (hC : ∀ k, C' k → C k ∨ A.heap.size ≤ k) : Lies B x C' D := ⟨h.1, fun ok => by
  obtain ⟨vk, vv, vc, vw, e, h1, h2, h3⟩ := h.2 ok
  refine ⟨vk, vv, vc, vw, e, nodeOwn_kept h1 hk h2, fun k hb hc => ?_, way_kept h3 hk (fun j hj => Or.inl hj) hC⟩
  rcases hC k hc with h | h
  · exact h2 k hb h
  · have := (nodeOwn_lt h1 k hb).2; omega⟩

/-- the walk's struct and what was seen, apart from C; the memory below as at w -/
structure DSt (w W : World) (gw l : Nat) (vp vl : Value) (C : Nat → Prop) (s : List Int) (vs : Value) : Prop where
  low : Below w.heap.size w W
  wk : W.heap[gw]? = some (.cells #[vp, vl, vs, .func (.yield l) #[] #[]] 65 (0, 0))
  gc : ¬ C gw
  gn : w.heap.size ≤ gw
  row : W.ownsRow w.heap.size 3 1 vs s.length (ints s)
  rc : ∀ j, vs.ownBlock = some j → ¬ C j

theorem DSt.keep {w W W' : World} {gw l : Nat} {vp vl : Value} {C C' S : Nat → Prop} {s : List Int} {vs : Value} (h : DSt w W gw l vp vl C s vs) (hk : KeptC S W W') (hS : ∀ j, S j → C j ∨ W.heap.size ≤ j) (hn : ∀ j, S j → w.heap.size ≤ j) (hC : ∀ k, C' k → C k ∨ W.heap.size ≤ k) : DSt w W' gw l vp vl C' s vs where
  low := h.low.trans (keptC_below hk hn h.low.size)
  wk := (hk.2.2.2.2 gw (Array.getElem?_eq_some_iff.1 h.wk).1 (fun hs => by
    rcases hS gw hs with x | x
    · exact h.gc x
    · have := (Array.getElem?_eq_some_iff.1 h.wk).1; omega)).trans h.wk
  gc := fun hc => by
    rcases hC gw hc with x | x
    · exact h.gc x
    · have := (Array.getElem?_eq_some_iff.1 h.wk).1; omega
  gn := h.gn
  row := own_kept h.row hk (fun j hj hs => by
    rcases hS j hs with x | x
    · exact h.rc j hj x
    · have := (h.row.lt j hj).2; omega)
  rc := fun j hj hc => by
    rcases hC j hc with x | x
    · exact h.rc j hj x
    · have := (h.row.lt j hj).2; omega

/-- the blocks that a call of down may turn -/
def DBl (gw : Nat) (vs : Value) (C : Nat → Prop) (k : Nat) : Prop := C k ∨ k = gw ∨ vs.ownBlock = some k

/-- what a call of down leaves -/
def DPost (J Jx : List Ev → (Nat → Prop) → World → Prop) (w : World) (gw l : Nat) (vp vl : Value) (pre : List Ev) (C : Nat → Prop) (W : World) (vs : Value) (r : List Vis × Option (List Int)) (e : Ending) (W' : World) : Prop :=
  ∃ (b : Bool) (q : List Ev) (C' : Nat → Prop), e = .returned (.bool b) ∧ (∀ k, C' k → C k ∨ W.heap.size ≤ k) ∧ KeptC (DBl gw vs C) W W' ∧
    ((b = true ∧ ∃ s' vs', r.2 = some s' ∧ q.map Ev.plain = r.1.map some ∧ J (pre ++ q) C' W' ∧ DSt w W' gw l vp vl C' s' vs' ∧ (∀ j, vs'.ownBlock = some j → vs.ownBlock = some j ∨ W.heap.size ≤ j)) ∨
     (b = false ∧ r.2 = none ∧ q.map Ev.plain = r.1.map some ++ [none] ∧ J (pre ++ q) C' W') ∨
     (b = false ∧ (∃ t, q.map Ev.plain ++ t = evs r) ∧ Jx (pre ++ q) C' W'))

/-- what the loop's body and the disk keep -/
structure DCtx (w : World) (ps : List ByteArray) (ls : List (Int × ByteArray)) (vp vl : Value) (gw l : Nat) (J Jx : List Ev → (Nat → Prop) → World → Prop) (Sp : List Ev → Prop) : Prop where
  hp : ps.length ≤ 1048576
  hl : ls.length ≤ 1048576
  hps : ∀ s ∈ ps, s.size ≤ 1048576
  hls : ∀ p ∈ ls, p.2.size ≤ 1048576
  tab : SumTab w
  disk : DiskAt w (.agg #[vp, vl]) ps ls
  abides : ∀ pre C A B, J pre C A → KeptC (fun k => ¬ C k) A B → J pre C B
  inn : ∀ pre C A, J pre C A → ∀ k, C k → w.heap.size ≤ k ∧ k < A.heap.size
  yields : ∀ pre x C W1 m, Sp (pre ++ [x]) → J pre C W1 → Lies w.heap.size x C W1 → YieldAt Fence.wide m Tryd.prog l (encs x) W1 fun e W' => ∃ C', KeptC C W1 W' ∧ (∀ k, C' k → C k ∨ W1.heap.size ≤ k) ∧
    ((e = .returned (.bool true) ∧ J (pre ++ [x]) C' W') ∨ (e = .returned (.bool false) ∧ Jx (pre ++ [x]) C' W'))
end Go.Proofs.YtaefmkmldfbjeaaDoor
