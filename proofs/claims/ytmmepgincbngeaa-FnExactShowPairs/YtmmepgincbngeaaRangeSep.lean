/-
  A range over a function whose iterator keeps state of its own in cells: the caller's memory (C) and the iterator's are told apart by their blocks. No program.
-/
import Derived.RangeFuncNested
import Derived.RangeFuncBound
import Derived.RangeFuncCalls
import Derived.RangeFuncLeaves
import Derived.RangeFuncBox
import Derived.Below
namespace Go.Proofs.Ytmmepgincbngeaa
open Go Go.RowKit

/-- of what lay nothing but C's blocks has turned -/
def KeptC (C : Nat → Prop) (W W' : World) : Prop := W'.os = W.os ∧ W'.tape = W.tape ∧ W'.output = W.output ∧ W.heap.size ≤ W'.heap.size ∧ ∀ k, k < W.heap.size → ¬ C k → W'.heap[k]? = W.heap[k]?

theorem keptC_refl (C : Nat → Prop) (W : World) : KeptC C W W := ⟨rfl, rfl, rfl, Nat.le_refl _, fun _ _ _ => rfl⟩

theorem keptC_trans {C C' : Nat → Prop} {A B D : World} (h : KeptC C A B) (k : KeptC C' B D) (hC : ∀ j, C' j → C j ∨ A.heap.size ≤ j) : KeptC C A D :=
  ⟨k.1.trans h.1, k.2.1.trans h.2.1, k.2.2.1.trans h.2.2.1, Nat.le_trans h.2.2.2.1 k.2.2.2.1, fun j hj hn => (k.2.2.2.2 j (Nat.lt_of_lt_of_le hj h.2.2.2.1) (fun hc => by rcases hC j hc with h1 | h1; exact hn h1; omega)).trans (h.2.2.2.2 j hj hn)⟩

theorem keptC_mono {C C' : Nat → Prop} {A B : World} (h : KeptC C A B) (hC : ∀ j, j < A.heap.size → C j → C' j) : KeptC C' A B :=
  ⟨h.1, h.2.1, h.2.2.1, h.2.2.2.1, fun j hj hn => h.2.2.2.2 j hj (fun hc => hn (hC j hj hc))⟩

theorem keptC_below {C : Nat → Prop} {A B : World} {n0 : Nat} (h : KeptC C A B) (hC : ∀ k, C k → n0 ≤ k) (hn : n0 ≤ A.heap.size) : Below n0 A B :=
  ⟨h.1, h.2.1, h.2.2.1, h.2.2.2.1, fun k hk => h.2.2.2.2 k (by omega) (fun hc => by have := hC k hc; omega)⟩

theorem keptC_of_below {C : Nat → Prop} {A B : World} (h : Below A.heap.size A B) : KeptC C A B :=
  ⟨h.os, h.tape, h.output, h.size, fun k hk _ => h.block k hk⟩

theorem keptC_alloc (C : Nat → Prop) (W : World) (o : Obj) : KeptC C W (W.alloc o) := keptC_of_below ((Below.refl _ W).alloc (Nat.le_refl _) _)

theorem keptC_putObj {C : Nat → Prop} (W : World) {l : Nat} (o : Obj) (hl : C l) : KeptC C W (W.putObj l o) :=
  ⟨rfl, rfl, rfl, by simp, fun k _ hn => World.putObj_heap_other (fun e => hn (e ▸ hl))⟩

theorem keptC_setCell {C : Nat → Prop} (W : World) {b : Nat} (j : Nat) (v : Value) (hl : C b) : KeptC C W (W.setCell ⟨b, j, none⟩ v) :=
  ⟨rfl, rfl, rfl, (KeepsWalks.setCell W _ v).size, fun k _ hn => Below.heap_setCell _ _ _ k (fun e => hn (by rw [e]; exact hl))⟩

theorem room_none {F : Fence} (hd : F.depth = none) (k : Nat) : F.room k := fun d h => by rw [hd] at h; cases h

/-- the contract of an iterator that keeps its own state: J: between two rounds; Jx: where a round has said that it is enough; M: what the iterator's value has captured -/
def SeqSep {α : Type} (F : Fence) (n : Nat) (P : Program) (g : Nat) (lb : Array Value) (encs : α → Array Value) (Lies : α → (Nat → Prop) → World → Prop) (M : Nat → Prop) (n0 : Nat) (S Sp : List α → Prop) (w : World) : Prop :=
  ∀ (l : Nat) (J Jx : List α → (Nat → Prop) → World → Prop) (C0 : Nat → Prop) (W : World), Below w.heap.size w W → (∀ k, C0 k → ¬ M k) →
    (∀ pre C A B, J pre C A → KeptC (fun k => ¬ C k) A B → J pre C B) →
    (∀ pre C A, J pre C A → ∀ k, C k → n0 ≤ k ∧ k < A.heap.size) →
    (∀ pre x C W1 m, J pre C W1 → Lies x C W1 → YieldAt F m P l (encs x) W1 fun e W' => ∃ C', KeptC C W1 W' ∧ (∀ k, C' k → C k ∨ W1.heap.size ≤ k) ∧
      ((e = .returned (.bool true) ∧ J (pre ++ [x]) C' W') ∨ (e = .returned (.bool false) ∧ Jx (pre ++ [x]) C' W'))) →
    J [] C0 W →
    CallsIn F n P g (#[.func (.yield l) #[] #[]] ++ lb) W fun e W' => (∃ v, e = .returned v) ∧ Below n0 W W' ∧ ((∃ xs C, S xs ∧ J xs C W') ∨ (∃ pre C, Sp pre ∧ Jx pre C W'))

/-- how the body of a round may be left -/
def sepPost {α : Type} (I : List α → (Nat → Prop) → World → Prop) (Ix : Code → List α → (Nat → Prop) → World → Prop) (xs : List α) (C : Nat → Prop) (W : World) : Exit → Act → World → Prop
  | .normal, _, W' => ∃ C', KeptC C W W' ∧ (∀ k, C' k → C k ∨ W.heap.size ≤ k) ∧ I xs C' W'
  | .ret, _, W' => ∃ C', KeptC C W W' ∧ (∀ k, C' k → C k ∨ W.heap.size ≤ k) ∧ Ix .ret xs C' W'
  | .exit _, _, _ => False
  | .goto _, _, _ => False
  | .panic _, _, _ => False
  | .outgrown, _, _ => False

theorem wpIn_rangeFunc_sep {F : Fence} {n : Nat} {P : Program} {α : Type} {g : Operand} {ps : Array Tmp} {assign body : Code} {Q : Exit → Act → World → Prop} {a : Act} {w : World}
    (hro : F.round = none) (hdep : F.depth = none) {gf : Nat} {lb : Array Value} (hg : a.eval g = .func (.func gf) #[] lb) (hFg : F.fn gf) (eg : ∀ args w, (callFunc gf args).run P w = .ok (.enter gf args) w)
    {encs : α → Array Value} {Lies : α → (Nat → Prop) → World → Prop} {M : Nat → Prop} {n0 : Nat} {S Sp : List α → Prop} (hseq : SeqSep F (n - 1) P gf lb encs Lies M n0 S Sp w) (hn0 : n0 ≤ w.heap.size) (hM : ∀ k, M k → k < w.heap.size)
    (hL : ∀ x C C' A B, Lies x C A → KeptC C A B → (∀ k, C' k → C k ∨ A.heap.size ≤ k) → Lies x C' B)
    (hps : ∀ x, (encs x).size = ps.size)
    (I : List α → (Nat → Prop) → World → Prop) (Ix : Code → List α → (Nat → Prop) → World → Prop)
    (hI : ∀ pre C A B, I pre C A → KeptC (fun k => ¬ C k) A B → I pre C B) (hIx : ∀ c pre C A B, Ix c pre C A → KeptC (fun k => ¬ C k) A B → Ix c pre C B)
    (hIn : ∀ pre C A, I pre C A → ∀ k, C k → n0 ≤ k ∧ k < A.heap.size)
    (C0 : Nat → Prop) (h0 : I [] C0 w) (hC0 : ∀ k, C0 k → ¬ M k)
    (Ax : α → Act → (Nat → Prop) → World → Prop) (hAx : ∀ x a' C A B, Ax x a' C A → KeptC (fun k => ¬ C k) A B → Ax x a' C B)
    (hassign : ∀ (l : Nat) (m : Nat) (pre : List α) (x : α) (C : Nat → Prop) (W : World) (K : Act → World → Prop), I pre C W → Lies x C W → (∀ a' C' W', KeptC C W W' → (∀ k, C' k → C k ∨ W.heap.size ≤ k) → I pre C' W' → Ax x a' C' W' → K a' W') →
      assign.wpIn (F.inRound l) m P (Exit.then K (fun _ _ _ => False)) { tmps := (ps.zip (encs x)).foldl (fun t (p, v) => t.setIfInBounds p v) a.tmps, defers := [] } W)
    (hbody : ∀ (l : Nat) (m : Nat) (pre : List α) (x : α) (a' : Act) (C : Nat → Prop) (W : World), I pre C W → Ax x a' C W → Lies x C W → body.wpIn (F.inRound l) m P (sepPost I Ix (pre ++ [x]) C W) a' W)
    (hdone : ∀ (D : Nat) (xs : List α) (C : Nat → Prop) (W : World), w.heap.size ≤ D → ¬ C D → S xs → I xs C W → Below n0 w W → W.heap[D]? = some (.deferred (some [])) → Q .normal { a with defers := { target := .collected D, args := #[] } :: a.defers } W)
    (hstop : ∀ (D : Nat) (c : Code) (pre : List α) (C : Nat → Prop) (W : World), w.heap.size ≤ D → ¬ C D → Sp pre → Ix c pre C W → Below n0 w W → W.heap[D]? = some (.deferred (some [])) → c.wpIn F n P Q { a with defers := { target := .collected D, args := #[] } :: a.defers } W) :
    (Code.rangeFunc g ps assign body).wpIn F n P Q a w := by
  refine wpIn_rangeFunc ?_
  intro fn hfn
  rw [hro]
  obtain ⟨rec, hrec⟩ : ∃ rec : LoopState → Option Code → Loop, rec = fun st pe => { state := st, pending := pe, fn, tmps := a.tmps, params := ps, assign, body, defers := w.heap.size } := ⟨_, rfl⟩
  obtain ⟨W1, hW1⟩ : ∃ W1, (w.alloc (.deferred (some []))).alloc (.loop (rec .ready none)) = W1 := ⟨_, rfl⟩
  have hL1 : W1.heap[w.heap.size + 1]? = some (.loop (rec .ready none)) := by
    rw [← hW1]; have := World.alloc_heap_new (w.alloc (.deferred (some []))) (.loop (rec .ready none)); rwa [World.size_alloc] at this
  have hK1 : W1.heap[w.heap.size]? = some (.deferred (some [])) := by
    rw [← hW1]; exact (Below.heap_alloc _ _ _ (by simp)).trans (World.alloc_heap_new w _)
  have hB1 : Below w.heap.size w W1 := by
    rw [← hW1]; exact ((Below.refl _ w).alloc (Nat.le_refl _) _).alloc (by simp) _
  have hI1 : I [] C0 W1 := hI _ _ _ _ h0 (keptC_of_below hB1)
  have hlw : ∀ k, C0 k → k < w.heap.size := fun k hk => (hIn _ _ _ h0 k hk).2
  refine ⟨w.heap.size + 1, [{ target := .collected w.heap.size, args := #[] }], W1, { target := .fn (.func gf) lb, args := #[.func (.yield (w.heap.size + 1)) #[] #[]] }, W1, gf,
    #[.func (.yield (w.heap.size + 1)) #[] #[]] ++ lb, W1, ?_, ?_, ?_, ?_, (fun h => by rw [hdep] at h; cases h), ?_⟩
  · rw [← hW1, hrec]; exact run_enterLoop_outer _ _ _ _ _
  · simp only [resolve, hg]
    simp [go_sem]
  · intro f' hf'; simp [Target.leads] at hf'; subst hf'; exact hFg
  · simp [invoke, go_sem, eg]
  · obtain ⟨X, hX⟩ : ∃ X : Nat → Prop, X = fun k => k = w.heap.size + 1 ∨ k = w.heap.size := ⟨_, rfl⟩
    have hXl : X (w.heap.size + 1) := by rw [hX]; exact Or.inl rfl
    have hXd : X w.heap.size := by rw [hX]; exact Or.inr rfl
    have hXc : ∀ k, X k → k = w.heap.size + 1 ∨ k = w.heap.size := fun k h => by rw [hX] at h; exact h
    refine (hseq (w.heap.size + 1)
      (fun pre C W => ∃ C1, C = (fun k => C1 k ∨ X k) ∧ (∀ k, C1 k → ¬ X k) ∧ I pre C1 W ∧ W.heap[w.heap.size + 1]? = some (.loop (rec .ready none)) ∧ W.heap[w.heap.size]? = some (.deferred (some [])))
      (fun pre C W => ∃ c C1, C = (fun k => C1 k ∨ X k) ∧ (∀ k, C1 k → ¬ X k) ∧ Ix c pre C1 W ∧ W.heap[w.heap.size + 1]? = some (.loop (rec .done (some c))) ∧ W.heap[w.heap.size]? = some (.deferred (some [])))
      (fun k => C0 k ∨ X k) W1 hB1 ?_ ?_ ?_ ?_ ⟨C0, rfl, fun k hk hx => by have := hlw k hk; rcases hXc k hx with h | h <;> omega, hI1, hL1, hK1⟩).mono ?_
    · rintro k (hk | hk) hm
      · exact hC0 k hk hm
      · have := hM k hm
        rcases hXc k hk with h | h <;> omega
    · rintro pre C A B ⟨C1, rfl, hd, hi, hl, hk⟩ hAB
      have hs : ∀ j, (C1 j ∨ X j) → j < A.heap.size → B.heap[j]? = A.heap[j]? := fun j hj hlt => hAB.2.2.2.2 j hlt (fun h => h hj)
      exact ⟨C1, rfl, hd, hI _ _ _ _ hi (keptC_mono hAB (fun j _ hn hc => hn (Or.inl hc))), (hs _ (Or.inr hXl) (Array.getElem?_eq_some_iff.1 hl).1).trans hl, (hs _ (Or.inr hXd) (Array.getElem?_eq_some_iff.1 hk).1).trans hk⟩
    · rintro pre C A ⟨C1, rfl, hd, hi, hl, hk⟩ k (hc | hc)
      · exact hIn _ _ _ hi k hc
      · have h1 := (Array.getElem?_eq_some_iff.1 hl).1
        rcases hXc k hc with h | h <;> constructor <;> omega
    · -- one round
      rintro pre x C W m ⟨C1, rfl, hd, hi, hl, hk⟩ hlies
      have hlt : w.heap.size + 1 < W.heap.size := (Array.getElem?_eq_some_iff.1 hl).1
      have hy := run_yield (P := P) (args := encs x) hl (by rw [hrec]; exact hps x)
      rw [hrec] at hy
      have hlies1 : Lies x C1 W := hL x _ C1 W W hlies (keptC_refl _ _) (fun k h => Or.inl (Or.inl h))
      refine ⟨fn, _, assign, body, hy, roundIn_of_wpIn hfn (hassign _ m pre x C1 W _ hi hlies1 ?_)⟩
      clear hy
      intro a' C2 Wa hka hca hia hax
      have hnl : ¬ C1 (w.heap.size + 1) := fun h => hd _ h hXl
      have hnd : ¬ C1 w.heap.size := fun h => hd _ h hXd
      have hla := (hka.2.2.2.2 _ hlt hnl).trans hl
      have hkaa := (hka.2.2.2.2 _ (by omega) hnd).trans hk
      have hnl2 : ¬ C2 (w.heap.size + 1) := fun h => by rcases hca _ h with h | h; exact hnl h; omega
      have hnd2 : ¬ C2 w.heap.size := fun h => by rcases hca _ h with h | h; exact hnd h; omega
      have hlta : w.heap.size + 1 < Wa.heap.size := (Array.getElem?_eq_some_iff.1 hla).1
      refine ⟨_, run_beginRound hla (by rw [hrec]), ?_⟩
      obtain ⟨Wb, hWb⟩ : ∃ Wb, Wb = Wa.putObj (w.heap.size + 1) (.loop { rec .ready none with state := .busy }) := ⟨_, rfl⟩
      rw [← hWb]
      have hlb : Wb.heap[w.heap.size + 1]? = some (.loop { rec .ready none with state := .busy }) := by rw [hWb]; exact World.putObj_heap_same hlta
      have hkb : Wb.heap[w.heap.size]? = some (.deferred (some [])) := by rw [hWb]; exact (World.putObj_heap_other (by omega)).trans hkaa
      have hab : KeptC (fun k => ¬ C2 k) Wa Wb := by rw [hWb]; exact keptC_putObj Wa _ hnl2
      have habX : KeptC X Wa Wb := by rw [hWb]; exact keptC_putObj Wa _ hXl
      have hszb : Wb.heap.size = Wa.heap.size := by rw [hWb]; simp
      have hlies2 : Lies x C2 Wb := hL x (fun k => C2 k ∨ X k) C2 Wa Wb (hL x _ _ W Wa hlies (keptC_mono hka (fun j _ h => Or.inl h)) (fun k h => by
        rcases h with h | h
        · rcases hca k h with h | h
          · exact Or.inl (Or.inl h)
          · exact Or.inr h
        · exact Or.inl (Or.inr h))) (keptC_mono habX (fun j _ h => Or.inr h)) (fun k h => Or.inl (Or.inl h))
      refine wpIn_mono (hbody _ m pre x a' C2 Wb (hI _ _ _ _ hia hab) (hAx _ _ _ _ _ hax hab) hlies2) ?_
      have hWX : KeptC (fun k => C1 k ∨ X k) W Wb := keptC_trans (keptC_mono hka (fun j _ h => Or.inl h)) habX (fun j h => Or.inl (Or.inr h))
      have hszW : W.heap.size ≤ Wb.heap.size := hWX.2.2.2.1
      have fin : ∀ (jump : Option Code) (C3 : Nat → Prop) (W3 : World), KeptC C2 Wb W3 → (∀ k, C3 k → C2 k ∨ Wb.heap.size ≤ k) →
          (Instr.endRound (w.heap.size + 1) jump).run P W3 = .ok (.bool jump.isNone) (W3.putObj (w.heap.size + 1) (.loop (rec (if jump.isNone then .ready else .done) jump))) ∧
          (W3.putObj (w.heap.size + 1) (.loop (rec (if jump.isNone then .ready else .done) jump))).heap[w.heap.size + 1]? = some (.loop (rec (if jump.isNone then .ready else .done) jump)) ∧
          (W3.putObj (w.heap.size + 1) (.loop (rec (if jump.isNone then .ready else .done) jump))).heap[w.heap.size]? = some (.deferred (some [])) ∧
          (∀ k, C3 k → ¬ X k) ∧ KeptC (fun k => ¬ C3 k) W3 (W3.putObj (w.heap.size + 1) (.loop (rec (if jump.isNone then .ready else .done) jump))) ∧
          KeptC (fun k => C1 k ∨ X k) W (W3.putObj (w.heap.size + 1) (.loop (rec (if jump.isNone then .ready else .done) jump))) ∧ (∀ k, (C3 k ∨ X k) → (C1 k ∨ X k) ∨ W.heap.size ≤ k) := fun jump C3 W3 hk3 hc3 => by
        have hl3 := (hk3.2.2.2.2 _ (Array.getElem?_eq_some_iff.1 hlb).1 hnl2).trans hlb
        have hd3 := (hk3.2.2.2.2 _ (Array.getElem?_eq_some_iff.1 hkb).1 hnd2).trans hkb
        have := run_endRound (P := P) jump hl3
        have hx3 : ∀ k, C3 k → ¬ X k := fun k h hx => by
          rcases hc3 k h with h | h
          · rcases hXc k hx with e | e <;> subst e
            · exact hnl2 h
            · exact hnd2 h
          · rcases hXc k hx with e | e <;> omega
        rw [hrec] at this ⊢
        refine ⟨this, World.putObj_heap_same (Array.getElem?_eq_some_iff.1 hl3).1, (World.putObj_heap_other (by omega)).trans hd3, hx3, keptC_putObj W3 _ (fun h => hx3 _ h hXl), ?_, ?_⟩
        · refine keptC_trans (keptC_trans hWX hk3 (fun j h => ?_)) (keptC_putObj (C := X) W3 _ hXl) (fun j h => Or.inl (Or.inr h))
          rcases hca j h with h | h
          · exact Or.inl (Or.inl h)
          · exact Or.inr h
        · rintro k (h | h)
          · rcases hc3 k h with h | h
            · rcases hca k h with h | h
              · exact Or.inl (Or.inl h)
              · exact Or.inr h
            · exact Or.inr (by omega)
          · exact Or.inl (Or.inr h)
      rintro e a3 W3 hp
      cases e with
      | normal =>
        obtain ⟨C3, hk3, hc3, hi3⟩ := hp
        obtain ⟨hr, hl4, hk4, hx4, hs4, hw4, hn4⟩ := fin none C3 W3 hk3 hc3
        exact ⟨_, _, hr, _, hw4, hn4, .inl ⟨rfl, C3, rfl, hx4, hI _ _ _ _ hi3 hs4, hl4, hk4⟩⟩
      | ret =>
        obtain ⟨C3, hk3, hc3, hi3⟩ := hp
        obtain ⟨hr, hl4, hk4, hx4, hs4, hw4, hn4⟩ := fin (some .ret) C3 W3 hk3 hc3
        exact ⟨_, _, hr, _, hw4, hn4, .inr ⟨rfl, .ret, C3, rfl, hx4, hIx _ _ _ _ _ hi3 hs4, hl4, hk4⟩⟩
      | exit id => exact hp.elim
      | goto t => exact hp.elim
      | panic ch => exact hp.elim
      | outgrown => exact hp.elim
    · -- behind the iterator
      rintro e W2 ⟨⟨v, rfl⟩, hb2, (⟨xs, C, hS, C1, rfl, hd, hi, hl, hk⟩ | ⟨pre, C, hSp, c, C1, rfl, hd, hi, hl, hk⟩)⟩
      · have hnl : ¬ C1 (w.heap.size + 1) := fun h => hd _ h hXl
        refine ⟨none, _, by have := run_endLoop (P := P) hl (by rw [hrec]; simp); rw [hrec] at this; exact this, hdone _ xs C1 _ (Nat.le_refl _) (fun h => hd _ h hXd) hS (hI _ _ _ _ hi (keptC_putObj W2 _ hnl)) ?_ ((World.putObj_heap_other (by omega)).trans hk)⟩
        exact ((hB1.mono hn0).trans hb2).trans (keptC_below (keptC_putObj (C := X) W2 _ hXl) (fun k h => by rcases hXc k h with e | e <;> omega) (by have := hb2.size; have := hB1.size; omega))
      · have hnl : ¬ C1 (w.heap.size + 1) := fun h => hd _ h hXl
        refine ⟨some c, _, by have := run_endLoop (P := P) hl (by rw [hrec]; simp); rw [hrec] at this; exact this, hstop _ c pre C1 _ (Nat.le_refl _) (fun h => hd _ h hXd) hSp (hIx _ _ _ _ _ hi (keptC_putObj W2 _ hnl)) ?_ ((World.putObj_heap_other (by omega)).trans hk)⟩
        exact ((hB1.mono hn0).trans hb2).trans (keptC_below (keptC_putObj (C := X) W2 _ hXl) (fun k h => by rcases hXc k h with e | e <;> omega) (by have := hb2.size; have := hB1.size; omega))
end Go.Proofs.Ytmmepgincbngeaa
