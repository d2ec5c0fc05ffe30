/-
  Plain facts on schemas and things in bytes: what is read one by one is what was written; when a schema, or a thing, is the one whose bytes these are. No program.
-/
import Derived.Test.YtjldcbnoomcloaaThingSpec4
namespace Go.Proofs.Ytjldcbnoomcloaa
open Go.RowKit

theorem schemaK_app (fs gs : List (ByteArray × Int)) : ∀ k, k ≤ fs.length → schemaK (fs ++ gs) k = schemaK fs k
  | 0, _ => rfl
  | k + 1, h => by
    rw [schemaK_succ (show k < (fs ++ gs).length by simp; omega), schemaK_succ (show k < fs.length by omega), schemaK_app fs gs k (by omega), List.getElem_append_left (show k < fs.length by omega)]

/-- a schema in bytes -/
def schT (fs : List (ByteArray × Int)) : ByteArray := schemaK fs fs.length

theorem schT_snoc (fs : List (ByteArray × Int)) (f : ByteArray × Int) : schT (fs ++ [f]) = schT fs ++ byteT f.2 ++ shortB f.1 := by
  unfold schT
  rw [List.length_append, List.length_singleton, schemaK_succ (by simp), schemaK_app fs [f] fs.length (Nat.le_refl _)]
  simp

theorem schT_more : ∀ (gs fs : List (ByteArray × Int)), ∃ X, schT (fs ++ gs) = schT fs ++ X
  | [], fs => ⟨⟨#[]⟩, by rw [List.append_nil]; exact (ByteArray.append_empty).symm⟩
  | g :: gs, fs => by
    obtain ⟨X, hX⟩ := schT_more gs (fs ++ [g])
    rw [List.append_assoc, List.singleton_append] at hX
    exact ⟨byteT g.2 ++ shortB g.1 ++ X, by rw [hX, schT_snoc]; simp only [ByteArray.append_assoc]⟩

/-- the right schema whose bytes these are -/
def IsSch (t : ByteArray) (fs : List (ByteArray × Int)) : Prop := schemaOkB fs = true ∧ schT fs = t

/-- what was read so far is the beginning of the one that there is, if there is one -/
def SchTry (t : ByteArray) (fs : List (ByteArray × Int)) (p : Nat) : Prop := ∀ gs, IsSch t gs → (∃ l, gs = fs ++ l) ∧ p = (schT fs).size

theorem schTry_nil (t : ByteArray) : SchTry t [] 0 := fun gs _ => ⟨⟨gs, rfl⟩, rfl⟩

theorem byteT_size (q : Int) : (byteT q).size = 1 := rfl

/-- the next field of the one that there is -/
theorem sch_next {t : ByteArray} {fs gs : List (ByteArray × Int)} {p : Nat} (h : SchTry t fs p) (hp : p < t.size) (hg : IsSch t gs) :
    ∃ g l, gs = fs ++ g :: l ∧ g.2 = (byt t p : Int) ∧ rdS t (p + 1) = some (g.1, (schT (fs ++ [g])).size) := by
  obtain ⟨⟨l, hl⟩, rfl⟩ := h gs hg
  cases l with
  | nil => rw [List.append_nil] at hl; subst hl; rw [hg.2] at hp; omega
  | cons g l =>
    refine ⟨g, l, hl, ?_⟩
    obtain ⟨X, hX⟩ := schT_more l (fs ++ [g])
    rw [List.append_assoc, List.singleton_append, ← hl, hg.2, schT_snoc] at hX
    have hy := (schema_yes hg.1).2.2 fs.length (by rw [hl]; simp)
    simp only [hl, List.getElem_append_right (Nat.le_refl _), Nat.sub_self, List.getElem_cons_zero] at hy
    have hsz := byteT_size g.2
    constructor
    · have e : byt t (schT fs).size = (byteT g.2)[0].toNat := by
        have ht : (schT fs).size < t.size := hp
        rw [← byt_eq t _ ht]
        have hX' : t = schT fs ++ byteT g.2 ++ (shortB g.1 ++ X) := by rw [hX]; simp only [ByteArray.append_assoc]
        have h1 := extract_cat (schT fs) (byteT g.2) (shortB g.1 ++ X)
        rw [← hX', hsz] at h1
        have h2 : (t.extract (schT fs).size ((schT fs).size + 1))[0]'(by rw [h1]; rw [hsz]; omega) = (byteT g.2)[0] := by congr 1
        rw [← h2, ByteArray.getElem_extract]
        simp
      rw [e]
      rcases hy.2 with h | h <;> rw [h] <;> rfl
    · have := rdS_at t (schT fs ++ byteT g.2) g.1 X (by omega) hX
      rw [ByteArray.size_append, hsz] at this
      rw [schT_snoc]
      exact this

theorem schTry_none {t : ByteArray} {fs : List (ByteArray × Int)} {p : Nat} (h : SchTry t fs p) (hp : p < t.size) (hr : rdS t (p + 1) = none) : ∀ gs, ¬ IsSch t gs := fun gs hg => by
  obtain ⟨g, l, -, -, h3⟩ := sch_next h hp hg
  rw [hr] at h3
  cases h3

theorem schTry_some {t x : ByteArray} {fs : List (ByteArray × Int)} {p q : Nat} (h : SchTry t fs p) (hp : p < t.size) (hr : rdS t (p + 1) = some (x, q)) : SchTry t (fs ++ [(x, (byt t p : Int))]) q := fun gs hg => by
  obtain ⟨g, l, h1, h2, h3⟩ := sch_next h hp hg
  rw [hr] at h3
  simp only [Option.some.injEq, Prod.mk.injEq] at h3
  have hgx : g = (x, (byt t p : Int)) := Prod.ext h3.1.symm h2
  rw [← hgx]
  exact ⟨⟨l, by rw [h1]; simp⟩, h3.2⟩

/-- no more than three -/
theorem schTry_full {t : ByteArray} {fs : List (ByteArray × Int)} {p : Nat} (h : SchTry t fs p) (hp : p < t.size) (hf : 3 ≤ fs.length) : ∀ gs, ¬ IsSch t gs := fun gs hg => by
  obtain ⟨g, l, h1, -, -⟩ := sch_next h hp hg
  have := (schema_yes hg.1).2.1
  rw [h1] at this
  simp at this
  omega

/-- at the end what was read is the one -/
theorem schTry_end {t : ByteArray} {fs : List (ByteArray × Int)} {p : Nat} (h : SchTry t fs p) (hp : t.size ≤ p) : ∀ gs, IsSch t gs → gs = fs := fun gs hg => by
  obtain ⟨⟨l, hl⟩, rfl⟩ := h gs hg
  cases l with
  | nil => rw [hl, List.append_nil]
  | cons g l =>
    exfalso
    obtain ⟨X, hX⟩ := schT_more l (fs ++ [g])
    rw [List.append_assoc, List.singleton_append, ← hl, hg.2, schT_snoc] at hX
    have := congrArg ByteArray.size hX
    rw [ByteArray.size_append, ByteArray.size_append, ByteArray.size_append, byteT_size] at this
    omega

/-- what was read so far is what was written so far -/
def SchHas (t : ByteArray) (fs : List (ByteArray × Int)) (p : Nat) : Prop := p ≤ t.size ∧ schT fs = t.extract 0 p ∧ ∀ f ∈ fs, f.1.size ≤ 20000

theorem schHas_nil (t : ByteArray) : SchHas t [] 0 := ⟨Nat.zero_le _, by
  apply ByteArray.ext
  apply Array.toList_inj.1
  rw [Lib.extract_data]; rfl, fun f h => by simp at h⟩

theorem byte_at (t : ByteArray) (p : Nat) (hp : p < t.size) : t.extract p (p + 1) = byteT (byt t p : Int) := by
  have h := extract_bytes t p 1 (by omega)
  apply ByteArray.ext
  apply Array.toList_inj.1
  rw [h, byteT, Int.toNat_natCast]
  rfl

theorem schHas_some {t x : ByteArray} {fs : List (ByteArray × Int)} {p q : Nat} (h : SchHas t fs p) (hp : p < t.size) (hr : rdS t (p + 1) = some (x, q)) : SchHas t (fs ++ [(x, (byt t p : Int))]) q := by
  obtain ⟨h1, h2, h3, h4⟩ := rdS_back hr
  refine ⟨h2, ?_, fun f hf => ?_⟩
  · rw [schT_snoc, h.2.1, ← h4, ← byte_at t p hp, ← extract_two t 0 p (p + 1) (by omega) (by omega), ← extract_two t 0 (p + 1) q (by omega) (by omega)]
  · rcases List.mem_append.1 hf with hf | hf
    · exact h.2.2 f hf
    · obtain rfl := List.mem_singleton.1 hf
      exact h3

theorem extract_all (t : ByteArray) (p : Nat) (h : t.size ≤ p) : t.extract 0 p = t := by
  apply ByteArray.ext
  apply Array.toList_inj.1
  rw [Lib.extract_data, List.drop_zero, List.take_of_length_le (by rw [ba_len]; omega)]

/-- the answer of ReadSchema -/
def ReadSch (t : ByteArray) (fs : List (ByteArray × Int)) (ok : Bool) : Prop := (ok = true ∧ IsSch t fs ∧ ∀ gs, IsSch t gs → gs = fs) ∨ (ok = false ∧ fs = [] ∧ ∀ gs, ¬ IsSch t gs)

theorem readSch_one {t : ByteArray} {fs gs : List (ByteArray × Int)} {ok ko : Bool} (h : ReadSch t fs ok) (k : ReadSch t gs ko) : fs = gs ∧ ok = ko := by
  rcases h with ⟨h1, h2, h3⟩ | ⟨h1, h2, h3⟩ <;> rcases k with ⟨k1, k2, k3⟩ | ⟨k1, k2, k3⟩
  · exact ⟨k3 _ h2, by rw [h1, k1]⟩
  · exact absurd h2 (k3 _)
  · exact absurd k2 (h3 _)
  · exact ⟨by rw [h2, k2], by rw [h1, k1]⟩

/-! things -/
theorem thingK_app (fs : List (ByteArray × Int)) (vs us : List (Int × ByteArray)) : ∀ k, k ≤ vs.length → thingK fs (vs ++ us) k = thingK fs vs k
  | 0, _ => rfl
  | k + 1, h => by
    rw [thingK, thingK, thingK_app fs vs us k (by omega)]
    have : (vs ++ us).getD k (0, ⟨#[]⟩) = vs.getD k (0, ⟨#[]⟩) := by
      simp only [List.getD_eq_getElem?_getD, List.getElem?_append_left (show k < vs.length by omega)]
    rw [this]

/-- a thing in bytes -/
def thT (fs : List (ByteArray × Int)) (vs : List (Int × ByteArray)) : ByteArray := thingK fs vs vs.length

theorem thT_snoc (fs : List (ByteArray × Int)) (vs : List (Int × ByteArray)) (u : Int × ByteArray) : thT fs (vs ++ [u]) = thT fs vs ++ valueT (fs.getD vs.length (⟨#[]⟩, 0)).2 u.1 u.2 := by
  unfold thT
  rw [List.length_append, List.length_singleton, thingK, thingK_app fs vs [u] vs.length (Nat.le_refl _)]
  simp

theorem thT_more (fs : List (ByteArray × Int)) : ∀ (us vs : List (Int × ByteArray)), ∃ X, thT fs (vs ++ us) = thT fs vs ++ X
  | [], vs => ⟨⟨#[]⟩, by rw [List.append_nil]; exact (ByteArray.append_empty).symm⟩
  | u :: us, vs => by
    obtain ⟨X, hX⟩ := thT_more fs us (vs ++ [u])
    rw [List.append_assoc, List.singleton_append] at hX
    exact ⟨_, by rw [hX, thT_snoc, ByteArray.append_assoc]⟩

/-- the right thing whose bytes these are -/
def IsTh (fs : List (ByteArray × Int)) (t : ByteArray) (vs : List (Int × ByteArray)) : Prop := thingOkB fs vs = true ∧ thT fs vs = t

def ThTry (fs : List (ByteArray × Int)) (t : ByteArray) (vs : List (Int × ByteArray)) (p : Nat) : Prop := ∀ us, IsTh fs t us → (∃ l, us = vs ++ l) ∧ p = (thT fs vs).size

theorem thTry_nil (fs : List (ByteArray × Int)) (t : ByteArray) : ThTry fs t [] 0 := fun us _ => ⟨⟨us, rfl⟩, rfl⟩

/-- what is read at p for a field of a kind -/
def rdVal (kind : Int) (t : ByteArray) (p : Nat) : Option ((Int × ByteArray) × Nat) := if kind = 1 then (rdV t p).map fun x => (((x.1 : Nat), ⟨#[]⟩), x.2) else (rdS t p).map fun x => ((0, x.1), x.2)

theorem rdVal_at {kind : Int} {t A X : ByteArray} {u : Int × ByteArray} (hv : valueB kind u.1 u.2 = true) (ht : t = A ++ valueT kind u.1 u.2 ++ X) : rdVal kind t A.size = some (u, (A ++ valueT kind u.1 u.2).size) := by
  obtain ⟨num, x⟩ := u
  by_cases hk : kind = 1
  · subst hk
    rw [value_num, Bool.and_eq_true, decide_eq_true_eq, decide_eq_true_eq] at hv
    obtain ⟨⟨h0, h1⟩, h2⟩ := hv
    obtain ⟨n, hn⟩ := Int.eq_ofNat_of_zero_le h0
    simp only at hn h1 h2 ht
    subst hn h2
    rw [valueT, if_pos rfl, Int.toNat_natCast] at ht ⊢
    rw [rdVal, if_pos rfl, rdV_at t A X n (by omega) ht]
    rfl
  · have hv' := hv
    rw [valueB, if_neg hk, Bool.and_eq_true, decide_eq_true_eq, decide_eq_true_eq] at hv'
    obtain ⟨-, -, h0, h6⟩ := hv'
    simp only at h0 h6 ht
    subst h0
    rw [valueT, if_neg hk] at ht ⊢
    rw [rdVal, if_neg hk, rdS_at t A x X (by omega) ht]
    rfl

theorem th_next {fs : List (ByteArray × Int)} {t : ByteArray} {vs us : List (Int × ByteArray)} {p : Nat} (h : ThTry fs t vs p) (hk : vs.length < fs.length) (hg : IsTh fs t us) :
    ∃ u l, us = vs ++ u :: l ∧ rdVal fs[vs.length].2 t p = some (u, (thT fs (vs ++ [u])).size) := by
  obtain ⟨⟨l, hl⟩, rfl⟩ := h us hg
  obtain ⟨-, h2, -, h4⟩ := thing_yes hg.1
  cases l with
  | nil => rw [List.append_nil] at hl; subst hl; omega
  | cons u l =>
    refine ⟨u, l, hl, ?_⟩
    obtain ⟨X, hX⟩ := thT_more fs l (vs ++ [u])
    have hgd : fs.getD vs.length (⟨#[]⟩, 0) = fs[vs.length] := by simp [List.getD, hk]
    rw [List.append_assoc, List.singleton_append, ← hl, hg.2, thT_snoc, hgd] at hX
    have hv := h4 vs.length (by rw [hl]; simp) hk
    simp only [hl, List.getElem_append_right (Nat.le_refl _), Nat.sub_self, List.getElem_cons_zero] at hv
    rw [thT_snoc, hgd]
    exact rdVal_at hv hX

theorem thTry_none {fs : List (ByteArray × Int)} {t : ByteArray} {vs : List (Int × ByteArray)} {p : Nat} (h : ThTry fs t vs p) (hk : vs.length < fs.length) (hr : rdVal fs[vs.length].2 t p = none) : ∀ us, ¬ IsTh fs t us := fun us hg => by
  obtain ⟨u, l, -, h3⟩ := th_next h hk hg
  rw [hr] at h3
  cases h3

theorem thTry_some {fs : List (ByteArray × Int)} {t : ByteArray} {vs : List (Int × ByteArray)} {p q : Nat} {u : Int × ByteArray} (h : ThTry fs t vs p) (hk : vs.length < fs.length) (hr : rdVal fs[vs.length].2 t p = some (u, q)) : ThTry fs t (vs ++ [u]) q := fun us hg => by
  obtain ⟨g, l, h1, h3⟩ := th_next h hk hg
  rw [hr] at h3
  simp only [Option.some.injEq, Prod.mk.injEq] at h3
  obtain ⟨rfl, h5⟩ := h3
  exact ⟨⟨l, by rw [h1]; simp⟩, h5⟩

theorem thTry_end {fs : List (ByteArray × Int)} {t : ByteArray} {vs : List (Int × ByteArray)} {p : Nat} (h : ThTry fs t vs p) (hk : fs.length ≤ vs.length) : ∀ us, IsTh fs t us → us = vs ∧ p = t.size := fun us hg => by
  obtain ⟨⟨l, hl⟩, rfl⟩ := h us hg
  obtain ⟨-, h2, -, -⟩ := thing_yes hg.1
  have h3 := h2
  rw [hl, List.length_append] at h3
  have : l = [] := List.eq_nil_of_length_eq_zero (by omega)
  subst this
  rw [List.append_nil] at hl
  exact ⟨hl, by rw [← hg.2, hl]⟩

def ThHas (fs : List (ByteArray × Int)) (t : ByteArray) (vs : List (Int × ByteArray)) (p : Nat) : Prop := p ≤ t.size ∧ thT fs vs = t.extract 0 p ∧ ∀ u ∈ vs, u.2.size ≤ 20000

theorem thHas_nil (fs : List (ByteArray × Int)) (t : ByteArray) : ThHas fs t [] 0 := ⟨Nat.zero_le _, (schHas_nil t).2.1, fun f h => by simp at h⟩

theorem rdVal_back {kind : Int} {t : ByteArray} {p q : Nat} {u : Int × ByteArray} (h : rdVal kind t p = some (u, q)) : p < q ∧ q ≤ t.size ∧ u.2.size ≤ 20000 ∧ t.extract p q = valueT kind u.1 u.2 := by
  unfold rdVal at h
  split at h
  · next hk =>
    rw [Option.map_eq_some_iff] at h
    obtain ⟨⟨n, r⟩, h1, h2⟩ := h
    obtain ⟨h3, h4, h5, h6⟩ := rdV_back h1
    simp only [Prod.mk.injEq] at h2
    obtain ⟨rfl, rfl⟩ := h2
    exact ⟨h3, h4, Nat.zero_le _, by rw [h6, valueT, if_pos hk, Int.toNat_natCast]⟩
  · next hk =>
    rw [Option.map_eq_some_iff] at h
    obtain ⟨⟨x, r⟩, h1, h2⟩ := h
    obtain ⟨h3, h4, h5, h6⟩ := rdS_back h1
    simp only [Prod.mk.injEq] at h2
    obtain ⟨rfl, rfl⟩ := h2
    exact ⟨h3, h4, h5, by rw [h6, valueT, if_neg hk]⟩

theorem thHas_some {fs : List (ByteArray × Int)} {t : ByteArray} {vs : List (Int × ByteArray)} {p q : Nat} {u : Int × ByteArray} (h : ThHas fs t vs p) (hk : vs.length < fs.length) (hr : rdVal fs[vs.length].2 t p = some (u, q)) : ThHas fs t (vs ++ [u]) q := by
  obtain ⟨h1, h2, h3, h4⟩ := rdVal_back hr
  refine ⟨h2, ?_, fun f hf => ?_⟩
  · rw [thT_snoc, h.2.1, show fs.getD vs.length (⟨#[]⟩, 0) = fs[vs.length] from by simp [List.getD, hk], ← h4, ← extract_two t 0 p q (by omega) (by omega)]
  · rcases List.mem_append.1 hf with hf | hf
    · exact h.2.2 f hf
    · obtain rfl := List.mem_singleton.1 hf
      exact h3

/-- the answer of ReadThing -/
def ReadTh (fs : List (ByteArray × Int)) (t : ByteArray) (vs : List (Int × ByteArray)) (ok : Bool) : Prop := (ok = true ∧ IsTh fs t vs ∧ ∀ us, IsTh fs t us → us = vs) ∨ (ok = false ∧ vs = [] ∧ ∀ us, ¬ IsTh fs t us)

theorem readTh_one {fs : List (ByteArray × Int)} {t : ByteArray} {vs us : List (Int × ByteArray)} {ok ko : Bool} (h : ReadTh fs t vs ok) (k : ReadTh fs t us ko) : vs = us ∧ ok = ko := by
  rcases h with ⟨h1, h2, h3⟩ | ⟨h1, h2, h3⟩ <;> rcases k with ⟨k1, k2, k3⟩ | ⟨k1, k2, k3⟩
  · exact ⟨k3 _ h2, by rw [h1, k1]⟩
  · exact absurd h2 (k3 _)
  · exact absurd k2 (h3 _)
  · exact ⟨by rw [h2, k2], by rw [h1, k1]⟩
end Go.Proofs.Ytjldcbnoomcloaa
