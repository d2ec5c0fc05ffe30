/-
  Several texts in one. A map from numbers to metas that a call makes, as one thing: what it tells of each key is the first entry of a list. · The numbers under which this translation holds sync.Mutex, and that it holds it as the library's contracts want (made by tools/locks.py).
-/
import Derived.Test.YtbokjfjdjgopeaaGreatDoorRgG
import Derived.Maps.OwnSet
import Derived.Test.YtbokjfjdjgopeaaGreatDoorProg
import Derived.Conc.MuLone
import Derived.KernelRfl
namespace Go.Proofs.YtbokjfjdjgopeaaGreatDoor
open Go.RowKit

/-- an element of a map, read as itself -/
def tokE (v : Value) : Option (DataW Value × List MemPlace) := some (.held v, [])

/-- the first entry of a key -/
def fstR : List (Int × Value) → Int → Option Value
  | [], _ => none
  | p :: l, id => if p.1 = id then some p.2 else fstR l id

theorem fstR_hit : ∀ (l : List (Int × Value)) (p : Int × Value) (id : Int) (v : Value), fstR l id = some v → fstR (l ++ [p]) id = some v
  | [], _, _, _, h => by cases h
  | q :: l, p, id, v, h => by
    rw [List.cons_append, fstR]
    rw [fstR] at h
    split
    · next e => rw [if_pos e] at h; exact h
    · next e => rw [if_neg e] at h; exact fstR_hit l p id v h

theorem fstR_miss : ∀ (l : List (Int × Value)) (p : Int × Value) (id : Int), fstR l id = none → fstR (l ++ [p]) id = if p.1 = id then some p.2 else none
  | [], _, _, _ => rfl
  | q :: l, p, id, h => by
    rw [List.cons_append, fstR]
    rw [fstR] at h
    by_cases e : q.1 = id
    · rw [if_pos e] at h; cases h
    · rw [if_neg e] at h ⊢
      exact fstR_miss l p id h

/-- an entry of a key that is there already is not seen -/
theorem fstR_same (l : List (Int × Value)) (p : Int × Value) (h : (fstR l p.1).isSome = true) : fstR (l ++ [p]) = fstR l := by
  funext id
  cases e : fstR l id with
  | some v => exact fstR_hit l p id v e
  | none =>
    rw [fstR_miss l p id e]
    by_cases e' : p.1 = id
    · subst e'
      rw [e] at h
      cases h
    · exact if_neg e'

/-- block g is a map that tells of each number the first entry of l -/
def RMap (W : World) (g : Nat) (l : List (Int × Value)) (n : Nat) : Prop := ∃ D : DataW Value, W.ownsMap Tryz.prog 3 tokE g n D ∧ ∀ id, (Lit.int .i64 id).wf = true → Maps.has D (.int .i64 id) = (fstR l id).isSome ∧ ∀ z, D.atKey (.int .i64 id) (.held z) = .held ((fstR l id).getD z)

def mapA (g : Nat) (l : List (Int × Value)) (n : Nat) : Ast := ⟨fun k => k = g, fun W => RMap W g l n, fun W W' h hk => by
  obtain ⟨D, ⟨es, clock, hb, hr⟩, h2⟩ := h
  exact ⟨D, ⟨es, clock, (hk g rfl).trans hb, hr⟩, h2⟩⟩

theorem rmap_made (w : World) : RMap (w.alloc (.map #[] 0)) w.heap.size [] 0 := ⟨_, World.ownsMap_made w Tryz.prog 3 tokE, fun _ _ => ⟨rfl, fun _ => rfl⟩⟩

theorem rmap_same {W : World} {g n : Nat} {l : List (Int × Value)} (h : RMap W g l n) (p : Int × Value) (hs : (fstR l p.1).isSome = true) : RMap W g (l ++ [p]) n := by
  obtain ⟨D, h1, h2⟩ := h
  refine ⟨D, h1, fun id hw => ?_⟩
  rw [fstR_same l p hs]
  exact h2 id hw

theorem Tryz.intKey : Maps.Keyed Tryz.prog 3 := Maps.int_keyed Tryz.underlying3

theorem Tryz.zeroMetaM (w : World) : (zeroValue 45).run Tryz.prog w = .ok (.agg #[.int .i64 0, .int .i64 0, .int .i64 0, .slice none 0 0]) w := by kernel_rfl

set_option maxRecDepth 100000 in
/-- 'm, there := readers[id]' -/
theorem rmap_look {W : World} {g n : Nat} {l : List (Int × Value)} (h : RMap W g l n) (id : Int) (hw : (Lit.int .i64 id).wf = true) :
    (Instr.lookup 78 (.map (some g)) (.int .i64 id) true).run Tryz.prog W = .ok (.tuple #[(fstR l id).getD (.agg #[.int .i64 0, .int .i64 0, .int .i64 0, .slice none 0 0]), .bool (fstR l id).isSome]) W := by
  obtain ⟨D, h1, h2⟩ := h
  obtain ⟨v, ps, hr, hv⟩ := h1.look_ok Tryz.intKey Tryz.underlying78 (Tryz.zeroMetaM W) (zd := .held (.agg #[.int .i64 0, .int .i64 0, .int .i64 0, .slice none 0 0])) (zp := []) rfl (Maps.keyOf_int_mk Tryz.underlying3 hw)
  rw [(h2 id hw).1] at hr
  rw [(h2 id hw).2] at hv
  rw [tokE, Option.some.injEq, Prod.mk.injEq] at hv
  have hv1 := hv.1
  injection hv1 with hv1
  rw [← hv1]
  exact hr

set_option maxRecDepth 100000 in
/-- 'readers[id] = m', where there is none -/
theorem rmap_put {W : World} {g n : Nat} {l : List (Int × Value)} (h : RMap W g l n) (hn : n < maxLen) (id : Int) (hw : (Lit.int .i64 id).wf = true) (hno : fstR l id = none) (v : Value) :
    ∃ w', (Instr.mapUpdate 78 (.map (some g)) (.int .i64 id) v).run Tryz.prog W = .ok () w' ∧ RMap w' g (l ++ [(id, v)]) (n + 1) ∧ W.mapTurned w' g := by
  obtain ⟨D, h1, h2⟩ := h
  obtain ⟨w', hr, h3, h4⟩ := h1.store Tryz.intKey Tryz.underlying78 hn (Maps.keyOf_int_mk Tryz.underlying3 hw) (val := v) (d := .held v) (ps := []) rfl
  refine ⟨w', hr, ⟨_, h3, fun id' hw' => ?_⟩, h4⟩
  have hK : WideAt.IsKeyLit (.int .i64 id) := by first | trivial | simp [WideAt.IsKeyLit]
  by_cases e : id = id'
  · subst e
    rw [fstR_miss l _ _ hno, if_pos rfl]
    exact ⟨Maps.has_put_same h1.isMap hK _, fun z => Maps.atKey_put_same h1.isMap hK _ _⟩
  · have hne : (Lit.int .i64 id') ≠ (Lit.int .i64 id) := fun h => e (by injection h with _ h; exact h.symm)
    have hf : fstR (l ++ [(id, v)]) id' = fstR l id' := by
      cases h5 : fstR l id' with
      | some u => exact fstR_hit l _ _ _ h5
      | none => rw [fstR_miss l _ _ h5]; exact if_neg e
    rw [hf, Maps.has_put_other hne]
    refine ⟨(h2 id' hw').1, fun z => ?_⟩
    rw [Maps.atKey_put_other hne]
    exact (h2 id' hw').2 z

/-- the same, in a region that draws its order, over things side by side -/
theorem step_mapPut {ops : Array Oper} {o : Oper} {a : Act} {K : Act → World → Prop} {Q : Exit → Act → World → Prop} {E : Prop} {B : Nat} {W : World} {L : List Ast} (h : Sep B W L) (i : Nat) {g n : Nat} {l : List (Int × Value)} (hi : L[i]? = some (mapA g l n)) (hB : B ≤ W.heap.size) (hn : n < maxLen)
    (hgd : o.guard = none) (m x y : Operand) (ho : o.op = Op.mapUpdate 78 m x y) (hm : a.eval m = .map (some g)) (id : Int) (hx : a.eval x = .int .i64 id) (v : Value) (hv : a.eval y = v) (hw : (Lit.int .i64 id).wf = true) (hno : fstR l id = none)
    (hK : ∀ w', Sep B w' (L.set i (mapA g (l ++ [(id, v)]) (n + 1))) → Below B W w' → K (a.put o.dst undef) w') :
    if Region.wanted o (yielded ops a.tmps) = true then Oper.wp Tryz.prog o a W K Q else E := by
  have hwt : Region.wanted o (yielded ops a.tmps) = true := by simp [Region.wanted, hgd]
  rw [if_pos hwt]
  obtain ⟨w', hr, h1, h2⟩ := rmap_put (sep_get h i hi) hn id hw hno v
  have hg := h2.grown
  have hgl := sep_lt h i hi g rfl
  have k1 : Sep B w' (L.set i (mapA g (l ++ [(id, v)]) (n + 1))) := sep_set h i hi ⟨hg.os, hg.tape, hg.output, hg.size, fun j hj hne => hg.block j hj (fun e => hne (by injection e))⟩ _ h1 (fun k hk => ⟨Or.inl hk, by have hk' : k = g := hk; subst hk'; have := hg.size; omega⟩) hB
  have k2 : Below B W w' := (Below.refl B W).grown hg hB (fun k e => by injection e with e; omega)
  unfold Oper.wp execOp
  simp [ho, hm, hx, hv, hr, Result.andThen]
  exact hK w' k1 k2
end Go.Proofs.YtbokjfjdjgopeaaGreatDoor

namespace Go.Proofs.YtbokjfjdjgopeaaGreatDoor
abbrev muLink : Go.Conc.Locks.MuLink := { lock := 39, unlock := 20, ilock := 61, iunlock := 41, lockSlow := 88, unlockSlow := 68, disable := 66, enable := 69, acquire := 87, relMerge := 65, cas32 := 86, add32 := 67, tMutex := 77, tIMutex := 75, tPMutex := 105, tPIMutex := 134, tPI32 := 138, tUP := 136, tNoCopy := 72, tU32 := 73 }

theorem muLib : Go.Conc.Locks.MuLib Tryz.prog muLink :=
  ⟨Tryz.func39, Tryz.func20, Tryz.func61, Tryz.func41, Tryz.func66, Tryz.func69, Tryz.func87, Tryz.func65, Tryz.func86, Tryz.func67, Tryz.underlying75, Tryz.runUnderlying75, Tryz.sizeOf75, Tryz.isAgg75, Tryz.zeroValue75, Tryz.underlying77, Tryz.runUnderlying77, Tryz.sizeOf77, Tryz.isAgg77, Tryz.zeroValue77, Tryz.underlying105, Tryz.runUnderlying105, Tryz.sizeOf105, Tryz.isAgg105, Tryz.zeroValue105, Tryz.underlying134, Tryz.runUnderlying134, Tryz.sizeOf134, Tryz.isAgg134, Tryz.zeroValue134, Tryz.underlying138, Tryz.runUnderlying138, Tryz.sizeOf138, Tryz.isAgg138, Tryz.zeroValue138, Tryz.underlying136, Tryz.runUnderlying136, Tryz.sizeOf136, Tryz.isAgg136, Tryz.zeroValue136, Tryz.underlying72, Tryz.runUnderlying72, Tryz.sizeOf72, Tryz.isAgg72, Tryz.zeroValue72, Tryz.underlying21, Tryz.runUnderlying21, Tryz.sizeOf21, Tryz.isAgg21, Tryz.zeroValue21, (by kernel_rfl)⟩
end Go.Proofs.YtbokjfjdjgopeaaGreatDoor
