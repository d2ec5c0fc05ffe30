/-
  Several texts in one. Many cells stored at once into a variable that lies side by side with other things; a whole struct read and laid by the library's own laws of a range of cells. No program. · Readers that are marked and held, side by side with other things: the laws' helpers markReaderS and heldReaderS by contracts. · A disk that is marked, side by side with other things. · The laws' helpers that mark and hold changes and stores, by contracts, from any count on: markTxn, heldTxn, markStore, heldStore (made by tools/storemark.py). · laws.toStore by a contract (made by tools/storerow.py OUT TO). · A store as one row of twenty cells and one thing in memory: the laws' walks carry it whole; it is read, marked and held. · spec.OldestOf and spec.l12At by contracts: the least Tx of a store's meta and of its readers' metas; the place of a reader. · Chapter 7, plain: what a page tells (rdN), and what GetKey tells (getL). · impl.ReadVar and spec.ReadVar by one contract: both answer as 'rvGo' tells of the bytes from the place on.
-/
import Derived.Test.YtbokjfjdjgopeaaGreatDoorRgA
import Derived.Deep.MidRow
import Derived.Test.YtbokjfjdjgopeaaGreatDoorRgF
import Derived.Deep.Cut
import Derived.Test.YtbokjfjdjgopeaaGreatDoorRgP
import Derived.Test.YtbokjfjdjgopeaaGreatDoorVar
import Derived.Test.YtbokjfjdjgopeaaGreatDoorPlain2
import Derived.Laws.Shifts
import Derived.WalkSpells
import Derived.WalkSmall
import Derived.Deep.LoopGhost
import Derived.Deep.RegionHeld3
import Derived.Deep.DrawnRows
import Derived.Deep.DeepFit
import Derived.Deep.DeepMust
namespace Go.Proofs.YtbokjfjdjgopeaaGreatDoor
open Go.RowKit

/-- cells laid over others, from a place on -/
def overL : List Value → Nat → List Value → List Value
  | cs, _, [] => cs
  | cs, o, v :: r => overL (cs.set o v) (o + 1) r

def over : Array Value → Nat → List Value → Array Value
  | cs, _, [] => cs
  | cs, o, v :: r => over (cs.setIfInBounds o v) (o + 1) r

theorem over_list : ∀ (vs : List Value) (cs : Array Value) (o : Nat), (over cs o vs).toList = overL cs.toList o vs
  | [], _, _ => rfl
  | v :: r, cs, o => by
    rw [over, overL, over_list r, Array.toList_setIfInBounds]

theorem overL_all : ∀ (vs pre cs : List Value), vs.length = cs.length → overL (pre ++ cs) pre.length vs = pre ++ vs
  | [], pre, cs, h => by
    rw [List.eq_nil_of_length_eq_zero h.symm]
    rfl
  | v :: r, pre, [], h => by simp at h
  | v :: r, pre, c :: cs, h => by
    have ih := overL_all r (pre ++ [v]) cs (by simpa using h)
    rw [overL, List.set_append_right _ _ (Nat.le_refl _), Nat.sub_self, List.set_cons_zero]
    rw [List.length_append, List.length_singleton, List.append_assoc, List.append_assoc] at ih
    exact ih

theorem set_same {α : Type} {l : List α} {i : Nat} {x : α} (h : l[i]? = some x) : l.set i x = l := by
  obtain ⟨hi, rfl⟩ := List.getElem?_eq_some_iff.1 h
  exact List.set_getElem_self hi

/-- a store of many cells into a block -/
theorem sep_cells {B : Nat} : ∀ (vs : List Value) (off : Nat) {W : World} {l : List Ast} (_ : Sep B W l) (i : Nat) {g : Nat} {cs : Array Value} {T : TypeId} (_ : l[i]? = some (cellA g (.cells cs T (0, 0)))), Sep B (W.setCells g off vs) (l.set i (cellA g (.cells (over cs off vs) T (0, 0))))
  | [], off, W, l, h, i, g, cs, T, hi => by
    rw [show over cs off [] = cs from rfl, set_same hi]
    exact h
  | v :: r, off, W, l, h, i, g, cs, T, hi => by
    have hlt : i < l.length := (List.getElem?_eq_some_iff.1 hi).1
    have h2 := sep_cells r (off + 1) (sep_store h i hi off v) i (g := g) (cs := cs.setIfInBounds off v) (T := T) (by rw [List.getElem?_set_self hlt])
    rw [List.set_set] at h2
    exact h2

theorem sep_cellsTo {B : Nat} {W : World} {l : List Ast} (h : Sep B W l) (i : Nat) {g : Nat} {cs : Array Value} {T : TypeId} (hi : l[i]? = some (cellA g (.cells cs T (0, 0)))) (off : Nat) (vs : List Value) (cs' : Array Value) (he : overL cs.toList off vs = cs'.toList) : Sep B (W.setCells g off vs) (l.set i (cellA g (.cells cs' T (0, 0)))) := by
  have e : over cs off vs = cs' := Array.toList_inj.1 (by rw [over_list]; exact he)
  subst e
  exact sep_cells vs off h i hi

/-- a block is laid anew, all of it -/
theorem sep_cellsAll {B : Nat} {W : World} {l : List Ast} (h : Sep B W l) (i : Nat) {g : Nat} {cs : Array Value} {T : TypeId} (hi : l[i]? = some (cellA g (.cells cs T (0, 0)))) (cs' : Array Value) (hn : cs'.size = cs.size) : Sep B (W.setCells g 0 cs'.toList) (l.set i (cellA g (.cells cs' T (0, 0)))) :=
  sep_cellsTo h i hi 0 cs'.toList cs' (overL_all cs'.toList [] cs.toList (by simpa using hn))

theorem below_cells {B : Nat} {W0 : World} {g : Nat} (hg : B ≤ g) : ∀ (vs : List Value) (o : Nat) (W : World), Below B W0 W → Below B W0 (W.setCells g o vs)
  | [], _, _, h => h
  | v :: r, o, _, h => below_cells hg r (o + 1) _ (h.setCell (p := ⟨g, o, none⟩) hg v)

theorem size_cells (g : Nat) : ∀ (vs : List Value) (o : Nat) (W : World), (W.setCells g o vs).heap.size = W.heap.size
  | [], _, _ => rfl
  | v :: r, o, W => by rw [World.setCells, size_cells g r (o + 1)]; simp

/-- the cells of a variable, as a range -/
theorem range_of {W : World} {g : Nat} {cs : Array Value} {T : TypeId} (h : W.heap[g]? = some (.cells cs T (0, 0))) (o n : Nat) : W.rangeAt g o ((cs.toList.drop o).take n) := fun j v hv => by
  rw [(cell_at h (o + j)).1]
  rw [List.getElem?_take] at hv
  split at hv
  · rw [List.getElem?_drop] at hv
    simpa using hv
  · cases hv

theorem there_of {W : World} {g : Nat} {cs : Array Value} {T : TypeId} (h : W.heap[g]? = some (.cells cs T (0, 0))) (o n : Nat) (hn : o + n ≤ cs.size) : W.there g o n := fun j hj => by
  refine ⟨?_, (cell_at h (o + j)).2⟩
  rw [(cell_at h (o + j)).1, Array.getElem?_eq_getElem (by omega)]
  rfl

/-- a whole struct is read -/
theorem wpList_loadL {P : Program} {ops : Array Oper} {rest : List Oper} {op : Oper} {a : Act} {w : World} {Q : Exit → Act → World → Prop} (hgd : op.guard = none) (ty : TypeId) (x : Operand) (ho : op.op = .load ty x)
    (b o : Nat) (hx : a.eval x = .pointer (some ⟨b, o, none⟩)) (cs : Array Value) (hc : w.rangeAt b o cs.toList) (d : TypeDesc)
    (hu : P.underlying ty = some d) (hd : d.isRow = true) (hi : (P.info? ty).map (·.size) = some cs.size)
    (h : wpList P ops Q rest (a.put op.dst (.agg cs)) w) : wpList P ops Q (op :: rest) a w :=
  wpList_load_mid hgd ty x ho b o hx cs.toList d hc hu hd (by rw [hi, Array.length_toList]) (by rw [Array.toArray_toList]; exact h)

/-- a whole struct is read, where its guard is met -/
theorem wpList_loadW {P : Program} {ops : Array Oper} {rest : List Oper} {op : Oper} {a : Act} {w : World} {Q : Exit → Act → World → Prop} (hw : Region.wanted op (yielded ops a.tmps) = true) (ty : TypeId) (x : Operand) (ho : op.op = .load ty x)
    (b o : Nat) (hx : a.eval x = .pointer (some ⟨b, o, none⟩)) (cs : Array Value) (hc : w.rangeAt b o cs.toList) (d : TypeDesc)
    (hu : P.underlying ty = some d) (hd : d.isRow = true) (hi : (P.info? ty).map (·.size) = some cs.size)
    (h : wpList P ops Q rest (a.put op.dst (.agg cs)) w) : wpList P ops Q (op :: rest) a w := by
  refine wpList_step fun K hK => ?_
  rw [if_pos hw]
  refine wp_load_mid ty x ho b o hx cs.toList d hc hu hd (by rw [hi, Array.length_toList]) ?_
  rw [Array.toArray_toList]
  exact hK _ _ h

/-- a whole struct is laid, and the world behind it has a name -/
theorem wpList_storeL {P : Program} {ops : Array Oper} {rest : List Oper} {op : Oper} {a : Act} {w w' : World} {Q : Exit → Act → World → Prop} (hgd : op.guard = none) (ty : TypeId) (x y : Operand) (ho : op.op = .store ty x y)
    (b o : Nat) (cs : Array Value) (hx : a.eval x = .pointer (some ⟨b, o, none⟩)) (hy : a.eval y = .agg cs)
    (ht : w.there b o cs.size) (hi : (P.info? ty).map (·.size) = some cs.size) (h1 : cs.toList.all (·.oneCell') = true) (hw : w.setCells b o cs.toList = w')
    (h : wpList P ops Q rest (a.put op.dst undef) w') : wpList P ops Q (op :: rest) a w := by
  subst hw
  exact wpList_store_mid hgd ty x y ho b o cs hx hy ht hi (by rw [← Array.all_toList]; exact h1) h

/-- a whole struct is laid, in a region that draws its order -/
theorem step_storeL {P : Program} {ops : Array Oper} {o : Oper} {a : Act} {K : Act → World → Prop} {Q : Exit → Act → World → Prop} {E : Prop} {W W' : World} (hgd : o.guard = none) (ty : TypeId) (x y : Operand) (ho : o.op = .store ty x y)
    (b off : Nat) (cs : Array Value) (hx : a.eval x = .pointer (some ⟨b, off, none⟩)) (hy : a.eval y = .agg cs)
    (ht : W.there b off cs.size) (hi : (P.info? ty).map (·.size) = some cs.size) (h1 : cs.toList.all (·.oneCell') = true) (hw : W.setCells b off cs.toList = W')
    (h : K (a.put o.dst undef) W') : if Region.wanted o (yielded ops a.tmps) = true then Oper.wp P o a W K Q else E := by
  have hw' : Region.wanted o (yielded ops a.tmps) = true := by simp [Region.wanted, hgd]
  rw [if_pos hw']
  subst hw
  exact wp_store_mid ty x y ho b off cs hx hy ht hi (by rw [← Array.all_toList]; exact h1) h

theorem yields_loadL {P : Program} {ops : Array Oper} {S : World → Prop} {op : Oper} {a : Act} (hw : Region.wanted op (yielded ops a.tmps) = true) (ty : TypeId) (x : Operand) (ho : op.op = .load ty x)
    (b o : Nat) (hx : a.eval x = .pointer (some ⟨b, o, none⟩)) (cs : Array Value) (d : TypeDesc) (hS : ∀ w, S w → w.rangeAt b o cs.toList)
    (hu : P.underlying ty = some d) (hd : d.isRow = true) (hi : (P.info? ty).map (·.size) = some cs.size) : YieldsIf P ops S op (.agg cs) a := by
  have h := yieldsIf_load_mid (ops := ops) hw ty x ho b o hx cs.toList d hS hu hd (by rw [hi, Array.length_toList])
  rw [Array.toArray_toList] at h
  exact h

theorem range_all {W : World} {g : Nat} {cs : Array Value} {T : TypeId} (h : W.heap[g]? = some (.cells cs T (0, 0))) : W.rangeAt g 0 cs.toList := fun j v hv => by
  rw [(cell_at h (0 + j)).1, Nat.zero_add]
  simpa using hv

theorem run_agg {P : Program} {w : World} {b : Nat} {ty : TypeId} {cs : Array Value} {d : TypeDesc} (hc : w.rangeAt b 0 cs.toList) (hu : P.underlying ty = some d) (hd : d.isRow = true) (hi : (P.info? ty).map (·.size) = some cs.size) : (loadVar ty ⟨b, 0, none⟩).run P w = .ok (.agg cs) w := by
  have h := run_loadVar_mid w b 0 ty cs.toList d hc hu hd (by rw [hi, Array.length_toList])
  rw [Array.toArray_toList] at h
  exact h

/-- a struct is the answer -/
theorem results_c {P : Program} {fn : Func} {t : Tmp} {ty : TypeId} (h : fn.results = #[.cell t ty]) {tmps : Array Value} {w : World} {b : Nat} (hp : tmps.getD t undef = .pointer (some ⟨b, 0, none⟩)) {cs : Array Value} (hl : (loadVar ty ⟨b, 0, none⟩).run P w = .ok (.agg cs) w) : (results fn tmps).run P w = .ok (.agg cs) w := by
  simp only [Array.getD_eq_getD_getElem?] at hp
  simp [results, h, hp, asAddr, hl]

/-- a struct and a word are the answer -/
theorem results_ct {P : Program} {fn : Func} {t u : Tmp} {ty : TypeId} (h : fn.results = #[.cell t ty, .tmp u]) {tmps : Array Value} {w : World} {b : Nat} (hp : tmps.getD t undef = .pointer (some ⟨b, 0, none⟩)) {cs : Array Value} {x : Value} (hx : tmps.getD u undef = x) (hl : (loadVar ty ⟨b, 0, none⟩).run P w = .ok (.agg cs) w) : (results fn tmps).run P w = .ok (.tuple #[.agg cs, x]) w := by
  simp only [Array.getD_eq_getD_getElem?] at hp hx
  simp [results, h, hp, hx, asAddr, hl]
end Go.Proofs.YtbokjfjdjgopeaaGreatDoor

namespace Go.Proofs.YtbokjfjdjgopeaaGreatDoor
open Go.RowKit

/-- the count ahead of a reader -/
def kR (k0 : Nat) (rs : List (Int × Mt)) (i : Nat) : Nat := k0 + 4 * i + sumR rs i

/-- a reader that is marked from k on -/
def markR (k : Nat) (r : Int × Mt) : Int × Mt := ((k : Int), ⟨((k + 1 : Nat) : Int), ((k + 2 : Nat) : Int), ((k + 3 : Nat) : Int), marksF (k + 4) r.2.fs⟩)

def marksR (k0 : Nat) (rs : List (Int × Mt)) : List (Int × Mt) := (List.range rs.length).map fun i => markR (kR k0 rs i) (rs.getD i rd0)

theorem marksR_length (k0 : Nat) (rs : List (Int × Mt)) : (marksR k0 rs).length = rs.length := by simp [marksR]

theorem marksR_at {k0 : Nat} {rs : List (Int × Mt)} {k : Nat} {r : Int × Mt} (h : rs[k]? = some r) : (marksR k0 rs)[k]? = some (markR (kR k0 rs k) r) := by
  have hk : k < rs.length := (List.getElem?_eq_some_iff.1 h).1
  unfold marksR
  rw [List.getElem?_map, List.getElem?_range hk, Option.map_some, List.getD_eq_getElem?_getD, h]
  rfl

theorem kR_next {k0 : Nat} {rs : List (Int × Mt)} {k : Nat} {id : Int} {m : Mt} (h : rs[k]? = some (id, m)) : kR k0 rs (k + 1) = kR k0 rs k + 4 + bulkF m.fs := by
  unfold kR
  rw [sumR_succ rs k h]
  omega

theorem kR_mono (k0 : Nat) (rs : List (Int × Mt)) {k : Nat} (hk : k ≤ rs.length) : kR k0 rs k ≤ kR k0 rs rs.length := by
  unfold kR
  have := sumR_mono rs k
  omega

theorem kAt_all (k0 : Nat) (fs : List (Int × List Int)) : kAt k0 fs fs.length = k0 + bulkF fs := by unfold kAt bulkF; omega

theorem frL_set (B : Nat) : ∀ (us : List (Value × List (Int × Value))) (rs : List (Int × Mt)) (k : Nat) (x : Value × List (Int × Value)) (r : Int × Mt), (frL B us rs).set k (freesA B x.1 x.2 r.2.fs) = frL B (us.set k x) (rs.set k r)
  | [], _, _, _, _ => rfl
  | _ :: _, [], k, _, _ => by cases k <;> rfl
  | _ :: _, _ :: _, 0, _, _ => rfl
  | y :: us, q :: rs, k + 1, x, r => congrArg (freesA B y.1 y.2 q.2.fs :: ·) (frL_set B us rs k x r)

theorem frL_length {B : Nat} {us : List (Value × List (Int × Value))} {rs : List (Int × Mt)} (h : us.length = rs.length) : (frL B us rs).length = rs.length := by
  unfold frL
  rw [List.length_zipWith, h, Nat.min_self]

theorem set_app {α : Type} (a b : List α) (k : Nat) (x : α) (h : k < a.length) : (a ++ b).set k x = a.set k x ++ b := by rw [List.set_append_left _ _ h]

/-- the four numbers of a reader are laid into the row -/
theorem rds_set4 {rs : List (Int × Mt)} {us : List Value} {k : Nat} {r : Int × Mt} {u : Value} (hl : us.length = rs.length) (hr : rs[k]? = some r) (hu : us[k]? = some u) (i t a n : Int) :
    ((((rds rs us).set (k * 5) (.int .i64 i)).set (k * 5 + 1) (.int .i64 t)).set (k * 5 + 2) (.int .i64 a)).set (k * 5 + 3) (.int .i64 n) = rds (rs.set k (i, ⟨t, a, n, r.2.fs⟩)) us := by
  have hk : k < rs.length := (List.getElem?_eq_some_iff.1 hr).1
  have h := rds_set rs us k (i, ⟨t, a, n, r.2.fs⟩) u hl hk
  rw [set_same hu] at h
  rw [← h]
  refine (set_same ?_).symm
  have e := (rds_at rs us k r u hr hu).2.2.2.2
  rw [List.getElem?_set_ne (by omega), List.getElem?_set_ne (by omega), List.getElem?_set_ne (by omega), List.getElem?_set_ne (by omega)]
  exact e

theorem rds_fs : ∀ (gs : List (Int × Mt)) (us : List Value) (k : Nat) (i t a n : Int) (fs fs' : List (Int × List Int)), rds (gs.set k (i, ⟨t, a, n, fs⟩)) us = rds (gs.set k (i, ⟨t, a, n, fs'⟩)) us
  | [], _, _, _, _, _, _, _, _ => rfl
  | _ :: _, [], k, _, _, _, _, _, _ => by cases k <;> rfl
  | _ :: _, _ :: _, 0, _, _, _, _, _, _ => rfl
  | g :: gs, u :: us, k + 1, i, t, a, n, fs, fs' => by
    simp only [List.set_cons_succ, rds]
    rw [rds_fs gs us k i t a n fs fs']

end Go.Proofs.YtbokjfjdjgopeaaGreatDoor

namespace Go.Proofs.YtbokjfjdjgopeaaGreatDoor
open Go.RowKit

end Go.Proofs.YtbokjfjdjgopeaaGreatDoor

namespace Go.Proofs.YtbokjfjdjgopeaaGreatDoor
open Go.RowKit

theorem kAt_pos {k0 : Nat} {fs : List (Int × List Int)} : kAt k0 fs fs.length = k0 + bulkF fs := kAt_all k0 fs

/-- how far a work counts -/
def Wk.cnt (k : Wk) : Nat := k.ps.length + k.ls.length * 2 + k.us.length + k.gs.length + k.fs.length

/-- a work that is marked from k0 on -/
def Wk.marks (k0 : Nat) (k : Wk) : Wk := marksW k0 k.ps.length k.ls.length k.us.length k.gs.length k.fs.length k.next

/-- where a store's parts are counted from -/
def St.k1 (k0 : Nat) (s : St) : Nat := k0 + s.ps.length + s.ls.length * 2
def St.k2 (k0 : Nat) (s : St) : Nat := s.k1 k0 + bulkF s.m.fs
def St.k3 (k0 : Nat) (s : St) : Nat := kR (s.k2 k0) s.rs s.rs.length
def St.k4 (k0 : Nat) (s : St) : Nat := s.k3 k0 + bulkF s.tm.fs + s.tk.cnt

/-- a store that is marked from k0 on -/
def St.marks (k0 : Nat) (s : St) : St := ⟨marksS k0 s.ps.length, marksP (k0 + s.ps.length) s.ls.length, ⟨s.m.tx, s.m.root, s.m.next, marksF (s.k1 k0) s.m.fs⟩, marksR (s.k2 k0) s.rs, ⟨s.tm.tx, s.tm.root, s.tm.next, marksF (s.k3 k0) s.tm.fs⟩, s.tk.marks (s.k3 k0 + bulkF s.tm.fs), s.tr, s.wr, s.fl⟩

/-- a store that may be marked -/
def St.may (s : St) : Prop := (s.ps.length ≤ 1048576 ∧ s.ls.length ≤ 1048576) ∧ (s.m.fs.length ≤ 1048576 ∧ (∀ f ∈ s.m.fs, f.2.length ≤ 1048576) ∧ bulkF s.m.fs ≤ 1048576) ∧ (s.rs.length ≤ 1048576 ∧ (∀ r ∈ s.rs, r.2.fs.length ≤ 1048576 ∧ (∀ f ∈ r.2.fs, f.2.length ≤ 1048576) ∧ bulkF r.2.fs ≤ 1048576) ∧ sumR s.rs s.rs.length ≤ 4194304) ∧ (s.tm.fs.length ≤ 1048576 ∧ (∀ f ∈ s.tm.fs, f.2.length ≤ 1048576) ∧ bulkF s.tm.fs ≤ 1048576) ∧ s.tk.small

end Go.Proofs.YtbokjfjdjgopeaaGreatDoor

namespace Go.Proofs.YtbokjfjdjgopeaaGreatDoor
open Go.RowKit

theorem Tryz.sizeTxn : (Tryz.prog.info? 50).map (·.size) = some 11 := by kernel_rfl

theorem Tryz.sizeStore : (Tryz.prog.info? 52).map (·.size) = some 20 := by kernel_rfl

set_option maxHeartbeats 16000000 in
set_option maxRecDepth 100000 in
theorem toStore_any (v : Value) (s : St) (hs : s.small) (w : World) (hd : StAt w v s) :
    Calls Tryz.prog 6 #[v] w fun e w' => ∃ v', e = .returned v' ∧ StOwn w' w.heap.size v' s ∧ Below w.heap.size w w' := by
  obtain ⟨vp, vl, vf, vR, vr, up, ul, uu, ug, uf, rfl, h1, h2, h3, h4⟩ := hd
  obtain ⟨mt, e1⟩ : ∃ n, n = s.m.tx := ⟨_, rfl⟩
  obtain ⟨mr, e2⟩ : ∃ n, n = s.m.root := ⟨_, rfl⟩
  obtain ⟨mn, e3⟩ : ∃ n, n = s.m.next := ⟨_, rfl⟩
  obtain ⟨tt, e4⟩ : ∃ n, n = s.tm.tx := ⟨_, rfl⟩
  obtain ⟨ur, e5⟩ : ∃ n, n = s.tm.root := ⟨_, rfl⟩
  obtain ⟨tn, e6⟩ : ∃ n, n = s.tm.next := ⟨_, rfl⟩
  obtain ⟨wn, e7⟩ : ∃ n, n = s.tk.next := ⟨_, rfl⟩
  obtain ⟨tr, e8⟩ : ∃ n, n = s.tr := ⟨_, rfl⟩
  obtain ⟨bw, e9⟩ : ∃ n, n = s.wr := ⟨_, rfl⟩
  obtain ⟨bf, e10⟩ : ∃ n, n = s.fl := ⟨_, rfl⟩
  have HL : Hid (mt = s.m.tx ∧ mr = s.m.root ∧ mn = s.m.next ∧ tt = s.tm.tx ∧ ur = s.tm.root ∧ tn = s.tm.next ∧ wn = s.tk.next ∧ tr = s.tr ∧ bw = s.wr ∧ bf = s.fl) := hide ⟨e1, e2, e3, e4, e5, e6, e7, e8, e9, e10⟩
  rw [← e1, ← e2, ← e3] at h2
  rw [← e4, ← e5, ← e6, ← e7, ← e8] at h4
  rw [← e1, ← e2, ← e3, ← e4, ← e5, ← e6, ← e7, ← e8, ← e9, ← e10]
  have HD := hide h1
  have HM := hide h2
  have HR := hide h3
  have HT := hide h4
  clear h1 h2 h3 h4 e1 e2 e3 e4 e5 e6 e7 e8 e9 e10
  obtain ⟨f1, f2, f3, f4, f5⟩ := hs
  have HC0 := hide (fun a wx h => toDisk_any a s.ps s.ls f1.1 f1.2.2.1 wx h)
  have HC1 := hide (fun a wx h => toMeta_any a s.m f2.1 f2.2 wx h)
  have HC2 := hide (fun a wx h => toReaderS_any s.rs f3.1 f3.2 a wx h)
  have HC3 := hide (fun a wx h => toTxn_any a s.tm s.tk tr f4.1 f4.2 f5 wx h)
  clear f1 f2 f3 f4 f5
  obtain ⟨a0, ha0⟩ : ∃ a, a = w.heap.size := ⟨_, rfl⟩
  have hS0 := sep_new (sep_new (sep_new (sep_nil w.heap.size w) (Obj.cells #[vp, vl, .int .i64 mt, .int .i64 mr, .int .i64 mn, vf, vR, .int .i64 tt, .int .i64 ur, .int .i64 tn, vr, up, ul, .int .i64 wn, uu, ug, uf, .int .i64 tr, .bool bw, .bool bf] 36) (Nat.le_refl _)) (Obj.cells #[.slice none 0 0, .slice none 0 0, .int .i64 0, .int .i64 0, .int .i64 0, .slice none 0 0, .slice none 0 0, .int .i64 0, .int .i64 0, .int .i64 0, .slice none 0 0, .slice none 0 0, .slice none 0 0, .int .i64 0, .slice none 0 0, .slice none 0 0, .slice none 0 0, .int .i64 0, .bool false, .bool false] 52) (by simp)) (Obj.cells #[.slice none 0 0, .slice none 0 0, .int .i64 0, .int .i64 0, .int .i64 0, .slice none 0 0, .slice none 0 0, .int .i64 0, .int .i64 0, .int .i64 0, .slice none 0 0, .slice none 0 0, .slice none 0 0, .int .i64 0, .slice none 0 0, .slice none 0 0, .slice none 0 0, .int .i64 0, .bool false, .bool false] 52) (by simp; omega)
  obtain ⟨w0, hw0⟩ : ∃ w0, w0 = ((w.alloc (Obj.cells #[vp, vl, .int .i64 mt, .int .i64 mr, .int .i64 mn, vf, vR, .int .i64 tt, .int .i64 ur, .int .i64 tn, vr, up, ul, .int .i64 wn, uu, ug, uf, .int .i64 tr, .bool bw, .bool bf] 36)).alloc (Obj.cells #[.slice none 0 0, .slice none 0 0, .int .i64 0, .int .i64 0, .int .i64 0, .slice none 0 0, .slice none 0 0, .int .i64 0, .int .i64 0, .int .i64 0, .slice none 0 0, .slice none 0 0, .slice none 0 0, .int .i64 0, .slice none 0 0, .slice none 0 0, .slice none 0 0, .int .i64 0, .bool false, .bool false] 52)).alloc (Obj.cells #[.slice none 0 0, .slice none 0 0, .int .i64 0, .int .i64 0, .int .i64 0, .slice none 0 0, .slice none 0 0, .int .i64 0, .int .i64 0, .int .i64 0, .slice none 0 0, .slice none 0 0, .slice none 0 0, .int .i64 0, .slice none 0 0, .slice none 0 0, .slice none 0 0, .int .i64 0, .bool false, .bool false] 52) := ⟨_, rfl⟩
  rw [World.size_alloc, World.size_alloc, ← hw0, ← ha0] at hS0
  have HS0 := hide hS0
  have HB0 : Hid (Below w.heap.size w w0) := hide (by rw [hw0]; exact (((Below.refl w.heap.size w).alloc (Nat.le_refl _) _).alloc (by simp) _).alloc (by simp; omega) _)
  have HZ0 : Hid (a0 ≤ w0.heap.size) := hide (by rw [hw0, ha0]; simp; omega)
  have HA := hide ha0
  have hg2 : w.heap.size ≤ a0 + 1 + 1 := by omega
  have hg1 : w.heap.size ≤ a0 + 1 := by omega
  clear hS0 ha0
  go_enter Tryz.func6, Tryz.ntmps6
  go_wp2_with fail
  rw [← hw0, ← HA.out]
  clear hw0
  refine (HC0.out _ _ (disk_below HD.out HB0.out)).mono ?_
  rintro e w1 ⟨v1, rfl, ho, hb⟩
  obtain ⟨p1, q1, p2, q2, ev⟩ := disk_form ho
  subst ev
  have HS1 := hide (sep_add HS0.out hb (diskA a0 _ s.ps s.ls) (disk_downQ ho HZ0.out) (fun j hj => diskOwn_lt ho j hj) HZ0.out)
  have HB1 : Hid (Below w.heap.size w w1) := hide (HB0.out.trans (hb.mono HB0.out.size))
  have HZ1 : Hid (a0 ≤ w1.heap.size) := hide (Nat.le_trans HZ0.out hb.size)
  clear hb ho
  obtain ⟨n1, hn1⟩ : ∃ n, n = s.ps.length := ⟨_, rfl⟩
  obtain ⟨n2, hn2⟩ : ∃ n, n = s.ls.length := ⟨_, rfl⟩
  rw [← hn1, ← hn2] at HS1 ⊢
  have HN0 := hide (⟨hn1, hn2⟩ : _ ∧ _)
  clear hn1 hn2
  have HV : Hid (w1.heap[a0 + 1 + 1]? = some (Obj.cells #[.slice none 0 0, .slice none 0 0, .int .i64 0, .int .i64 0, .int .i64 0, .slice none 0 0, .slice none 0 0, .int .i64 0, .int .i64 0, .int .i64 0, .slice none 0 0, .slice none 0 0, .slice none 0 0, .int .i64 0, .slice none 0 0, .slice none 0 0, .slice none 0 0, .int .i64 0, .bool false, .bool false] 52)) := hide (sep_get HS1.out 1 rfl)
  have y0 : w1.cell? ⟨a0 + 1 + 1, 0, none⟩ = some (.slice none 0 0) := (cell_at HV.out 0).1
  have z0 : w1.frozen? ⟨a0 + 1 + 1, 0, none⟩ = false := (cell_at HV.out 0).2
  have y1 : w1.cell? ⟨a0 + 1 + 1, 1, none⟩ = some (.slice none 0 0) := (cell_at HV.out 1).1
  have z1 : w1.frozen? ⟨a0 + 1 + 1, 1, none⟩ = false := (cell_at HV.out 1).2
  clear HV
  go_upto_region 3 with fail
  clear y0 y1 z0 z1
  have HS2 : Hid (Sep a0 ((w1.setCell ⟨a0 + 1 + 1, 0, none⟩ (.slice p1 n1 q1)).setCell ⟨a0 + 1 + 1, 1, none⟩ (.slice p2 n2 q2)) _) := hide (sep_store (sep_store HS1.out 1 rfl 0 (.slice p1 n1 q1)) 1 rfl 1 (.slice p2 n2 q2))
  obtain ⟨w2, hw2⟩ : ∃ wx, wx = ((w1.setCell ⟨a0 + 1 + 1, 0, none⟩ (.slice p1 n1 q1)).setCell ⟨a0 + 1 + 1, 1, none⟩ (.slice p2 n2 q2)) := ⟨_, rfl⟩
  have HB2 : Hid (Below w.heap.size w w2) := hide (by rw [hw2]; exact ((HB1.out.setCell (p := ⟨a0 + 1 + 1, 0, none⟩) hg2 (.slice p1 n1 q1)).setCell (p := ⟨a0 + 1 + 1, 1, none⟩) hg2 (.slice p2 n2 q2)))
  have HZ2 : Hid (a0 ≤ w2.heap.size) := hide (by rw [hw2]; have := HZ1.out; simp; omega)
  rw [← hw2] at HS2 ⊢
  clear hw2
  have HV : Hid (w2.heap[a0]? = some (Obj.cells #[vp, vl, .int .i64 mt, .int .i64 mr, .int .i64 mn, vf, vR, .int .i64 tt, .int .i64 ur, .int .i64 tn, vr, up, ul, .int .i64 wn, uu, ug, uf, .int .i64 tr, .bool bw, .bool bf] 36)) := hide (sep_get HS2.out 3 rfl)
  have x2 : w2.cell? ⟨a0, 2, none⟩ = some (.int .i64 mt) := (cell_at HV.out 2).1
  have x3 : w2.cell? ⟨a0, 3, none⟩ = some (.int .i64 mr) := (cell_at HV.out 3).1
  have x4 : w2.cell? ⟨a0, 4, none⟩ = some (.int .i64 mn) := (cell_at HV.out 4).1
  have x5 : w2.cell? ⟨a0, 5, none⟩ = some (vf) := (cell_at HV.out 5).1
  clear HV
  go_wp2_with fail
  clear x2 x3 x4 x5
  refine (HC1.out _ _ (meta_below HM.out HB2.out)).mono ?_
  rintro e w3 ⟨v1, rfl, hm, hb⟩
  obtain ⟨xr, l1, ev, ho⟩ := hm
  obtain ⟨p3, q3, rfl⟩ := own_slice ho.1
  rw [← HL.out.1, ← HL.out.2.1, ← HL.out.2.2.1] at ev
  subst ev
  have HS3 := hide (sep_add HS2.out hb (freesA a0 (.slice p3 s.m.fs.length q3) l1 s.m.fs) (ownF_down ho HZ2.out) (fun j hj => ownF_lt ho j hj) HZ2.out)
  have HB3 : Hid (Below w.heap.size w w3) := hide (HB2.out.trans (hb.mono HB2.out.size))
  have HZ3 : Hid (a0 ≤ w3.heap.size) := hide (Nat.le_trans HZ2.out hb.size)
  clear hb ho
  obtain ⟨n3, hn3⟩ : ∃ n, n = s.m.fs.length := ⟨_, rfl⟩
  rw [← hn3] at HS3 ⊢
  have HN1 := hide (hn3)
  clear hn3
  have HV : Hid (w3.heap[a0 + 1 + 1]? = some (Obj.cells #[.slice p1 n1 q1, .slice p2 n2 q2, .int .i64 0, .int .i64 0, .int .i64 0, .slice none 0 0, .slice none 0 0, .int .i64 0, .int .i64 0, .int .i64 0, .slice none 0 0, .slice none 0 0, .slice none 0 0, .int .i64 0, .slice none 0 0, .slice none 0 0, .slice none 0 0, .int .i64 0, .bool false, .bool false] 52)) := hide (sep_get HS3.out 2 rfl)
  have y2 : w3.cell? ⟨a0 + 1 + 1, 2, none⟩ = some (.int .i64 0) := (cell_at HV.out 2).1
  have z2 : w3.frozen? ⟨a0 + 1 + 1, 2, none⟩ = false := (cell_at HV.out 2).2
  have y3 : w3.cell? ⟨a0 + 1 + 1, 3, none⟩ = some (.int .i64 0) := (cell_at HV.out 3).1
  have z3 : w3.frozen? ⟨a0 + 1 + 1, 3, none⟩ = false := (cell_at HV.out 3).2
  have y4 : w3.cell? ⟨a0 + 1 + 1, 4, none⟩ = some (.int .i64 0) := (cell_at HV.out 4).1
  have z4 : w3.frozen? ⟨a0 + 1 + 1, 4, none⟩ = false := (cell_at HV.out 4).2
  have y5 : w3.cell? ⟨a0 + 1 + 1, 5, none⟩ = some (.slice none 0 0) := (cell_at HV.out 5).1
  have z5 : w3.frozen? ⟨a0 + 1 + 1, 5, none⟩ = false := (cell_at HV.out 5).2
  clear HV
  go_upto_region 4 with fail
  clear y2 y3 y4 y5 z2 z3 z4 z5
  have HS4 : Hid (Sep a0 ((((w3.setCell ⟨a0 + 1 + 1, 2, none⟩ (.int .i64 mt)).setCell ⟨a0 + 1 + 1, 3, none⟩ (.int .i64 mr)).setCell ⟨a0 + 1 + 1, 4, none⟩ (.int .i64 mn)).setCell ⟨a0 + 1 + 1, 5, none⟩ (.slice p3 n3 q3)) _) := hide (sep_store (sep_store (sep_store (sep_store HS3.out 2 rfl 2 (.int .i64 mt)) 2 rfl 3 (.int .i64 mr)) 2 rfl 4 (.int .i64 mn)) 2 rfl 5 (.slice p3 n3 q3))
  obtain ⟨w4, hw4⟩ : ∃ wx, wx = ((((w3.setCell ⟨a0 + 1 + 1, 2, none⟩ (.int .i64 mt)).setCell ⟨a0 + 1 + 1, 3, none⟩ (.int .i64 mr)).setCell ⟨a0 + 1 + 1, 4, none⟩ (.int .i64 mn)).setCell ⟨a0 + 1 + 1, 5, none⟩ (.slice p3 n3 q3)) := ⟨_, rfl⟩
  have HB4 : Hid (Below w.heap.size w w4) := hide (by rw [hw4]; exact ((((HB3.out.setCell (p := ⟨a0 + 1 + 1, 2, none⟩) hg2 (.int .i64 mt)).setCell (p := ⟨a0 + 1 + 1, 3, none⟩) hg2 (.int .i64 mr)).setCell (p := ⟨a0 + 1 + 1, 4, none⟩) hg2 (.int .i64 mn)).setCell (p := ⟨a0 + 1 + 1, 5, none⟩) hg2 (.slice p3 n3 q3)))
  have HZ4 : Hid (a0 ≤ w4.heap.size) := hide (by rw [hw4]; have := HZ3.out; simp; omega)
  rw [← hw4] at HS4 ⊢
  clear hw4
  have HV : Hid (w4.heap[a0]? = some (Obj.cells #[vp, vl, .int .i64 mt, .int .i64 mr, .int .i64 mn, vf, vR, .int .i64 tt, .int .i64 ur, .int .i64 tn, vr, up, ul, .int .i64 wn, uu, ug, uf, .int .i64 tr, .bool bw, .bool bf] 36)) := hide (sep_get HS4.out 4 rfl)
  have x6 : w4.cell? ⟨a0, 6, none⟩ = some (vR) := (cell_at HV.out 6).1
  clear HV
  go_wp2_with fail
  clear x6
  refine (HC2.out _ _ (rds_below HR.out HB4.out)).mono ?_
  rintro e w5 ⟨v1, us, rfl, hus, ho, hb⟩
  obtain ⟨p4, q4, rfl⟩ := own_slice (sep_get ho 0 rfl)
  have HUs := hide hus
  have HS5 := hide (sep_pack (sep_joinL HS4.out hb ho (asIs_rds HZ4.out _ us s.rs) HZ4.out))
  have HB5 : Hid (Below w.heap.size w w5) := hide (HB4.out.trans (hb.mono HB4.out.size))
  have HZ5 : Hid (a0 ≤ w5.heap.size) := hide (Nat.le_trans HZ4.out hb.size)
  clear hb ho
  clear hus
  obtain ⟨n4, hn4⟩ : ∃ n, n = s.rs.length := ⟨_, rfl⟩
  rw [← hn4] at HS5 ⊢
  have HN2 := hide (hn4)
  clear hn4
  have HV : Hid (w5.heap[a0 + 1 + 1]? = some (Obj.cells #[.slice p1 n1 q1, .slice p2 n2 q2, .int .i64 mt, .int .i64 mr, .int .i64 mn, .slice p3 n3 q3, .slice none 0 0, .int .i64 0, .int .i64 0, .int .i64 0, .slice none 0 0, .slice none 0 0, .slice none 0 0, .int .i64 0, .slice none 0 0, .slice none 0 0, .slice none 0 0, .int .i64 0, .bool false, .bool false] 52)) := hide (sep_get HS5.out 3 rfl)
  have y6 : w5.cell? ⟨a0 + 1 + 1, 6, none⟩ = some (.slice none 0 0) := (cell_at HV.out 6).1
  have z6 : w5.frozen? ⟨a0 + 1 + 1, 6, none⟩ = false := (cell_at HV.out 6).2
  clear HV
  go_upto_region 5 with fail
  clear y6 z6
  have HS6 : Hid (Sep a0 (w5.setCell ⟨a0 + 1 + 1, 6, none⟩ (.slice p4 n4 q4)) _) := hide (sep_store HS5.out 3 rfl 6 (.slice p4 n4 q4))
  obtain ⟨w6, hw6⟩ : ∃ wx, wx = (w5.setCell ⟨a0 + 1 + 1, 6, none⟩ (.slice p4 n4 q4)) := ⟨_, rfl⟩
  have HB6 : Hid (Below w.heap.size w w6) := hide (by rw [hw6]; exact (HB5.out.setCell (p := ⟨a0 + 1 + 1, 6, none⟩) hg2 (.slice p4 n4 q4)))
  have HZ6 : Hid (a0 ≤ w6.heap.size) := hide (by rw [hw6]; have := HZ5.out; simp; omega)
  rw [← hw6] at HS6 ⊢
  clear hw6
  have HV : Hid (w6.heap[a0]? = some (Obj.cells #[vp, vl, .int .i64 mt, .int .i64 mr, .int .i64 mn, vf, vR, .int .i64 tt, .int .i64 ur, .int .i64 tn, vr, up, ul, .int .i64 wn, uu, ug, uf, .int .i64 tr, .bool bw, .bool bf] 36)) := hide (sep_get HS6.out 5 rfl)
  have x7 : w6.cell? ⟨a0, 7, none⟩ = some (.int .i64 tt) := (cell_at HV.out 7).1
  have x8 : w6.cell? ⟨a0, 8, none⟩ = some (.int .i64 ur) := (cell_at HV.out 8).1
  have x9 : w6.cell? ⟨a0, 9, none⟩ = some (.int .i64 tn) := (cell_at HV.out 9).1
  have x10 : w6.cell? ⟨a0, 10, none⟩ = some (vr) := (cell_at HV.out 10).1
  have x11 : w6.cell? ⟨a0, 11, none⟩ = some (up) := (cell_at HV.out 11).1
  have x12 : w6.cell? ⟨a0, 12, none⟩ = some (ul) := (cell_at HV.out 12).1
  have x13 : w6.cell? ⟨a0, 13, none⟩ = some (.int .i64 wn) := (cell_at HV.out 13).1
  have x14 : w6.cell? ⟨a0, 14, none⟩ = some (uu) := (cell_at HV.out 14).1
  have x15 : w6.cell? ⟨a0, 15, none⟩ = some (ug) := (cell_at HV.out 15).1
  have x16 : w6.cell? ⟨a0, 16, none⟩ = some (uf) := (cell_at HV.out 16).1
  have x17 : w6.cell? ⟨a0, 17, none⟩ = some (.int .i64 tr) := (cell_at HV.out 17).1
  clear HV
  go_wp2_with fail
  clear x7 x8 x9 x10 x11 x12 x13 x14 x15 x16 x17
  refine (HC3.out _ _ (txn_below HT.out HB6.out)).mono ?_
  rintro e w7 ⟨v1, rfl, hm, hb⟩
  obtain ⟨l2, p5, q5, p6, q6, p7, q7, p8, q8, p9, q9, p10, q10, ev, ho⟩ := hm
  rw [← HL.out.2.2.2.1, ← HL.out.2.2.2.2.1, ← HL.out.2.2.2.2.2.1, ← HL.out.2.2.2.2.2.2.1] at ev
  rw [← HL.out.2.2.2.2.2.2.1] at ho
  subst ev
  have HS7 := hide (sep_joinL (l'' := [freesA a0 (.slice p5 s.tm.fs.length q5) l2 s.tm.fs, workA a0 (.agg #[.slice p6 s.tk.ps.length q6, .slice p7 s.tk.ls.length q7, .int .i64 wn, .slice p8 s.tk.us.length q8, .slice p9 s.tk.gs.length q9, .slice p10 s.tk.fs.length q10]) s.tk]) HS6.out hb ho ⟨asIs_frees HZ6.out _ _ _, asIs_work HZ6.out _ _, trivial⟩ HZ6.out)
  have HB7 : Hid (Below w.heap.size w w7) := hide (HB6.out.trans (hb.mono HB6.out.size))
  have HZ7 : Hid (a0 ≤ w7.heap.size) := hide (Nat.le_trans HZ6.out hb.size)
  clear hb ho
  obtain ⟨n5, hn5⟩ : ∃ n, n = s.tm.fs.length := ⟨_, rfl⟩
  obtain ⟨n6, hn6⟩ : ∃ n, n = s.tk.ps.length := ⟨_, rfl⟩
  obtain ⟨n7, hn7⟩ : ∃ n, n = s.tk.ls.length := ⟨_, rfl⟩
  obtain ⟨n8, hn8⟩ : ∃ n, n = s.tk.us.length := ⟨_, rfl⟩
  obtain ⟨n9, hn9⟩ : ∃ n, n = s.tk.gs.length := ⟨_, rfl⟩
  obtain ⟨n10, hn10⟩ : ∃ n, n = s.tk.fs.length := ⟨_, rfl⟩
  rw [← hn5, ← hn6, ← hn7, ← hn8, ← hn9, ← hn10] at HS7 ⊢
  have HN3 := hide (⟨hn5, hn6, hn7, hn8, hn9, hn10⟩ : _ ∧ _ ∧ _ ∧ _ ∧ _ ∧ _)
  clear hn5 hn6 hn7 hn8 hn9 hn10
  have HTh : Hid (w7.there (a0 + 1 + 1) 7 (#[.int .i64 tt, .int .i64 ur, .int .i64 tn, .slice p5 n5 q5, .slice p6 n6 q6, .slice p7 n7 q7, .int .i64 wn, .slice p8 n8 q8, .slice p9 n9 q9, .slice p10 n10 q10, .int .i64 tr] : Array Value).size) := hide (there_of (sep_get HS7.out 5 rfl : w7.heap[a0 + 1 + 1]? = some (Obj.cells #[.slice p1 n1 q1, .slice p2 n2 q2, .int .i64 mt, .int .i64 mr, .int .i64 mn, .slice p3 n3 q3, .slice p4 n4 q4, .int .i64 0, .int .i64 0, .int .i64 0, .slice none 0 0, .slice none 0 0, .slice none 0 0, .int .i64 0, .slice none 0 0, .slice none 0 0, .slice none 0 0, .int .i64 0, .bool false, .bool false] 52)) 7 11 (show 7 + 11 ≤ 20 by decide))
  obtain ⟨w8, hw8⟩ : ∃ wx, wx = w7.setCells (a0 + 1 + 1) 7 (#[.int .i64 tt, .int .i64 ur, .int .i64 tn, .slice p5 n5 q5, .slice p6 n6 q6, .slice p7 n7 q7, .int .i64 wn, .slice p8 n8 q8, .slice p9 n9 q9, .slice p10 n10 q10, .int .i64 tr] : Array Value).toList := ⟨_, rfl⟩
  have HS8 := sep_cellsTo HS7.out 5 rfl 7 (#[.int .i64 tt, .int .i64 ur, .int .i64 tn, .slice p5 n5 q5, .slice p6 n6 q6, .slice p7 n7 q7, .int .i64 wn, .slice p8 n8 q8, .slice p9 n9 q9, .slice p10 n10 q10, .int .i64 tr] : Array Value).toList #[.slice p1 n1 q1, .slice p2 n2 q2, .int .i64 mt, .int .i64 mr, .int .i64 mn, .slice p3 n3 q3, .slice p4 n4 q4, .int .i64 tt, .int .i64 ur, .int .i64 tn, .slice p5 n5 q5, .slice p6 n6 q6, .slice p7 n7 q7, .int .i64 wn, .slice p8 n8 q8, .slice p9 n9 q9, .slice p10 n10 q10, .int .i64 tr, .bool false, .bool false] (by kernel_rfl)
  have HB8 := below_cells hg2 (#[.int .i64 tt, .int .i64 ur, .int .i64 tn, .slice p5 n5 q5, .slice p6 n6 q6, .slice p7 n7 q7, .int .i64 wn, .slice p8 n8 q8, .slice p9 n9 q9, .slice p10 n10 q10, .int .i64 tr] : Array Value).toList 7 w7 HB7.out
  have HZ8 : Hid (a0 ≤ w8.heap.size) := hide (by rw [hw8, size_cells]; exact HZ7.out)
  rw [← hw8] at HS8 HB8
  have HW8 := hide hw8.symm
  have HS8 := hide HS8
  have HB8 := hide HB8
  clear hw8
  go_upto_region 6 with ((with_reducible refine wpList_storeL ?_ 50 (.tmp 19) (.tmp 18) ?_ (a0 + 1 + 1) 7 #[.int .i64 tt, .int .i64 ur, .int .i64 tn, .slice p5 n5 q5, .slice p6 n6 q6, .slice p7 n7 q7, .int .i64 wn, .slice p8 n8 q8, .slice p9 n9 q9, .slice p10 n10 q10, .int .i64 tr] ?_ ?_ HTh.out ?_ ?_ HW8.out ?_); exact rfl; exact rfl; exact rfl; exact rfl; exact Tryz.sizeTxn; exact rfl)
  clear HTh HW8
  have HV : Hid (w8.heap[a0]? = some (Obj.cells #[vp, vl, .int .i64 mt, .int .i64 mr, .int .i64 mn, vf, vR, .int .i64 tt, .int .i64 ur, .int .i64 tn, vr, up, ul, .int .i64 wn, uu, ug, uf, .int .i64 tr, .bool bw, .bool bf] 36)) := hide (sep_get HS8.out 7 rfl)
  have x18 : w8.cell? ⟨a0, 18, none⟩ = some (.bool bw) := (cell_at HV.out 18).1
  have x19 : w8.cell? ⟨a0, 19, none⟩ = some (.bool bf) := (cell_at HV.out 19).1
  clear HV
  have HV : Hid (w8.heap[a0 + 1 + 1]? = some (Obj.cells #[.slice p1 n1 q1, .slice p2 n2 q2, .int .i64 mt, .int .i64 mr, .int .i64 mn, .slice p3 n3 q3, .slice p4 n4 q4, .int .i64 tt, .int .i64 ur, .int .i64 tn, .slice p5 n5 q5, .slice p6 n6 q6, .slice p7 n7 q7, .int .i64 wn, .slice p8 n8 q8, .slice p9 n9 q9, .slice p10 n10 q10, .int .i64 tr, .bool false, .bool false] 52)) := hide (sep_get HS8.out 5 rfl)
  have y18 : w8.cell? ⟨a0 + 1 + 1, 18, none⟩ = some (.bool false) := (cell_at HV.out 18).1
  have z18 : w8.frozen? ⟨a0 + 1 + 1, 18, none⟩ = false := (cell_at HV.out 18).2
  have y19 : w8.cell? ⟨a0 + 1 + 1, 19, none⟩ = some (.bool false) := (cell_at HV.out 19).1
  have z19 : w8.frozen? ⟨a0 + 1 + 1, 19, none⟩ = false := (cell_at HV.out 19).2
  clear HV
  have hne : a0 ≠ a0 + 1 + 1 := by omega
  go_upto_region 8 with fail
  clear x18 x19 y18 y19 z18 z19 hne
  have HS9 : Hid (Sep a0 ((w8.setCell ⟨a0 + 1 + 1, 18, none⟩ (.bool bw)).setCell ⟨a0 + 1 + 1, 19, none⟩ (.bool bf)) _) := hide (sep_store (sep_store HS8.out 5 rfl 18 (.bool bw)) 5 rfl 19 (.bool bf))
  obtain ⟨w9, hw9⟩ : ∃ wx, wx = ((w8.setCell ⟨a0 + 1 + 1, 18, none⟩ (.bool bw)).setCell ⟨a0 + 1 + 1, 19, none⟩ (.bool bf)) := ⟨_, rfl⟩
  have HB9 : Hid (Below w.heap.size w w9) := hide (by rw [hw9]; exact ((HB8.out.setCell (p := ⟨a0 + 1 + 1, 18, none⟩) hg2 (.bool bw)).setCell (p := ⟨a0 + 1 + 1, 19, none⟩) hg2 (.bool bf)))
  have HZ9 : Hid (a0 ≤ w9.heap.size) := hide (by rw [hw9]; have := HZ8.out; simp; omega)
  rw [← hw9] at HS9 ⊢
  clear hw9
  have HRg : Hid (w9.rangeAt (a0 + 1 + 1) 0 (#[.slice p1 n1 q1, .slice p2 n2 q2, .int .i64 mt, .int .i64 mr, .int .i64 mn, .slice p3 n3 q3, .slice p4 n4 q4, .int .i64 tt, .int .i64 ur, .int .i64 tn, .slice p5 n5 q5, .slice p6 n6 q6, .slice p7 n7 q7, .int .i64 wn, .slice p8 n8 q8, .slice p9 n9 q9, .slice p10 n10 q10, .int .i64 tr, .bool bw, .bool bf] : Array Value).toList) := hide (range_all (sep_get HS9.out 5 rfl : w9.heap[a0 + 1 + 1]? = some (Obj.cells #[.slice p1 n1 q1, .slice p2 n2 q2, .int .i64 mt, .int .i64 mr, .int .i64 mn, .slice p3 n3 q3, .slice p4 n4 q4, .int .i64 tt, .int .i64 ur, .int .i64 tn, .slice p5 n5 q5, .slice p6 n6 q6, .slice p7 n7 q7, .int .i64 wn, .slice p8 n8 q8, .slice p9 n9 q9, .slice p10 n10 q10, .int .i64 tr, .bool bw, .bool bf] 52)))
  have HTh : Hid (w9.there (a0 + 1) 0 (#[.slice p1 n1 q1, .slice p2 n2 q2, .int .i64 mt, .int .i64 mr, .int .i64 mn, .slice p3 n3 q3, .slice p4 n4 q4, .int .i64 tt, .int .i64 ur, .int .i64 tn, .slice p5 n5 q5, .slice p6 n6 q6, .slice p7 n7 q7, .int .i64 wn, .slice p8 n8 q8, .slice p9 n9 q9, .slice p10 n10 q10, .int .i64 tr, .bool bw, .bool bf] : Array Value).size) := hide (there_of (sep_get HS9.out 6 rfl : w9.heap[a0 + 1]? = some (Obj.cells #[.slice none 0 0, .slice none 0 0, .int .i64 0, .int .i64 0, .int .i64 0, .slice none 0 0, .slice none 0 0, .int .i64 0, .int .i64 0, .int .i64 0, .slice none 0 0, .slice none 0 0, .slice none 0 0, .int .i64 0, .slice none 0 0, .slice none 0 0, .slice none 0 0, .int .i64 0, .bool false, .bool false] 52)) 0 20 (show 0 + 20 ≤ 20 by decide))
  obtain ⟨wf, hwf⟩ : ∃ wf, wf = w9.setCells (a0 + 1) 0 (#[.slice p1 n1 q1, .slice p2 n2 q2, .int .i64 mt, .int .i64 mr, .int .i64 mn, .slice p3 n3 q3, .slice p4 n4 q4, .int .i64 tt, .int .i64 ur, .int .i64 tn, .slice p5 n5 q5, .slice p6 n6 q6, .slice p7 n7 q7, .int .i64 wn, .slice p8 n8 q8, .slice p9 n9 q9, .slice p10 n10 q10, .int .i64 tr, .bool bw, .bool bf] : Array Value).toList := ⟨_, rfl⟩
  have HSf := sep_cellsAll HS9.out 6 rfl #[.slice p1 n1 q1, .slice p2 n2 q2, .int .i64 mt, .int .i64 mr, .int .i64 mn, .slice p3 n3 q3, .slice p4 n4 q4, .int .i64 tt, .int .i64 ur, .int .i64 tn, .slice p5 n5 q5, .slice p6 n6 q6, .slice p7 n7 q7, .int .i64 wn, .slice p8 n8 q8, .slice p9 n9 q9, .slice p10 n10 q10, .int .i64 tr, .bool bw, .bool bf] rfl
  have HBf := below_cells hg1 (#[.slice p1 n1 q1, .slice p2 n2 q2, .int .i64 mt, .int .i64 mr, .int .i64 mn, .slice p3 n3 q3, .slice p4 n4 q4, .int .i64 tt, .int .i64 ur, .int .i64 tn, .slice p5 n5 q5, .slice p6 n6 q6, .slice p7 n7 q7, .int .i64 wn, .slice p8 n8 q8, .slice p9 n9 q9, .slice p10 n10 q10, .int .i64 tr, .bool bw, .bool bf] : Array Value).toList 0 w9 HB9.out
  rw [← hwf] at HSf HBf
  have HWf := hide hwf.symm
  have HSf := hide HSf
  have HBf := hide HBf
  clear hwf
  go_wp2_with (first | ((with_reducible refine wpList_loadL ?_ 52 (.tmp 3) ?_ (a0 + 1 + 1) 0 ?_ #[.slice p1 n1 q1, .slice p2 n2 q2, .int .i64 mt, .int .i64 mr, .int .i64 mn, .slice p3 n3 q3, .slice p4 n4 q4, .int .i64 tt, .int .i64 ur, .int .i64 tn, .slice p5 n5 q5, .slice p6 n6 q6, .slice p7 n7 q7, .int .i64 wn, .slice p8 n8 q8, .slice p9 n9 q9, .slice p10 n10 q10, .int .i64 tr, .bool bw, .bool bf] HRg.out _ Tryz.underlying52 ?_ ?_ ?_); exact rfl; exact rfl; exact rfl; exact rfl; exact Tryz.sizeStore) | ((with_reducible refine wpList_storeL ?_ 52 (.tmp 2) (.tmp 26) ?_ (a0 + 1) 0 #[.slice p1 n1 q1, .slice p2 n2 q2, .int .i64 mt, .int .i64 mr, .int .i64 mn, .slice p3 n3 q3, .slice p4 n4 q4, .int .i64 tt, .int .i64 ur, .int .i64 tn, .slice p5 n5 q5, .slice p6 n6 q6, .slice p7 n7 q7, .int .i64 wn, .slice p8 n8 q8, .slice p9 n9 q9, .slice p10 n10 q10, .int .i64 tr, .bool bw, .bool bf] ?_ ?_ HTh.out ?_ ?_ HWf.out ?_); exact rfl; exact rfl; exact rfl; exact rfl; exact Tryz.sizeStore; exact rfl))
  have HRf : Hid (wf.rangeAt (a0 + 1) 0 (#[.slice p1 n1 q1, .slice p2 n2 q2, .int .i64 mt, .int .i64 mr, .int .i64 mn, .slice p3 n3 q3, .slice p4 n4 q4, .int .i64 tt, .int .i64 ur, .int .i64 tn, .slice p5 n5 q5, .slice p6 n6 q6, .slice p7 n7 q7, .int .i64 wn, .slice p8 n8 q8, .slice p9 n9 q9, .slice p10 n10 q10, .int .i64 tr, .bool bw, .bool bf] : Array Value).toList) := hide (range_all (sep_get HSf.out 6 rfl))
  refine bodyPost_ret (v := .agg #[.slice p1 n1 q1, .slice p2 n2 q2, .int .i64 mt, .int .i64 mr, .int .i64 mn, .slice p3 n3 q3, .slice p4 n4 q4, .int .i64 tt, .int .i64 ur, .int .i64 tn, .slice p5 n5 q5, .slice p6 n6 q6, .slice p7 n7 q7, .int .i64 wn, .slice p8 n8 q8, .slice p9 n9 q9, .slice p10 n10 q10, .int .i64 tr, .bool bw, .bool bf]) (results_c Tryz.results6 rfl (run_agg HRf.out Tryz.underlying52 rfl Tryz.sizeStore)) rfl ⟨_, rfl, ?_, HBf.out⟩
  have h := sep_pick (pre := [_, _, _, _, _, _, _, _]) (rest := []) HSf.out [4, 3, 2, 0, 1] (by decide) [_, _, _, _, _] rfl
  rw [HN0.out.1, HN0.out.2, HN1.out, HN2.out, HN3.out.1, HN3.out.2.1, HN3.out.2.2.1, HN3.out.2.2.2.1, HN3.out.2.2.2.2.1, HN3.out.2.2.2.2.2] at h ⊢
  refine ⟨p1, q1, p2, q2, p3, q3, p4, q4, p5, q5, p6, q6, p7, q7, p8, q8, p9, q9, p10, q10, l1, l2, us, HUs.out, by rw [HL.out.1, HL.out.2.1, HL.out.2.2.1, HL.out.2.2.2.1, HL.out.2.2.2.2.1, HL.out.2.2.2.2.2.1, HL.out.2.2.2.2.2.2.1, HL.out.2.2.2.2.2.2.2.1, HL.out.2.2.2.2.2.2.2.2.1, HL.out.2.2.2.2.2.2.2.2.2], ?_⟩
  unfold stL
  rw [HL.out.2.2.2.2.2.2.1] at h
  rw [HA.out] at h
  exact h
end Go.Proofs.YtbokjfjdjgopeaaGreatDoor

namespace Go.Proofs.YtbokjfjdjgopeaaGreatDoor
open Go.RowKit

theorem st_arr {w : World} {v : Value} {s : St} (h : StAt w v s) : ∃ cs : Array Value, v = .agg cs ∧ cs.size = 20 := by
  obtain ⟨vp, vl, vf, vR, vr, up, ul, uu, ug, uf, e, -⟩ := h
  exact ⟨_, e, rfl⟩

/-- the things that a store of our own is made of -/
def StThings (B : Nat) (v : Value) (s : St) (L : List Ast) : Prop := ∃ p1 q1 p2 q2 p3 q3 p4 q4 p5 q5 p6 q6 p7 q7 p8 q8 p9 q9 p10 q10 l1 l2 us, us.length = s.rs.length ∧
  v = .agg #[.slice p1 s.ps.length q1, .slice p2 s.ls.length q2, .int .i64 s.m.tx, .int .i64 s.m.root, .int .i64 s.m.next, .slice p3 s.m.fs.length q3, .slice p4 s.rs.length q4, .int .i64 s.tm.tx, .int .i64 s.tm.root, .int .i64 s.tm.next, .slice p5 s.tm.fs.length q5, .slice p6 s.tk.ps.length q6, .slice p7 s.tk.ls.length q7, .int .i64 s.tk.next, .slice p8 s.tk.us.length q8, .slice p9 s.tk.gs.length q9, .slice p10 s.tk.fs.length q10, .int .i64 s.tr, .bool s.wr, .bool s.fl] ∧
  L = stL B s (.slice p1 s.ps.length q1) (.slice p2 s.ls.length q2) (.slice p3 s.m.fs.length q3) (.slice p4 s.rs.length q4) (.slice p5 s.tm.fs.length q5) (.slice p6 s.tk.ps.length q6) (.slice p7 s.tk.ls.length q7) (.slice p8 s.tk.us.length q8) (.slice p9 s.tk.gs.length q9) (.slice p10 s.tk.fs.length q10) l1 l2 us

theorem st_things {w : World} {B : Nat} {v : Value} {s : St} (h : StOwn w B v s) : ∃ L, StThings B v s L ∧ Sep B w L := by
  obtain ⟨p1, q1, p2, q2, p3, q3, p4, q4, p5, q5, p6, q6, p7, q7, p8, q8, p9, q9, p10, q10, l1, l2, us, hu, e, hs⟩ := h
  exact ⟨_, ⟨p1, q1, p2, q2, p3, q3, p4, q4, p5, q5, p6, q6, p7, q7, p8, q8, p9, q9, p10, q10, l1, l2, us, hu, e, rfl⟩, hs⟩

theorem things_own {w : World} {B : Nat} {v : Value} {s : St} {L : List Ast} (h : StThings B v s L) (hs : Sep B w L) : StOwn w B v s := by
  obtain ⟨p1, q1, p2, q2, p3, q3, p4, q4, p5, q5, p6, q6, p7, q7, p8, q8, p9, q9, p10, q10, l1, l2, us, hu, e, rfl⟩ := h
  exact ⟨p1, q1, p2, q2, p3, q3, p4, q4, p5, q5, p6, q6, p7, q7, p8, q8, p9, q9, p10, q10, l1, l2, us, hu, e, hs⟩

theorem things_arr {B : Nat} {v : Value} {s : St} {L : List Ast} (h : StThings B v s L) : ∃ cs : Array Value, v = .agg cs ∧ cs.size = 20 ∧ cs.toList.all (·.oneCell') = true := by
  obtain ⟨p1, q1, p2, q2, p3, q3, p4, q4, p5, q5, p6, q6, p7, q7, p8, q8, p9, q9, p10, q10, l1, l2, us, hu, e, -⟩ := h
  exact ⟨_, e, rfl, rfl⟩

theorem asIs_disk {B B' : Nat} (h : B' ≤ B) (v : Value) (ps : List ByteArray) (ls : List (Int × ByteArray)) : AsIs (diskA B v ps ls) (diskA B' v ps ls) := ⟨fun _ h => h, fun _ hp => disk_downQ hp h⟩

theorem sep_base {B B' : Nat} {W : World} {l : List Ast} (h : Sep B W l) (hB : B' ≤ B) : Sep B' W l := ⟨fun A hA => ⟨(h.1 A hA).1, fun k hk => ⟨Nat.le_trans hB ((h.1 A hA).2 k hk).1, ((h.1 A hA).2 k hk).2⟩⟩, h.2⟩

theorem asIs_pack {B B' : Nat} (h : B' ≤ B) {l l' : List Ast} (hl : AsIsL l l') : AsIs (packA B l) (packA B' l') := by
  refine ⟨?_, fun W hp => sep_base (sep_low l l' hl hp) h⟩
  rintro k ⟨A', hA', hF⟩
  obtain ⟨A, hA, hs⟩ := asIs_mem l l' hl A' hA'
  exact ⟨A, hA, hs.1 k hF⟩

theorem things_down {B B' : Nat} {v : Value} {s : St} {L : List Ast} (h : StThings B v s L) (hB : B' ≤ B) : ∃ L', StThings B' v s L' ∧ AsIsL L L' := by
  obtain ⟨p1, q1, p2, q2, p3, q3, p4, q4, p5, q5, p6, q6, p7, q7, p8, q8, p9, q9, p10, q10, l1, l2, us, hu, e, rfl⟩ := h
  exact ⟨_, ⟨p1, q1, p2, q2, p3, q3, p4, q4, p5, q5, p6, q6, p7, q7, p8, q8, p9, q9, p10, q10, l1, l2, us, hu, e, rfl⟩, asIs_disk hB _ _ _, asIs_frees hB _ _ _, asIs_pack hB (asIs_rds hB _ _ _), asIs_frees hB _ _ _, asIs_work hB _ _, trivial⟩

/-- a store that a call answers, side by side with what was there -/
theorem sep_st {a0 : Nat} {W W' : World} {l : List Ast} {v : Value} {s : St} (h : Sep a0 W l) (hb : Below W.heap.size W W') (ho : StOwn W' W.heap.size v s) (hz : a0 ≤ W.heap.size) : ∃ L, StThings a0 v s L ∧ Sep a0 W' (packA a0 L :: l) := by
  obtain ⟨L, h1, h2⟩ := st_things ho
  obtain ⟨L', h3, h4⟩ := things_down h1 hz
  exact ⟨L', h3, sep_pack (sep_joinL h hb h2 h4 hz)⟩

theorem things_at {a0 B : Nat} {W : World} {l : List Ast} {v : Value} {s : St} {L : List Ast} (h : Sep a0 W l) (i : Nat) (hi : l[i]? = some (packA B L)) (ht : StThings B v s L) : StAt W v s := st_of_own (things_own ht (sep_get h i hi))

theorem marksS_len (k n : Nat) : (marksS k n).length = n := by simp [marksS]

theorem marksP_len (k n : Nat) : (marksP k n).length = n := by simp [marksP]

/-- a store that is small enough may be marked -/
theorem bulkSt_may {s : St} (h : s.bulk ≤ 1048576) : s.may := by
  have hs := bulkSt_in h
  unfold St.bulk bulkT at h
  have hr : bulkR s.rs ≤ 1048576 := by omega
  have hr1 := bulkR_in hr
  refine ⟨⟨hs.1.1, hs.1.2.2.1⟩, ⟨hs.2.1.1, hs.2.1.2, by omega⟩, ⟨hr1.1, fun r hr' => ⟨(bulkF_in (hr1.2 r hr')).1, (bulkF_in (hr1.2 r hr')).2, hr1.2 r hr'⟩, by unfold bulkR at hr; omega⟩, ⟨hs.2.2.2.1.1, hs.2.2.2.1.2, by omega⟩, bulkW_in hs.2.2.2.2⟩

theorem Tryz.sizeL : (Tryz.prog.info? 36).map (·.size) = some 20 := by kernel_rfl
end Go.Proofs.YtbokjfjdjgopeaaGreatDoor

namespace Go.Proofs.YtbokjfjdjgopeaaGreatDoor
open Go.RowKit

/-- the least Tx of the meta and of the first k readers -/
def oldK (s : St) (k : Nat) : Int := (s.rs.take k).foldl (fun n r => if r.2.tx < n then r.2.tx else n) s.m.tx

/-- the least Tx of a store -/
def St.oldest (s : St) : Int := oldK s s.rs.length

theorem oldK_succ {s : St} {k : Nat} {id : Int} {m : Mt} (h : s.rs[k]? = some (id, m)) : oldK s (k + 1) = if m.tx < oldK s k then m.tx else oldK s k := by
  obtain ⟨hk, e⟩ := List.getElem?_eq_some_iff.1 h
  unfold oldK
  rw [List.take_succ_eq_append_getElem hk, List.foldl_append, e]
  rfl

/-- the place of a reader, from k on -/
def atR : List (Int × Mt) → Int → Nat → Int
  | [], _, _ => -1
  | r :: rs, id, k => if r.1 = id then (k : Int) else atR rs id (k + 1)

theorem atR_found : ∀ (rs : List (Int × Mt)) (id : Int) (b k : Nat) {m : Mt}, rs[k]? = some (id, m) → (∀ j q, j < k → rs[j]? = some q → q.1 ≠ id) → atR rs id b = ((b + k : Nat) : Int)
  | [], _, _, _, _, h, _ => by simp at h
  | r :: rs, id, b, 0, m, h, _ => by
    simp only [List.getElem?_cons_zero, Option.some.injEq] at h
    subst h
    simp [atR]
  | r :: rs, id, b, k + 1, m, h, hn => by
    have h0 : ¬ r.1 = id := hn 0 r (by omega) rfl
    rw [atR, if_neg h0, atR_found rs id (b + 1) k (m := m) (by simpa using h) (fun j q hj hq => hn (j + 1) q (by omega) (by simpa using hq))]
    congr 1
    omega

theorem atR_none : ∀ (rs : List (Int × Mt)) (id : Int) (b : Nat), (∀ (j : Nat) q, rs[j]? = some q → q.1 ≠ id) → atR rs id b = -1
  | [], _, _, _ => rfl
  | r :: rs, id, b, hn => by
    have h0 : ¬ r.1 = id := hn 0 r rfl
    rw [atR, if_neg h0]
    exact atR_none rs id (b + 1) (fun j q hq => hn (j + 1) q (by simpa using hq))

theorem atR_cases : ∀ (rs : List (Int × Mt)) (id : Int) (b : Nat), atR rs id b = -1 ∨ ∃ k m, rs[k]? = some (id, m) ∧ atR rs id b = ((b + k : Nat) : Int)
  | [], _, _ => Or.inl rfl
  | r :: rs, id, b => by
    by_cases h : r.1 = id
    · refine Or.inr ⟨0, r.2, ?_, by rw [atR, if_pos h]; rfl⟩
      rw [← h]
      rfl
    · rw [atR, if_neg h]
      rcases atR_cases rs id (b + 1) with h1 | ⟨k, m, h1, h2⟩
      · exact Or.inl h1
      · refine Or.inr ⟨k + 1, m, by simpa using h1, ?_⟩
        rw [h2]
        congr 1
        omega

set_option maxHeartbeats 4000000 in
set_option maxRecDepth 100000 in
theorem l12At_any (v : Value) (s : St) (hl : s.rs.length ≤ 1048576) (id : Int) (w : World) (hd : StAt w v s) :
    Calls Tryz.prog 13 #[v, .int .i64 id] w fun e w' => e = .returned (.int .i64 (atR s.rs id 0)) ∧ Below w.heap.size w w' := by
  obtain ⟨vp, vl, vf, vR, vr, up, ul, uu, ug, uf, rfl, -, -, h3, -⟩ := hd
  obtain ⟨a, cap, rfl⟩ := rds_slice h3
  obtain ⟨L, hL⟩ : ∃ n, n = s.rs.length := ⟨_, rfl⟩
  rw [← hL]
  rw [← hL] at hl h3
  obtain ⟨w0, hw0⟩ : ∃ w0, w0 = w.alloc (Obj.cells #[vp, vl, .int .i64 s.m.tx, .int .i64 s.m.root, .int .i64 s.m.next, vf, .slice a L cap, .int .i64 s.tm.tx, .int .i64 s.tm.root, .int .i64 s.tm.next, vr, up, ul, .int .i64 s.tk.next, uu, ug, uf, .int .i64 s.tr, .bool s.wr, .bool s.fl] 52) := ⟨_, rfl⟩
  obtain ⟨a0, ha0⟩ : ∃ x, x = w.heap.size := ⟨_, rfl⟩
  have hV := heap_alloc_new w (Obj.cells #[vp, vl, .int .i64 s.m.tx, .int .i64 s.m.root, .int .i64 s.m.next, vf, .slice a L cap, .int .i64 s.tm.tx, .int .i64 s.tm.root, .int .i64 s.tm.next, vr, up, ul, .int .i64 s.tk.next, uu, ug, uf, .int .i64 s.tr, .bool s.wr, .bool s.fl] 52)
  rw [← hw0, ← ha0] at hV
  have x6 : w0.cell? ⟨a0, 6, none⟩ = some (.slice a L cap) := (cell_at hV 6).1
  have hB : Below w.heap.size w w0 := by rw [hw0]; exact (Below.refl w.heap.size w).alloc (Nat.le_refl _) _
  have HB := hide hB
  have HR := hide (rds_below h3 hB)
  have HL := hide hL
  have HA := hide ha0
  clear hV h3 hL hB ha0
  go_enter Tryz.func13, Tryz.ntmps13
  go_wp2_with fail
  rw [← hw0, ← HA.out]
  clear hw0
  go_loopg [5] L (fun g iv wr => ∃ (k : Nat), k ≤ L ∧ iv = .int .i64 (k : Int) ∧ g + k = L ∧ Hid (∀ j q, j < k → s.rs[j]? = some q → q.1 ≠ id) ∧ wr = w0)
  case atStart => exact ⟨0, Nat.zero_le _, rfl, rfl, hide (fun j q hj => by omega), rfl⟩
  case round =>
    obtain ⟨k, hk, rfl, hg, HN, rfl⟩ := hrel
    have HG := hide hg
    clear hg
    by_cases hlt : k < L
    · obtain ⟨i, m, hm⟩ : ∃ i m, s.rs[k]? = some (i, m) := ⟨_, _, List.getElem?_eq_getElem (by rw [← HL.out]; exact hlt)⟩
      obtain ⟨b, off, u, rfl, hbl, ⟨c0, c1, c2, c3, c4⟩, hfr⟩ := rds_get HR.out hm
      have HM := hide hm
      have hk0 : (0 : Int) ≤ (k : Int) := by omega
      have hk1 : (k : Int) < (L : Int) := by omega
      clear hm hfr c1 c2 c3 c4
      by_cases ht : i = id
      · subst ht
        have HE : Hid (atR s.rs i 0 = (k : Int)) := hide (by rw [atR_found s.rs i 0 k HM.out HN.out]; congr 1; omega)
        have dt : (i == i) = true := by simp
        go_wp2
        go_ret
        rw [HE.out]
        exact ⟨rfl, HB.out⟩
      · have HE : Hid (∀ j q, j < k + 1 → s.rs[j]? = some q → q.1 ≠ id) := hide (fun j q hj hq => by
          by_cases e : j = k
          · subst e
            rw [HM.out] at hq
            injection hq with hq
            subst hq
            exact ht
          · exact HN.out j q (by omega) hq)
        have dt : (i == id) = false := by simpa using ht
        go_wp2
        go_roundg (gk - 1)
        case measure => have := HG.out; omega
        case rel => exact ⟨k + 1, by omega, by go_num, by have := HG.out; omega, HE, rfl⟩
    · have HE : Hid (atR s.rs id 0 = -1) := hide (atR_none s.rs id 0 (fun j q hq => HN.out j q (by have h1 := (List.getElem?_eq_some_iff.1 hq).1; have h2 := HL.out; omega) hq))
      go_wp2
      go_ret
      rw [HE.out]
      exact ⟨rfl, HB.out⟩
end Go.Proofs.YtbokjfjdjgopeaaGreatDoor

namespace Go.Proofs.YtbokjfjdjgopeaaGreatDoor

open Classical in
/-- the right node whose bytes these are, and whether there is one -/
noncomputable def rdN (t : ByteArray) : Nd × Bool := if h : ∃ n, IsNd t n then (Classical.choose h, true) else (Nd.none, false)

theorem rdN_of {t : ByteArray} {n : Nd} {ok : Bool} (h : ReadN t n ok) : rdN t = (n, ok) := by
  unfold rdN
  rcases h with ⟨rfl, h1, h2⟩ | ⟨rfl, rfl, h2⟩
  · have hx : ∃ n, IsNd t n := ⟨n, h1⟩
    rw [dif_pos hx, h2 _ (Classical.choose_spec hx)]
  · rw [dif_neg (fun ⟨m, hm⟩ => h2 m hm)]

theorem rdN_ok {t : ByteArray} {n : Nd} (h : rdN t = (n, true)) : n.ok = true := by
  unfold rdN at h
  split at h
  · rename_i hx
    injection h with h1 h2
    rw [← h1]
    exact (Classical.choose_spec hx).1
  · injection h with h1 h2
    cases h2

theorem placeK_range (ks : List ByteArray) (key : ByteArray) : ∀ k : Nat, -1 ≤ placeK ks key k ∧ placeK ks key k < (k : Int)
  | 0 => by simp [placeK]
  | k + 1 => by
    have := placeK_range ks key k
    rw [placeK]
    split <;> omega

/-- GetKey, k levels from page p on -/
noncomputable def getL (D : Int → ByteArray) (key : ByteArray) : Nat → Int → Option ByteArray
  | 0, _ => none
  | k + 1, p =>
    if (rdN (D p)).2 = false ∨ placeK (rdN (D p)).1.ks key (rdN (D p)).1.ks.length < 0 then none
    else if (rdN (D p)).1.lf = true then
      (if (rdN (D p)).1.ks.getD (placeK (rdN (D p)).1.ks key (rdN (D p)).1.ks.length).toNat ⟨#[]⟩ = key then some ((rdN (D p)).1.vs.getD (placeK (rdN (D p)).1.ks key (rdN (D p)).1.ks.length).toNat ⟨#[]⟩) else none)
    else getL D key k ((rdN (D p)).1.cs.getD (placeK (rdN (D p)).1.ks key (rdN (D p)).1.ks.length).toNat 0)

/-- what the two results are -/
def getO : Option ByteArray → Value
  | none => .tuple #[.string ⟨#[]⟩, .bool false]
  | some v => .tuple #[.string v, .bool true]

noncomputable def getK (D : Int → ByteArray) (root : Int) (key : ByteArray) : Option ByteArray := if root = 0 then none else getL D key 8 root
end Go.Proofs.YtbokjfjdjgopeaaGreatDoor

namespace Go.Proofs.YtbokjfjdjgopeaaGreatDoor
open Go.RowKit
attribute [local go_sem ↓] Go.wp_at_zero Go.wp_at_succ

/-- what ReadVar answers -/
def rvOut (at_ : Nat) : Option (Nat × Nat) → Value
  | some (n, c) => .tuple #[.int .i64 n, .int .i64 ((at_ + c : Nat) : Int), .bool true]
  | none => .tuple #[.int .i64 0, .int .i64 0, .bool false]

theorem rv_way_yes {N X j p : Nat} {s : ByteArray} {b : Nat → Nat} (hA : N + X = accN b (j + 1)) (hE : (s.extract p (p + (j + 1))).data.toList = bytesTo b (j + 1))
    (h : (!vtext ((N : Int) + (X : Int)).toNat == (s.extract p (p + (j + 1))).toList) = false) : vtext (accN b (j + 1)) = bytesTo b (j + 1) := by
  rw [show ((N : Int) + (X : Int)).toNat = N + X from by omega, hA, ByteArray.toList_eq, hE] at h
  simpa using h

theorem rv_way_no {N X j p : Nat} {s : ByteArray} {b : Nat → Nat} (hA : N + X = accN b (j + 1)) (hE : (s.extract p (p + (j + 1))).data.toList = bytesTo b (j + 1))
    (h : (!vtext ((N : Int) + (X : Int)).toNat == (s.extract p (p + (j + 1))).toList) = true) : ¬ vtext (accN b (j + 1)) = bytesTo b (j + 1) := by
  rw [show ((N : Int) + (X : Int)).toNat = N + X from by omega, hA, ByteArray.toList_eq, hE] at h
  simpa using h

set_option maxHeartbeats 2000000 in
set_option maxRecDepth 100000 in
theorem implReadVar_in (s : ByteArray) (p : Nat) (hs : s.size ≤ 1048576) (hp : p ≤ s.size) (w : World) :
    Calls Tryz.prog 108 #[.string s, .int .i64 p] w fun e w' => e = .returned (rvOut p (rvGo (fun i => byt s (p + i)) (s.size - p) 5 0)) ∧ w' = w := by
  obtain ⟨b, hb⟩ : ∃ b : Nat → Nat, b = fun i => byt s (p + i) := ⟨_, rfl⟩
  rw [← hb]
  have hb0 : ∀ i, b i < 256 := fun i => by rw [hb]; exact byt_lt _ _
  have hbs : ∀ i (h : p + i < s.size), s[p + i].toNat = b i := fun i h => by rw [hb]; exact byt_eq _ _ h
  have HB := hide hbs
  have HB0 := hide hb0
  clear hb hbs hb0
  have hq1 : decide ((p : Int) < 0) = false := by simp
  have hq2 : decide (s.size < p) = false := by simp; omega
  go_enter Tryz.func108, Tryz.ntmps108
  go_wp2
  go_loopg [7, 8] 5 (fun g nv uv wr => ∃ j N : Nat, j ≤ 5 ∧ p + j ≤ s.size ∧ nv = .int .i64 N ∧ uv = .int .i64 j ∧ g + j = 5 ∧ Hid (N = accN b j) ∧ Hid (rvGo b (s.size - p) (5 - j) j = rvGo b (s.size - p) 5 0) ∧ wr = w)
  case atStart => exact ⟨0, 0, by omega, by omega, rfl, rfl, rfl, hide rfl, hide rfl, rfl⟩
  case round =>
    obtain ⟨j, N, hj, hpj, rfl, rfl, hg, HN, HR, rfl⟩ := hrel
    have HG := hide hg
    clear hg
    by_cases h5 : j < 5
    · by_cases hlt : p + j < s.size
      · have hN : N < 128 ^ j := by rw [HN.out]; exact accN_lt b j
        have hN5 : N < 34359738368 := Nat.lt_of_lt_of_le hN (by have : 128 ^ j ≤ 128 ^ 5 := Nat.pow_le_pow_right (by omega) (by omega); simpa using this)
        obtain ⟨y, hy⟩ : ∃ y, y = b j := ⟨_, rfl⟩
        have hbj : y < 256 := by rw [hy]; exact HB0.out j
        have hsj : s[p + j].toNat = y := by rw [hy]; exact HB.out j hlt
        obtain ⟨X, hX⟩ : ∃ X, X = y % 128 * 128 ^ j := ⟨_, rfl⟩
        have hXb : X ≤ 34091302912 := by rw [hX]; exact digit_le y j h5
        have hw := digit_wrap y j X h5 hX
        have HX := hide hX
        have HY := hide hy
        have HA : Hid (N + X = accN b (j + 1)) := hide (by rw [accN, ← hy, ← hX, ← HN.out])
        clear hX hy hN
        by_cases hc : 128 ≤ y
        · go_wp2
          go_roundg (gk - 1)
          case measure => have := HG.out; omega
          case rel => exact ⟨j + 1, N + X, by omega, by omega, by go_num, by go_num, by have := HG.out; omega, HA, hide (by rw [rvGo_next b _ j h5 (by omega) (by rw [← HY.out]; exact hc)]; exact HR.out), rfl⟩
        · have HY' : Hid (b j < 128) := hide (by rw [← HY.out]; omega)
          by_cases hz : y = 0
          · have hzb : ((y : Int) == 0) = true := by simp [hz]
            have HZ : Hid (b j = 0) := hide (by rw [← HY.out]; exact hz)
            have HX0 : Hid (X = 0) := hide (by rw [HX.out, hz]; simp)
            clear hz
            by_cases hj0 : 0 < j
            · have HM := hide (rvGo_miss b (s.size - p) j h5 (by omega) HY'.out (by have := HZ.out; omega))
              go_wp2
              go_ret3
              refine ⟨?_, rfl⟩
              rw [← HR.out, HM.out]; rfl
            · have HM := hide (rvGo_hit b (s.size - p) j h5 (by omega) HY'.out (by have := HA.out; have := HX0.out; have := HN.out; have : j = 0 := (by omega); subst this; simp [accN, HZ.out]) (by omega))
              have hsum : N + X ≤ 1000000000 := by
                have hj' : j = 0 := by omega
                have := HX0.out; have h2 := HN.out; rw [hj'] at h2; simp [accN] at h2; omega
              go_wp2
              go_ret3
              refine ⟨?_, rfl⟩
              rw [← HR.out, HM.out, ← HA.out]
              simp [rvOut]; omega
          · have hzb : ((y : Int) == 0) = false := by simp; omega
            have HZ : Hid (b j ≠ 0) := hide (by rw [← HY.out]; exact hz)
            clear hz
            by_cases hsum : N + X ≤ 1000000000
            · have HM := hide (rvGo_hit b (s.size - p) j h5 (by omega) HY'.out (by rw [← HA.out]; exact hsum) (Or.inl HZ.out))
              go_wp2
              go_ret3
              refine ⟨?_, rfl⟩
              rw [← HR.out, HM.out, ← HA.out]
              simp [rvOut]; omega
            · have HM := hide (rvGo_miss b (s.size - p) j h5 (by omega) HY'.out (by rw [← HA.out]; omega))
              go_wp2
              go_ret3
              refine ⟨?_, rfl⟩
              rw [← HR.out, HM.out]; rfl
      · have HM := hide (rvGo_end b (s.size - p) j (by omega))
        go_wp2
        go_ret3
        refine ⟨?_, rfl⟩
        rw [← HR.out, HM.out]; rfl
    · have HM := hide (rvGo_end b (s.size - p) j (by omega))
      go_wp2
      go_ret3
      refine ⟨?_, rfl⟩
      rw [← HR.out, HM.out]; rfl

set_option maxHeartbeats 2000000 in
set_option maxRecDepth 100000 in
theorem specReadVar_in (s : ByteArray) (p : Nat) (hs : s.size ≤ 1048576) (hp : p ≤ s.size) (w : World) :
    Calls Tryz.prog 81 #[.string s, .int .i64 p] w fun e w' => e = .returned (rvOut p (rvGo (fun i => byt s (p + i)) (s.size - p) 5 0)) ∧ Below w.heap.size w w' := by
  obtain ⟨b, hb⟩ : ∃ b : Nat → Nat, b = fun i => byt s (p + i) := ⟨_, rfl⟩
  rw [← hb]
  have hb0 : ∀ i, b i < 256 := fun i => by rw [hb]; exact byt_lt _ _
  have hbs : ∀ i (h : p + i < s.size), s[p + i].toNat = b i := fun i h => by rw [hb]; exact byt_eq _ _ h
  have HE : Hid (∀ n, p + n ≤ s.size → (s.extract p (p + n)).data.toList = bytesTo b n) := hide (fun n h => by rw [hb]; exact extract_bytes s p n h)
  have HB := hide hbs
  have HB0 := hide hb0
  clear hb hbs hb0
  go_enter Tryz.func81, Tryz.ntmps81
  go_wp2_with fail
  refine (l01In_yes p 0 s.size _ (by omega) (by omega)).mono ?_
  rintro e w1 ⟨rfl, rfl⟩
  go_wp2_with fail
  go_loopg [7, 8, 9] 5 (fun g nv sv iv wr => ∃ j N Z : Nat, j ≤ 5 ∧ p + j ≤ s.size ∧ nv = .int .i64 N ∧ sv = .int .i64 Z ∧ iv = .int .i64 ((p + j : Nat) : Int) ∧ g + j = 5 ∧ Hid (N = accN b j) ∧ Hid (Z = 128 ^ j) ∧ Hid (∀ i, i < j → 128 ≤ b i) ∧ Hid (rvGo b (s.size - p) (5 - j) j = rvGo b (s.size - p) 5 0) ∧ wr = w)
  case atStart => exact ⟨0, 0, 1, by omega, by omega, rfl, rfl, rfl, rfl, hide rfl, hide rfl, hide (fun i h => by omega), hide rfl, rfl⟩
  case round =>
    obtain ⟨j, N, Z, hj, hpj, rfl, rfl, rfl, hg, HN, HZ, HI, HR, rfl⟩ := hrel
    have HG := hide hg
    clear hg
    have hZ5 : Z ≤ 34359738368 := by rw [HZ.out]; exact pow_le5 j hj
    by_cases h5 : j < 5
    · by_cases hlt : p + j < s.size
      · have hN5 : N < 34359738368 := by rw [HN.out]; exact Nat.lt_of_lt_of_le (accN_lt b j) (pow_le5 j hj)
        obtain ⟨y, hy⟩ : ∃ y, y = b j := ⟨_, rfl⟩
        have hbj : y < 256 := by rw [hy]; exact HB0.out j
        have hsj : s[p + j].toNat = y := by rw [hy]; exact HB.out j hlt
        obtain ⟨X, hX⟩ : ∃ X, X = y % 128 * 128 ^ j := ⟨_, rfl⟩
        have hXb : X ≤ 34091302912 := by rw [hX]; exact digit_le y j h5
        have hw := digit_wrap2 y j X Z h5 hX HZ.out
        have HX := hide hX
        have HY := hide hy
        have HA : Hid (N + X = accN b (j + 1)) := hide (by rw [accN, ← hy, ← hX, ← HN.out])
        clear hX hy
        by_cases hc : 128 ≤ y
        · go_wp2_with fail
          go_roundg (gk - 1)
          case measure => have := HG.out; omega
          case rel => exact ⟨j + 1, N + X, Z * 128, by omega, by omega, by go_num, by go_num, by go_num, by have := HG.out; omega, HA, hide (by rw [HZ.out, Nat.pow_succ]), hide (fun i hi => by by_cases e : i = j; (rw [e, ← HY.out]; exact hc); (exact HI.out i (by omega))), hide (by rw [rvGo_next b _ j h5 (by omega) (by rw [← HY.out]; exact hc)]; exact HR.out), rfl⟩
        · have HY' : Hid (b j < 128) := hide (by rw [← HY.out]; omega)
          by_cases hsum : N + X ≤ 1000000000
          · have HV := hide (vtext_iff j b (by omega) HB0.out HI.out HY'.out)
            have HE' := hide (HE.out (j + 1) (by omega))
            have hng : decide ((1000000000 : Int) < (N : Int) + (X : Int)) = false := by simp; omega
            go_wp2_with fail
            clear hw hsj
            have hb1 : (0 : Int) ≤ (p : Int) := by omega
            have hb2 : (p : Int) ≤ (p : Int) + (j : Int) + 1 := by omega
            have hb3 : (p : Int) + (j : Int) + 1 ≤ (s.size : Int) := by omega
            have hwr : IntKind.i64.wrap ((p : Int) + (j : Int) + 1) = (p : Int) + (j : Int) + 1 := IntWalk.i64_in _ ⟨by omega, by omega⟩
            have hsl : ∀ wx : World, (Instr.slice 9 (.string s) (some (.int .i64 (p : Int))) (some (.int .i64 ((p : Int) + (j : Int) + 1))) none).run Tryz.prog wx = .ok (.string (s.extract p (p + (j + 1)))) wx := fun wx => by
              have := run_slice_string (P := Tryz.prog) wx 9 s .i64 .i64 (p : Int) ((p : Int) + (j : Int) + 1) Tryz.underlying9 hb1 hb2 hb3
              rw [this, show ((p : Int) + (j : Int) + 1).toNat = p + (j + 1) from by omega, Int.toNat_natCast]
            go_region_held3 (fun _ => True) (trivial) ((go_at_call 100; refine (l01Var_any ((N : Int) + (X : Int)) (by omega) (by omega) _).mono ?_; rintro e w2 ⟨rfl, hbw⟩))
            go_wp2_with fail
            · have hne : (!vtext ((N : Int) + (X : Int)).toNat == (s.extract p (p + (j + 1))).toList) = true := by assumption
              go_ret3
              refine ⟨?_, ?_⟩
              · rw [← HR.out, rvGo_miss b _ j h5 (by omega) HY'.out (fun hok => rv_way_no HA.out HE'.out hne (HV.out.2 hok.2))]; rfl
              · exact ((Below.refl _ _).drew).trans hbw
            · have hne : (!vtext ((N : Int) + (X : Int)).toNat == (s.extract p (p + (j + 1))).toList) = false := by assumption
              go_ret3
              refine ⟨?_, ?_⟩
              · rw [← HR.out, rvGo_hit b _ j h5 (by omega) HY'.out (by rw [← HA.out]; exact hsum) (HV.out.1 (rv_way_yes HA.out HE'.out hne)), ← HA.out]
                simp [rvOut]; omega
              · exact ((Below.refl _ _).drew).trans hbw
          · have HM := hide (rvGo_miss b (s.size - p) j h5 (by omega) HY'.out (by rw [← HA.out]; omega))
            have hgt : (1000000000 : Int) < (N : Int) + (X : Int) := by omega
            have hgd : decide ((1000000000 : Int) < (N : Int) + (X : Int)) = true := by simp; omega
            go_wp2_with fail
            go_quiet (fail)
            go_wp2_with fail
            go_ret3
            refine ⟨?_, below_drewN (Below.refl _ _) _⟩
            rw [← HR.out, HM.out]; rfl
      · have HM := hide (rvGo_end b (s.size - p) j (by omega))
        go_wp2_with fail
        go_ret3
        refine ⟨?_, Below.refl _ _⟩
        rw [← HR.out, HM.out]; rfl
    · have HM := hide (rvGo_end b (s.size - p) j (by omega))
      go_wp2_with fail
      all_goals (try go_ret3)
      all_goals refine ⟨?_, Below.refl _ _⟩
      all_goals (rw [← HR.out, HM.out]; rfl)

set_option maxHeartbeats 400000 in
theorem implReadVar_out (s : ByteArray) (p : Int) (_hs : s.size ≤ 1048576) (hp : p < 0 ∨ (s.size : Int) < p) (w : World) :
    Calls Tryz.prog 108 #[.string s, .int .i64 p] w fun e w' => e = .returned (.tuple #[.int .i64 0, .int .i64 0, .bool false]) ∧ w = w' := by
  by_cases h1 : p < 0
  · go_enter Tryz.func108, Tryz.ntmps108
    go_wp2
    go_ret3
    exact ⟨rfl, rfl⟩
  · have h2 : (s.size : Int) < p := by omega
    have h3 : 0 ≤ p := by omega
    clear hp h1
    go_enter Tryz.func108, Tryz.ntmps108
    go_wp2
    go_ret3
    exact ⟨rfl, rfl⟩

set_option maxHeartbeats 400000 in
theorem specReadVar_out (s : ByteArray) (p : Int) (_hs : s.size ≤ 1048576) (hp : p < 0 ∨ (s.size : Int) < p) (w : World) :
    Calls Tryz.prog 81 #[.string s, .int .i64 p] w fun e w' => e = .returned (.tuple #[.int .i64 0, .int .i64 0, .bool false]) ∧ w = w' := by
  go_enter Tryz.func81, Tryz.ntmps81
  go_wp2_with fail
  refine (l01In_no p 0 s.size _ hp).mono ?_
  rintro e w1 ⟨rfl, rfl⟩
  go_wp2_with fail
  go_ret3
  exact ⟨rfl, rfl⟩
end Go.Proofs.YtbokjfjdjgopeaaGreatDoor
