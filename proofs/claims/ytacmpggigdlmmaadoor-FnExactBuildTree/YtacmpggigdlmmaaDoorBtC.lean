/-
  Several texts in one. Many cells stored at once into a variable that lies side by side with other things; a whole struct read and laid by the library's own laws of a range of cells. No program. · An append of a whole row to a row among things that lie side by side. No function of the program. · impl's two closures that tell a node of a level, by contracts. · impl.putLevel by a contract (made by tools/putlevel.py): the nodes of a level are put one by one. · impl.putLeaves and impl.putAbove by contracts (made by tools/buildi4.py). · impl.buildLevels by a contract (made by tools/buildi5.py). · impl.BuildTree by a contract (made by tools/buildi6.py).
-/
import Derived.Test.YtacmpggigdlmmaaDoorBtA
import Derived.Deep.MidRow
import Derived.Test.YtacmpggigdlmmaaDoorAppRow
import Derived.Maps.AppendAt
import Derived.Test.YtacmpggigdlmmaaDoorPutNode
import Derived.Deep.Cut
namespace Go.Proofs.YtacmpggigdlmmaaDoor
open Go.RowKit

/-- cells laid over others, from a place on -/
def overL : List Value → Nat → List Value → List Value
  | cs, _, [] => cs
  | cs, o, v :: r => overL (cs.set o v) (o + 1) r

def over : Array Value → Nat → List Value → Array Value
  | cs, _, [] => cs
  | cs, o, v :: r => over (cs.setIfInBounds o v) (o + 1) r

theorem over_list : ∀ (vs : List Value) (cs : Array Value) (o : Nat), (over cs o vs).toList = overL cs.toList o vs
  | [], _, _ => rfl
  | v :: r, cs, o => by
    rw [over, overL, over_list r, Array.toList_setIfInBounds]

theorem overL_all : ∀ (vs pre cs : List Value), vs.length = cs.length → overL (pre ++ cs) pre.length vs = pre ++ vs
  | [], pre, cs, h => by
    rw [List.eq_nil_of_length_eq_zero h.symm]
    rfl
  | v :: r, pre, [], h => by simp at h
  | v :: r, pre, c :: cs, h => by
    have ih := overL_all r (pre ++ [v]) cs (by simpa using h)
    rw [overL, List.set_append_right _ _ (Nat.le_refl _), Nat.sub_self, List.set_cons_zero]
    rw [List.length_append, List.length_singleton, List.append_assoc, List.append_assoc] at ih
    exact ih

theorem set_same {α : Type} {l : List α} {i : Nat} {x : α} (h : l[i]? = some x) : l.set i x = l := by
  obtain ⟨hi, rfl⟩ := List.getElem?_eq_some_iff.1 h
  exact List.set_getElem_self hi

/-- a store of many cells into a block -/
theorem sep_cells {B : Nat} : ∀ (vs : List Value) (off : Nat) {W : World} {l : List Ast} (_ : Sep B W l) (i : Nat) {g : Nat} {cs : Array Value} {T : TypeId} (_ : l[i]? = some (cellA g (.cells cs T (0, 0)))), Sep B (W.setCells g off vs) (l.set i (cellA g (.cells (over cs off vs) T (0, 0))))
  | [], off, W, l, h, i, g, cs, T, hi => by
    rw [show over cs off [] = cs from rfl, set_same hi]
    exact h
  | v :: r, off, W, l, h, i, g, cs, T, hi => by
    have hlt : i < l.length := (List.getElem?_eq_some_iff.1 hi).1
    have h2 := sep_cells r (off + 1) (sep_store h i hi off v) i (g := g) (cs := cs.setIfInBounds off v) (T := T) (by rw [List.getElem?_set_self hlt])
    rw [List.set_set] at h2
    exact h2

theorem sep_cellsTo {B : Nat} {W : World} {l : List Ast} (h : Sep B W l) (i : Nat) {g : Nat} {cs : Array Value} {T : TypeId} (hi : l[i]? = some (cellA g (.cells cs T (0, 0)))) (off : Nat) (vs : List Value) (cs' : Array Value) (he : overL cs.toList off vs = cs'.toList) : Sep B (W.setCells g off vs) (l.set i (cellA g (.cells cs' T (0, 0)))) := by
  have e : over cs off vs = cs' := Array.toList_inj.1 (by rw [over_list]; exact he)
  subst e
  exact sep_cells vs off h i hi

/-- a block is laid anew, all of it -/
theorem sep_cellsAll {B : Nat} {W : World} {l : List Ast} (h : Sep B W l) (i : Nat) {g : Nat} {cs : Array Value} {T : TypeId} (hi : l[i]? = some (cellA g (.cells cs T (0, 0)))) (cs' : Array Value) (hn : cs'.size = cs.size) : Sep B (W.setCells g 0 cs'.toList) (l.set i (cellA g (.cells cs' T (0, 0)))) :=
  sep_cellsTo h i hi 0 cs'.toList cs' (overL_all cs'.toList [] cs.toList (by simpa using hn))

theorem below_cells {B : Nat} {W0 : World} {g : Nat} (hg : B ≤ g) : ∀ (vs : List Value) (o : Nat) (W : World), Below B W0 W → Below B W0 (W.setCells g o vs)
  | [], _, _, h => h
  | v :: r, o, _, h => below_cells hg r (o + 1) _ (h.setCell (p := ⟨g, o, none⟩) hg v)

theorem size_cells (g : Nat) : ∀ (vs : List Value) (o : Nat) (W : World), (W.setCells g o vs).heap.size = W.heap.size
  | [], _, _ => rfl
  | v :: r, o, W => by rw [World.setCells, size_cells g r (o + 1)]; simp

/-- the cells of a variable, as a range -/
theorem range_of {W : World} {g : Nat} {cs : Array Value} {T : TypeId} (h : W.heap[g]? = some (.cells cs T (0, 0))) (o n : Nat) : W.rangeAt g o ((cs.toList.drop o).take n) := fun j v hv => by
  rw [(cell_at h (o + j)).1]
  rw [List.getElem?_take] at hv
  split at hv
  · rw [List.getElem?_drop] at hv
    simpa using hv
  · cases hv

theorem there_of {W : World} {g : Nat} {cs : Array Value} {T : TypeId} (h : W.heap[g]? = some (.cells cs T (0, 0))) (o n : Nat) (hn : o + n ≤ cs.size) : W.there g o n := fun j hj => by
  refine ⟨?_, (cell_at h (o + j)).2⟩
  rw [(cell_at h (o + j)).1, Array.getElem?_eq_getElem (by omega)]
  rfl

/-- a whole struct is read -/
theorem wpList_loadL {P : Program} {ops : Array Oper} {rest : List Oper} {op : Oper} {a : Act} {w : World} {Q : Exit → Act → World → Prop} (hgd : op.guard = none) (ty : TypeId) (x : Operand) (ho : op.op = .load ty x)
    (b o : Nat) (hx : a.eval x = .pointer (some ⟨b, o, none⟩)) (cs : Array Value) (hc : w.rangeAt b o cs.toList) (d : TypeDesc)
    (hu : P.underlying ty = some d) (hd : d.isRow = true) (hi : (P.info? ty).map (·.size) = some cs.size)
    (h : wpList P ops Q rest (a.put op.dst (.agg cs)) w) : wpList P ops Q (op :: rest) a w :=
  wpList_load_mid hgd ty x ho b o hx cs.toList d hc hu hd (by rw [hi, Array.length_toList]) (by rw [Array.toArray_toList]; exact h)

/-- a whole struct is read, where its guard is met -/
theorem wpList_loadW {P : Program} {ops : Array Oper} {rest : List Oper} {op : Oper} {a : Act} {w : World} {Q : Exit → Act → World → Prop} (hw : Region.wanted op (yielded ops a.tmps) = true) (ty : TypeId) (x : Operand) (ho : op.op = .load ty x)
    (b o : Nat) (hx : a.eval x = .pointer (some ⟨b, o, none⟩)) (cs : Array Value) (hc : w.rangeAt b o cs.toList) (d : TypeDesc)
    (hu : P.underlying ty = some d) (hd : d.isRow = true) (hi : (P.info? ty).map (·.size) = some cs.size)
    (h : wpList P ops Q rest (a.put op.dst (.agg cs)) w) : wpList P ops Q (op :: rest) a w := by
  refine wpList_step fun K hK => ?_
  rw [if_pos hw]
  refine wp_load_mid ty x ho b o hx cs.toList d hc hu hd (by rw [hi, Array.length_toList]) ?_
  rw [Array.toArray_toList]
  exact hK _ _ h

/-- a whole struct is laid, and the world behind it has a name -/
theorem wpList_storeL {P : Program} {ops : Array Oper} {rest : List Oper} {op : Oper} {a : Act} {w w' : World} {Q : Exit → Act → World → Prop} (hgd : op.guard = none) (ty : TypeId) (x y : Operand) (ho : op.op = .store ty x y)
    (b o : Nat) (cs : Array Value) (hx : a.eval x = .pointer (some ⟨b, o, none⟩)) (hy : a.eval y = .agg cs)
    (ht : w.there b o cs.size) (hi : (P.info? ty).map (·.size) = some cs.size) (h1 : cs.toList.all (·.oneCell') = true) (hw : w.setCells b o cs.toList = w')
    (h : wpList P ops Q rest (a.put op.dst undef) w') : wpList P ops Q (op :: rest) a w := by
  subst hw
  exact wpList_store_mid hgd ty x y ho b o cs hx hy ht hi (by rw [← Array.all_toList]; exact h1) h

/-- a whole struct is laid, in a region that draws its order -/
theorem step_storeL {P : Program} {ops : Array Oper} {o : Oper} {a : Act} {K : Act → World → Prop} {Q : Exit → Act → World → Prop} {E : Prop} {W W' : World} (hgd : o.guard = none) (ty : TypeId) (x y : Operand) (ho : o.op = .store ty x y)
    (b off : Nat) (cs : Array Value) (hx : a.eval x = .pointer (some ⟨b, off, none⟩)) (hy : a.eval y = .agg cs)
    (ht : W.there b off cs.size) (hi : (P.info? ty).map (·.size) = some cs.size) (h1 : cs.toList.all (·.oneCell') = true) (hw : W.setCells b off cs.toList = W')
    (h : K (a.put o.dst undef) W') : if Region.wanted o (yielded ops a.tmps) = true then Oper.wp P o a W K Q else E := by
  have hw' : Region.wanted o (yielded ops a.tmps) = true := by simp [Region.wanted, hgd]
  rw [if_pos hw']
  subst hw
  exact wp_store_mid ty x y ho b off cs hx hy ht hi (by rw [← Array.all_toList]; exact h1) h

theorem yields_loadL {P : Program} {ops : Array Oper} {S : World → Prop} {op : Oper} {a : Act} (hw : Region.wanted op (yielded ops a.tmps) = true) (ty : TypeId) (x : Operand) (ho : op.op = .load ty x)
    (b o : Nat) (hx : a.eval x = .pointer (some ⟨b, o, none⟩)) (cs : Array Value) (d : TypeDesc) (hS : ∀ w, S w → w.rangeAt b o cs.toList)
    (hu : P.underlying ty = some d) (hd : d.isRow = true) (hi : (P.info? ty).map (·.size) = some cs.size) : YieldsIf P ops S op (.agg cs) a := by
  have h := yieldsIf_load_mid (ops := ops) hw ty x ho b o hx cs.toList d hS hu hd (by rw [hi, Array.length_toList])
  rw [Array.toArray_toList] at h
  exact h

theorem range_all {W : World} {g : Nat} {cs : Array Value} {T : TypeId} (h : W.heap[g]? = some (.cells cs T (0, 0))) : W.rangeAt g 0 cs.toList := fun j v hv => by
  rw [(cell_at h (0 + j)).1, Nat.zero_add]
  simpa using hv

theorem run_agg {P : Program} {w : World} {b : Nat} {ty : TypeId} {cs : Array Value} {d : TypeDesc} (hc : w.rangeAt b 0 cs.toList) (hu : P.underlying ty = some d) (hd : d.isRow = true) (hi : (P.info? ty).map (·.size) = some cs.size) : (loadVar ty ⟨b, 0, none⟩).run P w = .ok (.agg cs) w := by
  have h := run_loadVar_mid w b 0 ty cs.toList d hc hu hd (by rw [hi, Array.length_toList])
  rw [Array.toArray_toList] at h
  exact h

/-- a struct is the answer -/
theorem results_c {P : Program} {fn : Func} {t : Tmp} {ty : TypeId} (h : fn.results = #[.cell t ty]) {tmps : Array Value} {w : World} {b : Nat} (hp : tmps.getD t undef = .pointer (some ⟨b, 0, none⟩)) {cs : Array Value} (hl : (loadVar ty ⟨b, 0, none⟩).run P w = .ok (.agg cs) w) : (results fn tmps).run P w = .ok (.agg cs) w := by
  simp only [Array.getD_eq_getD_getElem?] at hp
  simp [results, h, hp, asAddr, hl]

/-- a struct and a word are the answer -/
theorem results_ct {P : Program} {fn : Func} {t u : Tmp} {ty : TypeId} (h : fn.results = #[.cell t ty, .tmp u]) {tmps : Array Value} {w : World} {b : Nat} (hp : tmps.getD t undef = .pointer (some ⟨b, 0, none⟩)) {cs : Array Value} {x : Value} (hx : tmps.getD u undef = x) (hl : (loadVar ty ⟨b, 0, none⟩).run P w = .ok (.agg cs) w) : (results fn tmps).run P w = .ok (.tuple #[.agg cs, x]) w := by
  simp only [Array.getD_eq_getD_getElem?] at hp hx
  simp [results, h, hp, hx, asAddr, hl]
end Go.Proofs.YtacmpggigdlmmaaDoor

namespace Go.Proofs.YtacmpggigdlmmaaDoor
open Go.RowKit

theorem run_append_sep {P : Program} (w : World) (t ty : TypeId) (base : Nat) (e : TypeId) (i : TypeInfo) (z : Value) (size bytes : Nat) (ht : P.underlying t = some (.slice e)) (hi : P.info? e = some i) (hz : i.zero = some z)
    (hsize : i.size = size) (hby : i.bytes = bytes) (hzs : z.cells.size = size) (hsz : 0 < size)
    (v : Value) (n : Nat) (xs : List Value) (hown : w.ownsRow base e size v n xs)
    (u : Value) (m : Nat) (ys : List Value) (hrow : RowAt w size u m ys) (h1 : ∀ y ∈ ys, y.oneCell' = true)
    (h63 : n + m ≤ maxLen) (hbytes : (n + m) * bytes ≤ 140737488355328) (hbase : base ≤ w.heap.size) :
    ∃ x c w', (Builtin.append_ #[t, t] ty #[v, u]).run P w = .ok (.slice x (n + m) c) w' ∧ w'.ownsRow base e size (.slice x (n + m) c) (n + m) (xs ++ ys) ∧ w.grownBy w' v.ownBlock ∧ ∀ j, (Value.slice x (n + m) c).ownBlock = some j → v.ownBlock = some j ∨ j = w.heap.size := by
  have key : ∀ (v' : Value) (w' : World), w'.ownsRow base e size v' (n + m) (xs ++ ys) → ∃ x c, v' = Value.slice x (n + m) c := fun v' w' h => by
    obtain ⟨-, a, cap, ee, -⟩ := row_of_own h
    exact ⟨a, cap, ee⟩
  obtain ⟨hl, a, cap, rfl, h2⟩ := hrow
  rcases a with _ | ad
  · rcases h2 with h0 | ⟨b, off, e, _⟩
    · subst h0
      have hy : ys = [] := List.length_eq_zero_iff.1 (by rw [hl]; omega)
      subst hy
      obtain ⟨x, c, hx⟩ := key v w (by rw [List.append_nil]; exact hown)
      refine ⟨x, c, w, ?_, ?_, ⟨rfl, rfl, rfl, Nat.le_refl _, fun _ _ _ => rfl⟩, fun j hj => Or.inl (by rw [hx]; exact hj)⟩
      · rw [← hx]
        rcases hown.2 with ⟨rfl, rfl⟩ | ⟨g, cap, cur, rfl, _, _, hnc, _⟩
        · simp [Builtin.append_, run_underlying ht, sizeOf, typeInfo, hi, Builtin.lenOf, Builtin.firstCells]
        · simp [Builtin.append_, run_underlying ht, sizeOf, typeInfo, hi, Builtin.lenOf, Builtin.firstCells, hnc, storeCells]
      · rw [← hx, List.append_nil]; exact hown
    · cases e
  · have hnews : ∀ j y, ys[j]? = some y → w.cell? (ad.add j) = some y := fun j y hj => by
      have hjl : j < m * size := by rw [← hl]; exact (List.getElem?_eq_some_iff.1 hj).1
      rcases h2 with h0 | ⟨b, off, e, hlt, hc⟩
      · subst h0; simp at hjl
      · injection e with e
        subst e
        rw [Addr.add_lit, hc j hjl, hj]
    obtain ⟨v', w', hr, g2, g3, g4, g5⟩ := run_append_own_at (P := P) w base t ty e i z size bytes ht hi hz hsize hby hzs hsz v n xs hown ad m cap ys hl hnews h1 h63 hbytes hbase
    obtain ⟨x, c, rfl⟩ := key v' w' g2
    refine ⟨x, c, w', hr, g2, g3, fun j hj => ?_⟩
    rcases g5 with g5 | g5
    · exact Or.inl (by rw [← g5]; exact hj)
    · rw [g5] at hj
      injection hj with hj
      exact Or.inr hj.symm

/-- a row that has grown by another -/
theorem row_sep {B : Nat} {W W' : World} {l : List Ast} (h : Sep B W l) (i : Nat) {B' e sz n n' c : Nat} {x : Option Addr} {v : Value} {xs xs' : List Value} (hi : l[i]? = some (rowA B' e sz v n xs)) (hBB : B ≤ B') (hBW : B ≤ W.heap.size) (hgr : W.grownBy W' v.ownBlock) (hown : W'.ownsRow B' e sz (.slice x n' c) n' xs') (hb : ∀ j, (Value.slice x n' c).ownBlock = some j → v.ownBlock = some j ∨ j = W.heap.size) :
    Sep B W' (l.set i (rowA B' e sz (.slice x n' c) n' xs')) ∧ Below B W W' := by
  refine ⟨sep_set h i hi ⟨hgr.os, hgr.tape, hgr.output, hgr.size, fun j hj hn => hgr.block j hj (fun e => hn e.symm)⟩ _ hown (fun k hk => ⟨?_, (hown.lt k hk).2⟩) hBW, grown_below (Below.refl _ _) hgr (sep_get h i hi) hBB hBW⟩
  rcases hb k hk with h | h
  · exact Or.inl h
  · exact Or.inr (by omega)

theorem wpList_intR {ops : Array Oper} {rest : List Oper} {o : Oper} {a : Act} {Q : Exit → Act → World → Prop} {B : Nat} {W : World} {l : List Ast} (h : Sep B W l) (i : Nat) {B' n : Nat} {v : Value} {xs : List Int} (hi : l[i]? = some (rowA B' 3 1 v n (ints xs))) (hBB : B ≤ B') (hBW : B ≤ W.heap.size) (hBW' : B' ≤ W.heap.size)
    (hgd : o.guard = none) (s x : Operand) (ho : o.op = .call { callee := .builtin .append, args := #[s, x], argTypes := #[26, 26] }) (hs : a.eval s = v) (u : Value) (m : Nat) (ys : List Int) (hx : a.eval x = u) (hrow : RowAt W 1 u m (ints ys)) (hn : n + m ≤ 3000000)
    (hK : ∀ y c w', Sep B w' (l.set i (rowA B' 3 1 (.slice y (n + m) c) (n + m) (ints (xs ++ ys)))) → Below B W w' → wpList Tryd.prog ops Q rest (a.put o.dst (.slice y (n + m) c)) w') :
    wpList Tryd.prog ops Q (o :: rest) a W :=
  wpList_plain hgd fun _ hK' => by
    obtain ⟨i0, hinf, hz0, hz1, hz2⟩ := info_parts Tryd.infoIntC
    obtain ⟨y, c, w', hr, h2, h3, h4⟩ := run_append_sep (P := Tryd.prog) W 26 o.type B' 3 i0 (.int .i64 0) 1 8 Tryd.underlying26 hinf hz0 hz1 hz2 rfl (by decide) v n (ints xs) (sep_get h i hi) u m (ints ys) hrow (ints_one ys) (by unfold maxLen; omega) (by omega) hBW'
    obtain ⟨k1, k2⟩ := row_sep h i hi hBB hBW h3 h2 h4
    unfold Oper.wp execOp
    simp only [ho, resolve, invoke, builtin, Sem.run_bind, Sem.run_pure, Result.andThen_ok, List.map_toArray, List.map_cons, List.map_nil, hs, hx, hr]
    refine hK' _ _ (hK y c w' ?_ k2)
    rw [show ints (xs ++ ys) = ints xs ++ ints ys from by simp [ints]]
    exact k1

theorem step_strR {ops : Array Oper} {o : Oper} {a : Act} {K : Act → World → Prop} {Q : Exit → Act → World → Prop} {E : Prop} {B : Nat} {W : World} {l : List Ast} (h : Sep B W l) (i : Nat) {B' n : Nat} {v : Value} {xs : List ByteArray} (hi : l[i]? = some (rowA B' 9 1 v n (strs xs))) (hBB : B ≤ B') (hBW : B ≤ W.heap.size) (hBW' : B' ≤ W.heap.size)
    (hgd : o.guard = none) (s x : Operand) (ho : o.op = .call { callee := .builtin .append, args := #[s, x], argTypes := #[22, 22] }) (hs : a.eval s = v) (u : Value) (m : Nat) (ys : List ByteArray) (hx : a.eval x = u) (hrow : RowAt W 1 u m (strs ys)) (hn : n + m ≤ 3000000)
    (hK : ∀ y c w', Sep B w' (l.set i (rowA B' 9 1 (.slice y (n + m) c) (n + m) (strs (xs ++ ys)))) → Below B W w' → K (a.put o.dst (.slice y (n + m) c)) w') :
    if Region.wanted o (yielded ops a.tmps) = true then Oper.wp Tryd.prog o a W K Q else E := by
  have hw : Region.wanted o (yielded ops a.tmps) = true := by simp [Region.wanted, hgd]
  rw [if_pos hw]
  obtain ⟨i0, hinf, hz0, hz1, hz2⟩ := info_parts Tryd.infoStrR
  obtain ⟨y, c, w', hr, h2, h3, h4⟩ := run_append_sep (P := Tryd.prog) W 22 o.type B' 9 i0 (.string ⟨#[]⟩) 1 16 Tryd.underlying22 hinf hz0 hz1 hz2 rfl (by decide) v n (strs xs) (sep_get h i hi) u m (strs ys) hrow (strs_one ys) (by unfold maxLen; omega) (by omega) hBW'
  obtain ⟨k1, k2⟩ := row_sep h i hi hBB hBW h3 h2 h4
  unfold Oper.wp execOp
  simp only [ho, resolve, invoke, builtin, Sem.run_bind, Sem.run_pure, Result.andThen_ok, List.map_toArray, List.map_cons, List.map_nil, hs, hx, hr]
  refine hK y c w' ?_ k2
  rw [show strs (xs ++ ys) = strs xs ++ strs ys from by simp [strs]]
  exact k1

/-- a row that is nil stands in no block -/
theorem sep_none {B : Nat} {W : World} {l : List Ast} (h : Sep B W l) (B' e : Nat) : Sep B W (rowA B' e 1 (.slice none 0 0) 0 [] :: l) :=
  sep_cons.2 ⟨⟨⟨rfl, Or.inl ⟨rfl, rfl⟩⟩, fun j hj => by cases hj⟩, fun _ _ j hj => (by cases hj), h⟩

/-- keys and kids in rows of their own are a node -/
theorem sep_fuse {B : Nat} {W : World} {l : List Ast} {v1 v3 : Value} {ks : List ByteArray} {cs : List Int} {n1 n3 : Nat} (h : Sep B W (rowA B 9 1 v1 n1 (strs ks) :: rowA B 3 1 v3 n3 (ints cs) :: l)) : Sep B W (nodeA B (.agg #[.bool false, v1, .slice none 0 0, v3]) false ks [] cs :: l) := by
  have h1 : W.ownsRow B 9 1 v1 n1 (strs ks) := sep_get h 0 rfl
  have h3 : W.ownsRow B 3 1 v3 n3 (ints cs) := sep_get h 1 rfl
  obtain ⟨q1, q2, q3⟩ := sep_cons.1 h
  obtain ⟨r1, r2, r3⟩ := sep_cons.1 q3
  have hF : ∀ k, nodeBlocks (.agg #[.bool false, v1, .slice none 0 0, v3]) k → v1.ownBlock = some k ∨ v3.ownBlock = some k := fun k hk => by
    obtain ⟨b, vk, vv, vc, e, hk⟩ := hk
    obtain ⟨-, rfl, rfl, rfl⟩ := agg4 e
    rcases hk with hk | hk | hk
    · exact Or.inl hk
    · cases hk
    · exact Or.inr hk
  refine sep_cons.2 ⟨⟨⟨v1, _, v3, rfl, by rw [← row_nS h1]; exact h1, ⟨rfl, Or.inl ⟨rfl, rfl⟩⟩, by rw [← row_n h3]; exact h3, fun k _ hk => (by cases hk)⟩, fun k hk => ?_⟩, fun A hA k hk => ?_, r3⟩
  · rcases hF k hk with hk | hk
    · exact q1.2 k hk
    · exact r1.2 k hk
  · rcases hF k hk with hk | hk
    · exact q2 A (List.mem_cons_of_mem _ hA) k hk
    · exact r2 A hA k hk

/-- a row behind its first one, as a slice from 1 on tells it -/
theorem rowat_one {w : World} {b n c : Nat} {xs : List Value} (h : RowAt w 1 (.slice (some ⟨b, 0, none⟩) n c) n xs) (hn : 1 ≤ n) (hc : n ≤ c) : RowAt w 1 (.slice (if c = 1 then some ⟨b, 0, none⟩ else some ⟨b, 1, none⟩) (n - 1) (c - 1)) (n - 1) (xs.drop 1) := by
  by_cases h1 : c = 1
  · rw [if_pos h1]
    obtain ⟨hl, -⟩ := h
    exact ⟨by rw [List.length_drop]; omega, _, _, rfl, Or.inl (by omega)⟩
  · rw [if_neg h1]
    exact rowat_drop h 1 hn
end Go.Proofs.YtacmpggigdlmmaaDoor

namespace Go.Proofs.YtacmpggigdlmmaaDoor
open Go.RowKit

theorem Tryd.sizeNodeB : (Tryd.prog.info? 55).map (·.size) = some 4 := by kernel_rfl

theorem Tryd.sizeWorkB : (Tryd.prog.info? 36).map (·.size) = some 6 := by kernel_rfl

set_option maxHeartbeats 2000000 in
set_option maxRecDepth 100000 in
theorem leafPart_any (L : List (ByteArray × ByteArray)) (hl : L.length ≤ 1048576) (a : Option Addr) (cap : Nat) (hcap : L.length ≤ cap) (gc i : Nat) (hi : 4 * i < L.length) (w : World) (hg : w.heap[gc]? = some (Obj.cells #[.slice a L.length cap] 40)) (hr : RowAt w 2 (.slice a L.length cap) L.length (prs L)) :
    Calls Tryd.prog 60 #[.int .i64 ((i : Int) * 4), .int .i64 ((4 * i + (four L i).length : Nat) : Int), .pointer (some ⟨gc, 0, none⟩)] w fun e w' => ∃ v', e = .returned v' ∧ NodeOwn w' w.heap.size v' true ((four L i).map (·.1)) ((four L i).map (·.2)) [] ∧ Below w.heap.size w w' := by
  obtain ⟨m, hm⟩ : ∃ m, (four L i).length = m := ⟨_, rfl⟩
  have hml : 4 * i + m ≤ L.length ∧ m ≤ 4 ∧ 0 < m := by rw [← hm, four_len]; omega
  have HM := hide hm
  obtain ⟨n, hn⟩ : ∃ n, L.length = n := ⟨_, rfl⟩
  have HN := hide hn
  rw [hn] at hl hcap hg hr hml hi
  have hgl := (Array.getElem?_eq_some_iff.1 hg).1
  obtain ⟨-, a', cap', e, h2⟩ := hr
  injection e with e1 e2 e3
  subst e1
  rcases h2 with h0 | ⟨b, off, rfl, hbl, hc⟩
  · omega
  have HC := hide hc
  have hg0 : w.cell? ⟨gc, 0, none⟩ = some (.slice (some ⟨b, off, none⟩) n cap) := (cell_at hg 0).1
  rw [hm]
  obtain ⟨h5, h6, h7⟩ := hml
  have j1 : (0 : Int) ≤ (i : Int) := by omega
  have j2 : (i : Int) * 4 ≤ ((4 * i + m : Nat) : Int) := by omega
  have j3 : ((4 * i + m : Nat) : Int) ≤ (cap : Int) := by omega
  clear hc hg hm hn e2 e3
  have HX : Hid (∀ j, j < m → ∃ x y, (prs L)[i * 4 * 2 + j * 2]? = some (.string x) ∧ (prs L)[i * 4 * 2 + j * 2 + 1]? = some (.string y) ∧ ((four L i).map (·.1)).take (j + 1) = ((four L i).map (·.1)).take j ++ [x] ∧ ((four L i).map (·.2)).take (j + 1) = ((four L i).map (·.2)).take j ++ [y]) := hide (fun j hj => by
    have hjl : 4 * i + j < L.length := by have := HN.out; omega
    have hjf : j < (four L i).length := by rw [HM.out]; exact hj
    have he : (four L i)[j] = L[4 * i + j] := by simp [four]
    obtain ⟨p1, p2⟩ := prs_at L (4 * i + j) hjl
    refine ⟨_, _, by rw [← p1]; congr 1; omega, by rw [← p2]; congr 1; omega, ?_, ?_⟩
    · rw [List.take_succ_eq_append_getElem (by simpa using hjf), List.getElem_map, he]
    · rw [List.take_succ_eq_append_getElem (by simpa using hjf), List.getElem_map, he])
  obtain ⟨K, hK⟩ : ∃ K, (four L i).map (·.1) = K := ⟨_, rfl⟩
  obtain ⟨V, hV⟩ : ∃ V, (four L i).map (·.2) = V := ⟨_, rfl⟩
  have HKm : Hid (K.length = m ∧ V.length = m) := hide (by rw [← hK, ← hV, List.length_map, List.length_map]; exact ⟨HM.out, HM.out⟩)
  rw [hK, hV] at HX ⊢
  clear hK hV HM HN
  obtain ⟨b0, hb0⟩ : ∃ b0, b0 = w.heap.size := ⟨_, rfl⟩
  have hs0 := sep_none (sep_none (sep_new (sep_new (sep_nil w.heap.size w) (Obj.cells #[.bool false, .slice none 0 0, .slice none 0 0, .slice none 0 0] 55) (Nat.le_refl _)) (Obj.cells #[.bool true, .slice none 0 0, .slice none 0 0, .slice none 0 0] 55) (by simp)) w.heap.size 9) w.heap.size 9
  rw [World.size_alloc] at hs0
  obtain ⟨w0, hw0⟩ : ∃ w0, w0 = (w.alloc (Obj.cells #[.bool false, .slice none 0 0, .slice none 0 0, .slice none 0 0] 55)).alloc (Obj.cells #[.bool true, .slice none 0 0, .slice none 0 0, .slice none 0 0] 55) := ⟨_, rfl⟩
  have hbw0 : Below w.heap.size w w0 := by rw [hw0]; exact ((Below.refl w.heap.size w).alloc (Nat.le_refl _) _).alloc (by simp) _
  rw [← hw0] at hs0
  have HS0 : Hid (Sep b0 w0 [rowA b0 9 1 (.slice none 0 0) 0 (strs []), rowA b0 9 1 (.slice none 0 0) 0 (strs []), cellA (b0 + 1) (Obj.cells #[.bool true, .slice none 0 0, .slice none 0 0, .slice none 0 0] 55), cellA b0 (Obj.cells #[.bool false, .slice none 0 0, .slice none 0 0, .slice none 0 0] 55)]) := hide (by rw [hb0]; exact hs0)
  have HB0 : Hid (Below b0 w w0) := hide (by rw [hb0]; exact hbw0)
  have HE := hide (⟨hw0, hb0⟩ : _ ∧ _)
  clear hs0 hbw0 hw0 hb0
  go_enter Tryd.func60, Tryd.ntmps60
  go_wp2
  obtain ⟨hw0, hb0⟩ := HE.out
  rw [show 4 * i + m - i * 4 = m from by omega, ← hw0, ← hb0]
  have hbl' : b < b0 := by rw [hb0]; exact hbl
  have HB00 := hide hb0
  clear hw0 hb0 HE hg0 j1 j2 j3
  go_loopg [15] m (fun q iv wr => ∃ (j : Nat) (x1 x2 : Option Addr) (c1 c2 : Nat), j ≤ m ∧ q + j = m ∧ iv = .int .i64 (j : Int) ∧ Hid (Sep b0 wr [rowA b0 9 1 (.slice x1 j c1) j (strs (K.take j)), rowA b0 9 1 (.slice x2 j c2) j (strs (V.take j)), cellA (b0 + 1) (Obj.cells #[.bool true, .slice x1 j c1, .slice x2 j c2, .slice none 0 0] 55), cellA b0 (Obj.cells #[.bool false, .slice none 0 0, .slice none 0 0, .slice none 0 0] 55)]) ∧ Hid (Below b0 w wr))
  case atStart => exact ⟨0, none, none, 0, 0, Nat.zero_le _, rfl, rfl, HS0, HB0⟩
  case round =>
    obtain ⟨j, x1, x2, c1, c2, hjm, hq, rfl, HS, HB⟩ := hrel
    have HQ := hide hq
    clear hq HS0 HB0
    by_cases hlt : j < m
    · obtain ⟨x, y, p1, p2, hT1, hT2⟩ := HX.out j hlt
      have c0 : wr.cell? ⟨b, off + i * 4 * 2 + j * 2, none⟩ = some (.string x) := by rw [HB.out.cell (by exact hbl'), Nat.add_assoc, HC.out _ (by omega), p1]
      have c1 : wr.cell? ⟨b, off + i * 4 * 2 + j * 2 + 1, none⟩ = some (.string y) := by rw [HB.out.cell (by exact hbl'), show off + i * 4 * 2 + j * 2 + 1 = off + (i * 4 * 2 + j * 2 + 1) from by omega, HC.out _ (by omega), p2]
      have hbz : b0 ≤ wr.heap.size := by have := (sep_lt HS.out 3 rfl b0 rfl).2; omega
      have hs1 := sep_new HS.out (Obj.cells #[.string x, .string y] 53) hbz
      obtain ⟨w1, hw1⟩ : ∃ w1, w1 = wr.alloc (Obj.cells #[.string x, .string y] 53) := ⟨_, rfl⟩
      have HB1 : Hid (Below b0 w w1) := hide (by rw [hw1]; exact HB.out.alloc hbz _)
      have HZ1 : Hid (b0 ≤ w1.heap.size) := hide (by rw [hw1]; simp; omega)
      rw [← hw1] at hs1
      obtain ⟨g8, hg8⟩ : ∃ g, g = wr.heap.size := ⟨_, rfl⟩
      rw [← hg8] at hs1
      have HS1 := hide hs1
      have HT := hide (⟨hT1, hT2⟩ : _ ∧ _)
      have hj0 : (0 : Int) ≤ (j : Int) := by omega
      have hj1 : (j : Int) < (m : Int) := by omega
      have hj2 : j ≤ 3000000 := by omega
      clear hs1 p1 p2 hT1 hT2
      go_upto_region 5 with fail
      rw [← hw1, ← hg8]
      clear hw1 hg8 c0 c1 hbz
      obtain ⟨d0, d1, d2, d3⟩ := blk4c (sep_get HS1.out 3 rfl : w1.heap[b0 + 1]? = some (Obj.cells #[.bool true, .slice x1 j c1, .slice x2 j c2, .slice none 0 0] 55))
      have e0 : w1.cell? ⟨g8, 0, none⟩ = some (.string x) := (cell_at (sep_get HS1.out 0 rfl : w1.heap[g8]? = some (Obj.cells #[.string x, .string y] 53)) 0).1
      go_wp2_with (at_builtin; refine wpList_str1 HS1.out 1 rfl (Nat.le_refl _) HZ1.out HZ1.out rfl (.tmp 20) (.tmp 23) rfl rfl x rfl rfl hj2 ?_)
      intro b4 c4 w4 hs4 hb4
      have z1 := (blk4z (sep_get hs4 3 rfl : w4.heap[b0 + 1]? = some (Obj.cells #[.bool true, .slice x1 j c1, .slice x2 j c2, .slice none 0 0] 55)))
      have y1 := (blk4c (sep_get hs4 3 rfl : w4.heap[b0 + 1]? = some (Obj.cells #[.bool true, .slice x1 j c1, .slice x2 j c2, .slice none 0 0] 55)))
      have hs5 := sep_store hs4 3 rfl 1 (.slice (some ⟨b4, 0, none⟩) (j + 1) c4)
      obtain ⟨w5, hw5⟩ : ∃ w5, w5 = w4.setCell ⟨b0 + 1, 1, none⟩ (.slice (some ⟨b4, 0, none⟩) (j + 1) c4) := ⟨_, rfl⟩
      have HB5 : Hid (Below b0 w w5) := hide (by rw [hw5]; exact (HB1.out.trans hb4).setCell (p := ⟨b0 + 1, 1, none⟩) (by show b0 ≤ b0 + 1; omega) _)
      have HZ5 : Hid (b0 ≤ w5.heap.size) := hide (by rw [hw5]; have := HZ1.out; have := hb4.size; simp; omega)
      rw [← hw5] at hs5
      have HS5 := hide hs5
      obtain ⟨z10, z11, z12, z13⟩ := z1
      obtain ⟨y10, y11, y12, y13⟩ := y1
      clear hs4 hb4 hs5 d0 d1 d2 d3 e0 HS1 HB1 HZ1
      go_upto_region 6 with fail
      rw [← hw5]
      clear hw5 z10 z11 z12 z13 y10 y11 y12 y13
      obtain ⟨d0, d1, d2, d3⟩ := blk4c (sep_get HS5.out 3 rfl : w5.heap[b0 + 1]? = some (Obj.cells #[.bool true, .slice (some ⟨b4, 0, none⟩) (j + 1) c4, .slice x2 j c2, .slice none 0 0] 55))
      have e1 : w5.cell? ⟨g8, 1, none⟩ = some (.string y) := (cell_at (sep_get HS5.out 0 rfl : w5.heap[g8]? = some (Obj.cells #[.string x, .string y] 53)) 1).1
      go_wp2_with (at_builtin; refine wpList_str1 HS5.out 2 rfl (Nat.le_refl _) HZ5.out HZ5.out rfl (.tmp 27) (.tmp 30) rfl rfl y rfl rfl hj2 ?_)
      intro b6 c6 w6 hs6 hb6
      obtain ⟨z10, z11, z12, z13⟩ := (blk4z (sep_get hs6 3 rfl : w6.heap[b0 + 1]? = some (Obj.cells #[.bool true, .slice (some ⟨b4, 0, none⟩) (j + 1) c4, .slice x2 j c2, .slice none 0 0] 55)))
      obtain ⟨y10, y11, y12, y13⟩ := (blk4c (sep_get hs6 3 rfl : w6.heap[b0 + 1]? = some (Obj.cells #[.bool true, .slice (some ⟨b4, 0, none⟩) (j + 1) c4, .slice x2 j c2, .slice none 0 0] 55)))
      have HS7 := hide (sep_store hs6 3 rfl 2 (.slice (some ⟨b6, 0, none⟩) (j + 1) c6))
      have HB7 := hide ((HB5.out.trans hb6).setCell (p := ⟨b0 + 1, 2, none⟩) (by show b0 ≤ b0 + 1; omega) (.slice (some ⟨b6, 0, none⟩) (j + 1) c6))
      clear hs6 hb6 d0 d1 d2 d3 e1 HS5 HB5 HZ5
      go_wp2_with fail
      go_roundg (gk - 1)
      case measure => have := HQ.out; omega
      case rel => exact ⟨j + 1, _, _, _, _, by omega, by have := HQ.out; omega, by go_num, hide (by rw [HT.out.1, HT.out.2]; exact sep_del HS7.out), HB7⟩
    · obtain rfl : j = m := by omega
      have hs1 := sep_store4 HS.out 3 rfl (.bool true) (.slice x1 j c1) (.slice x2 j c2) (.slice none 0 0)
      have hs2 := sep_pick (pre := [_, _, _, _, _]) (rest := []) (sep_none hs1 b0 3) [1, 2, 0] (by decide) [_, _, _] rfl
      have hno := nodeOwn_downP (sep_node (lf := true) (cs := []) hs2) (Nat.le_refl _)
      rw [List.take_of_length_le (by rw [HKm.out.1]; exact Nat.le_refl _), List.take_of_length_le (by rw [HKm.out.2]; exact Nat.le_refl _)] at hno
      have HNo := hide hno
      have HCl := hide (sep_get hs1 3 rfl : (set4 wr b0 (.bool true) (.slice x1 j c1) (.slice x2 j c2) (.slice none 0 0)).heap[b0]? = some (Obj.cells #[.bool true, .slice x1 j c1, .slice x2 j c2, .slice none 0 0] 55))
      have HBl : Hid (Below b0 w (set4 wr b0 (.bool true) (.slice x1 j c1) (.slice x2 j c2) (.slice none 0 0))) := hide ((((HB.out.setCell (p := ⟨b0, 0, none⟩) (Nat.le_refl b0) _).setCell (p := ⟨b0, 1, none⟩) (Nat.le_refl b0) _).setCell (p := ⟨b0, 2, none⟩) (Nat.le_refl b0) _).setCell (p := ⟨b0, 3, none⟩) (Nat.le_refl b0) _)
      obtain ⟨y0, y1, y2, y3⟩ := blk4c (sep_get HS.out 2 rfl : wr.heap[b0 + 1]? = some (Obj.cells #[.bool true, .slice x1 j c1, .slice x2 j c2, .slice none 0 0] 55))
      obtain ⟨u0, u1, u2, u3⟩ := blk4c (sep_get HS.out 3 rfl : wr.heap[b0]? = some (Obj.cells #[.bool false, .slice none 0 0, .slice none 0 0, .slice none 0 0] 55))
      obtain ⟨z0, z1, z2, z3⟩ := blk4z (sep_get HS.out 3 rfl : wr.heap[b0]? = some (Obj.cells #[.bool false, .slice none 0 0, .slice none 0 0, .slice none 0 0] 55))
      clear hs1 hs2 hno
      go_wp2
      refine bodyPost_ret (v := .agg #[.bool true, .slice x1 j c1, .slice x2 j c2, .slice none 0 0]) (results_c Tryd.results60 rfl (run_agg (range_all HCl.out) Tryd.underlying55 rfl Tryd.sizeNodeB)) rfl ⟨_, rfl, ?_, ?_⟩
      · rw [← HB00.out]; exact HNo.out
      · rw [← HB00.out]; exact HBl.out

set_option maxHeartbeats 2000000 in
set_option maxRecDepth 100000 in
theorem abovePart_any (l : List (ByteArray × Int)) (hl : l.length ≤ 1048576) (a : Option Addr) (cap : Nat) (hcap : l.length ≤ cap) (gc i : Nat) (hi : 4 * i < l.length) (w : World) (hg : w.heap[gc]? = some (Obj.cells #[.slice a l.length cap] 77)) (hr : RowAt w 2 (.slice a l.length cap) l.length (hvs l)) :
    Calls Tryd.prog 62 #[.int .i64 ((i : Int) * 4), .int .i64 ((4 * i + (four l i).length : Nat) : Int), .pointer (some ⟨gc, 0, none⟩)] w fun e w' => ∃ v', e = .returned v' ∧ NodeOwn w' w.heap.size v' false ((four l i).map (·.1)) [] ((four l i).map (·.2)) ∧ Below w.heap.size w w' := by
  obtain ⟨m, hm⟩ : ∃ m, (four l i).length = m := ⟨_, rfl⟩
  have hml : 4 * i + m ≤ l.length ∧ m ≤ 4 ∧ 0 < m := by rw [← hm, four_len]; omega
  obtain ⟨n, hn⟩ : ∃ n, l.length = n := ⟨_, rfl⟩
  rw [hn] at hl hcap hg hr hml hi
  have hgl := (Array.getElem?_eq_some_iff.1 hg).1
  have hr0 := hr
  obtain ⟨-, a', cap', e, h2⟩ := hr0
  injection e with e1 e2 e3
  subst e1
  rcases h2 with h0 | ⟨b, off, rfl, hbl, hc⟩
  · omega
  have hg0 : w.cell? ⟨gc, 0, none⟩ = some (.slice (some ⟨b, off, none⟩) n cap) := (cell_at hg 0).1
  obtain ⟨h5, h6, h7⟩ := hml
  have HRow : Hid (∀ wx, Below w.heap.size w wx → RowAt wx 2 (.slice (some ⟨b, off + i * 4 * 2, none⟩) (4 * i + m - i * 4) (cap - i * 4)) (four l i).length (hvs (four l i))) := hide (fun wx hb => by
    have h := prs_drop2 (c' := cap - i * 4) (row_below hr hb) (i * 4) m (by omega)
    rw [hvs_cut] at h
    have e : (l.drop (i * 4)).take m = four l i := by
      rw [← hm, four_len]
      unfold four
      rw [Nat.mul_comm i 4]
      by_cases h4 : 4 ≤ l.length - 4 * i
      · rw [Nat.min_eq_left h4]
      · rw [Nat.min_eq_right (by omega), List.take_of_length_le (by rw [List.length_drop]; exact Nat.le_refl _), List.take_of_length_le (by rw [List.length_drop]; omega)]
    rw [e] at h
    rw [hm, show 4 * i + m - i * 4 = m from by omega]
    exact h)
  have HEn := hide (fun v wx h => entriesOf_any (four l i) (by rw [hm]; omega) v wx h)
  rw [hm] at HRow HEn
  rw [hm]
  obtain ⟨K, hK⟩ : ∃ K, (four l i).map (·.1) = K := ⟨_, rfl⟩
  obtain ⟨V, hV⟩ : ∃ V, (four l i).map (·.2) = V := ⟨_, rfl⟩
  have HKm : Hid (K.length = m ∧ V.length = m) := hide (by rw [← hK, ← hV, List.length_map, List.length_map]; exact ⟨hm, hm⟩)
  rw [hK, hV] at HEn ⊢
  have j1 : (0 : Int) ≤ (i : Int) := by omega
  have j2 : (i : Int) * 4 ≤ ((4 * i + m : Nat) : Int) := by omega
  have j3 : ((4 * i + m : Nat) : Int) ≤ (cap : Int) := by omega
  clear hc hg hm hn e2 e3 hr hK hV
  obtain ⟨b0, hb0⟩ : ∃ b0, b0 = w.heap.size := ⟨_, rfl⟩
  have HS0 := hide (sep_new (sep_nil w.heap.size w) (Obj.cells #[.bool false, .slice none 0 0, .slice none 0 0, .slice none 0 0] 55) (Nat.le_refl _))
  have HB0 : Hid (Below w.heap.size w (w.alloc (Obj.cells #[.bool false, .slice none 0 0, .slice none 0 0, .slice none 0 0] 55))) := hide ((Below.refl w.heap.size w).alloc (Nat.le_refl _) _)
  go_enter Tryd.func62, Tryd.ntmps62
  go_wp2_with fail
  refine (HEn.out _ _ (HRow.out _ HB0.out)).mono ?_
  rintro e w1 ⟨v1, v2, rfl, o1, o2, hb1⟩
  obtain ⟨x1, c1, rfl⟩ := own_slice o1
  obtain ⟨x2, c2, rfl⟩ := own_slice o2
  have hap : ∀ k, (Value.slice x1 m c1).ownBlock = some k → ¬ (Value.slice x2 m c2).ownBlock = some k := fun k ha hb => by
    rcases o1.2 with ⟨e, -⟩ | ⟨g, cc, cur, e, -, hh, -⟩
    · injection e with e; subst e; cases ha
    · injection e with e; subst e
      injection ha with ha
      have ha : g = k := ha
      subst ha
      rcases o2.2 with ⟨e, -⟩ | ⟨g', cc', cur', e, -, hh', -⟩
      · injection e with e; subst e; cases hb
      · injection e with e; subst e
        injection hb with hb
        have hb : g' = g := hb
        subst hb
        rw [hh] at hh'
        injection hh' with hh'
        cases hh'
  have hz0 : w.heap.size ≤ (w.alloc (Obj.cells #[.bool false, .slice none 0 0, .slice none 0 0, .slice none 0 0] 55)).heap.size := by simp
  have hs1 := sep_join HS0.out hb1 (l' := [rowA w.heap.size 9 1 (.slice x1 m c1) m (strs K), rowA w.heap.size 3 1 (.slice x2 m c2) m (ints V)]) (sep_cons.2 ⟨⟨own_down o1 hz0, fun k hk => (o1.lt k hk)⟩, fun A hA k hk => by
    obtain rfl := List.mem_singleton.1 hA
    exact hap k hk, sep_cons.2 ⟨⟨own_down o2 hz0, fun k hk => (o2.lt k hk)⟩, fun A hA => (by cases hA), sep_nil _ _⟩⟩) hz0
  have hs2 := sep_store4 hs1 2 rfl (.bool false) (.slice x1 m c1) (.slice none 0 0) (.slice x2 m c2)
  have hs3 := sep_pick (pre := [_, _, _, _]) (rest := []) (sep_none hs2 w.heap.size 9) [1, 0, 2] (by decide) [_, _, _] rfl
  have HNo := hide (sep_node (lf := false) (vs := []) hs3)
  have HCl := hide (sep_get hs2 2 rfl : (set4 w1 w.heap.size (.bool false) (.slice x1 m c1) (.slice none 0 0) (.slice x2 m c2)).heap[w.heap.size]? = some (Obj.cells #[.bool false, .slice x1 m c1, .slice none 0 0, .slice x2 m c2] 55))
  have HBl : Hid (Below w.heap.size w (set4 w1 w.heap.size (.bool false) (.slice x1 m c1) (.slice none 0 0) (.slice x2 m c2))) := hide (((((HB0.out.trans (hb1.mono HB0.out.size)).setCell (p := ⟨w.heap.size, 0, none⟩) (Nat.le_refl _) _).setCell (p := ⟨w.heap.size, 1, none⟩) (Nat.le_refl _) _).setCell (p := ⟨w.heap.size, 2, none⟩) (Nat.le_refl _) _).setCell (p := ⟨w.heap.size, 3, none⟩) (Nat.le_refl _) _)
  obtain ⟨u0, u1, u2, u3⟩ := blk4c (sep_get hs1 2 rfl : w1.heap[w.heap.size]? = some (Obj.cells #[.bool false, .slice none 0 0, .slice none 0 0, .slice none 0 0] 55))
  obtain ⟨z0, z1, z2, z3⟩ := blk4z (sep_get hs1 2 rfl : w1.heap[w.heap.size]? = some (Obj.cells #[.bool false, .slice none 0 0, .slice none 0 0, .slice none 0 0] 55))
  clear hs1 hs2 hs3 hap o1 o2 hz0 hb1
  go_wp2
  exact bodyPost_ret (v := .agg #[.bool false, .slice x1 m c1, .slice none 0 0, .slice x2 m c2]) (results_c Tryd.results62 rfl (run_agg (range_all HCl.out) Tryd.underlying55 rfl Tryd.sizeNodeB)) rfl ⟨_, rfl, HNo.out, HBl.out⟩

end Go.Proofs.YtacmpggigdlmmaaDoor

namespace Go.Proofs.YtacmpggigdlmmaaDoor
open Go.RowKit

/-- a work as an array of cells -/
theorem work_arr {w : World} {B : Nat} {v : Value} {k : Wk} (h : WorkOwn w B v k) : ∃ cs : Array Value, v = .agg cs ∧ cs.size = 6 ∧ cs.toList.all (·.oneCell') = true := by
  obtain ⟨a1, c1, a2, c2, a3, c3, a4, c4, a5, c5, rfl⟩ := work_form h
  exact ⟨_, rfl, rfl, rfl⟩

/-- what putLevel leaves -/
def LvPost (B gc : Nat) (O : Obj) (rest : List Ast) (R : Option Bst) (W : World) (e : Ending) (W' : World) : Prop := Below B W W' ∧ ((R = none ∧ e = .returned (.tuple #[.agg #[.slice none 0 0, .slice none 0 0, .int .i64 0, .slice none 0 0, .slice none 0 0, .slice none 0 0], .slice none 0 0, .bool false]) ∧ Sep B W' (cellA gc O :: rest)) ∨ (∃ st v r, R = some st ∧ e = .returned (.tuple #[v, r, .bool true]) ∧ Sep B W' (workA B v st.1 :: rowA B 83 2 r st.2.2.length (hvs (st.2.1.zip st.2.2)) :: cellA gc O :: rest)))

/-- a new row without anything, of any size -/
theorem sep_row0h {B : Nat} {W : World} {g e sz : Nat} {l : List Ast} (h : Sep B W (cellA g (Obj.cells #[] e) :: l)) : Sep B W (rowA B e sz (.slice (some ⟨g, 0, none⟩) 0 0) 0 [] :: l) := by
  obtain ⟨⟨h1, h2⟩, h3, h4⟩ := sep_cons.1 h
  refine sep_cons.2 ⟨⟨⟨by rw [Nat.zero_mul]; rfl, Or.inr ⟨g, 0, #[], rfl, (h2 g rfl).1, h1, Nat.le_refl _, Nat.zero_le _, by rw [Nat.zero_mul]; rfl, by rw [Nat.zero_mul]; rfl⟩⟩, fun k hk => ?_⟩, fun A' hA' k hk => ?_, h4⟩
  · injection hk with hk
    have hk : g = k := hk
    subst hk
    exact h2 g rfl
  · injection hk with hk
    have hk : g = k := hk
    subst hk
    exact h3 A' hA' g rfl

theorem Tryd.infoHalfB : (Tryd.prog.info? 83).map (fun i => (i.zero, i.size, i.bytes)) = some (some (.agg #[.string ⟨#[]⟩, .int .i64 0]), 2, 24) := by kernel_rfl

/-- an append of a half -/
theorem wpList_half1 {ops : Array Oper} {rest : List Oper} {o : Oper} {a : Act} {Q : Exit → Act → World → Prop} {B : Nat} {W : World} {l : List Ast} (h : Sep B W l) (i : Nat) {B' n : Nat} {v : Value} {xs : List (ByteArray × Int)} (hi : l[i]? = some (rowA B' 83 2 v n (hvs xs))) (hBB : B ≤ B') (hBW : B ≤ W.heap.size) (hBW' : B' ≤ W.heap.size)
    (hgd : o.guard = none) (s x : Operand) (ho : o.op = .call { callee := .builtin .append, args := #[s, x], argTypes := #[77, 77] }) (hs : a.eval s = v) (p : ByteArray) (y : Int) {H : Nat} (hH : H = W.heap.size) (hx : a.eval x = .slice (some ⟨H, 0, none⟩) 1 1) (hn : n ≤ 3000000)
    (hK : ∀ b c w', Sep B w' (l.set i (rowA B' 83 2 (.slice (some ⟨b, 0, none⟩) (n + 1) c) (n + 1) (hvs (xs ++ [(p, y)])))) → Below B W w' → wpList Tryd.prog ops Q rest (a.put o.dst (.slice (some ⟨b, 0, none⟩) (n + 1) c)) w') :
    wpList Tryd.prog ops Q (o :: rest) a (W.alloc (Obj.cells #[.string p, .int .i64 y] 83)) := by
  obtain ⟨i0, hinf, hz0, hz1, hz2⟩ := info_parts Tryd.infoHalfB
  refine wpList_sep1 h i hi hBB hBW hBW' hgd s x 77 ho i0 (.agg #[.string ⟨#[]⟩, .int .i64 0]) 24 Tryd.underlying77 hinf hz0 hz1 hz2 rfl (by decide) hs #[.string p, .int .i64 y] hH hx rfl (fun u hu => by simp at hu; rcases hu with rfl | rfl <;> rfl) (by unfold maxLen; omega) (by omega) (fun b c w' k1 k2 => hK b c w' ?_ k2)
  rw [← hvs_snoc]
  exact k1

/-- a struct and two words are the answer -/
theorem results_ctt {P : Program} {fn : Func} {t u s : Tmp} {ty : TypeId} (h : fn.results = #[.cell t ty, .tmp u, .tmp s]) {tmps : Array Value} {w : World} {b : Nat} (hp : tmps.getD t undef = .pointer (some ⟨b, 0, none⟩)) {cs : Array Value} {x y : Value} (hx : tmps.getD u undef = x) (hy : tmps.getD s undef = y) (hl : (loadVar ty ⟨b, 0, none⟩).run P w = .ok (.agg cs) w) : (results fn tmps).run P w = .ok (.tuple #[.agg cs, x, y]) w := by
  simp only [Array.getD_eq_getD_getElem?] at hp hx hy
  simp [results, h, hp, hx, hy, asAddr, hl]

theorem lvl_no {N : Nat → Bool × List ByteArray × List ByteArray × List Int} {M i : Nat} {st : Bst} {lf : Bool} (hi : i < M) (hlf : (N i).1 = lf) (h0 : putP st.1 lf (N i).2.1 (N i).2.2.1 (N i).2.2.2 = 0) : lvlR N (M - i) i st = none := by
  rw [show M - i = M - (i + 1) + 1 from by omega, lvlR, hlf, oneS, if_pos h0]
  rfl

theorem lvl_yes {N : Nat → Bool × List ByteArray × List ByteArray × List Int} {M i : Nat} {st : Bst} {lf : Bool} (hi : i < M) (hlf : (N i).1 = lf) (h0 : putP st.1 lf (N i).2.1 (N i).2.2.1 (N i).2.2.2 ≠ 0) : lvlR N (M - i) i st = lvlR N (M - (i + 1)) (i + 1) (putK st.1 lf (N i).2.1 (N i).2.2.1 (N i).2.2.2, st.2.1 ++ [(N i).2.1.getD 0 ⟨#[]⟩], st.2.2 ++ [putP st.1 lf (N i).2.1 (N i).2.2.1 (N i).2.2.2]) := by
  rw [show M - i = M - (i + 1) + 1 from by omega, lvlR, hlf, oneS, if_neg h0]
  rfl

theorem one_ok' {st : Bst} {lf : Bool} {ks vs : List ByteArray} {cs : List Int} {i m : Nat} (hs : st.ok i (m + 1)) (hk : ∀ s ∈ ks, s.size ≤ 1048576) (h0 : putP st.1 lf ks vs cs ≠ 0) : Bst.ok (putK st.1 lf ks vs cs, st.2.1 ++ [ks.getD 0 ⟨#[]⟩], st.2.2 ++ [putP st.1 lf ks vs cs]) (i + 1) m :=
  one_ok hs hk (by rw [oneS, if_neg h0])

set_option maxHeartbeats 8000000 in
set_option maxRecDepth 100000 in
theorem putLevel_leaf (B gc : Nat) (O : Obj) (rest : List Ast) (v : Value) (k : Wk) (n : Nat) (hn : n ≤ 1048576) (N : Nat → Bool × List ByteArray × List ByteArray × List Int) (hN : ∀ i, (N i).1 = true ∧ (N i).2.1.length ≤ 4 ∧ (N i).2.2.1.length ≤ 4 ∧ (N i).2.2.2.length ≤ 4 ∧ (∀ s ∈ (N i).2.1, s.size ≤ 1048576) ∧ ∀ s ∈ (N i).2.2.1, s.size ≤ 1048576) (hk : k.rm (fours n)) (W : World) (hBW : B ≤ W.heap.size) (hT : ∀ wx, Below B W wx → SumTab wx)
    (hP : ∀ (i : Nat) (wx : World), 4 * i < n → Sep B wx (cellA gc O :: rest) → Below B W wx → Calls Tryd.prog 60 #[.int .i64 ((i : Int) * 4), .int .i64 (min ((i : Int) * 4 + 4) (n : Int)), .pointer (some ⟨gc, 0, none⟩)] wx fun e w' => ∃ v', e = .returned v' ∧ NodeOwn w' wx.heap.size v' true (N i).2.1 (N i).2.2.1 (N i).2.2.2 ∧ Below wx.heap.size wx w')
    (hS : Sep B W (workA B v k :: cellA gc O :: rest)) :
    Calls Tryd.prog 59 #[v, .int .i64 (n : Int), .func (.func 60) #[] #[.pointer (some ⟨gc, 0, none⟩)]] W fun e W' => LvPost B gc O rest (lvlR N (fours n) 0 (k, [], [])) W e W' := by
  obtain ⟨cs, rfl, hcs, hco⟩ := work_arr (sep_get hS 0 rfl : WorkOwn W B v k)
  obtain ⟨M, hM⟩ : ∃ M, fours n = M := ⟨_, rfl⟩
  have HMf : Hid (∀ i, 4 * i < n ↔ i < M) := hide (fun i => by rw [← hM]; exact fours_lt)
  have hMl : M ≤ 262144 := by rw [← hM]; unfold fours; omega
  have HNf := hide (fun wx => nodesFor_any n (by omega) wx)
  rw [hM] at hk HNf ⊢
  clear hM
  obtain ⟨R, hR⟩ : ∃ R, R = lvlR N M 0 (k, [], []) := ⟨_, rfl⟩
  rw [← hR]
  have HR := hide hR
  have HNN := hide hN
  have HP := hide hP
  have HTb := hide hT
  have HK := hide hk
  clear hR hN hP hT hk
  obtain ⟨a0, ha0⟩ : ∃ a0, a0 = W.heap.size := ⟨_, rfl⟩
  have hs1 := sep_new hS (Obj.cells cs 36) hBW
  have hs2 := sep_new hs1 (Obj.cells #[.slice none 0 0, .slice none 0 0, .int .i64 0, .slice none 0 0, .slice none 0 0, .slice none 0 0] 36) (by simp; omega)
  have hs3 := sep_row0h (sz := 2) (sep_new hs2 (Obj.cells #[] 83) (by simp; omega))
  have hs4 := sep_new hs3 (Obj.cells #[.slice none 0 0, .slice none 0 0, .int .i64 0, .slice none 0 0, .slice none 0 0, .slice none 0 0] 36) (by simp; omega)
  have hs5 := sep_cellsAll hs4 0 rfl cs hcs
  simp only [World.size_alloc] at hs5
  have HS5 := hide (sep_pick (pre := [_, _, _, _, _, _]) hs5 [4, 1, 0, 2, 5] (by decide) [_, _, _, _, _] rfl)
  obtain ⟨w5, hw5⟩ : ∃ w5, w5 = ((((W.alloc (Obj.cells cs 36)).alloc (Obj.cells #[.slice none 0 0, .slice none 0 0, .int .i64 0, .slice none 0 0, .slice none 0 0, .slice none 0 0] 36)).alloc (Obj.cells #[] 83)).alloc (Obj.cells #[.slice none 0 0, .slice none 0 0, .int .i64 0, .slice none 0 0, .slice none 0 0, .slice none 0 0] 36)).setCells (W.heap.size + 1 + 1 + 1) 0 cs.toList := ⟨_, rfl⟩
  have HB5 : Hid (Below B W w5) := hide (by rw [hw5]; exact below_cells (by omega) _ 0 _ (((((Below.refl B W).alloc hBW _).alloc (by simp; omega) _).alloc (by simp; omega) _).alloc (by simp; omega) _))
  have hrb : Hid (((W.alloc (Obj.cells cs 36)).alloc (Obj.cells #[.slice none 0 0, .slice none 0 0, .int .i64 0, .slice none 0 0, .slice none 0 0, .slice none 0 0] 36)).rangeAt W.heap.size 0 cs.toList) := hide (range_all (sep_get hs2 1 rfl))
  have hth : Hid (((((W.alloc (Obj.cells cs 36)).alloc (Obj.cells #[.slice none 0 0, .slice none 0 0, .int .i64 0, .slice none 0 0, .slice none 0 0, .slice none 0 0] 36)).alloc (Obj.cells #[] 83)).alloc (Obj.cells #[.slice none 0 0, .slice none 0 0, .int .i64 0, .slice none 0 0, .slice none 0 0, .slice none 0 0] 36)).there (W.heap.size + 1 + 1 + 1) 0 cs.size) := hide (by rw [hcs]; exact there_of (cs := #[.slice none 0 0, .slice none 0 0, .int .i64 0, .slice none 0 0, .slice none 0 0, .slice none 0 0]) (T := 36) (by have := sep_get hs4 0 rfl; simp only [World.size_alloc] at this; exact this) 0 6 (show 0 + 6 ≤ 6 by decide))
  have HW5 := hide hw5.symm
  have HSz : Hid ((Tryd.prog.info? 36).map (·.size) = some cs.size) := hide (by rw [hcs]; exact Tryd.sizeWorkB)
  have HCo := hide hco
  have HBW := hide hBW
  rw [← hw5] at HS5
  clear hs1 hs2 hs3 hs4 hs5 hS hcs hco hw5 ha0 hBW
  go_enter Tryd.func59, Tryd.ntmps59
  go_upto_region 2 with (first | ((with_reducible refine wpList_loadL ?_ 36 (.tmp 3) ?_ W.heap.size 0 ?_ cs hrb.out _ Tryd.underlying36 ?_ ?_ ?_); exact rfl; exact rfl; exact rfl; exact rfl; exact HSz.out) | ((with_reducible refine wpList_storeL ?_ 36 (.tmp 9) (.tmp 15) ?_ (W.heap.size + 1 + 1 + 1) 0 cs ?_ ?_ hth.out ?_ ?_ HW5.out ?_); exact rfl; exact rfl; exact rfl; exact rfl; exact HSz.out; exact HCo.out))
  obtain ⟨g9, hg9⟩ : ∃ g, g = W.heap.size + 1 + 1 + 1 := ⟨_, rfl⟩
  obtain ⟨g6, hg6⟩ : ∃ g, g = W.heap.size + 1 := ⟨_, rfl⟩
  obtain ⟨g16, hg16⟩ : ∃ g, g = W.heap.size + 1 + 1 := ⟨_, rfl⟩
  rw [← hg9, ← hg16, ← hg6] at HS5 ⊢
  clear hg9 hg6 hg16 hrb hth HW5
  go_wp2_with fail
  refine (HNf.out _).mono ?_
  rintro e w1 ⟨rfl, rfl⟩
  clear HNf
  go_wp2_with fail
  go_loopg [10, 19] M (fun q rv iv wr => ∃ (i : Nat) (st : Bst) (ds : Array Value) (v : Value), i ≤ M ∧ q + i = M ∧ iv = .int .i64 (i : Int) ∧ v = rv ∧ Hid (ds.size = 6 ∧ ds.toList.all (·.oneCell') = true) ∧ Hid (R = lvlR N (M - i) i st) ∧ Hid (st.ok i (M - i)) ∧ Hid (Sep B wr ([workA B (.agg ds) st.1, rowA B 83 2 v i (hvs (st.2.1.zip st.2.2)), cellA g9 (Obj.cells ds 36), cellA g6 (Obj.cells #[.slice none 0 0, .slice none 0 0, .int .i64 0, .slice none 0 0, .slice none 0 0, .slice none 0 0] 36), cellA gc O] ++ rest)) ∧ Hid (Below B W wr))
  case atStart => exact ⟨0, (k, [], []), cs, _, Nat.zero_le _, rfl, rfl, rfl, hide ⟨by have := HSz.out; rw [Tryd.sizeWorkB] at this; injection this with this; exact this.symm, HCo.out⟩, HR, hide (start_ok HK.out), HS5, HB5⟩
  case round =>
    clear HS5 HB5 HR HK HSz HCo
    obtain ⟨i, st, ds, v, hiM, hq, rfl, rfl, HCs, HR, HOk, HS, HB⟩ := hrel
    have HQ := hide hq
    clear hq
    by_cases hlt : i < M
    · have h4 : 4 * i < n := (HMf.out i).2 hlt
      have HPi := hide (fun wx h1 h2 => HP.out i wx h4 h1 h2)
      obtain ⟨ks, hks⟩ : ∃ x, x = (N i).2.1 := ⟨_, rfl⟩
      obtain ⟨vs, hvs'⟩ : ∃ x, x = (N i).2.2.1 := ⟨_, rfl⟩
      obtain ⟨ps, hps⟩ : ∃ x, x = (N i).2.2.2 := ⟨_, rfl⟩
      obtain ⟨n0, n1, n2, n3, n4, n5⟩ := HNN.out i
      rw [← hks, ← hvs', ← hps] at HPi
      rw [← hks] at n1 n4
      rw [← hvs'] at n2 n5
      rw [← hps] at n3
      have HPut := hide (fun u wx h1 h2 h3 => implPutNode_any (.agg ds) st.1 (rm_small HOk.out.2.2.2) u true ks vs ps (by omega) (by omega) (by omega) n4 n5 wx h1 h2 h3)
      have HNo : Hid (putP st.1 true ks vs ps = 0 → R = none) := hide (fun h => by rw [HR.out]; exact lvl_no hlt n0 (by rw [← hks, ← hvs', ← hps]; exact h))
      have HYes : Hid (putP st.1 true ks vs ps ≠ 0 → R = lvlR N (M - (i + 1)) (i + 1) (putK st.1 true ks vs ps, st.2.1 ++ [ks.getD 0 ⟨#[]⟩], st.2.2 ++ [putP st.1 true ks vs ps]) ∧ Bst.ok (putK st.1 true ks vs ps, st.2.1 ++ [ks.getD 0 ⟨#[]⟩], st.2.2 ++ [putP st.1 true ks vs ps]) (i + 1) (M - (i + 1))) := hide (fun h => ⟨by
        rw [HR.out, hks, hvs', hps]
        exact lvl_yes hlt n0 (by rw [← hks, ← hvs', ← hps]; exact h), one_ok' (by rw [show M - (i + 1) + 1 = M - i from by omega]; exact HOk.out) n4 h⟩)
      have hbr : B ≤ wr.heap.size := Nat.le_trans HBW.out HB.out.size
      clear hks hvs' hps n0 n1 n2 n3 n4 n5 HR
      go_wp2_with fail
      refine (HPi.out wr (sep_pick (pre := [_, _, _, _, _]) HS.out [4] (by decide) [_] rfl) HB.out).mono ?_
      rintro e w1 ⟨nv, rfl, hno, hb1⟩
      obtain ⟨t1, q1, t2, q2, t3, q3, rfl⟩ := node_formS hno
      have hbl1 := hno
      obtain ⟨l1, hl1⟩ : ∃ l, l = ks.length := ⟨_, rfl⟩
      obtain ⟨l2, hl2⟩ : ∃ l, l = vs.length := ⟨_, rfl⟩
      obtain ⟨l3, hl3⟩ : ∃ l, l = ps.length := ⟨_, rfl⟩
      rw [← hl1, ← hl2, ← hl3] at hno ⊢
      have hs1 := sep_add HS.out hb1 (nodeA B (.agg #[.bool true, .slice t1 l1 q1, .slice t2 l2 q2, .slice t3 l3 q3]) true ks vs ps) (nodeOwn_downP hno hbr) (fun j hj => nodeOwn_lt hno j hj) hbr
      have HB1 : Hid (Below B W w1) := hide (HB.out.trans (hb1.mono hbr))
      have hbr1 : B ≤ w1.heap.size := Nat.le_trans HBW.out HB1.out.size
      have hs2 := sep_new hs1 (Obj.cells #[.bool true, .slice t1 l1 q1, .slice t2 l2 q2, .slice t3 l3 q3] 55) hbr1
      obtain ⟨w2, hw2⟩ : ∃ w2, w2 = w1.alloc (Obj.cells #[.bool true, .slice t1 l1 q1, .slice t2 l2 q2, .slice t3 l3 q3] 55) := ⟨_, rfl⟩
      have HB2 : Hid (Below B W w2) := hide (by rw [hw2]; exact HB1.out.alloc hbr1 _)
      obtain ⟨g12, hg12⟩ : ∃ g, g = w1.heap.size := ⟨_, rfl⟩
      rw [← hw2, ← hg12] at hs2
      have HS2 := hide hs2
      have HL1 := hide hl1
      clear hs1 hs2 hno hb1 HB1 hbr hbr1 hl1 hl2 hl3 hbl1 HPi
      go_upto_region 6 with fail
      rw [← hw2, ← hg12]
      clear hw2 hg12
      obtain ⟨d0, d1, d2, d3⟩ := blk4c (sep_get HS2.out 0 rfl : w2.heap[g12]? = some (Obj.cells #[.bool true, .slice t1 l1 q1, .slice t2 l2 q2, .slice t3 l3 q3] 55))
      have HRd : Hid (w2.rangeAt g9 0 ds.toList) := hide (range_all (sep_get HS2.out 4 rfl : w2.heap[g9]? = some (Obj.cells ds 36)))
      have HSz : Hid ((Tryd.prog.info? 36).map (·.size) = some ds.size) := hide (by rw [HCs.out.1]; exact Tryd.sizeWorkB)
      go_wp2_with ((with_reducible refine wpList_loadL ?_ 36 (.tmp 9) ?_ g9 0 ?_ ds HRd.out _ Tryd.underlying36 ?_ ?_ ?_); exact rfl; exact rfl; exact rfl; exact rfl; exact HSz.out)
      refine (HPut.out _ w2 (HTb.out w2 HB2.out) (work_of_own (sep_get HS2.out 2 rfl)) (node_of_own (sep_get HS2.out 1 rfl))).mono ?_
      rintro e w3 ⟨v3, rfl, hown3, hb3⟩
      obtain ⟨es, rfl, hes, heo⟩ := work_arr hown3
      obtain ⟨k2, hk2⟩ : ∃ k2, k2 = putK st.1 true ks vs ps := ⟨_, rfl⟩
      obtain ⟨pg, hpg⟩ : ∃ p, p = putP st.1 true ks vs ps := ⟨_, rfl⟩
      have HOkk : Hid (pg ≠ 0 → nodeOkB true ks vs ps = true) := hide (fun h => put_ok (by rw [← hpg]; exact h))
      rw [← hk2] at hown3
      rw [← hpg]
      rw [← hk2, ← hpg] at HYes
      rw [← hpg] at HNo
      have hb2r : B ≤ w2.heap.size := Nat.le_trans HBW.out HB2.out.size
      have hs3 := sep_add HS2.out hb3 (workA B (.agg es) k2) (workOwn_down hown3 hb2r) (fun j hj => workOwn_lt hown3 j hj) hb2r
      have HB3 : Hid (Below B W w3) := hide (HB2.out.trans (hb3.mono hb2r))
      have hbr3 : B ≤ w3.heap.size := Nat.le_trans HBW.out HB3.out.size
      have hs4 := sep_new hs3 (Obj.cells #[.slice none 0 0, .slice none 0 0, .int .i64 0, .slice none 0 0, .slice none 0 0, .slice none 0 0] 36) hbr3
      have hs5 := sep_cellsAll hs4 0 rfl es hes
      have hth : Hid ((w3.alloc (Obj.cells #[.slice none 0 0, .slice none 0 0, .int .i64 0, .slice none 0 0, .slice none 0 0, .slice none 0 0] 36)).there w3.heap.size 0 es.size) := hide (by rw [hes]; exact there_of (heap_alloc_new w3 (Obj.cells #[.slice none 0 0, .slice none 0 0, .int .i64 0, .slice none 0 0, .slice none 0 0, .slice none 0 0] 36)) 0 6 (show 0 + 6 ≤ 6 by decide))
      obtain ⟨w4, hw4⟩ : ∃ w4, w4 = (w3.alloc (Obj.cells #[.slice none 0 0, .slice none 0 0, .int .i64 0, .slice none 0 0, .slice none 0 0, .slice none 0 0] 36)).setCells w3.heap.size 0 es.toList := ⟨_, rfl⟩
      have HB4 : Hid (Below B W w4) := hide (by rw [hw4]; exact below_cells hbr3 _ 0 _ (HB3.out.alloc hbr3 _))
      obtain ⟨g13, hg13⟩ : ∃ g, g = w3.heap.size := ⟨_, rfl⟩
      rw [← hw4, ← hg13] at hs5
      have HS4 := hide hs5
      have HW4 := hide hw4.symm
      have HEs : Hid ((Tryd.prog.info? 36).map (·.size) = some es.size) := hide (by rw [hes]; exact Tryd.sizeWorkB)
      have HEo := hide heo
      have HEz := hide hes
      have HP2 := hide (⟨hk2, hpg⟩ : _ ∧ _)
      clear hs3 hs4 hs5 hown3 hb3 hb2r hbr3 hes heo hw4 hk2 hpg d0 d1 d2 d3 HPut HS2 HB2 HB3
      go_upto_region 7 with ((with_reducible refine wpList_storeL ?_ 36 (.tmp 13) (.tmp 35) ?_ w3.heap.size 0 es ?_ ?_ hth.out ?_ ?_ HW4.out ?_); exact rfl; exact rfl; exact rfl; exact rfl; exact HEs.out; exact HEo.out)
      rw [← hg13]
      clear hg13 hth HW4
      by_cases hpz : pg = 0
      · have HRn := hide (HNo.out hpz)
        subst hpz
        have hth : Hid (w4.there g6 0 (#[.slice none 0 0, .slice none 0 0, .int .i64 0, .slice none 0 0, .slice none 0 0, .slice none 0 0] : Array Value).size) := hide (there_of (sep_get HS4.out 7 rfl : w4.heap[g6]? = some (Obj.cells #[.slice none 0 0, .slice none 0 0, .int .i64 0, .slice none 0 0, .slice none 0 0, .slice none 0 0] 36)) 0 6 (show 0 + 6 ≤ 6 by decide))
        obtain ⟨wf, hwf⟩ : ∃ wf, wf = w4.setCells g6 0 (#[.slice none 0 0, .slice none 0 0, .int .i64 0, .slice none 0 0, .slice none 0 0, .slice none 0 0] : Array Value).toList := ⟨_, rfl⟩
        have hsf := sep_cellsAll HS4.out 7 rfl #[.slice none 0 0, .slice none 0 0, .int .i64 0, .slice none 0 0, .slice none 0 0, .slice none 0 0] rfl
        have hbf := below_cells (sep_lt HS4.out 7 rfl g6 rfl).1 (#[.slice none 0 0, .slice none 0 0, .int .i64 0, .slice none 0 0, .slice none 0 0, .slice none 0 0] : Array Value).toList 0 w4 HB4.out
        rw [← hwf] at hsf hbf
        have HSf := hide hsf
        have HBf := hide hbf
        have HWf := hide hwf.symm
        clear hsf hbf hwf
        go_wp2_with ((with_reducible refine wpList_storeL ?_ 36 (.tmp 6) (.tmp 39) ?_ g6 0 #[.slice none 0 0, .slice none 0 0, .int .i64 0, .slice none 0 0, .slice none 0 0, .slice none 0 0] ?_ ?_ hth.out ?_ ?_ HWf.out ?_); exact rfl; exact rfl; exact rfl; exact rfl; exact Tryd.sizeWorkB; exact rfl)
        exact bodyPost_ret (v := .tuple #[.agg #[.slice none 0 0, .slice none 0 0, .int .i64 0, .slice none 0 0, .slice none 0 0, .slice none 0 0], .slice none 0 0, .bool false]) (results_ctt Tryd.results59 rfl rfl rfl (run_agg (range_all (sep_get HSf.out 7 rfl : wf.heap[g6]? = some (Obj.cells #[.slice none 0 0, .slice none 0 0, .int .i64 0, .slice none 0 0, .slice none 0 0, .slice none 0 0] 36))) Tryd.underlying36 rfl Tryd.sizeWorkB)) rfl ⟨HBf.out, Or.inl ⟨HRn.out, rfl, sep_pick (pre := [_, _, _, _, _, _, _, _, _]) HSf.out [8] (by decide) [_] rfl⟩⟩
      · have hpb : (pg == 0) = false := by simp [hpz]
        obtain ⟨hR2, hOk2⟩ := HYes.out hpz
        have hlen := (cnt_yes (node_yes (HOkk.out hpz)).1).1
        have hno4 : NodeOwn w4 B (.agg #[.bool true, .slice t1 l1 q1, .slice t2 l2 q2, .slice t3 l3 q3]) true ks vs ps := sep_get HS4.out 3 rfl
        have HR2 := hide hR2
        have HOk2 := hide hOk2
        have HRd4 : Hid (w4.rangeAt g13 0 es.toList) := hide (range_all (sep_get HS4.out 0 rfl : w4.heap[g13]? = some (Obj.cells es 36)))
        have hth : Hid (w4.there g9 0 es.size) := hide (by rw [HEz.out]; exact there_of (sep_get HS4.out 6 rfl : w4.heap[g9]? = some (Obj.cells ds 36)) 0 6 (by rw [HCs.out.1]; decide))
        have hs5 := sep_cellsAll HS4.out 6 rfl es (by rw [HEz.out, HCs.out.1])
        have hb5 := below_cells (sep_lt HS4.out 6 rfl g9 rfl).1 es.toList 0 w4 HB4.out
        obtain ⟨w5, hw5⟩ : ∃ wx, wx = w4.setCells g9 0 es.toList := ⟨_, rfl⟩
        rw [← hw5] at hs5 hb5
        have HS5 := hide hs5
        have HB5 := hide hb5
        have HW5 := hide hw5.symm
        have HZ5 : Hid (B ≤ w5.heap.size) := hide (Nat.le_trans HBW.out hb5.size)
        clear hs5 hb5 hw5 hno4 hR2 hOk2
        go_upto_region 10 with (first | ((with_reducible refine wpList_loadL ?_ 36 (.tmp 13) ?_ g13 0 ?_ es HRd4.out _ Tryd.underlying36 ?_ ?_ ?_); exact rfl; exact rfl; exact rfl; exact rfl; exact HEs.out) | ((with_reducible refine wpList_storeL ?_ 36 (.tmp 9) (.tmp 40) ?_ g9 0 es ?_ ?_ hth.out ?_ ?_ HW5.out ?_); exact rfl; exact rfl; exact rfl; exact rfl; exact HEs.out; exact HEo.out))
        clear hth HRd4 HW5 HS4 HB4
        obtain ⟨d0, d1, d2, d3⟩ := blk4c (sep_get HS5.out 2 rfl : w5.heap[g12]? = some (Obj.cells #[.bool true, .slice t1 l1 q1, .slice t2 l2 q2, .slice t3 l3 q3] 55))
        obtain ⟨y1, y2, y3, ey, r1, -⟩ := node_of_own (sep_get HS5.out 3 rfl : NodeOwn w5 B (.agg #[.bool true, .slice t1 l1 q1, .slice t2 l2 q2, .slice t3 l3 q3]) true ks vs ps)
        obtain ⟨-, rfl, -, -⟩ := agg4 ey
        rw [← HL1.out] at r1 hlen
        obtain ⟨bk, fk, rfl⟩ := rowat_some r1 hlen
        obtain ⟨key, hkey⟩ : ∃ s, s = ks.getD 0 ⟨#[]⟩ := ⟨_, rfl⟩
        have e0 := rowat_cellS r1 (Below.refl _ _) 0 hlen HL1.out
        rw [Nat.add_zero, ← hkey] at e0
        have hl0 : (0 : Int) < (l1 : Int) := by omega
        have HKy := hide hkey
        have hi2 : i ≤ 3000000 := by omega
        clear r1 hkey ey hpb
        go_wp2_with (at_builtin; refine wpList_half1 HS5.out 5 rfl (Nat.le_refl _) HZ5.out HZ5.out rfl (.tmp 41) (.tmp 48) rfl rfl key pg rfl rfl hi2 ?_)
        intro b6 c6 w6 hs6 hb6
        have HS6 := hide (sep_pick (pre := [_, _, _, _, _, _, _, _, _]) hs6 [1, 5, 6, 7, 8] (by decide) [_, _, _, _, _] rfl)
        have HB6 := hide (HB5.out.trans hb6)
        clear hs6 hb6 d0 d1 d2 d3 e0
        go_wp2_with fail
        go_roundg (gk - 1)
        case measure => have := HQ.out; omega
        case rel => exact ⟨i + 1, (k2, st.2.1 ++ [key], st.2.2 ++ [pg]), es, _, by omega, by have := HQ.out; omega, by go_num, rfl, hide ⟨HEz.out, HEo.out⟩, hide (by rw [HKy.out]; exact HR2.out), hide (by rw [HKy.out]; exact HOk2.out), hide (by
          show Sep B w6 ([workA B (.agg es) k2, rowA B 83 2 _ (i + 1) (hvs ((st.2.1 ++ [key]).zip (st.2.2 ++ [pg]))), cellA g9 (Obj.cells es 36), cellA g6 (Obj.cells #[.slice none 0 0, .slice none 0 0, .int .i64 0, .slice none 0 0, .slice none 0 0, .slice none 0 0] 36), cellA gc O] ++ rest)
          rw [List.zip_append (by rw [HOk.out.1, HOk.out.2.1])]
          exact HS6.out), HB6⟩
    · obtain rfl : i = M := by omega
      have HRd : Hid (wr.rangeAt g9 0 ds.toList) := hide (range_all (sep_get HS.out 2 rfl : wr.heap[g9]? = some (Obj.cells ds 36)))
      have HSz : Hid ((Tryd.prog.info? 36).map (·.size) = some ds.size) := hide (by rw [HCs.out.1]; exact Tryd.sizeWorkB)
      have hth : Hid (wr.there g6 0 ds.size) := hide (by rw [HCs.out.1]; exact there_of (sep_get HS.out 3 rfl : wr.heap[g6]? = some (Obj.cells #[.slice none 0 0, .slice none 0 0, .int .i64 0, .slice none 0 0, .slice none 0 0, .slice none 0 0] 36)) 0 6 (show 0 + 6 ≤ 6 by decide))
      obtain ⟨wf, hwf⟩ : ∃ wf, wf = wr.setCells g6 0 ds.toList := ⟨_, rfl⟩
      have hsf := sep_cellsAll HS.out 3 rfl ds (by rw [HCs.out.1]; rfl)
      have hbf := below_cells (sep_lt HS.out 3 rfl g6 rfl).1 ds.toList 0 wr HB.out
      rw [← hwf] at hsf hbf
      have HSf := hide hsf
      have HBf := hide hbf
      have HWf := hide hwf.symm
      have HDo := hide HCs.out.2
      clear hsf hbf hwf
      go_wp2_with (first | ((with_reducible refine wpList_loadL ?_ 36 (.tmp 9) ?_ g9 0 ?_ ds HRd.out _ Tryd.underlying36 ?_ ?_ ?_); exact rfl; exact rfl; exact rfl; exact rfl; exact HSz.out) | ((with_reducible refine wpList_storeL ?_ 36 (.tmp 6) (.tmp 51) ?_ g6 0 ds ?_ ?_ hth.out ?_ ?_ HWf.out ?_); exact rfl; exact rfl; exact rfl; exact rfl; exact HSz.out; exact HDo.out))
      refine bodyPost_ret (v := .tuple #[.agg ds, v, .bool true]) (results_ctt Tryd.results59 rfl rfl rfl (run_agg (range_all (sep_get HSf.out 3 rfl : wf.heap[g6]? = some (Obj.cells ds 36))) Tryd.underlying36 rfl HSz.out)) rfl ⟨HBf.out, Or.inr ⟨st, _, _, ?_, rfl, ?_⟩⟩
      · have h := HR.out
        rw [Nat.sub_self] at h
        exact h
      · rw [HOk.out.2.1]
        exact sep_pick (pre := [_, _, _, _, _]) HSf.out [0, 1, 4] (by decide) [_, _, _] rfl

set_option maxHeartbeats 8000000 in
set_option maxRecDepth 100000 in
theorem putLevel_above (B gc : Nat) (O : Obj) (rest : List Ast) (v : Value) (k : Wk) (n : Nat) (hn : n ≤ 1048576) (N : Nat → Bool × List ByteArray × List ByteArray × List Int) (hN : ∀ i, (N i).1 = false ∧ (N i).2.1.length ≤ 4 ∧ (N i).2.2.1.length ≤ 4 ∧ (N i).2.2.2.length ≤ 4 ∧ (∀ s ∈ (N i).2.1, s.size ≤ 1048576) ∧ ∀ s ∈ (N i).2.2.1, s.size ≤ 1048576) (hk : k.rm (fours n)) (W : World) (hBW : B ≤ W.heap.size) (hT : ∀ wx, Below B W wx → SumTab wx)
    (hP : ∀ (i : Nat) (wx : World), 4 * i < n → Sep B wx (cellA gc O :: rest) → Below B W wx → Calls Tryd.prog 62 #[.int .i64 ((i : Int) * 4), .int .i64 (min ((i : Int) * 4 + 4) (n : Int)), .pointer (some ⟨gc, 0, none⟩)] wx fun e w' => ∃ v', e = .returned v' ∧ NodeOwn w' wx.heap.size v' false (N i).2.1 (N i).2.2.1 (N i).2.2.2 ∧ Below wx.heap.size wx w')
    (hS : Sep B W (workA B v k :: cellA gc O :: rest)) :
    Calls Tryd.prog 59 #[v, .int .i64 (n : Int), .func (.func 62) #[] #[.pointer (some ⟨gc, 0, none⟩)]] W fun e W' => LvPost B gc O rest (lvlR N (fours n) 0 (k, [], [])) W e W' := by
  obtain ⟨cs, rfl, hcs, hco⟩ := work_arr (sep_get hS 0 rfl : WorkOwn W B v k)
  obtain ⟨M, hM⟩ : ∃ M, fours n = M := ⟨_, rfl⟩
  have HMf : Hid (∀ i, 4 * i < n ↔ i < M) := hide (fun i => by rw [← hM]; exact fours_lt)
  have hMl : M ≤ 262144 := by rw [← hM]; unfold fours; omega
  have HNf := hide (fun wx => nodesFor_any n (by omega) wx)
  rw [hM] at hk HNf ⊢
  clear hM
  obtain ⟨R, hR⟩ : ∃ R, R = lvlR N M 0 (k, [], []) := ⟨_, rfl⟩
  rw [← hR]
  have HR := hide hR
  have HNN := hide hN
  have HP := hide hP
  have HTb := hide hT
  have HK := hide hk
  clear hR hN hP hT hk
  obtain ⟨a0, ha0⟩ : ∃ a0, a0 = W.heap.size := ⟨_, rfl⟩
  have hs1 := sep_new hS (Obj.cells cs 36) hBW
  have hs2 := sep_new hs1 (Obj.cells #[.slice none 0 0, .slice none 0 0, .int .i64 0, .slice none 0 0, .slice none 0 0, .slice none 0 0] 36) (by simp; omega)
  have hs3 := sep_row0h (sz := 2) (sep_new hs2 (Obj.cells #[] 83) (by simp; omega))
  have hs4 := sep_new hs3 (Obj.cells #[.slice none 0 0, .slice none 0 0, .int .i64 0, .slice none 0 0, .slice none 0 0, .slice none 0 0] 36) (by simp; omega)
  have hs5 := sep_cellsAll hs4 0 rfl cs hcs
  simp only [World.size_alloc] at hs5
  have HS5 := hide (sep_pick (pre := [_, _, _, _, _, _]) hs5 [4, 1, 0, 2, 5] (by decide) [_, _, _, _, _] rfl)
  obtain ⟨w5, hw5⟩ : ∃ w5, w5 = ((((W.alloc (Obj.cells cs 36)).alloc (Obj.cells #[.slice none 0 0, .slice none 0 0, .int .i64 0, .slice none 0 0, .slice none 0 0, .slice none 0 0] 36)).alloc (Obj.cells #[] 83)).alloc (Obj.cells #[.slice none 0 0, .slice none 0 0, .int .i64 0, .slice none 0 0, .slice none 0 0, .slice none 0 0] 36)).setCells (W.heap.size + 1 + 1 + 1) 0 cs.toList := ⟨_, rfl⟩
  have HB5 : Hid (Below B W w5) := hide (by rw [hw5]; exact below_cells (by omega) _ 0 _ (((((Below.refl B W).alloc hBW _).alloc (by simp; omega) _).alloc (by simp; omega) _).alloc (by simp; omega) _))
  have hrb : Hid (((W.alloc (Obj.cells cs 36)).alloc (Obj.cells #[.slice none 0 0, .slice none 0 0, .int .i64 0, .slice none 0 0, .slice none 0 0, .slice none 0 0] 36)).rangeAt W.heap.size 0 cs.toList) := hide (range_all (sep_get hs2 1 rfl))
  have hth : Hid (((((W.alloc (Obj.cells cs 36)).alloc (Obj.cells #[.slice none 0 0, .slice none 0 0, .int .i64 0, .slice none 0 0, .slice none 0 0, .slice none 0 0] 36)).alloc (Obj.cells #[] 83)).alloc (Obj.cells #[.slice none 0 0, .slice none 0 0, .int .i64 0, .slice none 0 0, .slice none 0 0, .slice none 0 0] 36)).there (W.heap.size + 1 + 1 + 1) 0 cs.size) := hide (by rw [hcs]; exact there_of (cs := #[.slice none 0 0, .slice none 0 0, .int .i64 0, .slice none 0 0, .slice none 0 0, .slice none 0 0]) (T := 36) (by have := sep_get hs4 0 rfl; simp only [World.size_alloc] at this; exact this) 0 6 (show 0 + 6 ≤ 6 by decide))
  have HW5 := hide hw5.symm
  have HSz : Hid ((Tryd.prog.info? 36).map (·.size) = some cs.size) := hide (by rw [hcs]; exact Tryd.sizeWorkB)
  have HCo := hide hco
  have HBW := hide hBW
  rw [← hw5] at HS5
  clear hs1 hs2 hs3 hs4 hs5 hS hcs hco hw5 ha0 hBW
  go_enter Tryd.func59, Tryd.ntmps59
  go_upto_region 2 with (first | ((with_reducible refine wpList_loadL ?_ 36 (.tmp 3) ?_ W.heap.size 0 ?_ cs hrb.out _ Tryd.underlying36 ?_ ?_ ?_); exact rfl; exact rfl; exact rfl; exact rfl; exact HSz.out) | ((with_reducible refine wpList_storeL ?_ 36 (.tmp 9) (.tmp 15) ?_ (W.heap.size + 1 + 1 + 1) 0 cs ?_ ?_ hth.out ?_ ?_ HW5.out ?_); exact rfl; exact rfl; exact rfl; exact rfl; exact HSz.out; exact HCo.out))
  obtain ⟨g9, hg9⟩ : ∃ g, g = W.heap.size + 1 + 1 + 1 := ⟨_, rfl⟩
  obtain ⟨g6, hg6⟩ : ∃ g, g = W.heap.size + 1 := ⟨_, rfl⟩
  obtain ⟨g16, hg16⟩ : ∃ g, g = W.heap.size + 1 + 1 := ⟨_, rfl⟩
  rw [← hg9, ← hg16, ← hg6] at HS5 ⊢
  clear hg9 hg6 hg16 hrb hth HW5
  go_wp2_with fail
  refine (HNf.out _).mono ?_
  rintro e w1 ⟨rfl, rfl⟩
  clear HNf
  go_wp2_with fail
  go_loopg [10, 19] M (fun q rv iv wr => ∃ (i : Nat) (st : Bst) (ds : Array Value) (v : Value), i ≤ M ∧ q + i = M ∧ iv = .int .i64 (i : Int) ∧ v = rv ∧ Hid (ds.size = 6 ∧ ds.toList.all (·.oneCell') = true) ∧ Hid (R = lvlR N (M - i) i st) ∧ Hid (st.ok i (M - i)) ∧ Hid (Sep B wr ([workA B (.agg ds) st.1, rowA B 83 2 v i (hvs (st.2.1.zip st.2.2)), cellA g9 (Obj.cells ds 36), cellA g6 (Obj.cells #[.slice none 0 0, .slice none 0 0, .int .i64 0, .slice none 0 0, .slice none 0 0, .slice none 0 0] 36), cellA gc O] ++ rest)) ∧ Hid (Below B W wr))
  case atStart => exact ⟨0, (k, [], []), cs, _, Nat.zero_le _, rfl, rfl, rfl, hide ⟨by have := HSz.out; rw [Tryd.sizeWorkB] at this; injection this with this; exact this.symm, HCo.out⟩, HR, hide (start_ok HK.out), HS5, HB5⟩
  case round =>
    clear HS5 HB5 HR HK HSz HCo
    obtain ⟨i, st, ds, v, hiM, hq, rfl, rfl, HCs, HR, HOk, HS, HB⟩ := hrel
    have HQ := hide hq
    clear hq
    by_cases hlt : i < M
    · have h4 : 4 * i < n := (HMf.out i).2 hlt
      have HPi := hide (fun wx h1 h2 => HP.out i wx h4 h1 h2)
      obtain ⟨ks, hks⟩ : ∃ x, x = (N i).2.1 := ⟨_, rfl⟩
      obtain ⟨vs, hvs'⟩ : ∃ x, x = (N i).2.2.1 := ⟨_, rfl⟩
      obtain ⟨ps, hps⟩ : ∃ x, x = (N i).2.2.2 := ⟨_, rfl⟩
      obtain ⟨n0, n1, n2, n3, n4, n5⟩ := HNN.out i
      rw [← hks, ← hvs', ← hps] at HPi
      rw [← hks] at n1 n4
      rw [← hvs'] at n2 n5
      rw [← hps] at n3
      have HPut := hide (fun u wx h1 h2 h3 => implPutNode_any (.agg ds) st.1 (rm_small HOk.out.2.2.2) u false ks vs ps (by omega) (by omega) (by omega) n4 n5 wx h1 h2 h3)
      have HNo : Hid (putP st.1 false ks vs ps = 0 → R = none) := hide (fun h => by rw [HR.out]; exact lvl_no hlt n0 (by rw [← hks, ← hvs', ← hps]; exact h))
      have HYes : Hid (putP st.1 false ks vs ps ≠ 0 → R = lvlR N (M - (i + 1)) (i + 1) (putK st.1 false ks vs ps, st.2.1 ++ [ks.getD 0 ⟨#[]⟩], st.2.2 ++ [putP st.1 false ks vs ps]) ∧ Bst.ok (putK st.1 false ks vs ps, st.2.1 ++ [ks.getD 0 ⟨#[]⟩], st.2.2 ++ [putP st.1 false ks vs ps]) (i + 1) (M - (i + 1))) := hide (fun h => ⟨by
        rw [HR.out, hks, hvs', hps]
        exact lvl_yes hlt n0 (by rw [← hks, ← hvs', ← hps]; exact h), one_ok' (by rw [show M - (i + 1) + 1 = M - i from by omega]; exact HOk.out) n4 h⟩)
      have hbr : B ≤ wr.heap.size := Nat.le_trans HBW.out HB.out.size
      clear hks hvs' hps n0 n1 n2 n3 n4 n5 HR
      go_wp2_with fail
      refine (HPi.out wr (sep_pick (pre := [_, _, _, _, _]) HS.out [4] (by decide) [_] rfl) HB.out).mono ?_
      rintro e w1 ⟨nv, rfl, hno, hb1⟩
      obtain ⟨t1, q1, t2, q2, t3, q3, rfl⟩ := node_formS hno
      have hbl1 := hno
      obtain ⟨l1, hl1⟩ : ∃ l, l = ks.length := ⟨_, rfl⟩
      obtain ⟨l2, hl2⟩ : ∃ l, l = vs.length := ⟨_, rfl⟩
      obtain ⟨l3, hl3⟩ : ∃ l, l = ps.length := ⟨_, rfl⟩
      rw [← hl1, ← hl2, ← hl3] at hno ⊢
      have hs1 := sep_add HS.out hb1 (nodeA B (.agg #[.bool false, .slice t1 l1 q1, .slice t2 l2 q2, .slice t3 l3 q3]) false ks vs ps) (nodeOwn_downP hno hbr) (fun j hj => nodeOwn_lt hno j hj) hbr
      have HB1 : Hid (Below B W w1) := hide (HB.out.trans (hb1.mono hbr))
      have hbr1 : B ≤ w1.heap.size := Nat.le_trans HBW.out HB1.out.size
      have hs2 := sep_new hs1 (Obj.cells #[.bool false, .slice t1 l1 q1, .slice t2 l2 q2, .slice t3 l3 q3] 55) hbr1
      obtain ⟨w2, hw2⟩ : ∃ w2, w2 = w1.alloc (Obj.cells #[.bool false, .slice t1 l1 q1, .slice t2 l2 q2, .slice t3 l3 q3] 55) := ⟨_, rfl⟩
      have HB2 : Hid (Below B W w2) := hide (by rw [hw2]; exact HB1.out.alloc hbr1 _)
      obtain ⟨g12, hg12⟩ : ∃ g, g = w1.heap.size := ⟨_, rfl⟩
      rw [← hw2, ← hg12] at hs2
      have HS2 := hide hs2
      have HL1 := hide hl1
      clear hs1 hs2 hno hb1 HB1 hbr hbr1 hl1 hl2 hl3 hbl1 HPi
      go_upto_region 6 with fail
      rw [← hw2, ← hg12]
      clear hw2 hg12
      obtain ⟨d0, d1, d2, d3⟩ := blk4c (sep_get HS2.out 0 rfl : w2.heap[g12]? = some (Obj.cells #[.bool false, .slice t1 l1 q1, .slice t2 l2 q2, .slice t3 l3 q3] 55))
      have HRd : Hid (w2.rangeAt g9 0 ds.toList) := hide (range_all (sep_get HS2.out 4 rfl : w2.heap[g9]? = some (Obj.cells ds 36)))
      have HSz : Hid ((Tryd.prog.info? 36).map (·.size) = some ds.size) := hide (by rw [HCs.out.1]; exact Tryd.sizeWorkB)
      go_wp2_with ((with_reducible refine wpList_loadL ?_ 36 (.tmp 9) ?_ g9 0 ?_ ds HRd.out _ Tryd.underlying36 ?_ ?_ ?_); exact rfl; exact rfl; exact rfl; exact rfl; exact HSz.out)
      refine (HPut.out _ w2 (HTb.out w2 HB2.out) (work_of_own (sep_get HS2.out 2 rfl)) (node_of_own (sep_get HS2.out 1 rfl))).mono ?_
      rintro e w3 ⟨v3, rfl, hown3, hb3⟩
      obtain ⟨es, rfl, hes, heo⟩ := work_arr hown3
      obtain ⟨k2, hk2⟩ : ∃ k2, k2 = putK st.1 false ks vs ps := ⟨_, rfl⟩
      obtain ⟨pg, hpg⟩ : ∃ p, p = putP st.1 false ks vs ps := ⟨_, rfl⟩
      have HOkk : Hid (pg ≠ 0 → nodeOkB false ks vs ps = true) := hide (fun h => put_ok (by rw [← hpg]; exact h))
      rw [← hk2] at hown3
      rw [← hpg]
      rw [← hk2, ← hpg] at HYes
      rw [← hpg] at HNo
      have hb2r : B ≤ w2.heap.size := Nat.le_trans HBW.out HB2.out.size
      have hs3 := sep_add HS2.out hb3 (workA B (.agg es) k2) (workOwn_down hown3 hb2r) (fun j hj => workOwn_lt hown3 j hj) hb2r
      have HB3 : Hid (Below B W w3) := hide (HB2.out.trans (hb3.mono hb2r))
      have hbr3 : B ≤ w3.heap.size := Nat.le_trans HBW.out HB3.out.size
      have hs4 := sep_new hs3 (Obj.cells #[.slice none 0 0, .slice none 0 0, .int .i64 0, .slice none 0 0, .slice none 0 0, .slice none 0 0] 36) hbr3
      have hs5 := sep_cellsAll hs4 0 rfl es hes
      have hth : Hid ((w3.alloc (Obj.cells #[.slice none 0 0, .slice none 0 0, .int .i64 0, .slice none 0 0, .slice none 0 0, .slice none 0 0] 36)).there w3.heap.size 0 es.size) := hide (by rw [hes]; exact there_of (heap_alloc_new w3 (Obj.cells #[.slice none 0 0, .slice none 0 0, .int .i64 0, .slice none 0 0, .slice none 0 0, .slice none 0 0] 36)) 0 6 (show 0 + 6 ≤ 6 by decide))
      obtain ⟨w4, hw4⟩ : ∃ w4, w4 = (w3.alloc (Obj.cells #[.slice none 0 0, .slice none 0 0, .int .i64 0, .slice none 0 0, .slice none 0 0, .slice none 0 0] 36)).setCells w3.heap.size 0 es.toList := ⟨_, rfl⟩
      have HB4 : Hid (Below B W w4) := hide (by rw [hw4]; exact below_cells hbr3 _ 0 _ (HB3.out.alloc hbr3 _))
      obtain ⟨g13, hg13⟩ : ∃ g, g = w3.heap.size := ⟨_, rfl⟩
      rw [← hw4, ← hg13] at hs5
      have HS4 := hide hs5
      have HW4 := hide hw4.symm
      have HEs : Hid ((Tryd.prog.info? 36).map (·.size) = some es.size) := hide (by rw [hes]; exact Tryd.sizeWorkB)
      have HEo := hide heo
      have HEz := hide hes
      have HP2 := hide (⟨hk2, hpg⟩ : _ ∧ _)
      clear hs3 hs4 hs5 hown3 hb3 hb2r hbr3 hes heo hw4 hk2 hpg d0 d1 d2 d3 HPut HS2 HB2 HB3
      go_upto_region 7 with ((with_reducible refine wpList_storeL ?_ 36 (.tmp 13) (.tmp 35) ?_ w3.heap.size 0 es ?_ ?_ hth.out ?_ ?_ HW4.out ?_); exact rfl; exact rfl; exact rfl; exact rfl; exact HEs.out; exact HEo.out)
      rw [← hg13]
      clear hg13 hth HW4
      by_cases hpz : pg = 0
      · have HRn := hide (HNo.out hpz)
        subst hpz
        have hth : Hid (w4.there g6 0 (#[.slice none 0 0, .slice none 0 0, .int .i64 0, .slice none 0 0, .slice none 0 0, .slice none 0 0] : Array Value).size) := hide (there_of (sep_get HS4.out 7 rfl : w4.heap[g6]? = some (Obj.cells #[.slice none 0 0, .slice none 0 0, .int .i64 0, .slice none 0 0, .slice none 0 0, .slice none 0 0] 36)) 0 6 (show 0 + 6 ≤ 6 by decide))
        obtain ⟨wf, hwf⟩ : ∃ wf, wf = w4.setCells g6 0 (#[.slice none 0 0, .slice none 0 0, .int .i64 0, .slice none 0 0, .slice none 0 0, .slice none 0 0] : Array Value).toList := ⟨_, rfl⟩
        have hsf := sep_cellsAll HS4.out 7 rfl #[.slice none 0 0, .slice none 0 0, .int .i64 0, .slice none 0 0, .slice none 0 0, .slice none 0 0] rfl
        have hbf := below_cells (sep_lt HS4.out 7 rfl g6 rfl).1 (#[.slice none 0 0, .slice none 0 0, .int .i64 0, .slice none 0 0, .slice none 0 0, .slice none 0 0] : Array Value).toList 0 w4 HB4.out
        rw [← hwf] at hsf hbf
        have HSf := hide hsf
        have HBf := hide hbf
        have HWf := hide hwf.symm
        clear hsf hbf hwf
        go_wp2_with ((with_reducible refine wpList_storeL ?_ 36 (.tmp 6) (.tmp 39) ?_ g6 0 #[.slice none 0 0, .slice none 0 0, .int .i64 0, .slice none 0 0, .slice none 0 0, .slice none 0 0] ?_ ?_ hth.out ?_ ?_ HWf.out ?_); exact rfl; exact rfl; exact rfl; exact rfl; exact Tryd.sizeWorkB; exact rfl)
        exact bodyPost_ret (v := .tuple #[.agg #[.slice none 0 0, .slice none 0 0, .int .i64 0, .slice none 0 0, .slice none 0 0, .slice none 0 0], .slice none 0 0, .bool false]) (results_ctt Tryd.results59 rfl rfl rfl (run_agg (range_all (sep_get HSf.out 7 rfl : wf.heap[g6]? = some (Obj.cells #[.slice none 0 0, .slice none 0 0, .int .i64 0, .slice none 0 0, .slice none 0 0, .slice none 0 0] 36))) Tryd.underlying36 rfl Tryd.sizeWorkB)) rfl ⟨HBf.out, Or.inl ⟨HRn.out, rfl, sep_pick (pre := [_, _, _, _, _, _, _, _, _]) HSf.out [8] (by decide) [_] rfl⟩⟩
      · have hpb : (pg == 0) = false := by simp [hpz]
        obtain ⟨hR2, hOk2⟩ := HYes.out hpz
        have hlen := (cnt_yes (node_yes (HOkk.out hpz)).1).1
        have hno4 : NodeOwn w4 B (.agg #[.bool false, .slice t1 l1 q1, .slice t2 l2 q2, .slice t3 l3 q3]) false ks vs ps := sep_get HS4.out 3 rfl
        have HR2 := hide hR2
        have HOk2 := hide hOk2
        have HRd4 : Hid (w4.rangeAt g13 0 es.toList) := hide (range_all (sep_get HS4.out 0 rfl : w4.heap[g13]? = some (Obj.cells es 36)))
        have hth : Hid (w4.there g9 0 es.size) := hide (by rw [HEz.out]; exact there_of (sep_get HS4.out 6 rfl : w4.heap[g9]? = some (Obj.cells ds 36)) 0 6 (by rw [HCs.out.1]; decide))
        have hs5 := sep_cellsAll HS4.out 6 rfl es (by rw [HEz.out, HCs.out.1])
        have hb5 := below_cells (sep_lt HS4.out 6 rfl g9 rfl).1 es.toList 0 w4 HB4.out
        obtain ⟨w5, hw5⟩ : ∃ wx, wx = w4.setCells g9 0 es.toList := ⟨_, rfl⟩
        rw [← hw5] at hs5 hb5
        have HS5 := hide hs5
        have HB5 := hide hb5
        have HW5 := hide hw5.symm
        have HZ5 : Hid (B ≤ w5.heap.size) := hide (Nat.le_trans HBW.out hb5.size)
        clear hs5 hb5 hw5 hno4 hR2 hOk2
        go_upto_region 10 with (first | ((with_reducible refine wpList_loadL ?_ 36 (.tmp 13) ?_ g13 0 ?_ es HRd4.out _ Tryd.underlying36 ?_ ?_ ?_); exact rfl; exact rfl; exact rfl; exact rfl; exact HEs.out) | ((with_reducible refine wpList_storeL ?_ 36 (.tmp 9) (.tmp 40) ?_ g9 0 es ?_ ?_ hth.out ?_ ?_ HW5.out ?_); exact rfl; exact rfl; exact rfl; exact rfl; exact HEs.out; exact HEo.out))
        clear hth HRd4 HW5 HS4 HB4
        obtain ⟨d0, d1, d2, d3⟩ := blk4c (sep_get HS5.out 2 rfl : w5.heap[g12]? = some (Obj.cells #[.bool false, .slice t1 l1 q1, .slice t2 l2 q2, .slice t3 l3 q3] 55))
        obtain ⟨y1, y2, y3, ey, r1, -⟩ := node_of_own (sep_get HS5.out 3 rfl : NodeOwn w5 B (.agg #[.bool false, .slice t1 l1 q1, .slice t2 l2 q2, .slice t3 l3 q3]) false ks vs ps)
        obtain ⟨-, rfl, -, -⟩ := agg4 ey
        rw [← HL1.out] at r1 hlen
        obtain ⟨bk, fk, rfl⟩ := rowat_some r1 hlen
        obtain ⟨key, hkey⟩ : ∃ s, s = ks.getD 0 ⟨#[]⟩ := ⟨_, rfl⟩
        have e0 := rowat_cellS r1 (Below.refl _ _) 0 hlen HL1.out
        rw [Nat.add_zero, ← hkey] at e0
        have hl0 : (0 : Int) < (l1 : Int) := by omega
        have HKy := hide hkey
        have hi2 : i ≤ 3000000 := by omega
        clear r1 hkey ey hpb
        go_wp2_with (at_builtin; refine wpList_half1 HS5.out 5 rfl (Nat.le_refl _) HZ5.out HZ5.out rfl (.tmp 41) (.tmp 48) rfl rfl key pg rfl rfl hi2 ?_)
        intro b6 c6 w6 hs6 hb6
        have HS6 := hide (sep_pick (pre := [_, _, _, _, _, _, _, _, _]) hs6 [1, 5, 6, 7, 8] (by decide) [_, _, _, _, _] rfl)
        have HB6 := hide (HB5.out.trans hb6)
        clear hs6 hb6 d0 d1 d2 d3 e0
        go_wp2_with fail
        go_roundg (gk - 1)
        case measure => have := HQ.out; omega
        case rel => exact ⟨i + 1, (k2, st.2.1 ++ [key], st.2.2 ++ [pg]), es, _, by omega, by have := HQ.out; omega, by go_num, rfl, hide ⟨HEz.out, HEo.out⟩, hide (by rw [HKy.out]; exact HR2.out), hide (by rw [HKy.out]; exact HOk2.out), hide (by
          show Sep B w6 ([workA B (.agg es) k2, rowA B 83 2 _ (i + 1) (hvs ((st.2.1 ++ [key]).zip (st.2.2 ++ [pg]))), cellA g9 (Obj.cells es 36), cellA g6 (Obj.cells #[.slice none 0 0, .slice none 0 0, .int .i64 0, .slice none 0 0, .slice none 0 0, .slice none 0 0] 36), cellA gc O] ++ rest)
          rw [List.zip_append (by rw [HOk.out.1, HOk.out.2.1])]
          exact HS6.out), HB6⟩
    · obtain rfl : i = M := by omega
      have HRd : Hid (wr.rangeAt g9 0 ds.toList) := hide (range_all (sep_get HS.out 2 rfl : wr.heap[g9]? = some (Obj.cells ds 36)))
      have HSz : Hid ((Tryd.prog.info? 36).map (·.size) = some ds.size) := hide (by rw [HCs.out.1]; exact Tryd.sizeWorkB)
      have hth : Hid (wr.there g6 0 ds.size) := hide (by rw [HCs.out.1]; exact there_of (sep_get HS.out 3 rfl : wr.heap[g6]? = some (Obj.cells #[.slice none 0 0, .slice none 0 0, .int .i64 0, .slice none 0 0, .slice none 0 0, .slice none 0 0] 36)) 0 6 (show 0 + 6 ≤ 6 by decide))
      obtain ⟨wf, hwf⟩ : ∃ wf, wf = wr.setCells g6 0 ds.toList := ⟨_, rfl⟩
      have hsf := sep_cellsAll HS.out 3 rfl ds (by rw [HCs.out.1]; rfl)
      have hbf := below_cells (sep_lt HS.out 3 rfl g6 rfl).1 ds.toList 0 wr HB.out
      rw [← hwf] at hsf hbf
      have HSf := hide hsf
      have HBf := hide hbf
      have HWf := hide hwf.symm
      have HDo := hide HCs.out.2
      clear hsf hbf hwf
      go_wp2_with (first | ((with_reducible refine wpList_loadL ?_ 36 (.tmp 9) ?_ g9 0 ?_ ds HRd.out _ Tryd.underlying36 ?_ ?_ ?_); exact rfl; exact rfl; exact rfl; exact rfl; exact HSz.out) | ((with_reducible refine wpList_storeL ?_ 36 (.tmp 6) (.tmp 51) ?_ g6 0 ds ?_ ?_ hth.out ?_ ?_ HWf.out ?_); exact rfl; exact rfl; exact rfl; exact rfl; exact HSz.out; exact HDo.out))
      refine bodyPost_ret (v := .tuple #[.agg ds, v, .bool true]) (results_ctt Tryd.results59 rfl rfl rfl (run_agg (range_all (sep_get HSf.out 3 rfl : wf.heap[g6]? = some (Obj.cells ds 36))) Tryd.underlying36 rfl HSz.out)) rfl ⟨HBf.out, Or.inr ⟨st, _, _, ?_, rfl, ?_⟩⟩
      · have h := HR.out
        rw [Nat.sub_self] at h
        exact h
      · rw [HOk.out.2.1]
        exact sep_pick (pre := [_, _, _, _, _]) HSf.out [0, 1, 4] (by decide) [_, _, _] rfl

end Go.Proofs.YtacmpggigdlmmaaDoor

namespace Go.Proofs.YtacmpggigdlmmaaDoor
open Go.RowKit

/-- what a level leaves -/
def LpPost (B : Nat) (rest : List Ast) (R : Option Bst) (W : World) (e : Ending) (W' : World) : Prop := Below B W W' ∧ ((R = none ∧ e = .returned (.tuple #[.agg #[.slice none 0 0, .slice none 0 0, .int .i64 0, .slice none 0 0, .slice none 0 0, .slice none 0 0], .slice none 0 0, .bool false]) ∧ Sep B W' rest) ∨ (∃ st v r, R = some st ∧ e = .returned (.tuple #[v, r, .bool true]) ∧ Sep B W' (workA B v st.1 :: rowA B 83 2 r st.2.2.length (hvs (st.2.1.zip st.2.2)) :: rest)))

theorem own_cap {w : World} {B e sz n cap : Nat} {a : Option Addr} {xs : List Value} (h : w.ownsRow B e sz (.slice a n cap) n xs) : n ≤ cap := by
  rcases h.2 with ⟨e, h0⟩ | ⟨g, c, cur, e, -, -, h1, -⟩
  · omega
  · injection e with e1 e2 e3
    omega

theorem mds_eq (k : Wk) {ks : List ByteArray} {cs : List Int} (h : cs.length = ks.length) : mds (k, ks, cs) = lvlR (mdN ks cs) (fours ks.length) 0 (k, [], []) := by
  unfold mds
  rw [← h]

theorem four_min {α : Type} (l : List α) (i : Nat) (h : 4 * i < l.length) : min ((i : Int) * 4 + 4) (l.length : Int) = ((4 * i + (four l i).length : Nat) : Int) := by
  rw [four_len]
  omega

theorem lfN_ok {L : List (ByteArray × ByteArray)} (hL : ∀ p ∈ L, p.1.size ≤ 1048576 ∧ p.2.size ≤ 1048576) (i : Nat) : (lfN L i).1 = true ∧ (lfN L i).2.1.length ≤ 4 ∧ (lfN L i).2.2.1.length ≤ 4 ∧ (lfN L i).2.2.2.length ≤ 4 ∧ (∀ s ∈ (lfN L i).2.1, s.size ≤ 1048576) ∧ ∀ s ∈ (lfN L i).2.2.1, s.size ≤ 1048576 := by
  refine ⟨rfl, ?_, ?_, Nat.zero_le _, fun s hs => ?_, fun s hs => ?_⟩
  · show ((four L i).map _).length ≤ 4; rw [List.length_map, four_len]; omega
  · show ((four L i).map _).length ≤ 4; rw [List.length_map, four_len]; omega
  · obtain ⟨p, hp, rfl⟩ := List.mem_map.1 hs
    exact (hL p (four_mem hp)).1
  · obtain ⟨p, hp, rfl⟩ := List.mem_map.1 hs
    exact (hL p (four_mem hp)).2

theorem mdN_ok {ks : List ByteArray} (cs : List Int) (hk : ∀ s ∈ ks, s.size ≤ 1048576) (i : Nat) : (mdN ks cs i).1 = false ∧ (mdN ks cs i).2.1.length ≤ 4 ∧ (mdN ks cs i).2.2.1.length ≤ 4 ∧ (mdN ks cs i).2.2.2.length ≤ 4 ∧ (∀ s ∈ (mdN ks cs i).2.1, s.size ≤ 1048576) ∧ ∀ s ∈ (mdN ks cs i).2.2.1, s.size ≤ 1048576 := by
  refine ⟨rfl, ?_, Nat.zero_le _, ?_, fun s hs => hk s (four_mem hs), fun s hs => (by cases hs)⟩
  · show (four ks i).length ≤ 4; rw [four_len]; omega
  · show (four cs i).length ≤ 4; rw [four_len]; omega

set_option maxHeartbeats 8000000 in
set_option maxRecDepth 100000 in
theorem putLeaves_any (B : Nat) (rest : List Ast) (v : Value) (k : Wk) (L : List (ByteArray × ByteArray)) (hl : L.length ≤ 1048576) (hL : ∀ p ∈ L, p.1.size ≤ 1048576 ∧ p.2.size ≤ 1048576) (a : Option Addr) (cap : Nat) (hcap : L.length ≤ cap) (hk : k.rm (fours L.length)) (W : World) (hBW : B ≤ W.heap.size) (hT : ∀ wx, Below B W wx → SumTab wx) (hRw : ∀ wx, Below B W wx → RowAt wx 2 (.slice a L.length cap) L.length (prs L))
    (hS : Sep B W (workA B v k :: rest)) :
    Calls Tryd.prog 42 #[v, .slice a L.length cap] W fun e W' => LpPost B rest (lvs k L) W e W' := by
  obtain ⟨cs, rfl, hcs, hco⟩ := work_arr (sep_get hS 0 rfl : WorkOwn W B v k)
  obtain ⟨a0, ha0⟩ : ∃ a0, a0 = W.heap.size := ⟨_, rfl⟩
  have hs1 := sep_new hS (Obj.cells cs 36) hBW
  have hs2 := sep_new hs1 (Obj.cells #[.slice a L.length cap] 40) (by simp; omega)
  have hs3 := sep_new hs2 (Obj.cells #[.slice none 0 0, .slice none 0 0, .int .i64 0, .slice none 0 0, .slice none 0 0, .slice none 0 0] 36) (by simp; omega)
  simp only [World.size_alloc] at hs3
  rw [← ha0] at hs3
  obtain ⟨w3, hw3⟩ : ∃ w3, w3 = ((W.alloc (Obj.cells cs 36)).alloc (Obj.cells #[.slice a L.length cap] 40)).alloc (Obj.cells #[.slice none 0 0, .slice none 0 0, .int .i64 0, .slice none 0 0, .slice none 0 0, .slice none 0 0] 36) := ⟨_, rfl⟩
  have hb3 : Below B W w3 := by rw [hw3]; exact (((Below.refl B W).alloc hBW _).alloc (by simp; omega) _).alloc (by simp; omega) _
  rw [← hw3] at hs3
  have hs4 := sep_pick (pre := [_, _, _, _]) hs3 [3, 1, 2, 0] (by decide) [_, _, _, _] rfl
  have HLv := hide (putLevel_leaf B (a0 + 1) (Obj.cells #[.slice a L.length cap] 40) _ (.agg cs) k L.length hl (lfN L) (lfN_ok hL) hk w3 (Nat.le_trans hBW hb3.size) (fun wx hb => hT wx (hb3.trans hb)) (fun i wx h4 hs hb => by
    rw [four_min _ i h4]
    exact leafPart_any L hl a cap hcap (a0 + 1) i h4 wx (sep_get hs 0 rfl) (hRw wx (hb3.trans hb))) hs4)
  obtain ⟨R, hR⟩ : ∃ R, (lvs k L) = R := ⟨_, rfl⟩
  replace HLv : Hid (Calls _ _ _ _ fun e W' => LvPost B (a0 + 1) _ _ R w3 e W') := hide (by rw [← hR]; exact HLv.out)
  rw [hR]
  have HRg : Hid (w3.rangeAt a0 0 cs.toList) := hide (range_all (sep_get hs3 2 rfl : w3.heap[a0]? = some (Obj.cells cs 36)))
  have c1 : w3.cell? ⟨a0 + 1, 0, none⟩ = some (.slice a L.length cap) := (cell_at (sep_get hs3 1 rfl : w3.heap[a0 + 1]? = some (Obj.cells #[.slice a L.length cap] 40)) 0).1
  have HSz : Hid ((Tryd.prog.info? 36).map (·.size) = some cs.size) := hide (by rw [hcs]; exact Tryd.sizeWorkB)
  have HB3 := hide hb3
  have HBW := hide hBW
  obtain ⟨n, hn⟩ : ∃ n, n = L.length := ⟨_, rfl⟩
  rw [← hn] at HLv c1 hw3 ⊢
  have HE := hide (⟨hw3, ha0⟩ : _ ∧ _)
  clear hs1 hs2 hs3 hs4 hS hw3 ha0 hb3 hBW hn hR hcs hco hk hL hRw hT hcap hl
  go_enter Tryd.func42, Tryd.ntmps42
  go_upto_region 1 with fail
  obtain ⟨hw3, ha0⟩ := HE.out
  rw [← hw3, ← ha0]
  clear hw3 ha0 HE
  go_wp2_with ((with_reducible refine wpList_loadL ?_ 36 (.tmp 2) ?_ a0 0 ?_ cs HRg.out _ Tryd.underlying36 ?_ ?_ ?_); exact rfl; exact rfl; exact rfl; exact rfl; exact HSz.out)
  refine HLv.out.mono ?_
  rintro e w4 ⟨hb4, ⟨hR, rfl, hs⟩ | ⟨st, v4, r, hR, rfl, hs⟩⟩
  · have hth : Hid (w4.there (a0 + 1 + 1) 0 (#[.slice none 0 0, .slice none 0 0, .int .i64 0, .slice none 0 0, .slice none 0 0, .slice none 0 0] : Array Value).size) := hide (there_of (sep_get hs 2 rfl : w4.heap[a0 + 1 + 1]? = some (Obj.cells #[.slice none 0 0, .slice none 0 0, .int .i64 0, .slice none 0 0, .slice none 0 0, .slice none 0 0] 36)) 0 6 (show 0 + 6 ≤ 6 by decide))
    obtain ⟨wf, hwf⟩ : ∃ wf, wf = w4.setCells (a0 + 1 + 1) 0 (#[.slice none 0 0, .slice none 0 0, .int .i64 0, .slice none 0 0, .slice none 0 0, .slice none 0 0] : Array Value).toList := ⟨_, rfl⟩
    have hsf := sep_cellsAll hs 2 rfl #[.slice none 0 0, .slice none 0 0, .int .i64 0, .slice none 0 0, .slice none 0 0, .slice none 0 0] rfl
    have hbf := below_cells (sep_lt hs 2 rfl (a0 + 1 + 1) rfl).1 (#[.slice none 0 0, .slice none 0 0, .int .i64 0, .slice none 0 0, .slice none 0 0, .slice none 0 0] : Array Value).toList 0 w4 (HB3.out.trans hb4)
    rw [← hwf] at hsf hbf
    have HSf := hide hsf
    have HBf := hide hbf
    have HWf := hide hwf.symm
    have HRn := hide hR
    clear hsf hbf hwf hs hb4 hR
    go_wp2_with ((with_reducible refine wpList_storeL ?_ 36 (.tmp 4) (.tmp 12) ?_ (a0 + 1 + 1) 0 #[.slice none 0 0, .slice none 0 0, .int .i64 0, .slice none 0 0, .slice none 0 0, .slice none 0 0] ?_ ?_ hth.out ?_ ?_ HWf.out ?_); exact rfl; exact rfl; exact rfl; exact rfl; exact Tryd.sizeWorkB; exact rfl)
    exact bodyPost_ret (v := .tuple #[.agg #[.slice none 0 0, .slice none 0 0, .int .i64 0, .slice none 0 0, .slice none 0 0, .slice none 0 0], .slice none 0 0, .bool false]) (results_ctt Tryd.results42 rfl rfl rfl (run_agg (range_all (sep_get HSf.out 2 rfl : wf.heap[a0 + 1 + 1]? = some (Obj.cells #[.slice none 0 0, .slice none 0 0, .int .i64 0, .slice none 0 0, .slice none 0 0, .slice none 0 0] 36))) Tryd.underlying36 rfl Tryd.sizeWorkB)) rfl ⟨HBf.out, Or.inl ⟨HRn.out, rfl, sep_del (sep_del (sep_del HSf.out))⟩⟩
  · obtain ⟨es, rfl, hes, heo⟩ := work_arr (sep_get hs 0 rfl : WorkOwn w4 B v4 st.1)
    have hth : Hid (w4.there (a0 + 1 + 1) 0 es.size) := hide (by rw [hes]; exact there_of (sep_get hs 4 rfl : w4.heap[a0 + 1 + 1]? = some (Obj.cells #[.slice none 0 0, .slice none 0 0, .int .i64 0, .slice none 0 0, .slice none 0 0, .slice none 0 0] 36)) 0 6 (show 0 + 6 ≤ 6 by decide))
    obtain ⟨wf, hwf⟩ : ∃ wf, wf = w4.setCells (a0 + 1 + 1) 0 es.toList := ⟨_, rfl⟩
    have hsf := sep_cellsAll hs 4 rfl es (by rw [hes]; rfl)
    have hbf := below_cells (sep_lt hs 4 rfl (a0 + 1 + 1) rfl).1 es.toList 0 w4 (HB3.out.trans hb4)
    rw [← hwf] at hsf hbf
    have HSf := hide hsf
    have HBf := hide hbf
    have HWf := hide hwf.symm
    have HRn := hide hR
    have HEs : Hid ((Tryd.prog.info? 36).map (·.size) = some es.size) := hide (by rw [hes]; exact Tryd.sizeWorkB)
    have HEo := hide heo
    clear hsf hbf hwf hs hb4 hR hes heo
    go_wp2_with ((with_reducible refine wpList_storeL ?_ 36 (.tmp 4) (.tmp 12) ?_ (a0 + 1 + 1) 0 es ?_ ?_ hth.out ?_ ?_ HWf.out ?_); exact rfl; exact rfl; exact rfl; exact rfl; exact HEs.out; exact HEo.out)
    exact bodyPost_ret (v := .tuple #[.agg es, r, .bool true]) (results_ctt Tryd.results42 rfl rfl rfl (run_agg (range_all (sep_get HSf.out 4 rfl : wf.heap[a0 + 1 + 1]? = some (Obj.cells es 36))) Tryd.underlying36 rfl HEs.out)) rfl ⟨HBf.out, Or.inr ⟨st, _, _, HRn.out, rfl, sep_pick (pre := [_, _, _, _, _]) HSf.out [0, 1] (by decide) [_, _] rfl⟩⟩

set_option maxHeartbeats 8000000 in
set_option maxRecDepth 100000 in
theorem putAbove_any (B : Nat) (rest : List Ast) (v : Value) (k : Wk) (ks : List ByteArray) (cs' : List Int) (hl : ks.length ≤ 1048576) (hlc : cs'.length = ks.length) (hK : ∀ s ∈ ks, s.size ≤ 1048576) (a : Option Addr) (cap : Nat) (hk : k.rm (fours ks.length)) (W : World) (hBW : B ≤ W.heap.size) (hT : ∀ wx, Below B W wx → SumTab wx) 
    (hS : Sep B W (workA B v k :: rowA B 83 2 (.slice a ks.length cap) ks.length (hvs (ks.zip cs')) :: rest)) :
    Calls Tryd.prog 44 #[v, .slice a ks.length cap] W fun e W' => LpPost B rest (mds (k, ks, cs')) W e W' := by
  obtain ⟨cs, rfl, hcs, hco⟩ := work_arr (sep_get hS 0 rfl : WorkOwn W B v k)
  have hcap := own_cap (sep_get hS 1 rfl : W.ownsRow B 83 2 (.slice a ks.length cap) ks.length (hvs (ks.zip cs')))
  have hzl : (ks.zip cs').length = ks.length := by rw [List.length_zip, hlc]; exact Nat.min_self _
  have hz1 : ∀ i, (four (ks.zip cs') i).map (·.1) = four ks i := fun i => by rw [four_map]; show four ((ks.zip cs').map Prod.fst) i = _; rw [List.map_fst_zip (by omega)]
  have hz2 : ∀ i, (four (ks.zip cs') i).map (·.2) = four cs' i := fun i => by rw [four_map]; show four ((ks.zip cs').map Prod.snd) i = _; rw [List.map_snd_zip (by omega)]
  obtain ⟨a0, ha0⟩ : ∃ a0, a0 = W.heap.size := ⟨_, rfl⟩
  have hs1 := sep_new hS (Obj.cells cs 36) hBW
  have hs2 := sep_new hs1 (Obj.cells #[.slice a ks.length cap] 77) (by simp; omega)
  have hs3 := sep_new hs2 (Obj.cells #[.slice none 0 0, .slice none 0 0, .int .i64 0, .slice none 0 0, .slice none 0 0, .slice none 0 0] 36) (by simp; omega)
  simp only [World.size_alloc] at hs3
  rw [← ha0] at hs3
  obtain ⟨w3, hw3⟩ : ∃ w3, w3 = ((W.alloc (Obj.cells cs 36)).alloc (Obj.cells #[.slice a ks.length cap] 77)).alloc (Obj.cells #[.slice none 0 0, .slice none 0 0, .int .i64 0, .slice none 0 0, .slice none 0 0, .slice none 0 0] 36) := ⟨_, rfl⟩
  have hb3 : Below B W w3 := by rw [hw3]; exact (((Below.refl B W).alloc hBW _).alloc (by simp; omega) _).alloc (by simp; omega) _
  rw [← hw3] at hs3
  have hs4 := sep_pick (pre := [_, _, _, _, _]) hs3 [3, 1, 2, 0, 4] (by decide) [_, _, _, _, _] rfl
  have HLv := hide (putLevel_above B (a0 + 1) (Obj.cells #[.slice a ks.length cap] 77) _ (.agg cs) k ks.length hl (mdN ks cs') (mdN_ok cs' hK) hk w3 (Nat.le_trans hBW hb3.size) (fun wx hb => hT wx (hb3.trans hb)) (fun i wx h4 hs hb => by
    rw [four_min _ i (by exact h4)]
    have hp := abovePart_any (ks.zip cs') (by rw [hzl]; exact hl) a cap (by rw [hzl]; exact hcap) (a0 + 1) i (by rw [hzl]; exact h4) wx (by rw [hzl]; exact sep_get hs 0 rfl) (by rw [hzl]; exact row_of_own (sep_get hs 3 rfl))
    rw [hz1, hz2] at hp
    have hf : (four (ks.zip cs') i).length = (four ks i).length := by rw [four_len, four_len, hzl]
    rw [hf] at hp
    exact hp) hs4)
  obtain ⟨R, hR⟩ : ∃ R, (mds (k, ks, cs')) = R := ⟨_, rfl⟩
  replace HLv : Hid (Calls _ _ _ _ fun e W' => LvPost B (a0 + 1) _ _ R w3 e W') := hide (by rw [← hR, mds_eq k hlc]; exact HLv.out)
  rw [hR]
  have HRg : Hid (w3.rangeAt a0 0 cs.toList) := hide (range_all (sep_get hs3 2 rfl : w3.heap[a0]? = some (Obj.cells cs 36)))
  have c1 : w3.cell? ⟨a0 + 1, 0, none⟩ = some (.slice a ks.length cap) := (cell_at (sep_get hs3 1 rfl : w3.heap[a0 + 1]? = some (Obj.cells #[.slice a ks.length cap] 77)) 0).1
  have HSz : Hid ((Tryd.prog.info? 36).map (·.size) = some cs.size) := hide (by rw [hcs]; exact Tryd.sizeWorkB)
  have HB3 := hide hb3
  have HBW := hide hBW
  obtain ⟨n, hn⟩ : ∃ n, n = ks.length := ⟨_, rfl⟩
  rw [← hn] at HLv c1 hw3 ⊢
  have HE := hide (⟨hw3, ha0⟩ : _ ∧ _)
  clear hs1 hs2 hs3 hs4 hS hw3 ha0 hb3 hBW hn hR hcs hco hk hK hT hcap hl hzl hz1 hz2 hlc
  go_enter Tryd.func44, Tryd.ntmps44
  go_upto_region 1 with fail
  obtain ⟨hw3, ha0⟩ := HE.out
  rw [← hw3, ← ha0]
  clear hw3 ha0 HE
  go_wp2_with ((with_reducible refine wpList_loadL ?_ 36 (.tmp 2) ?_ a0 0 ?_ cs HRg.out _ Tryd.underlying36 ?_ ?_ ?_); exact rfl; exact rfl; exact rfl; exact rfl; exact HSz.out)
  refine HLv.out.mono ?_
  rintro e w4 ⟨hb4, ⟨hR, rfl, hs⟩ | ⟨st, v4, r, hR, rfl, hs⟩⟩
  · have hth : Hid (w4.there (a0 + 1 + 1) 0 (#[.slice none 0 0, .slice none 0 0, .int .i64 0, .slice none 0 0, .slice none 0 0, .slice none 0 0] : Array Value).size) := hide (there_of (sep_get hs 2 rfl : w4.heap[a0 + 1 + 1]? = some (Obj.cells #[.slice none 0 0, .slice none 0 0, .int .i64 0, .slice none 0 0, .slice none 0 0, .slice none 0 0] 36)) 0 6 (show 0 + 6 ≤ 6 by decide))
    obtain ⟨wf, hwf⟩ : ∃ wf, wf = w4.setCells (a0 + 1 + 1) 0 (#[.slice none 0 0, .slice none 0 0, .int .i64 0, .slice none 0 0, .slice none 0 0, .slice none 0 0] : Array Value).toList := ⟨_, rfl⟩
    have hsf := sep_cellsAll hs 2 rfl #[.slice none 0 0, .slice none 0 0, .int .i64 0, .slice none 0 0, .slice none 0 0, .slice none 0 0] rfl
    have hbf := below_cells (sep_lt hs 2 rfl (a0 + 1 + 1) rfl).1 (#[.slice none 0 0, .slice none 0 0, .int .i64 0, .slice none 0 0, .slice none 0 0, .slice none 0 0] : Array Value).toList 0 w4 (HB3.out.trans hb4)
    rw [← hwf] at hsf hbf
    have HSf := hide hsf
    have HBf := hide hbf
    have HWf := hide hwf.symm
    have HRn := hide hR
    clear hsf hbf hwf hs hb4 hR
    go_wp2_with ((with_reducible refine wpList_storeL ?_ 36 (.tmp 4) (.tmp 12) ?_ (a0 + 1 + 1) 0 #[.slice none 0 0, .slice none 0 0, .int .i64 0, .slice none 0 0, .slice none 0 0, .slice none 0 0] ?_ ?_ hth.out ?_ ?_ HWf.out ?_); exact rfl; exact rfl; exact rfl; exact rfl; exact Tryd.sizeWorkB; exact rfl)
    exact bodyPost_ret (v := .tuple #[.agg #[.slice none 0 0, .slice none 0 0, .int .i64 0, .slice none 0 0, .slice none 0 0, .slice none 0 0], .slice none 0 0, .bool false]) (results_ctt Tryd.results44 rfl rfl rfl (run_agg (range_all (sep_get HSf.out 2 rfl : wf.heap[a0 + 1 + 1]? = some (Obj.cells #[.slice none 0 0, .slice none 0 0, .int .i64 0, .slice none 0 0, .slice none 0 0, .slice none 0 0] 36))) Tryd.underlying36 rfl Tryd.sizeWorkB)) rfl ⟨HBf.out, Or.inl ⟨HRn.out, rfl, sep_del (sep_del (sep_del (sep_del HSf.out)))⟩⟩
  · obtain ⟨es, rfl, hes, heo⟩ := work_arr (sep_get hs 0 rfl : WorkOwn w4 B v4 st.1)
    have hth : Hid (w4.there (a0 + 1 + 1) 0 es.size) := hide (by rw [hes]; exact there_of (sep_get hs 4 rfl : w4.heap[a0 + 1 + 1]? = some (Obj.cells #[.slice none 0 0, .slice none 0 0, .int .i64 0, .slice none 0 0, .slice none 0 0, .slice none 0 0] 36)) 0 6 (show 0 + 6 ≤ 6 by decide))
    obtain ⟨wf, hwf⟩ : ∃ wf, wf = w4.setCells (a0 + 1 + 1) 0 es.toList := ⟨_, rfl⟩
    have hsf := sep_cellsAll hs 4 rfl es (by rw [hes]; rfl)
    have hbf := below_cells (sep_lt hs 4 rfl (a0 + 1 + 1) rfl).1 es.toList 0 w4 (HB3.out.trans hb4)
    rw [← hwf] at hsf hbf
    have HSf := hide hsf
    have HBf := hide hbf
    have HWf := hide hwf.symm
    have HRn := hide hR
    have HEs : Hid ((Tryd.prog.info? 36).map (·.size) = some es.size) := hide (by rw [hes]; exact Tryd.sizeWorkB)
    have HEo := hide heo
    clear hsf hbf hwf hs hb4 hR hes heo
    go_wp2_with ((with_reducible refine wpList_storeL ?_ 36 (.tmp 4) (.tmp 12) ?_ (a0 + 1 + 1) 0 es ?_ ?_ hth.out ?_ ?_ HWf.out ?_); exact rfl; exact rfl; exact rfl; exact rfl; exact HEs.out; exact HEo.out)
    exact bodyPost_ret (v := .tuple #[.agg es, r, .bool true]) (results_ctt Tryd.results44 rfl rfl rfl (run_agg (range_all (sep_get HSf.out 4 rfl : wf.heap[a0 + 1 + 1]? = some (Obj.cells es 36))) Tryd.underlying36 rfl HEs.out)) rfl ⟨HBf.out, Or.inr ⟨st, _, _, HRn.out, rfl, sep_pick (pre := [_, _, _, _, _, _]) HSf.out [0, 1] (by decide) [_, _] rfl⟩⟩

end Go.Proofs.YtacmpggigdlmmaaDoor

namespace Go.Proofs.YtacmpggigdlmmaaDoor
open Go.RowKit

theorem rowFormB {w : World} {sz n : Nat} {v : Value} {xs : List Value} (h : RowAt w sz v n xs) : ∃ a cap, v = .slice a n cap := by
  obtain ⟨-, a, cap, e, -⟩ := h
  exact ⟨a, cap, e⟩

theorem work_arrA {w : World} {v : Value} {k : Wk} (h : WorkAt w v k) : ∃ cs : Array Value, v = .agg cs ∧ cs.size = 6 ∧ cs.toList.all (·.oneCell') = true := by
  obtain ⟨vp, vl, vu, vg, vf, rfl, ⟨vp', vl', e, h1, h1'⟩, h2, h3, h4, -⟩ := h
  injection e with e
  obtain ⟨rfl, rfl⟩ : vp = vp' ∧ vl = vl' := by simpa using e
  obtain ⟨_, _, rfl⟩ := rowFormB h1
  obtain ⟨_, _, rfl⟩ := rowFormB h1'
  obtain ⟨_, _, rfl⟩ := rowFormB h2
  obtain ⟨_, _, rfl⟩ := rowFormB h3
  obtain ⟨_, _, rfl⟩ := rowFormB h4
  exact ⟨_, rfl, rfl, rfl⟩

/-- what buildLevels leaves -/
def BlPost (W : World) (k : Wk) (L : List (ByteArray × ByteArray)) (e : Ending) (w' : World) : Prop := Below W.heap.size W w' ∧ (((ascB L = false ∨ bldO k L = none) ∧ ∃ (es : Array Value) (x : Int), e = .returned (.tuple #[.agg es, .int .i64 x, .bool false]) ∧ es.size = 6 ∧ es.toList.all (·.oneCell') = true) ∨ (ascB L = true ∧ ∃ st v', bldO k L = some st ∧ e = .returned (.tuple #[v', .int .i64 (st.2.2.getD 0 0), .bool true]) ∧ WorkOwn w' W.heap.size v' st.1))

theorem lup_zero {c : Nat} (hc : c ≤ 1048576) (h : lup 21 c = 0) : c ≤ 1 := by
  by_cases h1 : 1 < c
  · rw [lup_up h1 hc] at h
    omega
  · omega

set_option maxHeartbeats 16000000 in
set_option maxRecDepth 100000 in
theorem buildLevels_any (v : Value) (k : Wk) (hk : k.rm 951424) (L : List (ByteArray × ByteArray)) (hl : L.length ≤ 1048576) (hL : ∀ p ∈ L, p.1.size ≤ 1048576 ∧ p.2.size ≤ 1048576) (a : Option Addr) (cap : Nat) (hcap : L.length ≤ cap) (W : World) (hT : SumTab W) (hd : WorkAt W v k) (hRw : RowAt W 2 (.slice a L.length cap) L.length (prs L)) :
    Calls Tryd.prog 23 #[v, .slice a L.length cap] W fun e w' => BlPost W k L e w' := by
  obtain ⟨cs, rfl, hcs, hco⟩ := work_arrA hd
  obtain ⟨a0, ha0⟩ : ∃ a0, a0 = W.heap.size := ⟨_, rfl⟩
  have hs1 := sep_new (sep_nil W.heap.size W) (Obj.cells cs 36) (Nat.le_refl _)
  have hs2 := sep_new hs1 (Obj.cells #[.slice none 0 0, .slice none 0 0, .int .i64 0, .slice none 0 0, .slice none 0 0, .slice none 0 0] 36) (by simp)
  simp only [World.size_alloc] at hs2
  obtain ⟨w2, hw2⟩ : ∃ w2, w2 = (W.alloc (Obj.cells cs 36)).alloc (Obj.cells #[.slice none 0 0, .slice none 0 0, .int .i64 0, .slice none 0 0, .slice none 0 0, .slice none 0 0] 36) := ⟨_, rfl⟩
  have hb2 : Below W.heap.size W w2 := by rw [hw2]; exact ((Below.refl W.heap.size W).alloc (Nat.le_refl _) _).alloc (by simp) _
  rw [← hw2, ← ha0] at hs2
  rw [← ha0] at hb2
  have HS2 := hide hs2
  have HB2 := hide hb2
  have HAs := hide (fun wx (hb : Below a0 W wx) => pairsAscend_any L hl (.slice a L.length cap) wx (row_below hRw (by rw [← ha0]; exact hb)))
  have HCp := hide (fun wx (hb : Below a0 W wx) => implWCopy_any (.agg cs) k (rm_small hk) wx (work_below hd (by rw [← ha0]; exact hb)))
  have hfo : fours L.length ≤ 262144 := by unfold fours; omega
  have HLf := hide (fun rest u (wx : World) (hb : Below a0 W wx) (hs : Sep a0 wx (workA a0 u k :: rest)) => putLeaves_any a0 rest u k L hl hL a cap hcap (rm_mono hk (by omega)) wx (by rw [ha0]; exact (by rw [ha0] at hb; exact hb.size)) (fun wy h => sumTab_below hT (by rw [← ha0]; exact hb.trans h)) (fun wy h => row_below hRw (by rw [← ha0]; exact hb.trans h)) hs)
  have HFt := hide (fun (st : Bst) (h : lvs k L = some st) => lvs_fit (fun p hp => (hL p hp).1) hl hk h)
  have HTb := hide (fun (wx : World) (hb : Below a0 W wx) => sumTab_below hT (by rw [← ha0]; exact hb))
  have HA := hide ha0
  have HRg : Hid (∀ wx, Sep a0 wx [cellA (a0 + 1) (Obj.cells #[.slice none 0 0, .slice none 0 0, .int .i64 0, .slice none 0 0, .slice none 0 0, .slice none 0 0] 36), cellA a0 (Obj.cells cs 36)] → wx.rangeAt a0 0 cs.toList) := hide (fun wx h => range_all (sep_get h 1 rfl : wx.heap[a0]? = some (Obj.cells cs 36)))
  have HSz : Hid ((Tryd.prog.info? 36).map (·.size) = some cs.size) := hide (by rw [hcs]; exact Tryd.sizeWorkB)
  have HFo2 := hide hfo
  obtain ⟨n, hn⟩ : ∃ n, n = L.length := ⟨_, rfl⟩
  rw [← hn] at HAs HLf ⊢
  have HE := hide hw2
  clear hs1 hs2 hb2 hcs hco ha0 hn hT hk hd hRw hw2 hl hL hcap hfo
  go_enter Tryd.func23, Tryd.ntmps23
  go_upto_region 1 with fail
  rw [← HE.out, ← HA.out]
  clear HE
  go_wp2_with fail
  refine (HAs.out _ HB2.out).mono ?_
  rintro e w3 ⟨rfl, hb3⟩
  have hz2 : a0 ≤ w2.heap.size := by have := HB2.out.size; rw [← HA.out] at this; exact this
  have HS3 := hide (sep_below HS2.out hb3)
  have HB3 : Hid (Below a0 W w3) := hide (HB2.out.trans (hb3.mono hz2))
  clear HS2 HB2 hb3 HAs hz2
  have HZ : Hid (∀ wx, Below a0 W wx → a0 ≤ wx.heap.size) := hide (fun wx h => by have := h.size; rw [← HA.out] at this; exact this)
  cases hasc : ascB L with
  | false =>
    have HAsc := hide hasc
    clear hasc
    have hth : Hid (w3.there (a0 + 1) 0 (#[.slice none 0 0, .slice none 0 0, .int .i64 0, .slice none 0 0, .slice none 0 0, .slice none 0 0] : Array Value).size) := hide (there_of (sep_get HS3.out 0 rfl : w3.heap[a0 + 1]? = some (Obj.cells #[.slice none 0 0, .slice none 0 0, .int .i64 0, .slice none 0 0, .slice none 0 0, .slice none 0 0] 36)) 0 6 (show 0 + 6 ≤ 6 by decide))
    obtain ⟨wf, hwf⟩ : ∃ wf, wf = w3.setCells (a0 + 1) 0 (#[.slice none 0 0, .slice none 0 0, .int .i64 0, .slice none 0 0, .slice none 0 0, .slice none 0 0] : Array Value).toList := ⟨_, rfl⟩
    have hsf := sep_cellsAll HS3.out 0 rfl #[.slice none 0 0, .slice none 0 0, .int .i64 0, .slice none 0 0, .slice none 0 0, .slice none 0 0] rfl
    have hbf := below_cells (Nat.le_add_right a0 1) (#[.slice none 0 0, .slice none 0 0, .int .i64 0, .slice none 0 0, .slice none 0 0, .slice none 0 0] : Array Value).toList 0 w3 HB3.out
    rw [← hwf] at hsf hbf
    have HSf := hide hsf
    have HBf := hide hbf
    have HWf := hide hwf.symm
    clear hsf hbf hwf
    go_wp2_with ((with_reducible refine wpList_storeL ?_ 36 (.tmp 4) (.tmp 13) ?_ (a0 + 1) 0 #[.slice none 0 0, .slice none 0 0, .int .i64 0, .slice none 0 0, .slice none 0 0, .slice none 0 0] ?_ ?_ hth.out ?_ ?_ HWf.out ?_); exact rfl; exact rfl; exact rfl; exact rfl; exact Tryd.sizeWorkB; exact rfl)
    refine bodyPost_ret (v := .tuple #[.agg #[.slice none 0 0, .slice none 0 0, .int .i64 0, .slice none 0 0, .slice none 0 0, .slice none 0 0], .int .i64 0, .bool false]) (results_ctt Tryd.results23 rfl rfl rfl (run_agg (range_all (sep_get HSf.out 0 rfl : wf.heap[a0 + 1]? = some (Obj.cells #[.slice none 0 0, .slice none 0 0, .int .i64 0, .slice none 0 0, .slice none 0 0, .slice none 0 0] 36))) Tryd.underlying36 rfl Tryd.sizeWorkB)) rfl ⟨by rw [← HA.out]; exact HBf.out, Or.inl ⟨Or.inl HAsc.out, _, _, rfl, rfl, rfl⟩⟩
  | true =>
    have HAsc := hide hasc
    clear hasc
    have HR3 := hide (HRg.out w3 HS3.out)
    go_wp2_with ((with_reducible refine wpList_loadL ?_ 36 (.tmp 2) ?_ a0 0 ?_ cs HR3.out _ Tryd.underlying36 ?_ ?_ ?_); exact rfl; exact rfl; exact rfl; exact rfl; exact HSz.out)
    refine (HCp.out _ HB3.out).mono ?_
    rintro e w4 ⟨v4, rfl, hnw, hb4⟩
    have ho4 := nw_own hnw
    have hz3 := HZ.out w3 HB3.out
    have HS4 := hide (sep_add HS3.out hb4 (workA a0 v4 k) (workOwn_down ho4 hz3) (fun j hj => workOwn_lt ho4 j hj) hz3)
    have HB4 : Hid (Below a0 W w4) := hide (HB3.out.trans (hb4.mono hz3))
    clear HS3 HB3 hnw ho4 hb4 hz3 HR3 HCp
    go_wp2_with fail
    refine (HLf.out _ _ w4 HB4.out HS4.out).mono ?_
    rintro e w5 ⟨hb5, ⟨hR, rfl, hs5⟩ | ⟨st, v5, r, hR, rfl, hs5⟩⟩
    · have HB5 : Hid (Below a0 W w5) := hide (HB4.out.trans hb5)
      have HRn : Hid (bldO k L = none) := hide (by unfold bldO; rw [hR]; rfl)
      have hz5 := HZ.out w5 HB5.out
      have hs6 := sep_cellsAll (sep_new hs5 (Obj.cells #[.slice none 0 0, .slice none 0 0, .int .i64 0, .slice none 0 0, .slice none 0 0, .slice none 0 0] 36) hz5) 0 rfl #[.slice none 0 0, .slice none 0 0, .int .i64 0, .slice none 0 0, .slice none 0 0, .slice none 0 0] rfl
      have hth : Hid ((w5.alloc (Obj.cells #[.slice none 0 0, .slice none 0 0, .int .i64 0, .slice none 0 0, .slice none 0 0, .slice none 0 0] 36)).there w5.heap.size 0 (#[.slice none 0 0, .slice none 0 0, .int .i64 0, .slice none 0 0, .slice none 0 0, .slice none 0 0] : Array Value).size) := hide (there_of (heap_alloc_new w5 (Obj.cells #[.slice none 0 0, .slice none 0 0, .int .i64 0, .slice none 0 0, .slice none 0 0, .slice none 0 0] 36)) 0 6 (show 0 + 6 ≤ 6 by decide))
      obtain ⟨w6, hw6⟩ : ∃ w6, w6 = (w5.alloc (Obj.cells #[.slice none 0 0, .slice none 0 0, .int .i64 0, .slice none 0 0, .slice none 0 0, .slice none 0 0] 36)).setCells w5.heap.size 0 (#[.slice none 0 0, .slice none 0 0, .int .i64 0, .slice none 0 0, .slice none 0 0, .slice none 0 0] : Array Value).toList := ⟨_, rfl⟩
      have HB6 : Hid (Below a0 W w6) := hide (by rw [hw6]; exact below_cells hz5 _ 0 _ (HB5.out.alloc hz5 _))
      obtain ⟨g7, hg7⟩ : ∃ g, g = w5.heap.size := ⟨_, rfl⟩
      rw [← hw6, ← hg7] at hs6
      have HS6 := hide hs6
      have HW6 := hide hw6.symm
      have HLa : Hid (∀ wx : World, Calls Tryd.prog 43 #[.int .i64 0] wx fun e w' => e = .returned (.int .i64 0) ∧ wx = w') := hide (fun wx => levelsAbove_any 0 (by omega) wx)
      clear hs6 hw6 hs5 hb5 hz5 hR HB4 HS4 HB5 HLf
      go_upto_region 4 with ((with_reducible refine wpList_storeL ?_ 36 (.tmp 7) (.tmp 19) ?_ w5.heap.size 0 #[.slice none 0 0, .slice none 0 0, .int .i64 0, .slice none 0 0, .slice none 0 0, .slice none 0 0] ?_ ?_ hth.out ?_ ?_ HW6.out ?_); exact rfl; exact rfl; exact rfl; exact rfl; exact Tryd.sizeWorkB; exact rfl)
      rw [← hg7]
      clear hg7 hth HW6
      go_wp2_with fail
      refine (HLa.out _).mono ?_
      rintro e w7 ⟨rfl, rfl⟩
      go_wp2_with fail
      go_loopg [8, 9, 25] 0 (fun q rv ov iv wr => rv = .slice none 0 0 ∧ ov = .bool false ∧ iv = .int .i64 0 ∧ wr = w6)
      case atStart => exact ⟨rfl, rfl, rfl, rfl⟩
      case round =>
        obtain ⟨rfl, rfl, rfl, rfl⟩ := hrel
        have HR7 : Hid (wr.rangeAt g7 0 (#[.slice none 0 0, .slice none 0 0, .int .i64 0, .slice none 0 0, .slice none 0 0, .slice none 0 0] : Array Value).toList) := hide (range_all (sep_get HS6.out 0 rfl : wr.heap[g7]? = some (Obj.cells #[.slice none 0 0, .slice none 0 0, .int .i64 0, .slice none 0 0, .slice none 0 0, .slice none 0 0] 36)))
        have hth : Hid (wr.there (a0 + 1) 0 (#[.slice none 0 0, .slice none 0 0, .int .i64 0, .slice none 0 0, .slice none 0 0, .slice none 0 0] : Array Value).size) := hide (there_of (sep_get HS6.out 1 rfl : wr.heap[a0 + 1]? = some (Obj.cells #[.slice none 0 0, .slice none 0 0, .int .i64 0, .slice none 0 0, .slice none 0 0, .slice none 0 0] 36)) 0 6 (show 0 + 6 ≤ 6 by decide))
        obtain ⟨wf, hwf⟩ : ∃ wf, wf = wr.setCells (a0 + 1) 0 (#[.slice none 0 0, .slice none 0 0, .int .i64 0, .slice none 0 0, .slice none 0 0, .slice none 0 0] : Array Value).toList := ⟨_, rfl⟩
        have hsf := sep_cellsAll HS6.out 1 rfl #[.slice none 0 0, .slice none 0 0, .int .i64 0, .slice none 0 0, .slice none 0 0, .slice none 0 0] rfl
        have hbf := below_cells (Nat.le_add_right a0 1) (#[.slice none 0 0, .slice none 0 0, .int .i64 0, .slice none 0 0, .slice none 0 0, .slice none 0 0] : Array Value).toList 0 wr HB6.out
        rw [← hwf] at hsf hbf
        have HSf := hide hsf
        have HBf := hide hbf
        have HWf := hide hwf.symm
        clear hsf hbf hwf
        go_wp2_with (first | ((with_reducible refine wpList_loadL ?_ 36 (.tmp 7) ?_ g7 0 ?_ #[.slice none 0 0, .slice none 0 0, .int .i64 0, .slice none 0 0, .slice none 0 0, .slice none 0 0] HR7.out _ Tryd.underlying36 ?_ ?_ ?_); exact rfl; exact rfl; exact rfl; exact rfl; exact Tryd.sizeWorkB) | ((with_reducible refine wpList_storeL ?_ 36 (.tmp 4) (.tmp 43) ?_ (a0 + 1) 0 #[.slice none 0 0, .slice none 0 0, .int .i64 0, .slice none 0 0, .slice none 0 0, .slice none 0 0] ?_ ?_ hth.out ?_ ?_ HWf.out ?_); exact rfl; exact rfl; exact rfl; exact rfl; exact Tryd.sizeWorkB; exact rfl))
        exact bodyPost_ret (v := .tuple #[.agg #[.slice none 0 0, .slice none 0 0, .int .i64 0, .slice none 0 0, .slice none 0 0, .slice none 0 0], .int .i64 0, .bool false]) (results_ctt Tryd.results23 rfl rfl rfl (run_agg (range_all (sep_get HSf.out 1 rfl : wf.heap[a0 + 1]? = some (Obj.cells #[.slice none 0 0, .slice none 0 0, .int .i64 0, .slice none 0 0, .slice none 0 0, .slice none 0 0] 36))) Tryd.underlying36 rfl Tryd.sizeWorkB)) rfl ⟨by rw [← HA.out]; exact HBf.out, Or.inl ⟨Or.inr HRn.out, _, _, rfl, rfl, rfl⟩⟩
    · obtain ⟨es, rfl, hes, heo⟩ := work_arr (sep_get hs5 0 rfl : WorkOwn w5 a0 v5 st.1)
      obtain ⟨x, c, rfl⟩ := own_slice (sep_get hs5 1 rfl : w5.ownsRow a0 83 2 r st.2.2.length _)
      obtain ⟨hfit, hlen⟩ := HFt.out st hR
      have HB5 : Hid (Below a0 W w5) := hide (HB4.out.trans hb5)
      have hz5 := HZ.out w5 HB5.out
      have hs6 := sep_cellsAll (sep_new hs5 (Obj.cells #[.slice none 0 0, .slice none 0 0, .int .i64 0, .slice none 0 0, .slice none 0 0, .slice none 0 0] 36) hz5) 0 rfl es (by rw [hes]; rfl)
      have hth : Hid ((w5.alloc (Obj.cells #[.slice none 0 0, .slice none 0 0, .int .i64 0, .slice none 0 0, .slice none 0 0, .slice none 0 0] 36)).there w5.heap.size 0 es.size) := hide (by rw [hes]; exact there_of (heap_alloc_new w5 (Obj.cells #[.slice none 0 0, .slice none 0 0, .int .i64 0, .slice none 0 0, .slice none 0 0, .slice none 0 0] 36)) 0 6 (show 0 + 6 ≤ 6 by decide))
      obtain ⟨w6, hw6⟩ : ∃ w6, w6 = (w5.alloc (Obj.cells #[.slice none 0 0, .slice none 0 0, .int .i64 0, .slice none 0 0, .slice none 0 0, .slice none 0 0] 36)).setCells w5.heap.size 0 es.toList := ⟨_, rfl⟩
      have HB6 : Hid (Below a0 W w6) := hide (by rw [hw6]; exact below_cells hz5 _ 0 _ (HB5.out.alloc hz5 _))
      obtain ⟨g7, hg7⟩ : ∃ g, g = w5.heap.size := ⟨_, rfl⟩
      rw [← hw6, ← hg7] at hs6
      obtain ⟨m, hm⟩ : ∃ m, m = st.2.2.length := ⟨_, rfl⟩
      have hml : m ≤ 262144 := by rw [hm, hlen]; exact HFo2.out
      have HLa := hide (fun wx => levelsAbove_any m (by omega) wx)
      obtain ⟨T, hTT⟩ : ∃ T, lup 21 m = T := ⟨_, rfl⟩
      have hT21 : T ≤ 21 := by rw [← hTT]; exact lup_le 21 m
      obtain ⟨R, hRR⟩ : ∃ R, R = its T st := ⟨_, rfl⟩
      have HRb : Hid (bldO k L = R) := hide (by unfold bldO; rw [hR, hRR, ← hTT, hm]; rfl)
      rw [← hm] at hs6 ⊢
      rw [hTT] at HLa
      have HS6 := hide (sep_pick (pre := [_, _, _]) hs6 [1, 2, 0] (by decide) [_, _, _] rfl)
      have HW6 := hide hw6.symm
      have HEs : Hid ((Tryd.prog.info? 36).map (·.size) = some es.size) := hide (by rw [hes]; exact Tryd.sizeWorkB)
      have HEo := hide heo
      have HEz := hide hes
      have HFit := hide hfit
      have HTT := hide hTT
      have HMe := hide hm
      have HRR := hide hRR
      clear hs6 hw6 hs5 hb5 hz5 hR HB4 HS4 HB5 HLf hes heo hfit hlen hm hTT hRR
      go_upto_region 4 with ((with_reducible refine wpList_storeL ?_ 36 (.tmp 7) (.tmp 19) ?_ w5.heap.size 0 es ?_ ?_ hth.out ?_ ?_ HW6.out ?_); exact rfl; exact rfl; exact rfl; exact rfl; exact HEs.out; exact HEo.out)
      rw [← hg7]
      clear hg7 hth HW6
      go_wp2_with fail
      refine (HLa.out _).mono ?_
      rintro e w7 ⟨rfl, rfl⟩
      go_wp2_with fail
      go_loopg [8, 9, 25] T (fun q rv ov iv wr => ∃ j : Nat, q + j = T ∧ j ≤ T ∧ iv = .int .i64 (j : Int) ∧ Hid (Below a0 W wr) ∧ ((rv = .slice none 0 0 ∧ ov = .bool false ∧ Hid (R = none) ∧ Hid (Sep a0 wr [cellA g7 (Obj.cells #[.slice none 0 0, .slice none 0 0, .int .i64 0, .slice none 0 0, .slice none 0 0, .slice none 0 0] 36), cellA (a0 + 1) (Obj.cells #[.slice none 0 0, .slice none 0 0, .int .i64 0, .slice none 0 0, .slice none 0 0, .slice none 0 0] 36), cellA a0 (Obj.cells cs 36)])) ∨ (∃ (st : Bst) (es : Array Value) (x : Option Addr) (m c : Nat), rv = .slice x m c ∧ ov = .bool true ∧ m ≤ 262144 ∧ Hid (m = st.2.2.length ∧ es.size = 6 ∧ es.toList.all (·.oneCell') = true) ∧ Hid (R = its (T - j) st ∧ st.fit ∧ lup 21 m = T - j) ∧ Hid (Sep a0 wr [workA a0 (.agg es) st.1, rowA a0 83 2 (.slice x m c) m (hvs (st.2.1.zip st.2.2)), cellA g7 (Obj.cells es 36), cellA (a0 + 1) (Obj.cells #[.slice none 0 0, .slice none 0 0, .int .i64 0, .slice none 0 0, .slice none 0 0, .slice none 0 0] 36), cellA a0 (Obj.cells cs 36)]))))
      case atStart => exact ⟨0, rfl, Nat.zero_le _, rfl, HB6, Or.inr ⟨st, es, x, m, c, rfl, rfl, hml, hide ⟨HMe.out, HEz.out, HEo.out⟩, hide ⟨HRR.out, HFit.out, HTT.out⟩, HS6⟩⟩
      case round =>
        clear HS6 HB6 HMe HEz HEo HRR HFit HTT HEs HFt HLa
        obtain ⟨j, hq, hjT, rfl, HB6, ⟨rfl, rfl, HRn0, HS6⟩ | ⟨st, es, x, m, c, rfl, rfl, hml, HM, HF, HS⟩⟩ := hrel
        · have HQ := hide hq
          clear hq
          by_cases hlt : j < T
          · go_wp2_with fail
            go_roundg (gk - 1)
            case measure => have := HQ.out; omega
            case rel => exact ⟨j + 1, by have := HQ.out; omega, by omega, by go_num, HB6, Or.inl ⟨rfl, rfl, HRn0, HS6⟩⟩
          · obtain rfl : j = T := by omega
            have HRn : Hid (bldO k L = none) := hide (by rw [HRb.out]; exact HRn0.out)
            have HR7 : Hid (wr.rangeAt g7 0 (#[.slice none 0 0, .slice none 0 0, .int .i64 0, .slice none 0 0, .slice none 0 0, .slice none 0 0] : Array Value).toList) := hide (range_all (sep_get HS6.out 0 rfl : wr.heap[g7]? = some (Obj.cells #[.slice none 0 0, .slice none 0 0, .int .i64 0, .slice none 0 0, .slice none 0 0, .slice none 0 0] 36)))
            have hth : Hid (wr.there (a0 + 1) 0 (#[.slice none 0 0, .slice none 0 0, .int .i64 0, .slice none 0 0, .slice none 0 0, .slice none 0 0] : Array Value).size) := hide (there_of (sep_get HS6.out 1 rfl : wr.heap[a0 + 1]? = some (Obj.cells #[.slice none 0 0, .slice none 0 0, .int .i64 0, .slice none 0 0, .slice none 0 0, .slice none 0 0] 36)) 0 6 (show 0 + 6 ≤ 6 by decide))
            obtain ⟨wf, hwf⟩ : ∃ wf, wf = wr.setCells (a0 + 1) 0 (#[.slice none 0 0, .slice none 0 0, .int .i64 0, .slice none 0 0, .slice none 0 0, .slice none 0 0] : Array Value).toList := ⟨_, rfl⟩
            have hsf := sep_cellsAll HS6.out 1 rfl #[.slice none 0 0, .slice none 0 0, .int .i64 0, .slice none 0 0, .slice none 0 0, .slice none 0 0] rfl
            have hbf := below_cells (Nat.le_add_right a0 1) (#[.slice none 0 0, .slice none 0 0, .int .i64 0, .slice none 0 0, .slice none 0 0, .slice none 0 0] : Array Value).toList 0 wr HB6.out
            rw [← hwf] at hsf hbf
            have HSf := hide hsf
            have HBf := hide hbf
            have HWf := hide hwf.symm
            clear hsf hbf hwf
            go_wp2_with (first | ((with_reducible refine wpList_loadL ?_ 36 (.tmp 7) ?_ g7 0 ?_ #[.slice none 0 0, .slice none 0 0, .int .i64 0, .slice none 0 0, .slice none 0 0, .slice none 0 0] HR7.out _ Tryd.underlying36 ?_ ?_ ?_); exact rfl; exact rfl; exact rfl; exact rfl; exact Tryd.sizeWorkB) | ((with_reducible refine wpList_storeL ?_ 36 (.tmp 4) (.tmp 43) ?_ (a0 + 1) 0 #[.slice none 0 0, .slice none 0 0, .int .i64 0, .slice none 0 0, .slice none 0 0, .slice none 0 0] ?_ ?_ hth.out ?_ ?_ HWf.out ?_); exact rfl; exact rfl; exact rfl; exact rfl; exact Tryd.sizeWorkB; exact rfl))
            exact bodyPost_ret (v := .tuple #[.agg #[.slice none 0 0, .slice none 0 0, .int .i64 0, .slice none 0 0, .slice none 0 0, .slice none 0 0], .int .i64 0, .bool false]) (results_ctt Tryd.results23 rfl rfl rfl (run_agg (range_all (sep_get HSf.out 1 rfl : wf.heap[a0 + 1]? = some (Obj.cells #[.slice none 0 0, .slice none 0 0, .int .i64 0, .slice none 0 0, .slice none 0 0, .slice none 0 0] 36))) Tryd.underlying36 rfl Tryd.sizeWorkB)) rfl ⟨by rw [← HA.out]; exact HBf.out, Or.inl ⟨Or.inr HRn.out, _, _, rfl, rfl, rfl⟩⟩
        · have HQ := hide hq
          clear hq
          have HEs : Hid ((Tryd.prog.info? 36).map (·.size) = some es.size) := hide (by rw [HM.out.2.1]; exact Tryd.sizeWorkB)
          have HR7 : Hid (wr.rangeAt g7 0 es.toList) := hide (range_all (sep_get HS.out 2 rfl : wr.heap[g7]? = some (Obj.cells es 36)))
          by_cases hlt : j < T
          · have hm1 : 1 < m := by
              have h := HF.out.2.2
              rcases Nat.lt_or_ge 1 m with h1 | h1
              · exact h1
              · rw [lup_one h1] at h; omega
            have HPa := hide (fun (h : Sep a0 wr [workA a0 (.agg es) st.1, rowA a0 83 2 (.slice x m c) m (hvs (st.2.1.zip st.2.2)), cellA g7 (Obj.cells es 36), cellA (a0 + 1) (Obj.cells #[.slice none 0 0, .slice none 0 0, .int .i64 0, .slice none 0 0, .slice none 0 0, .slice none 0 0] 36), cellA a0 (Obj.cells cs 36)]) => by
              have hf := HF.out.2.1
              have e1 : st.2.1.length = m := by rw [HM.out.1]; exact hf.1
              have hp := putAbove_any a0 [cellA g7 (Obj.cells es 36), cellA (a0 + 1) (Obj.cells #[.slice none 0 0, .slice none 0 0, .int .i64 0, .slice none 0 0, .slice none 0 0, .slice none 0 0] 36), cellA a0 (Obj.cells cs 36)] (.agg es) st.1 st.2.1 st.2.2 (by omega) (by rw [e1, HM.out.1]) hf.2.2.1 x c (rm_mono hf.2.2.2 (by rw [e1, ← HM.out.1]; have := fours_two hm1; omega)) wr (HZ.out wr HB6.out) (fun wx hb => HTb.out wx (HB6.out.trans hb)) (by rw [e1]; exact h)
              rw [e1] at hp
              exact hp)
            have HF2 : Hid (R = (mds st).bind (its (T - (j + 1))) ∧ ∀ st', mds st = some st' → st'.fit ∧ st'.2.2.length = fours m ∧ lup 21 (fours m) = T - (j + 1)) := hide (by
              obtain ⟨h1, h2, h3⟩ := HF.out
              refine ⟨by rw [h1, show T - j = T - (j + 1) + 1 from by omega]; rfl, fun st' h => ?_⟩
              have h4 := fit_up h2 (by rw [← HM.out.1]; exact hm1) h
              rw [← HM.out.1] at h4
              refine ⟨h4.1, h4.2, ?_⟩
              rw [lup_up hm1 (by omega)] at h3
              omega)
            have HFm : Hid (fours m ≤ 262144) := hide (by have := fours_two hm1; omega)
            clear hm1
            go_wp2_with ((with_reducible refine wpList_loadL ?_ 36 (.tmp 7) ?_ g7 0 ?_ es HR7.out _ Tryd.underlying36 ?_ ?_ ?_); exact rfl; exact rfl; exact rfl; exact rfl; exact HEs.out)
            refine (HPa.out HS.out).mono ?_
            clear HPa
            rintro e w8 ⟨hb8, ⟨hR8, rfl, hs8⟩ | ⟨st8, v8, r8, hR8, rfl, hs8⟩⟩
            · have hth : Hid (w8.there g7 0 (#[.slice none 0 0, .slice none 0 0, .int .i64 0, .slice none 0 0, .slice none 0 0, .slice none 0 0] : Array Value).size) := hide (there_of (sep_get hs8 0 rfl : w8.heap[g7]? = some (Obj.cells es 36)) 0 6 (by rw [HM.out.2.1]; decide))
              have hs9 := sep_cellsAll hs8 0 rfl #[.slice none 0 0, .slice none 0 0, .int .i64 0, .slice none 0 0, .slice none 0 0, .slice none 0 0] (by rw [HM.out.2.1]; rfl)
              have hb9 := below_cells (sep_lt hs8 0 rfl g7 rfl).1 (#[.slice none 0 0, .slice none 0 0, .int .i64 0, .slice none 0 0, .slice none 0 0, .slice none 0 0] : Array Value).toList 0 w8 (HB6.out.trans hb8)
              obtain ⟨w9, hw9⟩ : ∃ w9, w9 = w8.setCells g7 0 (#[.slice none 0 0, .slice none 0 0, .int .i64 0, .slice none 0 0, .slice none 0 0, .slice none 0 0] : Array Value).toList := ⟨_, rfl⟩
              rw [← hw9] at hs9 hb9
              have HS9 := hide hs9
              have HB9 := hide hb9
              have HW9 := hide hw9.symm
              have HRn := hide (show R = none by rw [HF2.out.1, hR8]; rfl)
              clear hs9 hb9 hw9 hs8 hb8 hR8 HF2
              go_wp2_with ((with_reducible refine wpList_storeL ?_ 36 (.tmp 7) (.tmp 32) ?_ g7 0 #[.slice none 0 0, .slice none 0 0, .int .i64 0, .slice none 0 0, .slice none 0 0, .slice none 0 0] ?_ ?_ hth.out ?_ ?_ HW9.out ?_); exact rfl; exact rfl; exact rfl; exact rfl; exact Tryd.sizeWorkB; exact rfl)
              go_roundg (gk - 1)
              case measure => have := HQ.out; omega
              case rel => exact ⟨j + 1, by have := HQ.out; omega, by omega, by go_num, HB9, Or.inl ⟨rfl, rfl, HRn, HS9⟩⟩
            · obtain ⟨fs, rfl, hfs, hfo⟩ := work_arr (sep_get hs8 0 rfl : WorkOwn w8 a0 v8 st8.1)
              obtain ⟨x8, c8, rfl⟩ := own_slice (sep_get hs8 1 rfl : w8.ownsRow a0 83 2 r8 st8.2.2.length _)
              have hth : Hid (w8.there g7 0 fs.size) := hide (by rw [hfs]; exact there_of (sep_get hs8 2 rfl : w8.heap[g7]? = some (Obj.cells es 36)) 0 6 (by rw [HM.out.2.1]; decide))
              have hs9 := sep_cellsAll hs8 2 rfl fs (by rw [HM.out.2.1, hfs])
              have hb9 := below_cells (sep_lt hs8 2 rfl g7 rfl).1 fs.toList 0 w8 (HB6.out.trans hb8)
              obtain ⟨w9, hw9⟩ : ∃ w9, w9 = w8.setCells g7 0 fs.toList := ⟨_, rfl⟩
              rw [← hw9] at hs9 hb9
              obtain ⟨hf8, hl8, hu8⟩ := HF2.out.2 st8 hR8
              obtain ⟨m8, hm8⟩ : ∃ m8, m8 = st8.2.2.length := ⟨_, rfl⟩
              rw [← hm8] at hs9 hl8 ⊢
              have HS9 := hide hs9
              have HB9 := hide hb9
              have HW9 := hide hw9.symm
              have HRn := hide (show R = its (T - (j + 1)) st8 ∧ st8.fit ∧ lup 21 m8 = T - (j + 1) from ⟨by rw [HF2.out.1, hR8]; rfl, hf8, by rw [hl8]; exact hu8⟩)
              have HM8 : Hid (m8 = st8.2.2.length ∧ fs.size = 6 ∧ fs.toList.all (·.oneCell') = true) := hide ⟨hm8, hfs, hfo⟩
              have HFs : Hid ((Tryd.prog.info? 36).map (·.size) = some fs.size) := hide (by rw [hfs]; exact Tryd.sizeWorkB)
              have HFo8 := hide hfo
              have HMl8 : Hid (m8 ≤ 262144) := hide (by rw [hl8]; exact HFm.out)
              clear hs9 hb9 hw9 hs8 hb8 hR8 HF2 hf8 hl8 hu8 hm8 hfs hfo
              go_wp2_with ((with_reducible refine wpList_storeL ?_ 36 (.tmp 7) (.tmp 32) ?_ g7 0 fs ?_ ?_ hth.out ?_ ?_ HW9.out ?_); exact rfl; exact rfl; exact rfl; exact rfl; exact HFs.out; exact HFo8.out)
              go_roundg (gk - 1)
              case measure => have := HQ.out; omega
              case rel => exact ⟨j + 1, by have := HQ.out; omega, by omega, by go_num, HB9, Or.inr ⟨st8, fs, x8, m8, c8, rfl, rfl, HMl8.out, HM8, HRn, HS9⟩⟩
          · obtain rfl : j = T := by omega
            have HRs : Hid (bldO k L = some st) := hide (by rw [HRb.out, HF.out.1, Nat.sub_self]; rfl)
            have hth : Hid (wr.there (a0 + 1) 0 es.size) := hide (by rw [HM.out.2.1]; exact there_of (sep_get HS.out 3 rfl : wr.heap[a0 + 1]? = some (Obj.cells #[.slice none 0 0, .slice none 0 0, .int .i64 0, .slice none 0 0, .slice none 0 0, .slice none 0 0] 36)) 0 6 (show 0 + 6 ≤ 6 by decide))
            have hsf := sep_cellsAll HS.out 3 rfl es (by rw [HM.out.2.1]; rfl)
            have hbf := below_cells (Nat.le_add_right a0 1) es.toList 0 wr HB6.out
            obtain ⟨wf, hwf⟩ : ∃ wf, wf = wr.setCells (a0 + 1) 0 es.toList := ⟨_, rfl⟩
            rw [← hwf] at hsf hbf
            have HSf := hide hsf
            have HBf := hide hbf
            have HWf := hide hwf.symm
            have HEo := hide HM.out.2.2
            clear hsf hbf hwf
            by_cases hm0 : m = 0
            · subst hm0
              go_wp2_with (first | ((with_reducible refine wpList_loadL ?_ 36 (.tmp 7) ?_ g7 0 ?_ es HR7.out _ Tryd.underlying36 ?_ ?_ ?_); exact rfl; exact rfl; exact rfl; exact rfl; exact HEs.out) | ((with_reducible refine wpList_storeL ?_ 36 (.tmp 4) (.tmp 43) ?_ (a0 + 1) 0 es ?_ ?_ hth.out ?_ ?_ HWf.out ?_); exact rfl; exact rfl; exact rfl; exact rfl; exact HEs.out; exact HEo.out))
              refine bodyPost_ret (v := .tuple #[.agg es, .int .i64 0, .bool true]) (results_ctt Tryd.results23 rfl rfl rfl (run_agg (range_all (sep_get HSf.out 3 rfl : wf.heap[a0 + 1]? = some (Obj.cells es 36))) Tryd.underlying36 rfl HEs.out)) rfl ⟨by rw [← HA.out]; exact HBf.out, Or.inr ⟨HAsc.out, st, .agg es, HRs.out, ?_, ?_⟩⟩
              · rw [List.eq_nil_of_length_eq_zero HM.out.1.symm]; rfl
              · rw [← HA.out]; exact sep_get HSf.out 0 rfl
            · have hmi : ((m : Int) == 0) = false := by simp; omega
              have hm1 : (0 : Int) < (m : Int) := by omega
              have hmn : 0 < m := by omega
              have hrow : wr.ownsRow a0 83 2 (.slice x m c) m (hvs (st.2.1.zip st.2.2)) := sep_get HS.out 1 rfl
              obtain ⟨bk, rfl⟩ : ∃ bk, x = some ⟨bk, 0, none⟩ := by
                rcases hrow.2 with ⟨e, h0⟩ | ⟨g, cc, cur, e, -⟩
                · omega
                · injection e with e; exact ⟨g, e⟩
              obtain ⟨pg, hpg⟩ : ∃ p, p = st.2.2.getD 0 0 := ⟨_, rfl⟩
              have HPg : Hid (∀ wx : World, wx.ownsRow a0 83 2 (.slice (some ⟨bk, 0, none⟩) m c) m (hvs (st.2.1.zip st.2.2)) → wx.cell? ⟨bk, 1, none⟩ = some (.int .i64 pg)) := hide (fun wx h => by
                have h1 := h.cellAt 1 (by omega)
                have e1 : st.2.1.length = m := by rw [HM.out.1]; exact HF.out.2.1.1
                have hz : 0 < (st.2.1.zip st.2.2).length := by rw [List.length_zip, e1, ← HM.out.1]; omega
                have h2 := (hvs_at (st.2.1.zip st.2.2) 0 hz).2
                rw [h1]
                rw [show 0 * 2 + 1 = 1 from rfl] at h2
                rw [h2, hpg]
                have h3 : 0 < st.2.2.length := by rw [← HM.out.1]; omega
                simp [List.getD_eq_getElem?_getD, h3])
              have HPe := hide hpg
              clear hrow hpg
              go_wp2_with fail
              obtain ⟨wd, hwd⟩ : ∃ wd, wd = wr.drew := ⟨_, rfl⟩
              have HSd := hide (sep_drew HS.out)
              rw [← hwd] at HSd
              have hHeld : (fun wx => wx.heap[g7]? = some (Obj.cells es 36) ∧ wx.cell? ⟨bk, 1, none⟩ = some (.int .i64 pg)) wd := ⟨sep_get HSd.out 2 rfl, HPg.out wd (sep_get HSd.out 1 rfl)⟩
              refine wp_region_held_drew (S := fun wx => wx.heap[g7]? = some (Obj.cells es 36) ∧ wx.cell? ⟨bk, 1, none⟩ = some (.int .i64 pg)) (by kernel_rfl) (by rw [← hwd]; exact hHeld) (fun _ => ?_)
              rw [← hwd]
              have HSdf := hide (sep_cellsAll HSd.out 3 rfl es (by rw [HM.out.2.1]; rfl))
              have HBdf := hide (below_cells (Nat.le_add_right a0 1) es.toList 0 wd (by rw [hwd]; exact HB6.out.drew))
              have htd : wd.there (a0 + 1) 0 es.size := by rw [HM.out.2.1]; exact there_of (sep_get HSd.out 3 rfl : wd.heap[a0 + 1]? = some (Obj.cells #[.slice none 0 0, .slice none 0 0, .int .i64 0, .slice none 0 0, .slice none 0 0, .slice none 0 0] 36)) 0 6 (show 0 + 6 ≤ 6 by decide)
              obtain ⟨we, hwe⟩ : ∃ we, we = wd.setCells (a0 + 1) 0 es.toList := ⟨_, rfl⟩
              rw [← hwe] at HSdf HBdf
              have hHe : (fun wx => wx.heap[g7]? = some (Obj.cells es 36) ∧ wx.cell? ⟨bk, 1, none⟩ = some (.int .i64 pg)) we := ⟨sep_get HSdf.out 2 rfl, HPg.out we (sep_get HSdf.out 1 rfl)⟩
              have HWe := hide hwe.symm
              clear hwd hwe
              refine takeW 0 45 (.agg es) rfl rfl (by kernel_rfl) (by kernel_rfl) (by kernel_rfl) (fun _ _ _ h => h) (yields_loadL (by rfl) 36 (.tmp 7) rfl g7 0 rfl es _ (fun _ h => range_all h.1) Tryd.underlying36 rfl HEs.out) hHeld ?_
              simp only [List.setIfInBounds_toArray, List.set_cons_zero, List.set_cons_succ]
              refine takeW 1 46 ?_ rfl rfl (by kernel_rfl) (by kernel_rfl) (by kernel_rfl) (fun _ _ _ h => h) (Or.inl ⟨by rfl, ?_⟩) hHeld ?_
              rotate_left
              · (intro wx hSw; (try dsimp only at hSw); obtain ⟨hSa, hSb⟩ := hSw; go_simp; try with_reducible rfl)
              simp only [List.setIfInBounds_toArray, List.set_cons_zero, List.set_cons_succ]
              refine takeW 2 47 ?_ rfl rfl (by kernel_rfl) (by kernel_rfl) (by kernel_rfl) (fun _ _ _ h => h) (Or.inl ⟨by rfl, ?_⟩) hHeld ?_
              rotate_left
              · (intro wx hSw; (try dsimp only at hSw); obtain ⟨hSa, hSb⟩ := hSw; go_simp; try with_reducible rfl)
              simp only [List.setIfInBounds_toArray, List.set_cons_zero, List.set_cons_succ]
              refine takeW 3 48 ?_ rfl rfl (by kernel_rfl) (by kernel_rfl) (by kernel_rfl) (fun _ _ _ h => h) (Or.inl ⟨by rfl, ?_⟩) hHeld ?_
              rotate_left
              · (intro wx hSw; (try dsimp only at hSw); obtain ⟨hSa, hSb⟩ := hSw; go_simp; try with_reducible rfl)
              simp only [List.setIfInBounds_toArray, List.set_cons_zero, List.set_cons_succ]
              refine takeW 4 49 ?_ rfl rfl (by kernel_rfl) (by kernel_rfl) (by kernel_rfl) (fun _ _ _ h => h) (Or.inl ⟨by rfl, ?_⟩) hHeld ?_
              rotate_left
              · (intro wx hSw; (try dsimp only at hSw); obtain ⟨hSa, hSb⟩ := hSw; go_simp; try with_reducible rfl)
              simp only [List.setIfInBounds_toArray, List.set_cons_zero, List.set_cons_succ]
              refine wpAnyH_ready (rs := [5]) (by kernel_rfl) (by simp) ?_
              refine AllReadyH.cons rfl (fun K hK => ?_) AllReadyH.nil
              refine step_storeL ?_ 36 (.tmp 4) (.tmp 45) ?_ (a0 + 1) 0 es ?_ ?_ htd ?_ ?_ HWe.out ?_
              · exact rfl
              · exact rfl
              · exact rfl
              · exact rfl
              · exact HEs.out
              · exact HEo.out
              refine hK.out (Act.put _ none _) _ hHe (fun _ => ?_)
              clear hK K
              simp only [Act.put]
              refine takeW 6 5 ?_ rfl rfl (by kernel_rfl) (by kernel_rfl) (by kernel_rfl) (fun _ _ _ h => h) (Or.inl ⟨by rfl, ?_⟩) hHe ?_
              rotate_left
              · (intro wx hSw; (try dsimp only at hSw); obtain ⟨hSa, hSb⟩ := hSw; go_simp; try with_reducible rfl)
              simp only [List.setIfInBounds_toArray, List.set_cons_zero, List.set_cons_succ]
              refine takeW 7 6 ?_ rfl rfl (by kernel_rfl) (by kernel_rfl) (by kernel_rfl) (fun _ _ _ h => h) (Or.inl ⟨by rfl, ?_⟩) hHe ?_
              rotate_left
              · (intro wx hSw; (try dsimp only at hSw); obtain ⟨hSa, hSb⟩ := hSw; go_simp; try with_reducible rfl)
              simp only [List.setIfInBounds_toArray, List.set_cons_zero, List.set_cons_succ]
              refine wpAnyH_done (by kernel_rfl) ?_ _
              go_wp2_with fail
              refine bodyPost_ret (v := .tuple #[.agg es, .int .i64 pg, .bool true]) (results_ctt Tryd.results23 rfl rfl rfl (run_agg (range_all (sep_get HSdf.out 3 rfl : we.heap[a0 + 1]? = some (Obj.cells es 36))) Tryd.underlying36 rfl HEs.out)) rfl ⟨by rw [← HA.out]; exact HBdf.out, Or.inr ⟨HAsc.out, st, .agg es, HRs.out, by rw [HPe.out], ?_⟩⟩
              rw [← HA.out]; exact sep_get HSdf.out 0 rfl

end Go.Proofs.YtacmpggigdlmmaaDoor

namespace Go.Proofs.YtacmpggigdlmmaaDoor
open Go.RowKit

set_option maxHeartbeats 16000000 in
set_option maxRecDepth 100000 in
theorem implBuildTree_any (v : Value) (k : Wk) (hk : k.rm 951424) (L : List (ByteArray × ByteArray)) (hl : L.length ≤ 1048576) (hL : ∀ p ∈ L, p.1.size ≤ 1048576 ∧ p.2.size ≤ 1048576) (a : Option Addr) (cap : Nat) (hcap : L.length ≤ cap) (W : World) (hT : SumTab W) (hd : WorkAt W v k) (hRw : RowAt W 2 (.slice a L.length cap) L.length (prs L)) :
    Calls Tryd.prog 9 #[v, .slice a L.length cap] W fun e w' => ∃ v', e = .returned (.tuple #[v', .int .i64 (bldS k L).2.1, .bool (bldS k L).2.2]) ∧ WorkOwn w' W.heap.size v' (bldS k L).1 ∧ Below W.heap.size W w' := by
  obtain ⟨cs, rfl, hcs, hco⟩ := work_arrA hd
  obtain ⟨a0, ha0⟩ : ∃ a0, a0 = W.heap.size := ⟨_, rfl⟩
  have hs1 := sep_new (sep_nil W.heap.size W) (Obj.cells cs 36) (Nat.le_refl _)
  have hs2 := sep_new hs1 (Obj.cells #[.slice none 0 0, .slice none 0 0, .int .i64 0, .slice none 0 0, .slice none 0 0, .slice none 0 0] 36) (by simp)
  simp only [World.size_alloc] at hs2
  obtain ⟨w2, hw2⟩ : ∃ w2, w2 = (W.alloc (Obj.cells cs 36)).alloc (Obj.cells #[.slice none 0 0, .slice none 0 0, .int .i64 0, .slice none 0 0, .slice none 0 0, .slice none 0 0] 36) := ⟨_, rfl⟩
  have hb2 : Below W.heap.size W w2 := by rw [hw2]; exact ((Below.refl W.heap.size W).alloc (Nat.le_refl _) _).alloc (by simp) _
  rw [← hw2, ← ha0] at hs2
  rw [← ha0] at hb2 ⊢
  have HS2 := hide hs2
  have HB2 := hide hb2
  have HBl := hide (fun wx (hb : Below a0 W wx) => buildLevels_any (.agg cs) k hk L hl hL a cap hcap wx (sumTab_below hT (by rw [← ha0]; exact hb)) (work_below hd (by rw [← ha0]; exact hb)) (row_below hRw (by rw [← ha0]; exact hb)))
  have HCp := hide (fun wx (hb : Below a0 W wx) => implWCopy_any (.agg cs) k (rm_small hk) wx (work_below hd (by rw [← ha0]; exact hb)))
  have HZ : Hid (∀ wx, Below a0 W wx → a0 ≤ wx.heap.size) := hide (fun wx h => by rw [ha0] at h ⊢; exact h.size)
  have HRg : Hid (w2.rangeAt a0 0 cs.toList) := hide (range_all (sep_get hs2 1 rfl : w2.heap[a0]? = some (Obj.cells cs 36)))
  have HSz : Hid ((Tryd.prog.info? 36).map (·.size) = some cs.size) := hide (by rw [hcs]; exact Tryd.sizeWorkB)
  obtain ⟨n, hn⟩ : ∃ n, n = L.length := ⟨_, rfl⟩
  rw [← hn] at HBl ⊢
  have HE := hide (⟨hw2, ha0⟩ : _ ∧ _)
  clear hs1 hs2 hb2 hcs hco ha0 hn hT hk hd hRw hw2 hl hL hcap
  go_enter Tryd.func9, Tryd.ntmps9
  go_upto_region 1 with fail
  obtain ⟨hw2, ha0⟩ := HE.out
  rw [← hw2, ← ha0]
  clear hw2 ha0 HE
  go_wp2_with ((with_reducible refine wpList_loadL ?_ 36 (.tmp 2) ?_ a0 0 ?_ cs HRg.out _ Tryd.underlying36 ?_ ?_ ?_); exact rfl; exact rfl; exact rfl; exact rfl; exact HSz.out)
  refine (HBl.out _ HB2.out).mono ?_
  rintro e w3 ⟨hb3, ⟨hno, es, x, rfl, hes, heo⟩ | ⟨hasc, st, v3, hst, rfl, ho3⟩⟩
  · have hz2 := HZ.out w2 HB2.out
    have HS3 := hide (sep_below HS2.out hb3)
    have HB3 : Hid (Below a0 W w3) := hide (HB2.out.trans (hb3.mono hz2))
    have hz3 := HZ.out w3 HB3.out
    have HR : Hid (bldS k L = (k, 0, false)) := hide (by
      rcases hno with h | h
      · exact bld_no h
      · cases ha : ascB L with
        | false => exact bld_no ha
        | true => exact bld_none ha h)
    have hs4 := sep_cellsAll (sep_new HS3.out (Obj.cells #[.slice none 0 0, .slice none 0 0, .int .i64 0, .slice none 0 0, .slice none 0 0, .slice none 0 0] 36) hz3) 0 rfl es (by rw [hes]; rfl)
    have hth : Hid ((w3.alloc (Obj.cells #[.slice none 0 0, .slice none 0 0, .int .i64 0, .slice none 0 0, .slice none 0 0, .slice none 0 0] 36)).there w3.heap.size 0 es.size) := hide (by rw [hes]; exact there_of (heap_alloc_new w3 (Obj.cells #[.slice none 0 0, .slice none 0 0, .int .i64 0, .slice none 0 0, .slice none 0 0, .slice none 0 0] 36)) 0 6 (show 0 + 6 ≤ 6 by decide))
    obtain ⟨w4, hw4⟩ : ∃ w4, w4 = (w3.alloc (Obj.cells #[.slice none 0 0, .slice none 0 0, .int .i64 0, .slice none 0 0, .slice none 0 0, .slice none 0 0] 36)).setCells w3.heap.size 0 es.toList := ⟨_, rfl⟩
    have HB4 : Hid (Below a0 W w4) := hide (by rw [hw4]; exact below_cells hz3 _ 0 _ (HB3.out.alloc hz3 _))
    rw [← hw4] at hs4
    have HS4 := hide hs4
    have HW4 := hide hw4.symm
    have HEs : Hid ((Tryd.prog.info? 36).map (·.size) = some es.size) := hide (by rw [hes]; exact Tryd.sizeWorkB)
    have HEo := hide heo
    clear hs4 hw4 hb3 hes heo hno hz2 hz3 HBl HS2 HB2 HRg
    go_upto_region 2 with ((with_reducible refine wpList_storeL ?_ 36 (.tmp 7) (.tmp 14) ?_ w3.heap.size 0 es ?_ ?_ hth.out ?_ ?_ HW4.out ?_); exact rfl; exact rfl; exact rfl; exact rfl; exact HEs.out; exact HEo.out)
    have HR4 : Hid (w4.rangeAt a0 0 cs.toList) := hide (range_all (sep_get HS4.out 2 rfl : w4.heap[a0]? = some (Obj.cells cs 36)))
    go_wp2_with ((with_reducible refine wpList_loadL ?_ 36 (.tmp 2) ?_ a0 0 ?_ cs HR4.out _ Tryd.underlying36 ?_ ?_ ?_); exact rfl; exact rfl; exact rfl; exact rfl; exact HSz.out)
    refine (HCp.out _ HB4.out).mono ?_
    rintro e w5 ⟨v5, rfl, hnw, hb5⟩
    have ho5 := nw_own hnw
    obtain ⟨fs, rfl, hfs, hfo⟩ := work_arr ho5
    have hz4 := HZ.out w4 HB4.out
    have hs5 := sep_add HS4.out hb5 (workA a0 (.agg fs) k) (workOwn_down ho5 hz4) (fun j hj => workOwn_lt ho5 j hj) hz4
    have hsf := sep_cellsAll hs5 2 rfl fs (by rw [hfs]; rfl)
    have hbf := below_cells (Nat.le_add_right a0 1) fs.toList 0 w5 (HB4.out.trans (hb5.mono hz4))
    have hth2 : Hid (w5.there (a0 + 1) 0 fs.size) := hide (by rw [hfs]; exact there_of (sep_get hs5 2 rfl : w5.heap[a0 + 1]? = some (Obj.cells #[.slice none 0 0, .slice none 0 0, .int .i64 0, .slice none 0 0, .slice none 0 0, .slice none 0 0] 36)) 0 6 (show 0 + 6 ≤ 6 by decide))
    obtain ⟨wf, hwf⟩ : ∃ wf, wf = w5.setCells (a0 + 1) 0 fs.toList := ⟨_, rfl⟩
    rw [← hwf] at hsf hbf
    have HSf := hide hsf
    have HBf := hide hbf
    have HWf := hide hwf.symm
    have HFs : Hid ((Tryd.prog.info? 36).map (·.size) = some fs.size) := hide (by rw [hfs]; exact Tryd.sizeWorkB)
    have HFo := hide hfo
    clear hsf hbf hwf hs5 hb5 hnw ho5 hfs hfo hz4
    go_wp2_with ((with_reducible refine wpList_storeL ?_ 36 (.tmp 4) (.tmp 20) ?_ (a0 + 1) 0 fs ?_ ?_ hth2.out ?_ ?_ HWf.out ?_); exact rfl; exact rfl; exact rfl; exact rfl; exact HFs.out; exact HFo.out)
    refine bodyPost_ret (v := .tuple #[.agg fs, .int .i64 0, .bool false]) (results_ctt Tryd.results9 rfl rfl rfl (run_agg (range_all (sep_get HSf.out 2 rfl : wf.heap[a0 + 1]? = some (Obj.cells fs 36))) Tryd.underlying36 rfl HFs.out)) rfl ⟨.agg fs, ?_, ?_, HBf.out⟩
    · rw [HR.out]
    · rw [HR.out]; exact sep_get HSf.out 0 rfl
  · have hz2 := HZ.out w2 HB2.out
    obtain ⟨es, rfl, hes, heo⟩ := work_arr ho3
    have hs3 := sep_add HS2.out hb3 (workA a0 (.agg es) st.1) (workOwn_down ho3 hz2) (fun j hj => workOwn_lt ho3 j hj) hz2
    have HB3 : Hid (Below a0 W w3) := hide (HB2.out.trans (hb3.mono hz2))
    have hz3 := HZ.out w3 HB3.out
    obtain ⟨pg, hpg⟩ : ∃ p, p = st.2.2.getD 0 0 := ⟨_, rfl⟩
    rw [← hpg]
    have HR : Hid (bldS k L = (st.1, pg, true)) := hide (by rw [hpg]; exact bld_some hasc hst)
    have hs4 := sep_cellsAll (sep_new hs3 (Obj.cells #[.slice none 0 0, .slice none 0 0, .int .i64 0, .slice none 0 0, .slice none 0 0, .slice none 0 0] 36) hz3) 0 rfl es (by rw [hes]; rfl)
    have hth : Hid ((w3.alloc (Obj.cells #[.slice none 0 0, .slice none 0 0, .int .i64 0, .slice none 0 0, .slice none 0 0, .slice none 0 0] 36)).there w3.heap.size 0 es.size) := hide (by rw [hes]; exact there_of (heap_alloc_new w3 (Obj.cells #[.slice none 0 0, .slice none 0 0, .int .i64 0, .slice none 0 0, .slice none 0 0, .slice none 0 0] 36)) 0 6 (show 0 + 6 ≤ 6 by decide))
    obtain ⟨w4, hw4⟩ : ∃ w4, w4 = (w3.alloc (Obj.cells #[.slice none 0 0, .slice none 0 0, .int .i64 0, .slice none 0 0, .slice none 0 0, .slice none 0 0] 36)).setCells w3.heap.size 0 es.toList := ⟨_, rfl⟩
    have HB4 : Hid (Below a0 W w4) := hide (by rw [hw4]; exact below_cells hz3 _ 0 _ (HB3.out.alloc hz3 _))
    obtain ⟨g7, hg7⟩ : ∃ g, g = w3.heap.size := ⟨_, rfl⟩
    rw [← hw4, ← hg7] at hs4
    have HS4 := hide hs4
    have HW4 := hide hw4.symm
    have HEs : Hid ((Tryd.prog.info? 36).map (·.size) = some es.size) := hide (by rw [hes]; exact Tryd.sizeWorkB)
    have HEo := hide heo
    have HEz := hide hes
    clear hs4 hw4 hb3 hes heo hasc hst hz2 hz3 HBl HS2 HB2 HRg ho3 hs3 hpg
    go_upto_region 2 with ((with_reducible refine wpList_storeL ?_ 36 (.tmp 7) (.tmp 14) ?_ w3.heap.size 0 es ?_ ?_ hth.out ?_ ?_ HW4.out ?_); exact rfl; exact rfl; exact rfl; exact rfl; exact HEs.out; exact HEo.out)
    rw [← hg7]
    clear hg7
    have HR7 : Hid (w4.rangeAt g7 0 es.toList) := hide (range_all (sep_get HS4.out 0 rfl : w4.heap[g7]? = some (Obj.cells es 36)))
    have hsf := sep_cellsAll HS4.out 2 rfl es (by rw [HEz.out]; rfl)
    have hbf := below_cells (Nat.le_add_right a0 1) es.toList 0 w4 HB4.out
    have hth2 : Hid (w4.there (a0 + 1) 0 es.size) := hide (by rw [HEz.out]; exact there_of (sep_get HS4.out 2 rfl : w4.heap[a0 + 1]? = some (Obj.cells #[.slice none 0 0, .slice none 0 0, .int .i64 0, .slice none 0 0, .slice none 0 0, .slice none 0 0] 36)) 0 6 (show 0 + 6 ≤ 6 by decide))
    obtain ⟨wf, hwf⟩ : ∃ wf, wf = w4.setCells (a0 + 1) 0 es.toList := ⟨_, rfl⟩
    rw [← hwf] at hsf hbf
    have HSf := hide hsf
    have HBf := hide hbf
    have HWf := hide hwf.symm
    clear hsf hbf hwf
    go_wp2_with (first | ((with_reducible refine wpList_loadL ?_ 36 (.tmp 7) ?_ g7 0 ?_ es HR7.out _ Tryd.underlying36 ?_ ?_ ?_); exact rfl; exact rfl; exact rfl; exact rfl; exact HEs.out) | ((with_reducible refine wpList_storeL ?_ 36 (.tmp 4) (.tmp 21) ?_ (a0 + 1) 0 es ?_ ?_ hth2.out ?_ ?_ HWf.out ?_); exact rfl; exact rfl; exact rfl; exact rfl; exact HEs.out; exact HEo.out))
    refine bodyPost_ret (v := .tuple #[.agg es, .int .i64 pg, .bool true]) (results_ctt Tryd.results9 rfl rfl rfl (run_agg (range_all (sep_get HSf.out 2 rfl : wf.heap[a0 + 1]? = some (Obj.cells es 36))) Tryd.underlying36 rfl HEs.out)) rfl ⟨.agg es, ?_, ?_, HBf.out⟩
    · rw [HR.out]
    · rw [HR.out]; exact sep_get HSf.out 1 rfl

end Go.Proofs.YtacmpggigdlmmaaDoor
