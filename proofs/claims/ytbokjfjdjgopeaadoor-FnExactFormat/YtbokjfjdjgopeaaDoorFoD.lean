/-
  Several texts in one. Many cells stored at once into a variable that lies side by side with other things; a whole struct read and laid by the library's own laws of a range of cells. No program. · spec.Format by a contract: a new disk with the first meta kept at page 0. · The program's functions over disks by contracts: hasPage, DiskOk, ReadPage, DiskNew. · The program's DiskNew by a contract: so many pages without text; nothing late. · The program's MetaOk by a contract: freesOk holds the frees to the rule with an array of flags, a page each. · The program's MetaText by a contract: the numbers of a meta in a row, then each in bytes, then sealed. · MetaPage by contracts, the specification's and the program's: the lowest bit. · impl.Format by a contract: a new disk with the first meta kept at page 0 (made by tools/implformat.py).
-/
import Derived.Test.YtbokjfjdjgopeaaDoorSep
import Derived.Deep.MidRow
import Derived.Test.YtbokjfjdjgopeaaDoorFoC
import Derived.Test.YtbokjfjdjgopeaaDoorDiskSyncN
import Derived.Test.YtbokjfjdjgopeaaDoorMetaSpecText
import Derived.Test.YtbokjfjdjgopeaaDoorDiskN
import Derived.Test.YtbokjfjdjgopeaaDoorClone
import Derived.Test.YtbokjfjdjgopeaaDoorDiskRetN
import Derived.Test.YtbokjfjdjgopeaaDoorDiskCopyN
import Derived.Test.YtbokjfjdjgopeaaDoorMeta
import Derived.Test.YtbokjfjdjgopeaaDoorPlain19
import Derived.Test.YtbokjfjdjgopeaaDoorVar
import Derived.Test.YtbokjfjdjgopeaaDoorPlain20
import Derived.Test.YtbokjfjdjgopeaaDoorSeal
import Derived.Test.YtbokjfjdjgopeaaDoorAppRow
import Derived.Lib.AppendStr
import Derived.Test.YtbokjfjdjgopeaaDoorOwn
import Derived.Test.YtbokjfjdjgopeaaDoorFoA
import Derived.Deep.Cut
namespace Go.Proofs.YtbokjfjdjgopeaaDoor
open Go.RowKit

/-- cells laid over others, from a place on -/
def overL : List Value → Nat → List Value → List Value
  | cs, _, [] => cs
  | cs, o, v :: r => overL (cs.set o v) (o + 1) r

def over : Array Value → Nat → List Value → Array Value
  | cs, _, [] => cs
  | cs, o, v :: r => over (cs.setIfInBounds o v) (o + 1) r

theorem over_list : ∀ (vs : List Value) (cs : Array Value) (o : Nat), (over cs o vs).toList = overL cs.toList o vs
  | [], _, _ => rfl
  | v :: r, cs, o => by
    rw [over, overL, over_list r, Array.toList_setIfInBounds]

theorem overL_all : ∀ (vs pre cs : List Value), vs.length = cs.length → overL (pre ++ cs) pre.length vs = pre ++ vs
  | [], pre, cs, h => by
    rw [List.eq_nil_of_length_eq_zero h.symm]
    rfl
  | v :: r, pre, [], h => by simp at h
  | v :: r, pre, c :: cs, h => by
    have ih := overL_all r (pre ++ [v]) cs (by simpa using h)
    rw [overL, List.set_append_right _ _ (Nat.le_refl _), Nat.sub_self, List.set_cons_zero]
    rw [List.length_append, List.length_singleton, List.append_assoc, List.append_assoc] at ih
    exact ih

theorem set_same {α : Type} {l : List α} {i : Nat} {x : α} (h : l[i]? = some x) : l.set i x = l := by
  obtain ⟨hi, rfl⟩ := List.getElem?_eq_some_iff.1 h
  exact List.set_getElem_self hi

/-- a store of many cells into a block -/
theorem sep_cells {B : Nat} : ∀ (vs : List Value) (off : Nat) {W : World} {l : List Ast} (_ : Sep B W l) (i : Nat) {g : Nat} {cs : Array Value} {T : TypeId} (_ : l[i]? = some (cellA g (.cells cs T (0, 0)))), Sep B (W.setCells g off vs) (l.set i (cellA g (.cells (over cs off vs) T (0, 0))))
  | [], off, W, l, h, i, g, cs, T, hi => by
    rw [show over cs off [] = cs from rfl, set_same hi]
    exact h
  | v :: r, off, W, l, h, i, g, cs, T, hi => by
    have hlt : i < l.length := (List.getElem?_eq_some_iff.1 hi).1
    have h2 := sep_cells r (off + 1) (sep_store h i hi off v) i (g := g) (cs := cs.setIfInBounds off v) (T := T) (by rw [List.getElem?_set_self hlt])
    rw [List.set_set] at h2
    exact h2

theorem sep_cellsTo {B : Nat} {W : World} {l : List Ast} (h : Sep B W l) (i : Nat) {g : Nat} {cs : Array Value} {T : TypeId} (hi : l[i]? = some (cellA g (.cells cs T (0, 0)))) (off : Nat) (vs : List Value) (cs' : Array Value) (he : overL cs.toList off vs = cs'.toList) : Sep B (W.setCells g off vs) (l.set i (cellA g (.cells cs' T (0, 0)))) := by
  have e : over cs off vs = cs' := Array.toList_inj.1 (by rw [over_list]; exact he)
  subst e
  exact sep_cells vs off h i hi

/-- a block is laid anew, all of it -/
theorem sep_cellsAll {B : Nat} {W : World} {l : List Ast} (h : Sep B W l) (i : Nat) {g : Nat} {cs : Array Value} {T : TypeId} (hi : l[i]? = some (cellA g (.cells cs T (0, 0)))) (cs' : Array Value) (hn : cs'.size = cs.size) : Sep B (W.setCells g 0 cs'.toList) (l.set i (cellA g (.cells cs' T (0, 0)))) :=
  sep_cellsTo h i hi 0 cs'.toList cs' (overL_all cs'.toList [] cs.toList (by simpa using hn))

theorem below_cells {B : Nat} {W0 : World} {g : Nat} (hg : B ≤ g) : ∀ (vs : List Value) (o : Nat) (W : World), Below B W0 W → Below B W0 (W.setCells g o vs)
  | [], _, _, h => h
  | v :: r, o, _, h => below_cells hg r (o + 1) _ (h.setCell (p := ⟨g, o, none⟩) hg v)

theorem size_cells (g : Nat) : ∀ (vs : List Value) (o : Nat) (W : World), (W.setCells g o vs).heap.size = W.heap.size
  | [], _, _ => rfl
  | v :: r, o, W => by rw [World.setCells, size_cells g r (o + 1)]; simp

/-- the cells of a variable, as a range -/
theorem range_of {W : World} {g : Nat} {cs : Array Value} {T : TypeId} (h : W.heap[g]? = some (.cells cs T (0, 0))) (o n : Nat) : W.rangeAt g o ((cs.toList.drop o).take n) := fun j v hv => by
  rw [(cell_at h (o + j)).1]
  rw [List.getElem?_take] at hv
  split at hv
  · rw [List.getElem?_drop] at hv
    simpa using hv
  · cases hv

theorem there_of {W : World} {g : Nat} {cs : Array Value} {T : TypeId} (h : W.heap[g]? = some (.cells cs T (0, 0))) (o n : Nat) (hn : o + n ≤ cs.size) : W.there g o n := fun j hj => by
  refine ⟨?_, (cell_at h (o + j)).2⟩
  rw [(cell_at h (o + j)).1, Array.getElem?_eq_getElem (by omega)]
  rfl

/-- a whole struct is read -/
theorem wpList_loadL {P : Program} {ops : Array Oper} {rest : List Oper} {op : Oper} {a : Act} {w : World} {Q : Exit → Act → World → Prop} (hgd : op.guard = none) (ty : TypeId) (x : Operand) (ho : op.op = .load ty x)
    (b o : Nat) (hx : a.eval x = .pointer (some ⟨b, o, none⟩)) (cs : Array Value) (hc : w.rangeAt b o cs.toList) (d : TypeDesc)
    (hu : P.underlying ty = some d) (hd : d.isRow = true) (hi : (P.info? ty).map (·.size) = some cs.size)
    (h : wpList P ops Q rest (a.put op.dst (.agg cs)) w) : wpList P ops Q (op :: rest) a w :=
  wpList_load_mid hgd ty x ho b o hx cs.toList d hc hu hd (by rw [hi, Array.length_toList]) (by rw [Array.toArray_toList]; exact h)

/-- a whole struct is read, where its guard is met -/
theorem wpList_loadW {P : Program} {ops : Array Oper} {rest : List Oper} {op : Oper} {a : Act} {w : World} {Q : Exit → Act → World → Prop} (hw : Region.wanted op (yielded ops a.tmps) = true) (ty : TypeId) (x : Operand) (ho : op.op = .load ty x)
    (b o : Nat) (hx : a.eval x = .pointer (some ⟨b, o, none⟩)) (cs : Array Value) (hc : w.rangeAt b o cs.toList) (d : TypeDesc)
    (hu : P.underlying ty = some d) (hd : d.isRow = true) (hi : (P.info? ty).map (·.size) = some cs.size)
    (h : wpList P ops Q rest (a.put op.dst (.agg cs)) w) : wpList P ops Q (op :: rest) a w := by
  refine wpList_step fun K hK => ?_
  rw [if_pos hw]
  refine wp_load_mid ty x ho b o hx cs.toList d hc hu hd (by rw [hi, Array.length_toList]) ?_
  rw [Array.toArray_toList]
  exact hK _ _ h

/-- a whole struct is laid, and the world behind it has a name -/
theorem wpList_storeL {P : Program} {ops : Array Oper} {rest : List Oper} {op : Oper} {a : Act} {w w' : World} {Q : Exit → Act → World → Prop} (hgd : op.guard = none) (ty : TypeId) (x y : Operand) (ho : op.op = .store ty x y)
    (b o : Nat) (cs : Array Value) (hx : a.eval x = .pointer (some ⟨b, o, none⟩)) (hy : a.eval y = .agg cs)
    (ht : w.there b o cs.size) (hi : (P.info? ty).map (·.size) = some cs.size) (h1 : cs.toList.all (·.oneCell') = true) (hw : w.setCells b o cs.toList = w')
    (h : wpList P ops Q rest (a.put op.dst undef) w') : wpList P ops Q (op :: rest) a w := by
  subst hw
  exact wpList_store_mid hgd ty x y ho b o cs hx hy ht hi (by rw [← Array.all_toList]; exact h1) h

/-- a whole struct is laid, in a region that draws its order -/
theorem step_storeL {P : Program} {ops : Array Oper} {o : Oper} {a : Act} {K : Act → World → Prop} {Q : Exit → Act → World → Prop} {E : Prop} {W W' : World} (hgd : o.guard = none) (ty : TypeId) (x y : Operand) (ho : o.op = .store ty x y)
    (b off : Nat) (cs : Array Value) (hx : a.eval x = .pointer (some ⟨b, off, none⟩)) (hy : a.eval y = .agg cs)
    (ht : W.there b off cs.size) (hi : (P.info? ty).map (·.size) = some cs.size) (h1 : cs.toList.all (·.oneCell') = true) (hw : W.setCells b off cs.toList = W')
    (h : K (a.put o.dst undef) W') : if Region.wanted o (yielded ops a.tmps) = true then Oper.wp P o a W K Q else E := by
  have hw' : Region.wanted o (yielded ops a.tmps) = true := by simp [Region.wanted, hgd]
  rw [if_pos hw']
  subst hw
  exact wp_store_mid ty x y ho b off cs hx hy ht hi (by rw [← Array.all_toList]; exact h1) h

theorem yields_loadL {P : Program} {ops : Array Oper} {S : World → Prop} {op : Oper} {a : Act} (hw : Region.wanted op (yielded ops a.tmps) = true) (ty : TypeId) (x : Operand) (ho : op.op = .load ty x)
    (b o : Nat) (hx : a.eval x = .pointer (some ⟨b, o, none⟩)) (cs : Array Value) (d : TypeDesc) (hS : ∀ w, S w → w.rangeAt b o cs.toList)
    (hu : P.underlying ty = some d) (hd : d.isRow = true) (hi : (P.info? ty).map (·.size) = some cs.size) : YieldsIf P ops S op (.agg cs) a := by
  have h := yieldsIf_load_mid (ops := ops) hw ty x ho b o hx cs.toList d hS hu hd (by rw [hi, Array.length_toList])
  rw [Array.toArray_toList] at h
  exact h

theorem range_all {W : World} {g : Nat} {cs : Array Value} {T : TypeId} (h : W.heap[g]? = some (.cells cs T (0, 0))) : W.rangeAt g 0 cs.toList := fun j v hv => by
  rw [(cell_at h (0 + j)).1, Nat.zero_add]
  simpa using hv

theorem run_agg {P : Program} {w : World} {b : Nat} {ty : TypeId} {cs : Array Value} {d : TypeDesc} (hc : w.rangeAt b 0 cs.toList) (hu : P.underlying ty = some d) (hd : d.isRow = true) (hi : (P.info? ty).map (·.size) = some cs.size) : (loadVar ty ⟨b, 0, none⟩).run P w = .ok (.agg cs) w := by
  have h := run_loadVar_mid w b 0 ty cs.toList d hc hu hd (by rw [hi, Array.length_toList])
  rw [Array.toArray_toList] at h
  exact h

/-- a struct is the answer -/
theorem results_c {P : Program} {fn : Func} {t : Tmp} {ty : TypeId} (h : fn.results = #[.cell t ty]) {tmps : Array Value} {w : World} {b : Nat} (hp : tmps.getD t undef = .pointer (some ⟨b, 0, none⟩)) {cs : Array Value} (hl : (loadVar ty ⟨b, 0, none⟩).run P w = .ok (.agg cs) w) : (results fn tmps).run P w = .ok (.agg cs) w := by
  simp only [Array.getD_eq_getD_getElem?] at hp
  simp [results, h, hp, asAddr, hl]

/-- a struct and a word are the answer -/
theorem results_ct {P : Program} {fn : Func} {t u : Tmp} {ty : TypeId} (h : fn.results = #[.cell t ty, .tmp u]) {tmps : Array Value} {w : World} {b : Nat} (hp : tmps.getD t undef = .pointer (some ⟨b, 0, none⟩)) {cs : Array Value} {x : Value} (hx : tmps.getD u undef = x) (hl : (loadVar ty ⟨b, 0, none⟩).run P w = .ok (.agg cs) w) : (results fn tmps).run P w = .ok (.tuple #[.agg cs, x]) w := by
  simp only [Array.getD_eq_getD_getElem?] at hp hx
  simp [results, h, hp, hx, asAddr, hl]
end Go.Proofs.YtbokjfjdjgopeaaDoor

namespace Go.Proofs.YtbokjfjdjgopeaaDoor
open Go.RowKit

/-- the first meta -/
def meta0 : Mt := ⟨0, 0, 2, []⟩

/-- the pages of a disk that was made ready -/
def formatP (n : Int) : List ByteArray := if 4 ≤ n ∧ n ≤ 40 then syncD (newP n) (writeL (newP n) [] 0 meta0.textO) else []

theorem newP_len (n : Int) : (newP n).length ≤ 40 := by
  unfold newP
  split
  · next h => rw [List.length_replicate]; omega
  · simp

theorem formatP_len (n : Int) : (formatP n).length ≤ 40 := by
  unfold formatP
  split
  · rw [syncD_length]; exact newP_len n
  · simp

theorem newP_small (n : Int) : ∀ s ∈ newP n, s.size ≤ 1048576 := fun s hs => by
  unfold newP at hs
  split at hs
  · rw [List.mem_replicate] at hs
    rw [hs.2]
    exact Nat.zero_le _
  · cases hs

theorem textO_smallF (m : Mt) : m.textO.size ≤ 1048576 := by
  cases h : m.good with
  | true =>
    have h2 := h
    rw [Mt.good, Bool.and_eq_true, decide_eq_true_eq, ← text_size] at h2
    rw [Mt.textO, if_pos h]
    omega
  | false =>
    rw [Mt.textO, if_neg (by rw [h]; decide)]
    exact Nat.zero_le _

theorem frees_none (w : World) : FreesAt w (.slice none 0 0) [] := ⟨[], rfl, ⟨rfl, none, 0, rfl, Or.inl rfl⟩, fun k tx ps p h => by simp at h⟩

theorem disk_down0 {w : World} {B B' : Nat} {v : Value} {ps : List ByteArray} {ls : List (Int × ByteArray)} (h : DiskOwn w B v ps ls) (hB : B' ≤ B) : DiskOwn w B' v ps ls := by
  obtain ⟨vp, vl, e, h1, h2⟩ := h
  exact ⟨vp, vl, e, own_down h1 hB, own_down h2 hB⟩

theorem Tryd.sizeDisk : (Tryd.prog.info? 25).map (·.size) = some 2 := by kernel_rfl

set_option maxHeartbeats 4000000 in
set_option maxRecDepth 100000 in
theorem specFormat_any (n : Int) (w : World) :
    Calls Tryd.prog 4 #[.int .i64 n] w fun e w' => ∃ v', e = .returned (.tuple #[v', .bool (decide (4 ≤ n ∧ n ≤ 40))]) ∧ DiskOwn w' w.heap.size v' (formatP n) [] ∧ Below w.heap.size w w' := by
  have HC1 := hide (fun wx => specDiskNew_any n wx)
  have HC2 := hide (fun wx => specMetaText_any (.agg #[.int .i64 0, .int .i64 0, .int .i64 2, .slice none 0 0]) meta0 (Nat.zero_le _) (fun f hf => (by cases hf)) wx ⟨_, rfl, frees_none wx⟩)
  have HC3 := hide (fun u wx h => specWritePage_any u (newP n) [] 0 meta0.textO (textO_smallF _) (by have := newP_len n; omega) (Nat.zero_le _) (newP_small n) (fun p hp => (by cases hp)) wx h)
  have HC4 := hide (fun u wx h => specSyncDisk_any u (newP n) (writeL (newP n) [] 0 meta0.textO) (by have := newP_len n; omega) (writeL_le (Nat.zero_le _)) wx h)
  have HF : Hid ((decide (4 ≤ n ∧ n ≤ 40) = true → formatP n = syncD (newP n) (writeL (newP n) [] 0 meta0.textO)) ∧ (decide (4 ≤ n ∧ n ≤ 40) = false → formatP n = [])) := hide ⟨fun h => if_pos (of_decide_eq_true h), fun h => if_neg (of_decide_eq_false h)⟩
  obtain ⟨ok, hok⟩ : ∃ b, b = decide (4 ≤ n ∧ n ≤ 40) := ⟨_, rfl⟩
  obtain ⟨ps, hps⟩ : ∃ l, l = newP n := ⟨_, rfl⟩
  obtain ⟨tx, htx⟩ : ∃ t, t = meta0.textO := ⟨_, rfl⟩
  obtain ⟨gd, hgd⟩ : ∃ b, b = meta0.good := ⟨_, rfl⟩
  rw [← htx] at HC3 HC4 HF
  rw [← htx, ← hgd] at HC2
  rw [← hps] at HC1 HC3 HC4 HF
  rw [← hok] at HC1 HF ⊢
  obtain ⟨ls, hls⟩ : ∃ l, l = writeL ps [] 0 tx := ⟨_, rfl⟩
  obtain ⟨wk, hwk⟩ : ∃ l, l = writeOk ps [] 0 tx := ⟨_, rfl⟩
  obtain ⟨fs, hfs⟩ : ∃ l, l = formatP n := ⟨_, rfl⟩
  rw [← hls] at HC3 HC4 HF
  rw [← hwk] at HC3
  rw [← hfs] at HF ⊢
  obtain ⟨pL, hpL⟩ : ∃ l, l = ps.length := ⟨_, rfl⟩
  obtain ⟨lL, hlL⟩ : ∃ l, l = ls.length := ⟨_, rfl⟩
  have HL := hide (⟨hpL, hlL⟩ : _ ∧ _)
  have hS0 := sep_new (sep_nil w.heap.size w) (Obj.cells #[.slice none 0 0, .slice none 0 0] 25) (Nat.le_refl _)
  obtain ⟨w0, hw0⟩ : ∃ w0, w0 = w.alloc (Obj.cells #[.slice none 0 0, .slice none 0 0] 25) := ⟨_, rfl⟩
  obtain ⟨a0, ha0⟩ : ∃ a, a = w.heap.size := ⟨_, rfl⟩
  rw [← hw0, ← ha0] at hS0
  have HS0 := hide hS0
  have HB0 : Hid (Below w.heap.size w w0) := hide (by rw [hw0]; exact (Below.refl w.heap.size w).alloc (Nat.le_refl _) _)
  have HZ0 : Hid (a0 ≤ w0.heap.size) := hide (by rw [hw0, ha0]; simp)
  have HA := hide ha0
  clear hok hps htx hgd hls hwk hfs hpL hlL hS0 ha0
  go_enter Tryd.func4, Tryd.ntmps4
  go_wp2_with fail
  rw [← hw0, ← HA.out]
  clear hw0
  refine (HC1.out w0).mono ?_
  rintro e w1 ⟨v1, rfl, ho, hb⟩
  obtain ⟨x1, c1, y1, d1, rfl⟩ := disk_form ho
  have hs1 := sep_add HS0.out hb (diskA a0 _ ps []) (disk_down0 ho HZ0.out) (fun j hj => diskOwn_lt ho j hj) HZ0.out
  rw [← HL.out.1] at hs1 ⊢
  have HS1 := hide hs1
  have HB1 : Hid (Below w.heap.size w w1) := hide (HB0.out.trans (hb.mono HB0.out.size))
  have HZ1 : Hid (a0 ≤ w1.heap.size) := hide (Nat.le_trans HZ0.out hb.size)
  obtain ⟨g2, hg2⟩ : ∃ g, g = w1.heap.size := ⟨_, rfl⟩
  obtain ⟨w2, hw2⟩ : ∃ wx, wx = w1.alloc (Obj.cells #[.slice x1 pL c1, .slice y1 0 d1] 25) := ⟨_, rfl⟩
  have hs2 := sep_new HS1.out (Obj.cells #[.slice x1 pL c1, .slice y1 0 d1] 25) HZ1.out
  rw [← hw2, ← hg2] at hs2
  have HS2 := hide hs2
  have HB2 : Hid (Below w.heap.size w w2) := hide (by rw [hw2]; exact HB1.out.alloc HB1.out.size _)
  have HZ2 : Hid (a0 ≤ w2.heap.size) := hide (by rw [hw2]; have := HZ1.out; simp; omega)
  have hgt : w.heap.size ≤ g2 := by rw [hg2]; exact HB1.out.size
  have haw : w.heap.size ≤ a0 := by rw [HA.out]; exact Nat.le_refl _
  have hne : a0 ≠ g2 := by have h := (sep_lt hs1 1 rfl a0 rfl).2; omega
  clear ho hb hs1 hs2
  cases ok with
  | false =>
    have r0 : w2.cell? ⟨a0, 0, none⟩ = some (.slice none 0 0) := (cell_at (sep_get HS2.out 2 rfl : w2.heap[a0]? = some (Obj.cells #[.slice none 0 0, .slice none 0 0] 25)) 0).1
    have r1 : w2.cell? ⟨a0, 1, none⟩ = some (.slice none 0 0) := (cell_at (sep_get HS2.out 2 rfl : w2.heap[a0]? = some (Obj.cells #[.slice none 0 0, .slice none 0 0] 25)) 1).1
    have z0 : w2.frozen? ⟨a0, 0, none⟩ = false := (cell_at (sep_get HS2.out 2 rfl : w2.heap[a0]? = some (Obj.cells #[.slice none 0 0, .slice none 0 0] 25)) 0).2
    have z1 : w2.frozen? ⟨a0, 1, none⟩ = false := (cell_at (sep_get HS2.out 2 rfl : w2.heap[a0]? = some (Obj.cells #[.slice none 0 0, .slice none 0 0] 25)) 1).2
    rw [hw2] at r0 r1 z0 z1
    have hfe : fs = [] := HF.out.2 rfl
    subst hfe
    go_wp2_with fail
    rw [← hw2]
    rw [← hw2] at r0 r1 z0 z1
    have HSf := hide (sep_store (sep_store HS2.out 2 rfl 0 (.slice none 0 0)) 2 rfl 1 (.slice none 0 0))
    have HBf := (HB2.out.setCell (p := ⟨a0, 0, none⟩) haw (.slice none 0 0)).setCell (p := ⟨a0, 1, none⟩) haw (.slice none 0 0)
    obtain ⟨wf, hwf⟩ : ∃ wf, wf = (w2.setCell ⟨a0, 0, none⟩ (.slice none 0 0)).setCell ⟨a0, 1, none⟩ (.slice none 0 0) := ⟨_, rfl⟩
    rw [← hwf] at HSf HBf ⊢
    have HRf : Hid (wf.rangeAt a0 0 (#[.slice none 0 0, .slice none 0 0] : Array Value).toList) := hide (range_all (sep_get HSf.out 2 rfl))
    refine bodyPost_ret (v := .tuple #[.agg #[.slice none 0 0, .slice none 0 0], .bool false]) (results_ct Tryd.results4 rfl rfl (run_agg HRf.out Tryd.underlying25 rfl Tryd.sizeDisk)) rfl ⟨_, rfl, ?_, HBf⟩
    exact ⟨_, _, rfl, ⟨rfl, Or.inl ⟨rfl, rfl⟩⟩, ⟨rfl, Or.inl ⟨rfl, rfl⟩⟩⟩
  | true =>
    have hfe : fs = syncD ps ls := HF.out.1 rfl
    have HFe := hide hfe
    clear hfe
    go_wp2_with fail
    rw [← hw2, ← hg2]
    clear hw2 hg2
    refine (HC2.out w2).mono ?_
    rintro e w3 ⟨rfl, hb⟩
    have HS3 := hide (sep_below HS2.out hb)
    have HB3 : Hid (Below w.heap.size w w3) := hide (HB2.out.trans (hb.mono HB2.out.size))
    have HZ3 : Hid (a0 ≤ w3.heap.size) := hide (Nat.le_trans HZ2.out hb.size)
    clear hb
    have q0 : w3.cell? ⟨g2, 0, none⟩ = some (.slice x1 pL c1) := (cell_at (sep_get HS3.out 0 rfl : w3.heap[g2]? = some (Obj.cells #[.slice x1 pL c1, .slice y1 0 d1] 25)) 0).1
    have q1 : w3.cell? ⟨g2, 1, none⟩ = some (.slice y1 0 d1) := (cell_at (sep_get HS3.out 0 rfl : w3.heap[g2]? = some (Obj.cells #[.slice x1 pL c1, .slice y1 0 d1] 25)) 1).1
    go_wp2_with fail
    refine (HC3.out _ w3 (disk_of_own (sep_get HS3.out 1 rfl))).mono ?_
    rintro e w4 ⟨v4, rfl, ho, hb⟩
    obtain ⟨x2, c2, y2, d2, rfl⟩ := disk_form ho
    have hs4 := sep_add HS3.out hb (diskA a0 _ ps ls) (disk_down0 ho HZ3.out) (fun j hj => diskOwn_lt ho j hj) HZ3.out
    rw [← HL.out.1, ← HL.out.2] at hs4 ⊢
    have HS4 := hide hs4
    have HB4 : Hid (Below w.heap.size w w4) := hide (HB3.out.trans (hb.mono HB3.out.size))
    have HZ4 : Hid (a0 ≤ w4.heap.size) := hide (Nat.le_trans HZ3.out hb.size)
    clear ho hb hs4 q0 q1
    have q0 : w4.cell? ⟨g2, 0, none⟩ = some (.slice x1 pL c1) := (cell_at (sep_get HS4.out 1 rfl : w4.heap[g2]? = some (Obj.cells #[.slice x1 pL c1, .slice y1 0 d1] 25)) 0).1
    have q1 : w4.cell? ⟨g2, 1, none⟩ = some (.slice y1 0 d1) := (cell_at (sep_get HS4.out 1 rfl : w4.heap[g2]? = some (Obj.cells #[.slice x1 pL c1, .slice y1 0 d1] 25)) 1).1
    have z0 : w4.frozen? ⟨g2, 0, none⟩ = false := (cell_at (sep_get HS4.out 1 rfl : w4.heap[g2]? = some (Obj.cells #[.slice x1 pL c1, .slice y1 0 d1] 25)) 0).2
    have z1 : w4.frozen? ⟨g2, 1, none⟩ = false := (cell_at (sep_get HS4.out 1 rfl : w4.heap[g2]? = some (Obj.cells #[.slice x1 pL c1, .slice y1 0 d1] 25)) 1).2
    have hs5 := sep_store (sep_store HS4.out 1 rfl 0 (.slice x2 pL c2)) 1 rfl 1 (.slice y2 lL d2)
    have hb5 := (HB4.out.setCell (p := ⟨g2, 0, none⟩) hgt (.slice x2 pL c2)).setCell (p := ⟨g2, 1, none⟩) hgt (.slice y2 lL d2)
    obtain ⟨w5, hw5⟩ : ∃ wf, wf = (w4.setCell ⟨g2, 0, none⟩ (.slice x2 pL c2)).setCell ⟨g2, 1, none⟩ (.slice y2 lL d2) := ⟨_, rfl⟩
    rw [← hw5] at hs5 hb5
    have HS5 := hide hs5
    have HB5 := hide hb5
    have HZ5 : Hid (a0 ≤ w5.heap.size) := hide (by rw [hw5]; have := HZ4.out; simp; omega)
    have HD5 : Hid (DiskAt w5 (.agg #[.slice x2 pL c2, .slice y2 lL d2]) ps ls) := hide (disk_of_own (sep_get hs5 0 rfl))
    clear hs5 hb5
    go_wp2_with fail
    rw [← hw5]
    clear hw5 q0 q1 z0 z1
    refine (HC4.out _ w5 HD5.out).mono ?_
    rintro e w6 ⟨v6, rfl, ho, hb⟩
    obtain ⟨x3, c3, y3, d3, rfl⟩ := disk_form ho
    have HS6 := hide (sep_below HS5.out hb)
    have HB6 : Hid (Below w.heap.size w w6) := hide (HB5.out.trans (hb.mono HB5.out.size))
    have HO6 : Hid (DiskOwn w6 w.heap.size _ (syncD ps ls) []) := hide (disk_down0 ho (Nat.le_trans (by rw [HA.out]; exact Nat.le_refl _) HZ5.out))
    have hap : ∀ k, diskBlocks (.agg #[.slice x3 (syncD ps ls).length c3, .slice y3 ([] : List (Int × ByteArray)).length d3]) k → ¬ k = a0 := fun k hk e => by
      have h1 := (diskOwn_lt ho k hk).1
      have h2 := (sep_lt HS5.out 3 rfl a0 rfl).2
      omega
    have HP := hide hap
    clear ho hb hap
    obtain ⟨sL, hsL⟩ : ∃ l, l = (syncD ps ls).length := ⟨_, rfl⟩
    rw [List.length_nil, ← hsL] at HO6 HP ⊢
    clear hsL
    have r0 : w6.cell? ⟨a0, 0, none⟩ = some (.slice none 0 0) := (cell_at (sep_get HS6.out 3 rfl : w6.heap[a0]? = some (Obj.cells #[.slice none 0 0, .slice none 0 0] 25)) 0).1
    have r1 : w6.cell? ⟨a0, 1, none⟩ = some (.slice none 0 0) := (cell_at (sep_get HS6.out 3 rfl : w6.heap[a0]? = some (Obj.cells #[.slice none 0 0, .slice none 0 0] 25)) 1).1
    have z0 : w6.frozen? ⟨a0, 0, none⟩ = false := (cell_at (sep_get HS6.out 3 rfl : w6.heap[a0]? = some (Obj.cells #[.slice none 0 0, .slice none 0 0] 25)) 0).2
    have z1 : w6.frozen? ⟨a0, 1, none⟩ = false := (cell_at (sep_get HS6.out 3 rfl : w6.heap[a0]? = some (Obj.cells #[.slice none 0 0, .slice none 0 0] 25)) 1).2
    have HSf := hide (sep_store (sep_store HS6.out 3 rfl 0 (.slice x3 sL c3)) 3 rfl 1 (.slice y3 0 d3))
    have HBf := hide ((HB6.out.setCell (p := ⟨a0, 0, none⟩) haw (.slice x3 sL c3)).setCell (p := ⟨a0, 1, none⟩) haw (.slice y3 0 d3))
    have HKf := hide (kept_trans (kept_setCell w6 a0 0 (.slice x3 sL c3)) (kept_setCell _ a0 1 (.slice y3 0 d3)) (fun _ _ h => h))
    go_wp2_with fail
    obtain ⟨wf, hwf⟩ : ∃ wf, wf = (w6.setCell ⟨a0, 0, none⟩ (.slice x3 sL c3)).setCell ⟨a0, 1, none⟩ (.slice y3 0 d3) := ⟨_, rfl⟩
    rw [← hwf] at HSf HBf HKf ⊢
    have HRf : Hid (wf.rangeAt a0 0 (#[.slice x3 sL c3, .slice y3 0 d3] : Array Value).toList) := hide (range_all (sep_get HSf.out 3 rfl))
    refine bodyPost_ret (v := .tuple #[.agg #[.slice x3 sL c3, .slice y3 0 d3], .bool true]) (results_ct Tryd.results4 rfl rfl (run_agg HRf.out Tryd.underlying25 rfl Tryd.sizeDisk)) rfl ⟨_, rfl, ?_, HBf.out⟩
    rw [HFe.out]
    exact diskOwn_kept HO6.out HKf.out HP.out
end Go.Proofs.YtbokjfjdjgopeaaDoor

namespace Go.Proofs.YtbokjfjdjgopeaaDoor
open Go.RowKit

theorem Tryd.infoDiskI : (Tryd.prog.info? 25).map (fun i => (i.zero, i.size, i.bytes)) = some (some (.agg #[.slice none 0 0, .slice none 0 0]), 2, 48) := by kernel_rfl

theorem diskOk_count {ps : List ByteArray} {ls : List (Int × ByteArray)} (h : ¬ (4 ≤ ps.length ∧ ps.length ≤ 40 ∧ ls.length ≤ 200)) : diskOkB ps ls = false := by
  rw [diskOkB, decide_eq_false h]; simp

end Go.Proofs.YtbokjfjdjgopeaaDoor

namespace Go.Proofs.YtbokjfjdjgopeaaDoor
open Go.RowKit

set_option maxHeartbeats 1000000 in
theorem implDiskNew_any (n : Int) (w : World) :
    Calls Tryd.prog 13 #[.int .i64 n] w fun e w' => ∃ v', e = .returned (.tuple #[v', .bool (decide (4 ≤ n ∧ n ≤ 40))]) ∧ DiskOwn w' w.heap.size v' (newP n) [] ∧ Below w.heap.size w w' := by
  obtain ⟨i0, hi, hz0, hz1, hz2⟩ := info_parts Tryd.infoStrR
  by_cases hin : 4 ≤ n ∧ n ≤ 40
  · obtain ⟨k, rfl⟩ := Int.eq_ofNat_of_zero_le (show 0 ≤ n by omega)
    have hk : k ≤ 40 := by omega
    have HN : Hid (newP (k : Int) = List.replicate k ⟨#[]⟩) := hide (by rw [newP, if_pos hin, Int.toNat_natCast])
    rw [decide_eq_true hin]
    have d1 : decide ((k : Int) < 4) = false := by simp; omega
    have d2 : decide ((40 : Int) < (k : Int)) = false := by simp; omega
    clear hin
    go_enter Tryd.func13, Tryd.ntmps13
    go_wp2_with (at_make; refine wpList_make_full _ rfl _ _ 22 rfl (w.heap.size + 1) 9 i0 (.string ⟨#[]⟩) 1 Tryd.underlying22 hi hz0 hz1 .i64 .i64 _ _ k rfl rfl rfl rfl (by rw [hz2]; omega) (by unfold maxLen; omega) (by simp) ?_)
    intro w2 hown2' hg2
    have hown2 : w2.ownsRow (w.heap.size + 1) 9 1 (.slice (some ⟨w.heap.size + 1, 0, none⟩) k k) k (strs (List.replicate k ⟨#[]⟩)) := own_n hown2' rfl (strs_made k)
    have hblk := (hg2.block w.heap.size (by simp) (by simp)).trans (heap_alloc_new w (Obj.cells #[.slice none 0 0, .slice none 0 0] 25))
    have hlt : w.heap.size < w2.heap.size := (Array.getElem?_eq_some_iff.1 hblk).1
    obtain ⟨w3, hw3⟩ : ∃ w3, w3 = w2.alloc (Obj.cells #[] 52) := ⟨_, rfl⟩
    have hbk3 : w3.heap[w.heap.size]? = some (Obj.cells #[.slice none 0 0, .slice none 0 0] 25) := by rw [hw3]; exact (Below.heap_alloc w2 _ _ hlt).trans hblk
    have hem3 : w3.heap[w2.heap.size]? = some (Obj.cells #[] 52) := by rw [hw3]; exact heap_alloc_new w2 _
    have hb2 : Below w.heap.size w w3 := by rw [hw3]; exact (((Below.refl w.heap.size w).alloc (Nat.le_refl _) _).grown hg2 (by simp) (fun j hj => by cases hj)).alloc (by omega) _
    have hb3 : Below w2.heap.size w2 w3 := by rw [hw3]; exact (Below.refl _ _).alloc (Nat.le_refl _) _
    have c0 : w3.cell? ⟨w.heap.size, 0, none⟩ = some (.slice none 0 0) := (cell_at hbk3 0).1
    have c1 : w3.cell? ⟨w.heap.size, 1, none⟩ = some (.slice none 0 0) := (cell_at hbk3 1).1
    have f0 := (cell_at hbk3 0).2
    have f1 := (cell_at hbk3 1).2
    have HBk := hide hbk3
    have HO := hide (own_stays hown2 hb3)
    have HE := hide (own_empty (sz := 2) hem3)
    have HB := hide hb2
    have HLt := hide hlt
    clear hown2' hg2 hblk hown2 hb2 hb3 hbk3 hem3 hlt
    rw [hw3] at c0 c1 f0 f1
    go_wp2_with fail
    rw [← hw3]
    have y1 : (w3.setCell ⟨w.heap.size, 0, none⟩ (.slice (some ⟨w.heap.size + 1, 0, none⟩) k k)).heap[w.heap.size]? = some (Obj.cells #[.slice (some ⟨w.heap.size + 1, 0, none⟩) k k, .slice none 0 0] 25) := heap_setCell_same _ _ 0 _ _ _ HBk.out
    have y2 : ((w3.setCell ⟨w.heap.size, 0, none⟩ (.slice (some ⟨w.heap.size + 1, 0, none⟩) k k)).setCell ⟨w.heap.size, 1, none⟩ (.slice (some ⟨w2.heap.size, 0, none⟩) 0 0)).heap[w.heap.size]? = some (Obj.cells #[.slice (some ⟨w.heap.size + 1, 0, none⟩) k k, .slice (some ⟨w2.heap.size, 0, none⟩) 0 0] 25) := heap_setCell_same _ _ 1 _ _ _ y1
    have k2 : Kept w3 ((w3.setCell ⟨w.heap.size, 0, none⟩ (.slice (some ⟨w.heap.size + 1, 0, none⟩) k k)).setCell ⟨w.heap.size, 1, none⟩ (.slice (some ⟨w2.heap.size, 0, none⟩) 0 0)) (fun j => j = w.heap.size) := kept_trans (kept_setCell _ _ _ _) (kept_setCell _ _ _ _) (fun j _ h => h)
    have hl := HLt.out
    refine bodyPost_ret (v := .tuple #[.agg #[.slice (some ⟨w.heap.size + 1, 0, none⟩) k k, .slice (some ⟨w2.heap.size, 0, none⟩) 0 0], .bool true]) (by simp [results, Tryd.results13, go_sem, (cell_at y2 0).1, (cell_at y2 1).1]) rfl ⟨_, rfl, ?_, (HB.out.setCell (Nat.le_refl _) _).setCell (Nat.le_refl _) _⟩
    rw [HN.out]
    refine ⟨_, _, rfl, ?_, ?_⟩
    · rw [List.length_replicate]
      exact own_down (own_kept HO.out k2 (fun j hj => by have := (HO.out.lt j hj).1; omega)) (by omega)
    · exact own_down (own_kept HE.out k2 (fun j hj => by have := (HE.out.lt j hj).1; omega)) (by omega)
  · rw [decide_eq_false hin]
    have HN : Hid (newP n = []) := hide (by rw [newP, if_neg hin])
    have hblk := heap_alloc_new w (Obj.cells #[.slice none 0 0, .slice none 0 0] 25)
    have c0 := (cell_at hblk 0).1
    have c1 := (cell_at hblk 1).1
    have f0 := (cell_at hblk 0).2
    have f1 := (cell_at hblk 1).2
    have HBk := hide hblk
    clear hblk
    by_cases h4 : n < 4
    · have d1 : decide (n < 4) = true := by simp; omega
      go_enter Tryd.func13, Tryd.ntmps13
      go_wp2_with fail
      refine bodyPost_ret (v := .tuple #[.agg #[.slice none 0 0, .slice none 0 0], .bool false]) (by simp [results, Tryd.results13, go_sem, (cell_at HBk.out 0).1, (cell_at HBk.out 1).1]) rfl ⟨_, rfl, ?_, (Below.refl w.heap.size w).alloc (Nat.le_refl _) _⟩
      rw [HN.out]
      exact ⟨_, _, rfl, ⟨rfl, Or.inl ⟨rfl, rfl⟩⟩, ⟨rfl, Or.inl ⟨rfl, rfl⟩⟩⟩
    · have d1 : decide (n < 4) = false := by simp; omega
      have d2 : decide ((40 : Int) < n) = true := by simp; omega
      go_enter Tryd.func13, Tryd.ntmps13
      go_wp2_with fail
      refine bodyPost_ret (v := .tuple #[.agg #[.slice none 0 0, .slice none 0 0], .bool false]) (by simp [results, Tryd.results13, go_sem, (cell_at HBk.out 0).1, (cell_at HBk.out 1).1]) rfl ⟨_, rfl, ?_, (Below.refl w.heap.size w).alloc (Nat.le_refl _) _⟩
      rw [HN.out]
      exact ⟨_, _, rfl, ⟨rfl, Or.inl ⟨rfl, rfl⟩⟩, ⟨rfl, Or.inl ⟨rfl, rfl⟩⟩⟩
end Go.Proofs.YtbokjfjdjgopeaaDoor

namespace Go.Proofs.YtbokjfjdjgopeaaDoor
open Go.RowKit

/-- the array of flags at block g: those of 'seen' are set -/
def TakenAt (w : World) (g : Nat) (seen : List Int) : Prop := ∃ cs : Array Value, w.heap[g]? = some (.cells cs 65 (0, 0)) ∧ cs.size = 40 ∧ ∀ i : Nat, i < 40 → cs[i]? = some (.bool (decide ((i : Int) ∈ seen)))

theorem taken_cell {w : World} {g : Nat} {seen : List Int} (h : TakenAt w g seen) {i : Nat} (hi : i < 40) : w.cell? ⟨g, i, none⟩ = some (.bool (decide ((i : Int) ∈ seen))) ∧ w.frozen? ⟨g, i, none⟩ = false := by
  obtain ⟨cs, h1, h2, h3⟩ := h
  have := cell_at h1 i
  rw [h3 i hi] at this
  exact this

theorem taken_set {w : World} {g : Nat} {seen : List Int} (h : TakenAt w g seen) {i : Nat} (hi : i < 40) : TakenAt (w.setCell ⟨g, i, none⟩ (.bool true)) g (seen ++ [(i : Int)]) := by
  obtain ⟨cs, h1, h2, h3⟩ := h
  refine ⟨_, heap_setCell_same w g i _ _ _ h1, by simp [h2], fun j hj => ?_⟩
  by_cases e : i = j
  · subst e
    simp [h2, hi]
  · simp only [Array.getElem?_setIfInBounds_ne e]
    rw [h3 j hj]
    congr 2
    simp
    omega

theorem taken_block {w w' : World} {g : Nat} {seen : List Int} (h : TakenAt w g seen) (e : w'.heap[g]? = w.heap[g]?) : TakenAt w' g seen := by
  obtain ⟨cs, h1, h2, h3⟩ := h
  exact ⟨cs, e.trans h1, h2, h3⟩

theorem taken_start (w : World) (g : Nat) (hg : g = w.heap.size) (root : Int) (h0 : 0 ≤ root) (h1 : root < 40) : TakenAt (w.alloc (.cells ((List.replicate 40 (Value.bool false)).set root.toNat (.bool true)).toArray 65 (0, 0))) g [root] := by
  subst hg
  refine ⟨_, heap_alloc_new w _, by simp, fun i hi => ?_⟩
  rw [List.getElem?_toArray]
  by_cases e : root.toNat = i
  · rw [e, List.getElem?_set_self (by simpa using hi)]
    simp
    omega
  · rw [List.getElem?_set_ne e, List.getElem?_replicate, if_pos hi]
    congr 2
    simp
    omega

theorem meta_cells (w : World) (tx root next : Int) (vf : Value) (t : TypeId) : ∀ wx, Below (w.alloc (Obj.cells #[.int .i64 tx, .int .i64 root, .int .i64 next, vf] t)).heap.size (w.alloc (Obj.cells #[.int .i64 tx, .int .i64 root, .int .i64 next, vf] t)) wx →
    wx.cell? ⟨w.heap.size, 0, none⟩ = some (.int .i64 tx) ∧ wx.cell? ⟨w.heap.size, 1, none⟩ = some (.int .i64 root) ∧ wx.cell? ⟨w.heap.size, 2, none⟩ = some (.int .i64 next) ∧ wx.cell? ⟨w.heap.size, 3, none⟩ = some vf := fun wx hb => by
  have hblk := heap_alloc_new w (Obj.cells #[.int .i64 tx, .int .i64 root, .int .i64 next, vf] t)
  have hq := (hb.block _ (Array.getElem?_eq_some_iff.1 hblk).1).trans hblk
  exact ⟨(cell_at hq 0).1, (cell_at hq 1).1, (cell_at hq 2).1, (cell_at hq 3).1⟩

set_option maxHeartbeats 16000000 in
set_option maxRecDepth 100000 in
theorem freesOk_any (tx root next : Int) (fs : List (Int × List Int)) (hl : fs.length ≤ 1048576) (hs : ∀ f ∈ fs, f.2.length ≤ 1048576) (hr0 : 0 ≤ root) (hr1 : root < 40) (hn : next ≤ 40) (vf : Value) (w : World) (hd : FreesAt w vf fs) :
    Calls Tryd.prog 37 #[.agg #[.int .i64 tx, .int .i64 root, .int .i64 next, vf]] w fun e w' => e = .returned (.bool (decide (fs.length ≤ 20) && freesB tx next [root] 0 fs)) ∧ Below w.heap.size w w' := by
  obtain ⟨pa, pc, rfl⟩ := frees_slice hd
  obtain ⟨L, hL⟩ : ∃ L, L = fs.length := ⟨_, rfl⟩
  rw [← hL] at hl ⊢
  have HVar := hide (meta_cells w tx root next (.slice pa L pc) 35)
  obtain ⟨w0, hw0⟩ : ∃ w0, w0 = w.alloc (Obj.cells #[.int .i64 tx, .int .i64 root, .int .i64 next, .slice pa L pc] 35) := ⟨_, rfl⟩
  rw [← hw0] at HVar
  have hb0 : Below w.heap.size w w0 := by rw [hw0]; exact (Below.refl w.heap.size w).alloc (Nat.le_refl _) _
  have hs0 : w0.heap.size = w.heap.size + 1 := by rw [hw0]; simp
  obtain ⟨c0, c1, c2, c3⟩ := HVar.out w0 (Below.refl _ _)
  have HF := hide (frees_below hd hb0)
  rw [← hL] at HF
  have HB0 := hide hb0
  have HS := hide hs
  have HL := hide hL
  have HS0 := hide hs0
  clear hd hb0 hs hL hs0
  by_cases h4 : L ≤ 20
  · rw [decide_eq_true h4, Bool.true_and]
    have d4 : decide ((20 : Int) < (L : Int)) = false := decide_eq_false (by omega)
    obtain ⟨ok, hok⟩ : ∃ ok, ok = freesB tx next [root] 0 fs := ⟨_, rfl⟩
    rw [← hok]
    have HO := hide hok
    clear hok
    go_enter Tryd.func37, Tryd.ntmps37
    go_wp2_with fail
    rw [← hw0]
    clear hw0 c0 c1 c2 c3
    go_loopg [4, 19] L (fun q lv iv wr => ∃ (k : Nat) (seen : List Int) (last : Int), k ≤ L ∧ lv = .int .i64 last ∧ iv = .int .i64 (k : Int) ∧ q + k = L ∧ Hid (TakenAt wr (w.heap.size + 1) seen) ∧ Hid (MSt tx root next fs k seen last) ∧ Hid (Below w0.heap.size w0 wr))
    case atStart => exact ⟨0, [root], 0, Nat.zero_le _, rfl, rfl, by omega, hide (taken_start w0 _ HS0.out.symm root hr0 hr1), hide (mst_start tx root next fs), hide ((Below.refl _ _).alloc (Nat.le_refl _) _)⟩
    case round =>
      obtain ⟨k, seen0, last, hk, rfl, rfl, hg, HTk, HM, HB⟩ := hrel
      have HG := hide hg
      clear hg
      obtain ⟨gq, hgq⟩ : ∃ gq, gq = gk := ⟨_, rfl⟩
      have HGQ := hide hgq
      clear hgq
      by_cases hlt : k < L
      · obtain ⟨ftx, ps, hf⟩ : ∃ ftx ps, fs[k]? = some (ftx, ps) := ⟨_, _, List.getElem?_eq_getElem (by rw [← HL.out]; exact hlt)⟩
        obtain ⟨b, off, x, c, rfl, hbl0, hc00, hc10, hrow⟩ := frees_at HF.out hf
        have hc0 := (HB.out.cell (by exact hbl0)).trans hc00
        have hc1 := (HB.out.cell (by exact hbl0)).trans hc10
        clear hc00 hc10
        obtain ⟨n, hn'⟩ : ∃ n, n = ps.length := ⟨_, rfl⟩
        have hnl : n ≤ 1048576 := by rw [hn']; exact HS.out _ (List.mem_of_getElem? hf)
        have HRow := hide hrow
        rw [← hn'] at hc1 HRow
        have HF1 := hide hf
        have HN := hide hn'
        have hk0 : (0 : Int) ≤ (k : Int) := by omega
        have hk1 : (k : Int) < (L : Int) := by omega
        obtain ⟨w1, hw1⟩ : ∃ w1, w1 = wr.alloc (Obj.cells #[.int .i64 ftx, .slice x n c] 48) := ⟨_, rfl⟩
        have HB1 : Hid (Below w0.heap.size w0 w1) := hide (by rw [hw1]; exact HB.out.alloc HB.out.size _)
        have HBl : Hid (w1.heap[wr.heap.size]? = some (Obj.cells #[.int .i64 ftx, .slice x n c] 48)) := hide (by rw [hw1]; exact heap_alloc_new wr _)
        have HK1 : Hid (Below wr.heap.size wr w1) := hide (by rw [hw1]; exact (Below.refl wr.heap.size wr).alloc (Nat.le_refl _) _)
        have HSz : Hid (w.heap.size + 1 < wr.heap.size) := hide (by obtain ⟨cs, h1, -⟩ := HTk.out; exact (Array.getElem?_eq_some_iff.1 h1).1)
        obtain ⟨p0, p1, p2, p3⟩ := HVar.out w1 HB1.out
        rw [hw1] at p0 p1 p2 p3
        have HMB : Hid (¬ (last < ftx ∧ ftx ≤ tx ∧ 1 ≤ n ∧ n ≤ 40) → freesB tx next [root] 0 fs = false) := hide (fun h => mst_bad HM.out HF1.out (by rw [← HN.out]; exact h))
        clear hf hrow hn'
        by_cases hA : ftx ≤ last
        · have HT := hide (HMB.out (by omega))
          have dA : decide (ftx ≤ last) = true := decide_eq_true hA
          clear hA
          go_wp2_with fail
          go_ret
          rw [HO.out, HT.out, ← hw1]
          exact ⟨rfl, HB0.out.trans (HB1.out.mono HB0.out.size)⟩
        · have dA : decide (ftx ≤ last) = false := decide_eq_false hA
          by_cases hB : tx < ftx
          · have HT := hide (HMB.out (by omega))
            have dB : decide (tx < ftx) = true := decide_eq_true hB
            clear hA hB
            go_wp2_with fail
            go_ret
            rw [HO.out, HT.out, ← hw1]
            exact ⟨rfl, HB0.out.trans (HB1.out.mono HB0.out.size)⟩
          · have dB : decide (tx < ftx) = false := decide_eq_false hB
            by_cases hC : n < 1
            · have HT := hide (HMB.out (by omega))
              have dC : decide ((n : Int) < 1) = true := decide_eq_true (by omega)
              clear hA hB
              go_wp2_with fail
              go_ret
              rw [HO.out, HT.out, ← hw1]
              exact ⟨rfl, HB0.out.trans (HB1.out.mono HB0.out.size)⟩
            · have dC : decide ((n : Int) < 1) = false := decide_eq_false (by omega)
              by_cases hD : 40 < n
              · have HT := hide (HMB.out (by omega))
                have dD : decide ((40 : Int) < (n : Int)) = true := decide_eq_true (by omega)
                clear hA hB
                go_wp2_with fail
                go_ret
                rw [HO.out, HT.out, ← hw1]
                exact ⟨rfl, HB0.out.trans (HB1.out.mono HB0.out.size)⟩
              · have dD : decide ((40 : Int) < (n : Int)) = false := decide_eq_false (by omega)
                have HGood : Hid (last < ftx ∧ ftx ≤ tx ∧ 1 ≤ ps.length ∧ ps.length ≤ 40) := hide (by have := HN.out; omega)
                clear hA hB hC
                go_wp2_with fail
                rw [← hw1]
                clear hw1
                have HC4 : Hid (PSt next seen0 ps 0 seen0 1) := hide (pst_start next seen0 ps)
                have HTk1 : Hid (TakenAt w1 (w.heap.size + 1) seen0) := hide (taken_block HTk.out (HK1.out.block _ (Nat.lt_of_lt_of_le (by have := HS0.out; have := HSz.out; omega) (Nat.le_refl _))))
                obtain ⟨gf, hgf⟩ : ∃ gf, gf = wr.heap.size := ⟨_, rfl⟩
                rw [← hgf]
                have HFb : Hid (w1.heap[gf]? = some (Obj.cells #[.int .i64 ftx, .slice x n c] 48)) := hide (by rw [hgf]; exact HBl.out)
                have HGt : Hid (w.heap.size + 1 < gf) := hide (by rw [hgf]; exact HSz.out)
                clear hgf HBl HK1 hc0 hc1 p0 p1 p2 p3 dA dB dC dD HB
                go_loopg [51] n (fun q jv wi => ∃ (j : Nat) (seen : List Int) (prev : Int), j ≤ n ∧ jv = .int .i64 (j : Int) ∧ q + j = n ∧ Hid (TakenAt wi (w.heap.size + 1) seen) ∧ Hid (PSt next seen0 ps j seen prev) ∧ Hid (Below w0.heap.size w0 wi) ∧ Hid (wi.heap[gf]? = some (Obj.cells #[.int .i64 ftx, .slice x n c] 48)))
                case atStart => exact ⟨0, seen0, 1, Nat.zero_le _, rfl, by omega, HTk1, HC4, HB1, HFb⟩
                case round =>
                  clear HFb HTk1 HC4 HB1
                  obtain ⟨j, seen, prev, hj, rfl, hg2, HTk2, HP, HB2, HFb2⟩ := hrel
                  have HG2 := hide hg2
                  clear hg2
                  obtain ⟨p0, p1, p2, p3⟩ := HVar.out wr HB2.out
                  have f1 : wr.cell? ⟨gf, 1, none⟩ = some (.slice x n c) := (cell_at HFb2.out 1).1
                  by_cases hjn : j < n
                  · obtain ⟨p, hp⟩ : ∃ p, ps[j]? = some p := ⟨_, List.getElem?_eq_getElem (by have := HN.out; omega)⟩
                    obtain ⟨-, a1, cp1, e1, h0 | ⟨bp, op, e0, hbp, hcp⟩⟩ := HRow.out
                    · omega
                    injection e1 with e11 _ e12
                    subst e11 e12
                    subst e0
                    have HPc : Hid (∀ wx, Below w0.heap.size w0 wx → ∀ t z, ps[t]? = some z → wx.cell? ⟨bp, op + t, none⟩ = some (.int .i64 z)) := hide (fun wx hb t z hz => by
                      obtain ⟨ht, e⟩ := List.getElem?_eq_some_iff.1 hz
                      rw [hb.cell (by exact hbp), hcp t (by have := HN.out; omega), ints_at ps t ht, e])
                    have hpc : wr.cell? ⟨bp, op + j, none⟩ = some (.int .i64 p) := HPc.out wr HB2.out j p hp
                    have HPj := hide hp
                    have hj0 : (0 : Int) ≤ (j : Int) := by omega
                    have hj1 : (j : Int) < (n : Int) := by omega
                    have HBad : Hid (¬ (2 ≤ p ∧ p < next ∧ prev < p ∧ p ∉ seen) → freesB tx next [root] 0 fs = false) := hide (fun h => mst_none HM.out HF1.out (pst_bad HP.out HPj.out h))
                    have hpv0 : j = 0 → prev = 1 := HP.out.2.2.1
                    have hpv1 : 0 < j → prev ∈ seen := HP.out.2.2.2.2.1
                    clear hcp hp
                    by_cases hA : p < 2
                    · have HT := hide (HBad.out (by omega))
                      have eA : decide (p < 2) = true := decide_eq_true hA
                      clear hA hpv0 hpv1
                      go_wp2_with fail
                      go_ret
                      rw [HO.out, HT.out]
                      exact ⟨rfl, HB0.out.trans (HB2.out.mono HB0.out.size)⟩
                    · have eA : decide (p < 2) = false := decide_eq_false hA
                      by_cases hB : next ≤ p
                      · have HT := hide (HBad.out (by omega))
                        have eB : decide (next ≤ p) = true := decide_eq_true hB
                        clear hA hB hpv0 hpv1
                        go_wp2_with fail
                        go_ret
                        rw [HO.out, HT.out]
                        exact ⟨rfl, HB0.out.trans (HB2.out.mono HB0.out.size)⟩
                      · have eB : decide (next ≤ p) = false := decide_eq_false hB
                        have hpn : ((p.toNat : Nat) : Int) = p := by omega
                        have hpl : p.toNat < 40 := by omega
                        obtain ⟨tc, tf⟩ := taken_cell HTk2.out hpl
                        rw [hpn] at tc
                        have hp0 : (0 : Int) ≤ p := by omega
                        have hp40 : p < 40 := by omega
                        cases hin : decide (p ∈ seen) with
                        | true =>
                          rw [hin] at tc
                          have HT := hide (HBad.out (fun h => h.2.2.2 (of_decide_eq_true hin)))
                          clear hin hpv0 hpv1 hA hB hpn
                          go_wp2_with fail
                          go_ret
                          rw [HO.out, HT.out]
                          exact ⟨rfl, HB0.out.trans (HB2.out.mono HB0.out.size)⟩
                        | false =>
                          rw [hin] at tc
                          by_cases hD : 0 < j ∧ p < prev
                          · have HT := hide (HBad.out (by omega))
                            have hpos := hD.1
                            have eD : decide (p < prev) = true := decide_eq_true hD.2
                            have hpx : ps[j - 1]? = some prev := by
                              obtain ⟨px, hpx⟩ : ∃ px, ps[j - 1]? = some px := ⟨_, List.getElem?_eq_getElem (by have := HN.out; omega)⟩
                              rw [hpx, HP.out.2.2.2.1 px hpos hpx]
                            have hpx1 : wr.cell? ⟨bp, op + (j - 1), none⟩ = some (.int .i64 prev) := HPc.out wr HB2.out (j - 1) prev hpx
                            have hpx2 : wr.cell? ⟨bp, op + ((j : Int) - 1).toNat, none⟩ = some (.int .i64 prev) := by rw [show ((j : Int) - 1).toNat = j - 1 from by omega]; exact hpx1
                            have hwj : IntKind.i64.wrap ((j : Int) - 1) = (j : Int) - 1 := IntWalk.i64_in _ ⟨by omega, by omega⟩
                            have hwk : wrap64 ((j : Int) - 1) = (j : Int) - 1 := wrap64_small _ (by omega) (by omega)
                            have hq0 : (0 : Int) ≤ (j : Int) - 1 := by omega
                            have hq1 : (j : Int) - 1 < (n : Int) := by omega
                            have hq2 : (1 : Int) ≤ (j : Int) := by omega
                            have hq3 : (j : Int) < (n : Int) + 1 := by omega
                            have hq4 : (j : Int) ≤ (n : Int) := by omega
                            have hq5 : 1 ≤ j := by omega
                            have dk : decide ((0 : Int) < (j : Int)) = true := decide_eq_true (by omega)
                            have dkn : decide (0 < j) = true := decide_eq_true hpos
                            clear hpx
                            clear hin hpv0 hpv1 hA hB hD hpn
                            go_wp2_with fail
                            go_ret
                            rw [HO.out, HT.out]
                            exact ⟨rfl, HB0.out.trans (HB2.out.mono HB0.out.size)⟩
                          · have HGd : Hid (2 ≤ p ∧ p < next ∧ prev < p ∧ p ∉ seen) := hide (by
                              have hni := of_decide_eq_false hin
                              refine ⟨by omega, by omega, ?_, hni⟩
                              by_cases hj9 : 0 < j
                              · have : prev ≠ p := fun e => hni (e ▸ hpv1 hj9)
                                omega
                              · have := hpv0 (by omega)
                                omega)
                            have HP3 := hide (pst_next HP.out HPj.out HGd.out)
                            have HTk3 : Hid (TakenAt (wr.setCell ⟨w.heap.size + 1, p.toNat, none⟩ (.bool true)) (w.heap.size + 1) (seen ++ [p])) := hide (by have := taken_set HTk2.out hpl; rwa [hpn] at this)
                            have HB3 : Hid (Below w0.heap.size w0 (wr.setCell ⟨w.heap.size + 1, p.toNat, none⟩ (.bool true))) := hide (HB2.out.setCell (by have := HS0.out; exact Nat.le_of_eq this) _)
                            have HFb3 : Hid ((wr.setCell ⟨w.heap.size + 1, p.toNat, none⟩ (.bool true)).heap[gf]? = some (Obj.cells #[.int .i64 ftx, .slice (some ⟨bp, op, none⟩) n c] 48)) := hide (blk_other HFb2.out (by have := HGt.out; omega))
                            by_cases hpos : 0 < j
                            · have eD : decide (p < prev) = false := decide_eq_false (by omega)
                              have hpx : ps[j - 1]? = some prev := by
                                obtain ⟨px, hpx⟩ : ∃ px, ps[j - 1]? = some px := ⟨_, List.getElem?_eq_getElem (by have := HN.out; omega)⟩
                                rw [hpx, HP.out.2.2.2.1 px hpos hpx]
                              have hpx1 : wr.cell? ⟨bp, op + (j - 1), none⟩ = some (.int .i64 prev) := HPc.out wr HB2.out (j - 1) prev hpx
                              have hpx2 : wr.cell? ⟨bp, op + ((j : Int) - 1).toNat, none⟩ = some (.int .i64 prev) := by rw [show ((j : Int) - 1).toNat = j - 1 from by omega]; exact hpx1
                              have hwj : IntKind.i64.wrap ((j : Int) - 1) = (j : Int) - 1 := IntWalk.i64_in _ ⟨by omega, by omega⟩
                              have hwk : wrap64 ((j : Int) - 1) = (j : Int) - 1 := wrap64_small _ (by omega) (by omega)
                              have hq0 : (0 : Int) ≤ (j : Int) - 1 := by omega
                              have hq1 : (j : Int) - 1 < (n : Int) := by omega
                              have hq2 : (1 : Int) ≤ (j : Int) := by omega
                              have hq3 : (j : Int) < (n : Int) + 1 := by omega
                              have hq4 : (j : Int) ≤ (n : Int) := by omega
                              have hq5 : 1 ≤ j := by omega
                              have dk : decide ((0 : Int) < (j : Int)) = true := decide_eq_true (by omega)
                              have dkn : decide (0 < j) = true := decide_eq_true hpos
                              clear hpx
                              clear hin hpv0 hpv1 hA hB hD hpn
                              go_wp2_with fail
                              go_roundg (gk - 1)
                              case measure => have := HG2.out; omega
                              case rel => exact ⟨j + 1, seen ++ [p], p, by omega, by go_num, by have := HG2.out; omega, HTk3, HP3, HB3, HFb3⟩
                            · clear hin hpv0 hpv1
                              have dk : decide ((0 : Int) < (j : Int)) = false := decide_eq_false (by omega)
                              have dkn : decide (0 < j) = false := decide_eq_false (by omega)
                              clear hA hB hD hpn hpos
                              go_wp2_with fail
                              go_roundg (gk - 1)
                              case measure => have := HG2.out; omega
                              case rel => exact ⟨j + 1, seen ++ [p], p, by omega, by go_num, by have := HG2.out; omega, HTk3, HP3, HB3, HFb3⟩
                  · have hjl : j = ps.length := by have := HN.out; omega
                    have HM2 := hide (mst_next HM.out HF1.out HGood.out (by rw [← hjl]; exact HP.out))
                    clear hjl
                    go_wp2_with fail
                    go_roundg (gq - 1)
                    case measure => have h1 := HGQ.out; have h2 := HG.out; omega
                    case rel => exact ⟨k + 1, seen, ftx, by omega, rfl, by go_num, by have h1 := HGQ.out; have h2 := HG.out; omega, HTk2, HM2, HB2⟩
      · have HT := hide (mst_end HM.out (by rw [← HL.out]; omega))
        go_wp2_with fail
        go_ret
        rw [HO.out, HT.out]
        exact ⟨rfl, HB0.out.trans (HB.out.mono HB0.out.size)⟩
  · rw [decide_eq_false h4, Bool.false_and]
    have d4 : decide ((20 : Int) < (L : Int)) = true := decide_eq_true (by omega)
    clear h4
    go_enter Tryd.func37, Tryd.ntmps37
    go_wp2_with fail
    go_ret
    rw [← hw0]
    exact ⟨rfl, HB0.out⟩
set_option maxHeartbeats 4000000 in
set_option maxRecDepth 100000 in
theorem implMetaOk_any (v : Value) (m : Mt) (hl : m.fs.length ≤ 1048576) (hs : ∀ f ∈ m.fs, f.2.length ≤ 1048576) (w : World) (hd : MetaAt w v m) :
    Calls Tryd.prog 28 #[v] w fun e w' => e = .returned (.bool m.ok) ∧ Below w.heap.size w w' := by
  obtain ⟨vf, rfl, hr⟩ := hd
  obtain ⟨tx, root, next, fs⟩ := m
  dsimp only at hr hl hs ⊢
  have HDef : Hid (Mt.ok ⟨tx, root, next, fs⟩ = (headOkB tx root next fs.length && freesB tx next [root] 0 fs)) := hide rfl
  obtain ⟨mk, hmk⟩ : ∃ mk, mk = Mt.ok ⟨tx, root, next, fs⟩ := ⟨_, rfl⟩
  rw [← hmk] at HDef ⊢
  clear hmk
  obtain ⟨w0, hw0⟩ : ∃ w0, w0 = w.alloc (Obj.cells #[.int .i64 tx, .int .i64 root, .int .i64 next, vf] 35) := ⟨_, rfl⟩
  have hb0 : Below w.heap.size w w0 := by rw [hw0]; exact (Below.refl w.heap.size w).alloc (Nat.le_refl _) _
  have HF := hide (frees_below hr hb0)
  have HB0 := hide hb0
  clear hr hb0
  have HBad : Hid (¬ (0 ≤ tx ∧ tx ≤ 100000 ∧ 2 ≤ next ∧ next ≤ 40 ∧ (root = 0 ∨ 2 ≤ root ∧ root < next)) → mk = false) := hide (fun h => by
    rw [HDef.out, headOkB, decide_eq_false (fun e => h ⟨e.1, e.2.1, e.2.2.1, e.2.2.2.1, e.2.2.2.2.1⟩)]; rfl)
  by_cases hA : tx < 0
  · have dA : decide (tx < 0) = true := decide_eq_true hA
    have HO := hide (HBad.out (by omega))
    clear hA
    go_enter Tryd.func28, Tryd.ntmps28
    go_wp2_with fail
    go_ret
    rw [HO.out, ← hw0]
    exact ⟨rfl, HB0.out⟩
  · have dA : decide (tx < 0) = false := decide_eq_false hA
    by_cases hB : 100000 < tx
    · have dB : decide (100000 < tx) = true := decide_eq_true hB
      have HO := hide (HBad.out (by omega))
      clear hA hB
      go_enter Tryd.func28, Tryd.ntmps28
      go_wp2_with fail
      go_ret
      rw [HO.out, ← hw0]
      exact ⟨rfl, HB0.out⟩
    · have dB : decide (100000 < tx) = false := decide_eq_false hB
      by_cases hC : next < 2
      · have dC : decide (next < 2) = true := decide_eq_true hC
        have HO := hide (HBad.out (by omega))
        clear hA hB hC
        go_enter Tryd.func28, Tryd.ntmps28
        go_wp2_with fail
        go_ret
        rw [HO.out, ← hw0]
        exact ⟨rfl, HB0.out⟩
      · have dC : decide (next < 2) = false := decide_eq_false hC
        by_cases hD : 40 < next
        · have dD : decide (40 < next) = true := decide_eq_true hD
          have HO := hide (HBad.out (by omega))
          clear hA hB hC hD
          go_enter Tryd.func28, Tryd.ntmps28
          go_wp2_with fail
          go_ret
          rw [HO.out, ← hw0]
          exact ⟨rfl, HB0.out⟩
        · have dD : decide (40 < next) = false := decide_eq_false hD
          by_cases hE : root = 0
          · have dE : (root != 0) = false := by simp [hE]
            have HO : Hid (mk = (decide (fs.length ≤ 20) && freesB tx next [root] 0 fs)) := hide (by
              rw [HDef.out, headOkB]
              congr 1
              rw [decide_eq_decide]
              exact ⟨fun h => h.2.2.2.2.2, fun h => ⟨by omega, by omega, by omega, by omega, Or.inl hE, h⟩⟩)
            have HC := hide (fun wx h => freesOk_any tx root next fs hl hs (by omega) (by omega) (by omega) vf wx h)
            obtain ⟨ok, hok⟩ : ∃ ok, ok = (decide (fs.length ≤ 20) && freesB tx next [root] 0 fs) := ⟨_, rfl⟩
            rw [← hok] at HO HC
            clear hA hB hC hD hE hok hl hs
            go_enter Tryd.func28, Tryd.ntmps28
            go_wp2_with fail
            rw [← hw0]
            clear hw0
            refine (HC.out _ HF.out).mono ?_
            rintro e w1 ⟨rfl, hb1⟩
            have HB1 := hide (HB0.out.trans (hb1.mono HB0.out.size))
            clear hb1
            go_wp2_with fail
            go_ret
            rw [HO.out]
            exact ⟨rfl, HB1.out⟩
          · have dE : (root != 0) = true := by simp [hE]
            by_cases hG : root < 2
            · have dG : decide (root < 2) = true := decide_eq_true hG
              have HO := hide (HBad.out (by omega))
              clear hA hB hC hD hE hG
              go_enter Tryd.func28, Tryd.ntmps28
              go_wp2_with fail
              go_ret
              rw [HO.out, ← hw0]
              exact ⟨rfl, HB0.out⟩
            · have dG : decide (root < 2) = false := decide_eq_false hG
              by_cases hH : next ≤ root
              · have dH : decide (next ≤ root) = true := decide_eq_true hH
                have HO := hide (HBad.out (by omega))
                clear hA hB hC hD hE hG hH
                go_enter Tryd.func28, Tryd.ntmps28
                go_wp2_with fail
                go_ret
                rw [HO.out, ← hw0]
                exact ⟨rfl, HB0.out⟩
              · have dH : decide (next ≤ root) = false := decide_eq_false hH
                have HO : Hid (mk = (decide (fs.length ≤ 20) && freesB tx next [root] 0 fs)) := hide (by
                  rw [HDef.out, headOkB]
                  congr 1
                  rw [decide_eq_decide]
                  exact ⟨fun h => h.2.2.2.2.2, fun h => ⟨by omega, by omega, by omega, by omega, Or.inr (by omega), h⟩⟩)
                have HC := hide (fun wx h => freesOk_any tx root next fs hl hs (by omega) (by omega) (by omega) vf wx h)
                obtain ⟨ok, hok⟩ : ∃ ok, ok = (decide (fs.length ≤ 20) && freesB tx next [root] 0 fs) := ⟨_, rfl⟩
                rw [← hok] at HO HC
                clear hA hB hC hD hE hG hH hok hl hs
                go_enter Tryd.func28, Tryd.ntmps28
                go_wp2_with fail
                rw [← hw0]
                clear hw0
                refine (HC.out _ HF.out).mono ?_
                rintro e w1 ⟨rfl, hb1⟩
                have HB1 := hide (HB0.out.trans (hb1.mono HB0.out.size))
                clear hb1
                go_wp2_with fail
                go_ret
                rw [HO.out]
                exact ⟨rfl, HB1.out⟩
end Go.Proofs.YtbokjfjdjgopeaaDoor

namespace Go.Proofs.YtbokjfjdjgopeaaDoor
open Go.RowKit

theorem Tryd.intInfoT : (Tryd.prog.info? 3).map (fun i => (i.zero, i.size, i.bytes)) = some (some (.int .i64 0), 1, 8) := by kernel_rfl

theorem ints_oneT (l : List Int) : ∀ y ∈ ints l, y.oneCell' = true := fun y hy => by
  obtain ⟨p, _, rfl⟩ := List.mem_map.1 hy
  rfl

theorem lit_row (w : World) (n : Nat) (hn : n = w.heap.size) (l : List Int) (hl : l.length ≤ 100) : (w.alloc (Obj.cells (ints l).toArray 3)).ownsRow w.heap.size 3 1 (.slice (some ⟨n, 0, none⟩) l.length l.length) l.length (ints l) := by
  subst hn
  simpa using World.ownsRow_lit (base := w.heap.size) (e := 3) (size := 1) w (ints l).toArray l.length (Nat.le_refl _) (by unfold maxLen; omega) (by simp [ints])

theorem lit_cells (w : World) (n : Nat) (hn : n = w.heap.size) (l : List Int) : ∀ (j : Nat) (u : Value), (ints l)[j]? = some u → (w.alloc (Obj.cells (ints l).toArray 3)).cell? ((⟨n, 0, none⟩ : Addr).add j) = some u := by
  subst hn
  intro j u hj
  rw [Addr.add_lit, Nat.zero_add, (cell_at (heap_alloc_new w _) j).1]
  simpa using hj

theorem blk_typeT {w : World} {B e sz n g : Nat} {v : Value} {xs : List Value} {cs : Array Value} {t : TypeId} {p : Nat × Nat} (h : w.ownsRow B e sz v n xs) (hb : w.heap[g]? = some (.cells cs t p)) (hne : e ≠ t) : some g ≠ v.ownBlock := by
  intro h2
  rcases h.2 with ⟨rfl, -⟩ | ⟨g', cap, cur, rfl, -, hh, -⟩
  · cases h2
  · injection h2 with h2
    have h2 : g = g' := h2
    subst h2
    rw [hh] at hb
    injection hb with hb
    injection hb with _ he _
    exact hne he

set_option maxHeartbeats 8000000 in
set_option maxRecDepth 100000 in
theorem metaNumbers_any (v : Value) (m : Mt) (hok : m.ok = true) (w : World) (hd : MetaAt w v m) :
    Calls Tryd.prog 29 #[v] w fun e w' => ∃ v', e = .returned v' ∧ w'.ownsRow w.heap.size 3 1 v' m.nums.length (ints m.nums) ∧ Below w.heap.size w w' := by
  obtain ⟨i0, hi, hz0, hz1, hz2⟩ := info_parts Tryd.intInfoT
  obtain ⟨vf, rfl, hr⟩ := hd
  obtain ⟨pa, pc, rfl⟩ := frees_slice hr
  obtain ⟨L, hL⟩ : ∃ L, L = m.fs.length := ⟨_, rfl⟩
  rw [← hL] at hr ⊢
  obtain ⟨tx, htx⟩ : ∃ tx, tx = m.tx := ⟨_, rfl⟩
  obtain ⟨root, hro⟩ : ∃ tx, tx = m.root := ⟨_, rfl⟩
  obtain ⟨next, hne⟩ : ∃ tx, tx = m.next := ⟨_, rfl⟩
  rw [← htx, ← hro, ← hne]
  obtain ⟨w0, hw0⟩ : ∃ w0, w0 = w.alloc (Obj.cells #[.int .i64 tx, .int .i64 root, .int .i64 next, .slice pa L pc] 35) := ⟨_, rfl⟩
  have hb0 : Below w.heap.size w w0 := by rw [hw0]; exact (Below.refl w.heap.size w).alloc (Nat.le_refl _) _
  have HF := hide (frees_below hr hb0)
  have HB0 := hide hb0
  have HOk := hide hok
  have HL := hide hL
  have k6 : L ≤ 20 := by rw [hL]; exact (ok_parts hok).1.2.2.2.2.2
  have HStart : Hid ((w0.alloc (Obj.cells #[.int .i64 tx, .int .i64 root, .int .i64 next, .int .i64 (L : Int)] 3)).ownsRow w0.heap.size 3 1 (.slice (some ⟨w.heap.size + 1, 0, none⟩) 4 4) (m.pre 0).length (ints (m.pre 0))) := hide (by
    rw [pre_zero, ← htx, ← hro, ← hne, ← hL]
    exact lit_row w0 (w.heap.size + 1) (by rw [hw0]; simp) [tx, root, next, (L : Int)] (by simp))
  clear hr hb0 hok htx hro hne hL
  go_enter Tryd.func29, Tryd.ntmps29
  go_wp2_with fail
  rw [← hw0]
  clear hw0
  go_loopg [3, 19] L (fun q rv iv wr => ∃ k : Nat, k ≤ L ∧ iv = .int .i64 (k : Int) ∧ q + k = L ∧ wr.ownsRow w0.heap.size 3 1 rv (m.pre k).length (ints (m.pre k)) ∧ Hid (Below w0.heap.size w0 wr))
  case atStart => exact ⟨0, Nat.zero_le _, rfl, by omega, HStart.out, hide ((Below.refl _ _).alloc (Nat.le_refl _) _)⟩
  case round =>
    obtain ⟨k, hk, rfl, hg, hown, HB⟩ := hrel
    have HG := hide hg
    clear hg
    by_cases hlt : k < L
    · obtain ⟨ftx, ps, hf⟩ : ∃ ftx ps, m.fs[k]? = some (ftx, ps) := ⟨_, _, List.getElem?_eq_getElem (by rw [← HL.out]; exact hlt)⟩
      obtain ⟨b, off, x, c, rfl, hbl0, hc00, hc10, hrow⟩ := frees_at HF.out hf
      obtain ⟨n, hn⟩ : ∃ n, n = ps.length := ⟨_, rfl⟩
      rw [← hn] at hc10 hrow
      have hc0 := (HB.out.cell (by exact hbl0)).trans hc00
      have hc1 := (HB.out.cell (by exact hbl0)).trans hc10
      have q3 : n ≤ 40 := by rw [hn]; exact (nums_of HOk.out hf).2.2.1
      have HRow := hide hrow
      have HPn := hide (pre_next hf)
      rw [← hn] at HPn
      have HN := hide hn
      have hpl := pre_len HOk.out k
      obtain ⟨N, hN⟩ : ∃ N, N = (m.pre k).length := ⟨_, rfl⟩
      rw [← hN] at hpl hown
      have HNp := hide hN
      have hk0 : (0 : Int) ≤ (k : Int) := by omega
      have hk1 : (k : Int) < (L : Int) := by omega
      have hbs := HB.out.size
      clear hf hc00 hc10 hrow hn hN
      go_wp2_with (at_builtin; refine wpList_append_own _ rfl _ _ 46 rfl w0.heap.size 3 i0 (.int .i64 0) 1 8 Tryd.underlying46 hi hz0 hz1 hz2 rfl (by decide) _ _ _ rfl ((hown.alloc _).alloc _) ⟨wr.heap.size + 1, 0, none⟩ 2 2 [.int .i64 ftx, .int .i64 (n : Int)] rfl rfl ?c1 ?c2 ?c3 ?c4 ?c5 ?_)
      case c1 => exact lit_cells _ _ (by simp) [ftx, (n : Int)]
      case c2 => exact ints_oneT [ftx, (n : Int)]
      case c3 => unfold maxLen; omega
      case c4 => omega
      case c5 => simp; omega
      intro v' w3 hown' hgrow _
      have hb3 : Below w0.heap.size w0 w3 := (((HB.out.alloc hbs _).alloc (by simp; omega) _)).grown hgrow (by simp; omega) (fun k hk => (hown.lt k hk).1)
      have h1 : ((wr.alloc (Obj.cells #[.int .i64 ftx, .slice x n c] 48)).alloc (Obj.cells #[.int .i64 ftx, .int .i64 (n : Int)] 3)).heap[wr.heap.size]? = some (Obj.cells #[.int .i64 ftx, .slice x n c] 48) := (two_allocs wr _ _).1
      have hq3 : w3.heap[wr.heap.size]? = some (Obj.cells #[.int .i64 ftx, .slice x n c] 48) := (hgrow.block _ (Array.getElem?_eq_some_iff.1 h1).1 (blk_typeT ((hown.alloc _).alloc _) h1 Tryd.free_int.symm)).trans h1
      have f1 : w3.cell? ⟨wr.heap.size, 1, none⟩ = some (.slice x n c) := (cell_at hq3 1).1
      have hrow3 := row_below HRow.out hb3
      have hb3s := hb3.size
      clear hgrow hown h1 hq3 hc0 hc1
      go_wp2_with (at_builtin; refine wpList_append_row _ rfl _ _ 46 rfl w0.heap.size 3 i0 (.int .i64 0) 1 8 Tryd.underlying46 hi hz0 hz1 hz2 rfl (by decide) _ _ _ rfl hown' _ n (ints ps) rfl hrow3 (ints_oneT ps) ?d3 ?d4 hb3s ?_)
      case d3 => unfold maxLen; omega
      case d4 => omega
      intro x4 c4 w4 hown4 hgrow4
      have HB4 : Hid (Below w0.heap.size w0 w4) := hide (hb3.grown hgrow4 hb3s (fun k hk => (hown'.lt k hk).1))
      have hown5 : w4.ownsRow w0.heap.size 3 1 (.slice x4 (N + 2 + n) c4) (m.pre (k + 1)).length (ints (m.pre (k + 1))) := by
        have e1 : (m.pre (k + 1)).length = N + 2 + n := by rw [HPn.out, List.length_append, List.length_append, ← HNp.out, ← HN.out]; rfl
        have e2 : ints (m.pre (k + 1)) = ints (m.pre k) ++ .int .i64 ftx :: .int .i64 (n : Int) :: ints ps := by rw [HPn.out]; simp [ints]
        rw [e1, e2]
        exact hown4
      clear hown4 hgrow4 hown' hb3 hrow3 f1 hb3s hbs
      go_wp2_with fail
      go_roundg (gk - 1)
      case measure => have := HG.out; omega
      case rel => exact ⟨k + 1, by omega, by go_num, by have := HG.out; omega, hown5, HB4⟩
    · have HE : Hid (m.pre k = m.nums) := hide (by rw [← pre_end, ← HL.out, show k = L from by omega])
      rw [HE.out] at hown
      have HO := hide hown
      clear hown
      go_wp2_with fail
      go_ret
      exact ⟨_, rfl, own_down HO.out HB0.out.size, HB0.out.trans (HB.out.mono HB0.out.size)⟩

theorem Tryd.int_u8 : (3 : Nat) ≠ 5 := by decide

theorem cells_strT (l : List UInt8) (s : ByteArray) : Lib.byteCells l ++ Lib.strCells s = Lib.byteCells (l ++ s.data.toList) := by
  simp [Lib.byteCells, Lib.strCells]

theorem apartT {u v : Value} (h : ∀ k, u.ownBlock = some k → v.ownBlock ≠ some k) : v.ownBlock = none ∨ v.ownBlock ≠ u.ownBlock := by
  cases hv : v.ownBlock with
  | none => exact Or.inl rfl
  | some k => exact Or.inr (fun e => h k e.symm hv)

theorem numsL_take_succ {l : List Int} {k : Nat} {x : Int} (h : l[k]? = some x) : numsL (l.take (k + 1)) = numsL (l.take k) ++ vtext x.toNat := by
  obtain ⟨hk, e⟩ := List.getElem?_eq_some_iff.1 h
  rw [List.take_succ_eq_append_getElem hk, numsL_snoc, e]

set_option maxHeartbeats 8000000 in
set_option maxRecDepth 100000 in
theorem implMetaText_any (v : Value) (m : Mt) (hl : m.fs.length ≤ 1048576) (hs : ∀ f ∈ m.fs, f.2.length ≤ 1048576) (w : World) (hT : SumTab w) (hd : MetaAt w v m) :
    Calls Tryd.prog 14 #[v] w fun e w' => e = .returned (.tuple #[.string m.textO, .bool m.good]) ∧ Below w.heap.size w w' := by
  obtain ⟨i0, hi, hz0, hz1, hz2⟩ := info_parts Tryd.infoU8
  have HS := hide (fun wx h => implMetaOk_any v m hl hs wx h)
  have HNu := hide (fun hok wx h => metaNumbers_any v m hok wx h)
  have HD := hide hd
  have HT := hide hT
  obtain ⟨vf, rfl, hr⟩ := hd
  obtain ⟨tx, htx⟩ : ∃ tx, tx = m.tx := ⟨_, rfl⟩
  obtain ⟨root, hro⟩ : ∃ tx, tx = m.root := ⟨_, rfl⟩
  obtain ⟨next, hne⟩ : ∃ tx, tx = m.next := ⟨_, rfl⟩
  rw [← htx, ← hro, ← hne] at HS HD HNu ⊢
  have HVar := hide (meta_cells w tx root next vf 35)
  obtain ⟨w0, hw0⟩ : ∃ w0, w0 = w.alloc (Obj.cells #[.int .i64 tx, .int .i64 root, .int .i64 next, vf] 35) := ⟨_, rfl⟩
  rw [← hw0] at HVar
  have hb0 : Below w.heap.size w w0 := by rw [hw0]; exact (Below.refl w.heap.size w).alloc (Nat.le_refl _) _
  have HB0 := hide hb0
  clear hr hb0 hl hs hT htx hro hne
  cases hok : m.ok with
  | false =>
    rw [hok] at HS
    have HO := hide (good_no (Or.inl hok))
    clear hok
    go_enter Tryd.func14, Tryd.ntmps14
    go_wp2_with fail
    rw [← hw0]
    clear hw0
    refine (HS.out _ (meta_below HD.out HB0.out)).mono ?_
    rintro e w1 ⟨rfl, hb⟩
    go_wp2_with fail
    go_ret2
    rw [HO.out.1, HO.out.2]
    exact ⟨rfl, HB0.out.trans (hb.mono HB0.out.size)⟩
  | true =>
    rw [hok] at HS
    have HNu2 := hide (fun wx h => HNu.out hok wx h)
    have HOk := hide hok
    have hnl := nums_len hok
    have HIn := hide (nums_in hok)
    obtain ⟨N, hN⟩ : ∃ N, N = m.nums.length := ⟨_, rfl⟩
    rw [← hN] at HNu2 hnl
    have HN := hide hN
    clear HNu hok hN
    go_enter Tryd.func14, Tryd.ntmps14
    go_wp2_with fail
    rw [← hw0]
    clear hw0
    refine (HS.out _ (meta_below HD.out HB0.out)).mono ?_
    rintro e w1 ⟨rfl, hb⟩
    have HB1 := hide hb
    obtain ⟨w2, hw2⟩ : ∃ w2, w2 = w1.alloc (Obj.cells #[] 5) := ⟨_, rfl⟩
    have hb2 : Below w0.heap.size w0 w2 := by rw [hw2]; exact hb.alloc hb.size _
    have hown2 : w2.ownsRow w0.heap.size 5 1 (.slice (some ⟨w1.heap.size, 0, none⟩) 0 0) 0 (Lib.byteCells []) := by
      rw [hw2]
      exact own_down (by simpa [Lib.byteCells] using World.ownsRow_lit (base := w1.heap.size) (e := 5) (size := 1) w1 #[] 0 (Nat.le_refl _) (by unfold maxLen; omega) (by simp)) hb.size
    obtain ⟨p0, p1, p2, p3⟩ := HVar.out w2 hb2
    rw [hw2] at p0 p1 p2 p3
    obtain ⟨q0, q1, q2, q3⟩ := HVar.out w1 hb
    have HB2 := hide hb2
    have HO2 := hide hown2
    clear hb hb2 hown2
    go_wp2_with fail
    rw [← hw2]
    clear hw2 p0 p1 p2 p3 q0 q1 q2 q3
    refine (HNu2.out _ (meta_below HD.out (HB0.out.trans (HB2.out.mono HB0.out.size)))).mono ?_
    rintro e w3 ⟨vr, rfl, hownN, hb3⟩
    obtain ⟨ra, rc, rfl⟩ := own_slice hownN
    have HO3 := own_stays HO2.out hb3
    have HB3 : Hid (Below w0.heap.size w0 w3) := hide (HB2.out.trans (hb3.mono HB2.out.size))
    have HN3 := hide (own_down hownN HB2.out.size)
    clear hb3 hownN
    go_wp2_with fail
    go_loopg [4, 18] N (fun q ov iv wr => ∃ k : Nat, k ≤ N ∧ iv = .int .i64 (k : Int) ∧ q + k = N ∧ wr.ownsRow w0.heap.size 5 1 ov (numsL (m.nums.take k)).length (Lib.byteCells (numsL (m.nums.take k))) ∧ Hid (wr.ownsRow w0.heap.size 3 1 (.slice ra N rc) N (ints m.nums)) ∧ Hid (Below w0.heap.size w0 wr))
    case atStart => exact ⟨0, Nat.zero_le _, rfl, by omega, HO3, HN3, HB3⟩
    case round =>
      clear HO3 HN3 HB3
      obtain ⟨k, hk, rfl, hg, hown, HNr, HB⟩ := hrel
      have HG := hide hg
      clear hg
      have hsz : (numsL (m.nums.take k)).length ≤ 4220 := by have h1 := (numsL_size (m.nums.take k)).2; rw [List.length_take] at h1; omega
      by_cases hlt : k < N
      · obtain ⟨x, hx⟩ : ∃ x, m.nums[k]? = some x := ⟨_, List.getElem?_eq_getElem (by have := HN.out; omega)⟩
        obtain ⟨-, a1, cp1, e1, h0 | ⟨bp, op, e0, hbp, hcp⟩⟩ := row_of_own HNr.out
        · omega
        injection e1 with e11 _ e12
        subst e11 e12
        subst e0
        have hpc : wr.cell? ⟨bp, op + k, none⟩ = some (.int .i64 x) := by
          obtain ⟨ht, e⟩ := List.getElem?_eq_some_iff.1 hx
          rw [hcp k (by omega), ints_at m.nums k ht, e]
        have hxr := HIn.out x (List.mem_of_getElem? hx)
        have HV := hide (fun wx => implVarText_yes x hxr.1 (by omega) wx)
        have HK := hide (numsL_take_succ hx)
        have z := vtB_size x.toNat
        have z5 := (vtext_length x.toNat).2
        obtain ⟨t, ht⟩ : ∃ t : ByteArray, t = ⟨(vtext x.toNat).toArray⟩ := ⟨_, rfl⟩
        have HTl : Hid (t.data.toList = vtext x.toNat) := hide (by rw [ht])
        rw [← ht] at HV z
        have hts : t.size ≤ 5 := by omega
        have hk0 : (0 : Int) ≤ (k : Int) := by omega
        have hk1 : (k : Int) < (N : Int) := by omega
        clear hx hcp hxr z z5 ht
        go_wp2_with fail
        refine (HV.out _).mono ?_
        rintro e w4 ⟨rfl, hb4⟩
        have hown4 := own_stays hown hb4
        have HN4 := hide (own_stays HNr.out hb4)
        have hb4' := HB.out.trans (hb4.mono HB.out.size)
        have hs4 := hb4'.size
        clear hb4 hown hpc
        go_wp2_with (at_builtin; refine Lib.wpList_append_own_string _ rfl _ _ 53 9 rfl w0.heap.size 5 i0 Tryd.underlying53 Tryd.underlying9 hi hz0 hz1 hz2 _ _ _ rfl hown4 t rfl ?d1 ?d2 hs4 ?_)
        case d1 => unfold maxLen; omega
        case d2 => omega
        intro v5 w5 hown5 hgrow5 _
        have hown6 : w5.ownsRow w0.heap.size 5 1 v5 (numsL (m.nums.take (k + 1))).length (Lib.byteCells (numsL (m.nums.take (k + 1)))) := by
          have e1 : (numsL (m.nums.take (k + 1))).length = (numsL (m.nums.take k)).length + t.size := by rw [HK.out, List.length_append, ← HTl.out, ba_len]
          rw [e1, HK.out, ← HTl.out, ← cells_strT]
          exact hown5
        have HN6 : Hid (w5.ownsRow w0.heap.size 3 1 (.slice (some ⟨bp, op, none⟩) N rc) N (ints m.nums)) := hide (HN4.out.kept hgrow5 (apartT (fun k e => one_type hown4 HN4.out Tryd.int_u8.symm k e)))
        have HB6 : Hid (Below w0.heap.size w0 w5) := hide (hb4'.grown hgrow5 hs4 (fun k hk => (hown4.lt k hk).1))
        clear hown5 hgrow5 hown4 hb4' hs4
        go_wp2_with fail
        go_roundg (gk - 1)
        case measure => have := HG.out; omega
        case rel => exact ⟨k + 1, by omega, by go_num, by have := HG.out; omega, hown6, HN6, HB6⟩
      · have HE : Hid (m.nums.take k = m.nums) := hide (List.take_of_length_le (by have := HN.out; omega))
        rw [HE.out] at hown hsz
        have hcv := string_own (dst := 9) (src := 53) Tryd.underlying53 Tryd.underlying5 Tryd.underlying9 hown
        have HSe := hide (fun wx h => implSealed_yes (numsB m.nums) (by have := (nums_size HOk.out).1; omega) wx h)
        rw [text_seal] at HSe
        rw [numsB] at HSe
        have HGy := hide (fun h => good_yes (m := m) HOk.out h)
        have HGn := hide (fun h => good_no (m := m) (Or.inr h))
        obtain ⟨tt, htt⟩ : ∃ tt, tt = m.text := ⟨_, rfl⟩
        rw [← htt] at HSe HGy HGn
        have htl : tt.size ≤ 5000 := by rw [htt, text_size]; omega
        have HTr := hide (sumTab_below HT.out (HB0.out.trans (HB.out.mono HB0.out.size)))
        clear htt hown hsz
        go_wp2_with fail
        refine (HSe.out _ HTr.out).mono ?_
        rintro e wa ⟨rfl, hba⟩
        have HB3 := hide (HB.out.trans (hba.mono HB.out.size))
        clear hba hcv
        by_cases hbig : 240 < tt.size
        · have HO := hide (HGn.out hbig)
          have d1 : decide ((240 : Int) < (tt.size : Int)) = true := decide_eq_true (by omega)
          go_wp2_with fail
          go_ret2
          rw [HO.out.1, HO.out.2]
          exact ⟨rfl, HB0.out.trans (HB3.out.mono HB0.out.size)⟩
        · have HO := hide (HGy.out (by omega))
          have d1 : decide ((240 : Int) < (tt.size : Int)) = false := decide_eq_false (by omega)
          go_wp2_with fail
          go_ret2
          rw [HO.out.1, HO.out.2]
          exact ⟨rfl, HB0.out.trans (HB3.out.mono HB0.out.size)⟩
end Go.Proofs.YtbokjfjdjgopeaaDoor

namespace Go.Proofs.YtbokjfjdjgopeaaDoor
open Go.RowKit

/-- the page of a meta -/
def pgOf (x : Int) : Int := if x.tmod 2 = 0 then 0 else 1

theorem and_one (x : Int) : bits .and .i64 x 1 = pgOf x := by
  have h1 : ((BitVec.ofInt 64 x) &&& (BitVec.ofInt 64 1)).toNat = (x % 18446744073709551616).toNat % 2 := by
    rw [BitVec.toNat_and, BitVec.toNat_ofInt, show (BitVec.ofInt 64 1).toNat = 1 from by decide, Nat.and_one_is_mod]
    rfl
  have h2 : bits .and .i64 x 1 = IntKind.i64.wrap (((x % 18446744073709551616).toNat % 2 : Nat) : Int) := by rw [← h1]; rfl
  rw [h2, pgOf]
  have h3 : x.tmod 2 = 0 ↔ x % 2 = 0 := by rw [← Int.dvd_iff_tmod_eq_zero, ← Int.dvd_iff_emod_eq_zero]
  by_cases h : x % 2 = 0
  · rw [if_pos (h3.2 h), show (x % 18446744073709551616).toNat % 2 = 0 from by omega]
    decide
  · rw [if_neg (fun e => h (h3.1 e)), show (x % 18446744073709551616).toNat % 2 = 1 from by omega]
    decide

set_option maxHeartbeats 400000 in
theorem implMetaPage_any (x : Int) (w : World) :
    Calls Tryd.prog 15 #[.int .i64 x] w fun e w' => e = .returned (.int .i64 (pgOf x)) ∧ w = w' := by
  have HB := hide (and_one x)
  go_enter Tryd.func15, Tryd.ntmps15
  go_wp2
  go_ret
  rw [← HB.out]
  exact ⟨rfl, rfl⟩
end Go.Proofs.YtbokjfjdjgopeaaDoor

namespace Go.Proofs.YtbokjfjdjgopeaaDoor
open Go.RowKit

theorem meta0_good : meta0.good = true := by kernel_rfl

theorem format_is (n : Int) (h : 4 ≤ n ∧ n ≤ 40) : formatP n = (newP n).set 0 meta0.textO := by
  have hl : (newP n).length = n.toNat := by rw [newP, if_pos h, List.length_replicate]
  have hw : writeOk (newP n) [] 0 meta0.textO = true := by
    have h2 := meta0_good
    rw [Mt.good, Bool.and_eq_true, decide_eq_true_eq, ← text_size] at h2
    have h3 : meta0.textO = meta0.text := by rw [Mt.textO, if_pos meta0_good]
    have hok : diskOkB (newP n) [] = true := by
      simp only [diskOkB, hl, Bool.and_eq_true, decide_eq_true_eq, List.all_nil, List.length_nil, List.all_eq_true]
      refine ⟨⟨fun s hs => ?_, trivial⟩, by omega, by omega, by omega⟩
      rw [newP, if_pos h, List.mem_replicate] at hs
      rw [hs.2]
      exact Nat.zero_le _
    rw [writeOk, hok, h3]
    simp only [hl, Bool.and_eq_true, decide_eq_true_eq, true_and, List.length_nil]
    refine ⟨⟨⟨by omega, by omega⟩, by omega⟩, by omega⟩
  rw [formatP, if_pos h, writeL, if_pos hw]
  simp only [List.nil_append, syncD, List.foldl_cons, List.foldl_nil, putD]
  rw [if_pos (by rw [hl]; omega)]
  rfl

theorem disk_rowsF {B B' : Nat} {W : World} {vp vl : Value} {ps : List ByteArray} {ls : List (Int × ByteArray)} {rest : List Ast} (h : Sep B W (diskA B' (.agg #[vp, vl]) ps ls :: rest)) : Sep B W (rowA B' 9 1 vp ps.length (strs ps) :: rowA B' 52 2 vl ls.length (puts ls) :: rest) := by
  obtain ⟨⟨hP, hF⟩, hA, hr⟩ := sep_cons.1 h
  obtain ⟨vp', vl', e, h1, h2⟩ := hP
  simp only [Value.agg.injEq, Array.mk.injEq, List.cons.injEq, and_true] at e
  obtain ⟨rfl, rfl⟩ := e
  refine sep_cons.2 ⟨⟨h1, fun k hk => hF k ⟨_, _, rfl, Or.inl hk⟩⟩, fun A hA' k hk => ?_, sep_cons.2 ⟨⟨h2, fun k hk => hF k ⟨_, _, rfl, Or.inr hk⟩⟩, fun A' hA' k hk => hA A' hA' k ⟨_, _, rfl, Or.inr hk⟩, hr⟩⟩
  rcases List.mem_cons.1 hA' with rfl | hm
  · exact fun hk' => one_type h1 h2 Tryd.types_part k hk hk'
  · exact hA A hm k ⟨_, _, rfl, Or.inl hk⟩

/-- two ways to one goal that hangs on the world they leave -/
theorem branchW {G : World → Prop} {A B : Prop} (P : World → Prop) (hA : (∀ a, P a → G a) → A) (hB : (∀ a, P a → G a) → B) (h : ∀ a, P a → G a) : A ∧ B := ⟨hA h, hB h⟩

theorem own_at {w : World} {B e sz n : Nat} {v : Value} {xs : List Value} (h : w.ownsRow B e sz v n xs) (hn : 0 < n) : ∃ g c, v = .slice (some ⟨g, 0, none⟩) n c := by
  rcases h.2 with ⟨_, h0⟩ | ⟨g, c, _, e, _⟩
  · omega
  · exact ⟨g, c, e⟩

theorem sep_rowset {B : Nat} {W : World} {l : List Ast} (h : Sep B W l) (i : Nat) {B' e sz n c g : Nat} {xs : List Value} (hi : l[i]? = some (rowA B' e sz (.slice (some ⟨g, 0, none⟩) n c) n xs)) (j : Nat) (u : Value) (hB : B ≤ W.heap.size) : Sep B (W.setCell ⟨g, j, none⟩ u) (l.set i (rowA B' e sz (.slice (some ⟨g, 0, none⟩) n c) n (xs.set j u))) :=
  sep_set (W' := W.setCell ⟨g, j, none⟩ u) h i hi ⟨rfl, rfl, rfl, by simp, fun k _ hn => heap_setCell_other W ⟨g, j, none⟩ k u (fun e => hn (by rw [e]; rfl))⟩ _ ((sep_get h i hi).stored j u).1 (fun k hk => ⟨Or.inl hk, by have := (sep_lt h i hi k hk).2; simpa using this⟩) hB

set_option maxHeartbeats 4000000 in
set_option maxRecDepth 100000 in
theorem implFormat_any (n : Int) (w : World) (hT : SumTab w) :
    Calls Tryd.prog 5 #[.int .i64 n] w fun e w' => ∃ v', e = .returned (.tuple #[v', .bool (decide (4 ≤ n ∧ n ≤ 40))]) ∧ DiskOwn w' w.heap.size v' (formatP n) [] ∧ Below w.heap.size w w' := by
  have HTb : Hid (∀ wy, Below w.heap.size w wy → SumTab wy) := hide (fun wy h => sumTab_below hT h)
  have HC1 := hide (fun wx => implDiskNew_any n wx)
  have HC2 := hide (fun wx h => implMetaText_any (.agg #[.int .i64 0, .int .i64 0, .int .i64 2, .slice none 0 0]) meta0 (Nat.zero_le _) (fun f hf => (by cases hf)) wx h ⟨_, rfl, frees_none wx⟩)
  have HC3 := hide (fun wx => implMetaPage_any 0 wx)
  rw [show pgOf 0 = 0 from rfl] at HC3
  rw [meta0_good] at HC2
  have HF : Hid ((decide (4 ≤ n ∧ n ≤ 40) = true → formatP n = (newP n).set 0 meta0.textO ∧ 4 ≤ (newP n).length) ∧ (decide (4 ≤ n ∧ n ≤ 40) = false → formatP n = [])) := hide ⟨fun h => ⟨format_is n (of_decide_eq_true h), by have h' := of_decide_eq_true h; rw [newP, if_pos h', List.length_replicate]; omega⟩, fun h => if_neg (of_decide_eq_false h)⟩
  obtain ⟨ok, hok⟩ : ∃ b, b = decide (4 ≤ n ∧ n ≤ 40) := ⟨_, rfl⟩
  obtain ⟨ps, hps⟩ : ∃ l, l = newP n := ⟨_, rfl⟩
  obtain ⟨tx, htx⟩ : ∃ t, t = meta0.textO := ⟨_, rfl⟩
  rw [← htx] at HF HC2
  rw [← hps] at HC1 HF
  rw [← hok] at HC1 HF ⊢
  obtain ⟨fs, hfs⟩ : ∃ l, l = formatP n := ⟨_, rfl⟩
  rw [← hfs] at HF ⊢
  obtain ⟨pL, hpL⟩ : ∃ l, l = ps.length := ⟨_, rfl⟩
  rw [← hpL] at HF
  have HL := hide hpL
  have hS0 := sep_new (sep_nil w.heap.size w) (Obj.cells #[.slice none 0 0, .slice none 0 0] 25) (Nat.le_refl _)
  obtain ⟨w0, hw0⟩ : ∃ w0, w0 = w.alloc (Obj.cells #[.slice none 0 0, .slice none 0 0] 25) := ⟨_, rfl⟩
  obtain ⟨a0, ha0⟩ : ∃ a, a = w.heap.size := ⟨_, rfl⟩
  rw [← hw0, ← ha0] at hS0
  have HS0 := hide hS0
  have HB0 : Hid (Below w.heap.size w w0) := hide (by rw [hw0]; exact (Below.refl w.heap.size w).alloc (Nat.le_refl _) _)
  have HZ0 : Hid (a0 ≤ w0.heap.size) := hide (by rw [hw0, ha0]; simp)
  have HA := hide ha0
  clear hok hps htx hfs hpL hS0 ha0 hT
  go_enter Tryd.func5, Tryd.ntmps5
  go_wp2_with fail
  rw [← hw0, ← HA.out]
  clear hw0
  refine (HC1.out w0).mono ?_
  rintro e w1 ⟨v1, rfl, ho, hb⟩
  obtain ⟨x1, c1, y1, d1, rfl⟩ := disk_form ho
  have hs1 := sep_add HS0.out hb (diskA a0 _ ps []) (disk_down0 ho HZ0.out) (fun j hj => diskOwn_lt ho j hj) HZ0.out
  rw [← HL.out] at hs1 ⊢
  have HS1 := hide (disk_rowsF hs1)
  rw [← HL.out] at HS1
  have HB1 : Hid (Below w.heap.size w w1) := hide (HB0.out.trans (hb.mono HB0.out.size))
  have HZ1 : Hid (a0 ≤ w1.heap.size) := hide (Nat.le_trans HZ0.out hb.size)
  obtain ⟨g2, hg2⟩ : ∃ g, g = w1.heap.size := ⟨_, rfl⟩
  have hgt : w.heap.size ≤ g2 := by rw [hg2]; exact HB1.out.size
  have haw : w.heap.size ≤ a0 := by rw [HA.out]; exact Nat.le_refl _
  have hne : a0 ≠ g2 := by have h := (sep_lt hs1 1 rfl a0 rfl).2; omega
  clear ho hb hs1
  cases ok with
  | false =>
    obtain ⟨w2, hw2⟩ : ∃ wx, wx = w1.alloc (Obj.cells #[.slice x1 pL c1, .slice y1 0 d1] 25) := ⟨_, rfl⟩
    have hs2 := sep_new HS1.out (Obj.cells #[.slice x1 pL c1, .slice y1 0 d1] 25) HZ1.out
    rw [← hw2, ← hg2] at hs2
    have HS2 := hide hs2
    have HB2 : Hid (Below w.heap.size w w2) := hide (by rw [hw2]; exact HB1.out.alloc HB1.out.size _)
    have r0 : w2.cell? ⟨a0, 0, none⟩ = some (.slice none 0 0) := (cell_at (sep_get HS2.out 3 rfl : w2.heap[a0]? = some (Obj.cells #[.slice none 0 0, .slice none 0 0] 25)) 0).1
    have r1 : w2.cell? ⟨a0, 1, none⟩ = some (.slice none 0 0) := (cell_at (sep_get HS2.out 3 rfl : w2.heap[a0]? = some (Obj.cells #[.slice none 0 0, .slice none 0 0] 25)) 1).1
    have z0 : w2.frozen? ⟨a0, 0, none⟩ = false := (cell_at (sep_get HS2.out 3 rfl : w2.heap[a0]? = some (Obj.cells #[.slice none 0 0, .slice none 0 0] 25)) 0).2
    have z1 : w2.frozen? ⟨a0, 1, none⟩ = false := (cell_at (sep_get HS2.out 3 rfl : w2.heap[a0]? = some (Obj.cells #[.slice none 0 0, .slice none 0 0] 25)) 1).2
    rw [hw2] at r0 r1 z0 z1
    have hfe : fs = [] := HF.out.2 rfl
    subst hfe
    clear hs2
    go_wp2_with fail
    rw [← hw2]
    rw [← hw2] at r0 r1 z0 z1
    have HSf := hide (sep_store (sep_store HS2.out 3 rfl 0 (.slice none 0 0)) 3 rfl 1 (.slice none 0 0))
    have HBf := (HB2.out.setCell (p := ⟨a0, 0, none⟩) haw (.slice none 0 0)).setCell (p := ⟨a0, 1, none⟩) haw (.slice none 0 0)
    obtain ⟨wf, hwf⟩ : ∃ wf, wf = (w2.setCell ⟨a0, 0, none⟩ (.slice none 0 0)).setCell ⟨a0, 1, none⟩ (.slice none 0 0) := ⟨_, rfl⟩
    rw [← hwf] at HSf HBf ⊢
    have HRf : Hid (wf.rangeAt a0 0 (#[.slice none 0 0, .slice none 0 0] : Array Value).toList) := hide (range_all (sep_get HSf.out 3 rfl))
    refine bodyPost_ret (v := .tuple #[.agg #[.slice none 0 0, .slice none 0 0], .bool false]) (results_ct Tryd.results5 rfl rfl (run_agg HRf.out Tryd.underlying25 rfl Tryd.sizeDisk)) rfl ⟨_, rfl, ?_, HBf⟩
    exact ⟨_, _, rfl, ⟨rfl, Or.inl ⟨rfl, rfl⟩⟩, ⟨rfl, Or.inl ⟨rfl, rfl⟩⟩⟩
  | true =>
    have hfe : fs = ps.set 0 tx := (HF.out.1 rfl).1
    have hp4 : 4 ≤ pL := (HF.out.1 rfl).2
    obtain ⟨b1, c1', ex⟩ := own_at (sep_get HS1.out 0 rfl) (by omega)
    simp only [Value.slice.injEq, true_and] at ex
    obtain ⟨rfl, -⟩ := ex
    obtain ⟨w2, hw2⟩ : ∃ wx, wx = w1.alloc (Obj.cells #[.slice (some ⟨b1, 0, none⟩) pL c1, .slice y1 0 d1] 25) := ⟨_, rfl⟩
    have hs2 := sep_new HS1.out (Obj.cells #[.slice (some ⟨b1, 0, none⟩) pL c1, .slice y1 0 d1] 25) HZ1.out
    rw [← hw2, ← hg2] at hs2
    have HS2 := hide hs2
    have HB2 : Hid (Below w.heap.size w w2) := hide (by rw [hw2]; exact HB1.out.alloc HB1.out.size _)
    have HZ2 : Hid (a0 ≤ w2.heap.size) := hide (by rw [hw2]; have := HZ1.out; simp; omega)
    obtain ⟨g3, hg3⟩ : ∃ g, g = w2.heap.size := ⟨_, rfl⟩
    obtain ⟨w3, hw3⟩ : ∃ wx, wx = w2.alloc (Obj.cells #[.int .i64 0, .int .i64 0, .int .i64 2, .slice none 0 0] 35) := ⟨_, rfl⟩
    have hs3 := sep_new HS2.out (Obj.cells #[.int .i64 0, .int .i64 0, .int .i64 2, .slice none 0 0] 35) HZ2.out
    rw [← hw3, ← hg3] at hs3
    have HS3 := hide hs3
    have HB3 : Hid (Below w.heap.size w w3) := hide (by rw [hw3]; exact HB2.out.alloc HB2.out.size _)
    have HZ3 : Hid (a0 ≤ w3.heap.size) := hide (by rw [hw3]; have := HZ2.out; simp; omega)
    have HFe := hide hfe
    have hg3' : g3 = g2 + 1 := by rw [hg3, hw2, hg2]; simp
    clear hfe hs2 hs3
    go_upto_region 5 with fail
    rw [← hg2, ← hg3', ← hw2, ← hw3]
    clear hw2 hw3 hg2 hg3 hg3'
    obtain ⟨wd, hwd⟩ : ∃ wd, wd = w3.drew := ⟨_, rfl⟩
    have HSd := hide (sep_drew HS3.out)
    have HBd := hide (HB3.out.drew)
    have HZd : Hid (a0 ≤ w3.drew.heap.size) := HZ3
    rw [← hwd] at HSd HBd HZd
    have HSw : Hid (∀ wx : World, wx.heap[g3]? = some (Obj.cells #[.int .i64 0, .int .i64 0, .int .i64 2, .slice none 0 0] 35) → wx.heap[g2]? = some (Obj.cells #[.slice (some ⟨b1, 0, none⟩) pL c1, .slice y1 0 d1] 25) → (fun wx => wx.cell? ⟨g2, 0, none⟩ = some (.slice (some ⟨b1, 0, none⟩) pL c1) ∧ wx.cell? ⟨g3, 0, none⟩ = some (.int .i64 0) ∧ wx.cell? ⟨g3, 1, none⟩ = some (.int .i64 0) ∧ wx.cell? ⟨g3, 2, none⟩ = some (.int .i64 2) ∧ wx.cell? ⟨g3, 3, none⟩ = some (.slice none 0 0)) wx) := hide (fun wx h h' => ⟨(cell_at h' 0).1, (cell_at h 0).1, (cell_at h 1).1, (cell_at h 2).1, (cell_at h 3).1⟩)
    have hHeld := HSw.out wd (sep_get HSd.out 0 rfl) (sep_get HSd.out 1 rfl)
    refine wp_region_held_drew (S := fun wx => wx.cell? ⟨g2, 0, none⟩ = some (.slice (some ⟨b1, 0, none⟩) pL c1) ∧ wx.cell? ⟨g3, 0, none⟩ = some (.int .i64 0) ∧ wx.cell? ⟨g3, 1, none⟩ = some (.int .i64 0) ∧ wx.cell? ⟨g3, 2, none⟩ = some (.int .i64 2) ∧ wx.cell? ⟨g3, 3, none⟩ = some (.slice none 0 0)) (by kernel_rfl) (by rw [← hwd]; exact hHeld) (fun _ => ?_)
    rw [← hwd]
    clear hwd
    refine takeW 0 17 ?_ rfl rfl (by kernel_rfl) (by kernel_rfl) (by kernel_rfl) (fun _ _ _ h => h) (Or.inl ⟨by rfl, ?_⟩) hHeld ?_
    rotate_left
    · (intro wx hSw; (try dsimp only at hSw); go_simp; try with_reducible rfl)
    simp only [List.setIfInBounds_toArray, List.set_cons_zero, List.set_cons_succ]
    refine takeW 1 18 ?_ rfl rfl (by kernel_rfl) (by kernel_rfl) (by kernel_rfl) (fun _ _ _ h => h) (Or.inl ⟨by rfl, ?_⟩) hHeld ?_
    rotate_left
    · (intro wx hSw; (try dsimp only at hSw); go_simp; try with_reducible rfl)
    simp only [List.setIfInBounds_toArray, List.set_cons_zero, List.set_cons_succ]
    refine takeW 2 19 ?_ rfl rfl (by kernel_rfl) (by kernel_rfl) (by kernel_rfl) (fun _ _ _ h => h) (Or.inl ⟨by rfl, ?_⟩) hHeld ?_
    rotate_left
    · (intro wx hSw; (try dsimp only at hSw); go_simp; try with_reducible rfl)
    simp only [List.setIfInBounds_toArray, List.set_cons_zero, List.set_cons_succ]
    refine takeW 3 20 ?_ rfl rfl (by kernel_rfl) (by kernel_rfl) (by kernel_rfl) (fun _ _ _ h => h) (Or.inl ⟨by rfl, ?_⟩) hHeld ?_
    rotate_left
    · (intro wx hSw; (try dsimp only at hSw); go_simp; try with_reducible rfl)
    simp only [List.setIfInBounds_toArray, List.set_cons_zero, List.set_cons_succ]
    refine takeW 5 22 ?_ rfl rfl (by kernel_rfl) (by kernel_rfl) (by kernel_rfl) (fun _ _ _ h => h) (Or.inl ⟨by rfl, ?_⟩) hHeld ?_
    rotate_left
    · (intro wx hSw; (try dsimp only at hSw); go_simp; try with_reducible rfl)
    simp only [List.setIfInBounds_toArray, List.set_cons_zero, List.set_cons_succ]
    refine wpAnyH_ready (rs := [4]) (by kernel_rfl) (by simp) ?_
    refine AllReadyH.cons rfl (fun K hK => ?_) AllReadyH.nil
    refine step_call1 wd ?_ 15 Tryd.f15 Tryd.func15 ?_ ?_ (.tmp 20) #[3] ?_ (.int .i64 0) ?_ _ (HC3.out wd) ?_
    · exact rfl
    · decide
    · exact Option.some_ne_none _
    · exact rfl
    · exact rfl
    rintro e wq ⟨rfl, rfl⟩
    refine ⟨_, rfl, ?_⟩
    refine hK.out (Act.put _ (some 21) _) _ hHeld (fun _ => ?_)
    clear hK K
    simp only [Act.put, List.setIfInBounds_toArray, List.set_cons_zero, List.set_cons_succ]
    refine wpAnyH_ready (rs := [6]) (by kernel_rfl) (by simp) ?_
    refine AllReadyH.cons rfl (fun K hK => ?_) AllReadyH.nil
    refine step_call1 wd ?_ 14 Tryd.f14 Tryd.func14 ?_ ?_ (.tmp 22) #[35] ?_ (.agg #[.int .i64 0, .int .i64 0, .int .i64 2, .slice none 0 0]) ?_ _ (HC2.out wd (HTb.out _ HBd.out)) ?_
    · exact rfl
    · decide
    · exact Option.some_ne_none _
    · exact rfl
    · exact rfl
    rintro e W ⟨rfl, hb⟩
    refine ⟨_, rfl, ?_⟩
    have hs4 := sep_below HSd.out hb
    have hb4 : Below w.heap.size w W := HBd.out.trans (hb.mono HBd.out.size)
    have hz4 : a0 ≤ W.heap.size := Nat.le_trans HZd.out hb.size
    have hS4 := HSw.out W (sep_get hs4 0 rfl) (sep_get hs4 1 rfl)
    refine hK.out (Act.put _ (some 23) _) _ hS4 (fun _ => ?_)
    clear hK K hb
    simp only [Act.put, List.setIfInBounds_toArray, List.set_cons_zero, List.set_cons_succ]
    refine takeW 7 16 ?_ rfl rfl (by kernel_rfl) (by kernel_rfl) (by kernel_rfl) (fun _ _ _ h => h) (Or.inl ⟨by rfl, ?_⟩) hS4 ?_
    rotate_left
    · (intro wx hSw; (try dsimp only at hSw); go_simp; try with_reducible rfl)
    simp only [List.setIfInBounds_toArray, List.set_cons_zero, List.set_cons_succ]
    refine takeW 8 24 ?_ rfl rfl (by kernel_rfl) (by kernel_rfl) (by kernel_rfl) (fun _ _ _ h => h) (Or.inl ⟨by rfl, ?_⟩) hS4 ?_
    rotate_left
    · (intro wx hSw; (try dsimp only at hSw); go_simp; try with_reducible rfl)
    simp only [List.setIfInBounds_toArray, List.set_cons_zero, List.set_cons_succ]
    refine takeW 9 25 ?_ rfl rfl (by kernel_rfl) (by kernel_rfl) (by kernel_rfl) (fun _ _ _ h => h) (Or.inl ⟨by rfl, ?_⟩) hS4 ?_
    rotate_left
    · (intro wx hSw; (try dsimp only at hSw); go_simp; try with_reducible rfl)
    simp only [List.setIfInBounds_toArray, List.set_cons_zero, List.set_cons_succ]
    have HS4 := hide hs4
    have HB4 := hide hb4
    have HZ4 := hide hz4
    clear hs4 hb4 hz4
    have hi0 : 0 < pL := by omega
    refine takeW 10 26 ?_ rfl rfl (by kernel_rfl) (by kernel_rfl) (by kernel_rfl) (fun _ _ _ h => h) (Or.inl ⟨by rfl, ?_⟩) hS4 ?_
    rotate_left
    · (intro wx hSw; (try dsimp only at hSw); go_simp; try with_reducible rfl)
    simp only [List.setIfInBounds_toArray, List.set_cons_zero, List.set_cons_succ]
    refine wpAnyH_ready (rs := [11]) (by kernel_rfl) (by simp) ?_
    refine AllReadyH.cons rfl (fun K hK => ?_) AllReadyH.nil
    have hsF := sep_rowset HS4.out 2 rfl 0 (.string tx) HZ4.out
    have hgw : w.heap.size ≤ b1 := by rw [← HA.out]; exact (sep_lt HS4.out 2 rfl b1 rfl).1
    have hbF := HB4.out.setCell (p := ⟨b1, 0, none⟩) hgw (.string tx)
    have hSF := HSw.out _ (sep_get hsF 0 rfl) (sep_get hsF 1 rfl)
    have hrow := sep_get HS4.out 2 rfl
    have hst : ∃ x, W.cell? ⟨b1, 0, none⟩ = some x ∧ W.frozen? ⟨b1, 0, none⟩ = false := ⟨_, (hrow.cellAt 0 (by omega)).trans (List.getElem?_eq_getElem (by rw [hrow.1]; omega)), hrow.frozenAt 0⟩
    obtain ⟨x0, hx0, hz0⟩ := hst
    have HSF := hide hsF
    have HBF := hide hbF
    clear hsF hbF hrow
    go_simp
    refine hK.out _ _ hSF (fun _ => ?_)
    clear hK K hx0 hz0 hS4 hHeld
    refine takeW 12 5 ?_ rfl rfl (by kernel_rfl) (by kernel_rfl) (by kernel_rfl) (fun _ _ _ h => h) (Or.inl ⟨by rfl, ?_⟩) hSF ?_
    rotate_left
    · (intro wx hSw; (try dsimp only at hSw); go_simp; try with_reducible rfl)
    simp only [List.setIfInBounds_toArray, List.set_cons_zero, List.set_cons_succ]
    refine wpAnyH_done (by kernel_rfl) ?_ _
    obtain ⟨wF, hwF⟩ : ∃ wx, wx = W.setCell ⟨b1, 0, none⟩ (.string tx) := ⟨_, rfl⟩
    rw [← hwF] at HSF HBF hSF ⊢
    clear hwF
    have u0 : wF.cell? ⟨g2, 0, none⟩ = some (.slice (some ⟨b1, 0, none⟩) pL c1) := (cell_at (sep_get HSF.out 1 rfl : wF.heap[g2]? = some (Obj.cells #[.slice (some ⟨b1, 0, none⟩) pL c1, .slice y1 0 d1] 25)) 0).1
    have u1 : wF.cell? ⟨g2, 1, none⟩ = some (.slice y1 0 d1) := (cell_at (sep_get HSF.out 1 rfl : wF.heap[g2]? = some (Obj.cells #[.slice (some ⟨b1, 0, none⟩) pL c1, .slice y1 0 d1] 25)) 1).1
    have r0 : wF.cell? ⟨a0, 0, none⟩ = some (.slice none 0 0) := (cell_at (sep_get HSF.out 4 rfl : wF.heap[a0]? = some (Obj.cells #[.slice none 0 0, .slice none 0 0] 25)) 0).1
    have r1 : wF.cell? ⟨a0, 1, none⟩ = some (.slice none 0 0) := (cell_at (sep_get HSF.out 4 rfl : wF.heap[a0]? = some (Obj.cells #[.slice none 0 0, .slice none 0 0] 25)) 1).1
    have z0 : wF.frozen? ⟨a0, 0, none⟩ = false := (cell_at (sep_get HSF.out 4 rfl : wF.heap[a0]? = some (Obj.cells #[.slice none 0 0, .slice none 0 0] 25)) 0).2
    have z1 : wF.frozen? ⟨a0, 1, none⟩ = false := (cell_at (sep_get HSF.out 4 rfl : wF.heap[a0]? = some (Obj.cells #[.slice none 0 0, .slice none 0 0] 25)) 1).2
    clear hSF
    go_wp2_with fail
    have HSf := hide (sep_store (sep_store HSF.out 4 rfl 0 (.slice (some ⟨b1, 0, none⟩) pL c1)) 4 rfl 1 (.slice y1 0 d1))
    have HBf := (HBF.out.setCell (p := ⟨a0, 0, none⟩) haw (.slice (some ⟨b1, 0, none⟩) pL c1)).setCell (p := ⟨a0, 1, none⟩) haw (.slice y1 0 d1)
    obtain ⟨wf, hwf⟩ : ∃ wf, wf = (wF.setCell ⟨a0, 0, none⟩ (.slice (some ⟨b1, 0, none⟩) pL c1)).setCell ⟨a0, 1, none⟩ (.slice y1 0 d1) := ⟨_, rfl⟩
    rw [← hwf] at HSf HBf ⊢
    have HRf : Hid (wf.rangeAt a0 0 (#[.slice (some ⟨b1, 0, none⟩) pL c1, .slice y1 0 d1] : Array Value).toList) := hide (range_all (sep_get HSf.out 4 rfl))
    refine bodyPost_ret (v := .tuple #[.agg #[.slice (some ⟨b1, 0, none⟩) pL c1, .slice y1 0 d1], .bool true]) (results_ct Tryd.results5 rfl rfl (run_agg HRf.out Tryd.underlying25 rfl Tryd.sizeDisk)) rfl ⟨_, rfl, ?_, HBf⟩
    rw [HFe.out]
    have h2 := sep_get HSf.out 2 rfl
    have h3 := sep_get HSf.out 3 rfl
    rw [HA.out] at h2 h3
    refine ⟨_, _, rfl, ?_, h3⟩
    rw [List.length_set, ← HL.out, ← strs_set]
    exact h2
end Go.Proofs.YtbokjfjdjgopeaaDoor
