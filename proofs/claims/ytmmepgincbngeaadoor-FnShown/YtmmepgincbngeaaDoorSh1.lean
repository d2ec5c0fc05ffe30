/-
  Facts and contracts that the law's own text rests on, by their texts' names: Plain1, Own, Plain2, Plain3, Plain6, PartsSpec, Plain5, Row, PutRow, Frame, IntRow, Node, DiskN, Var, Plain9, AppRow, DiskCopyN, EnvN, Plain10, DiskFallN, BoolRowN, Plain4, Plain13, Plain8, Plain18, Plain19.
-/
import Derived.Lib.UnsafeStr
import Derived.WalkKit
import Derived.Laws.BytesArg
import Derived.Laws.IdiomStrings
import Derived.OwnWalk
import Derived.Test.YtmmepgincbngeaaDoorProg
import Derived.Lib.Fields
import Derived.Lib.Strings
import Derived.Deep.LoopGhost
import Derived.WalkSmall
import Derived.WalkSpells
import Derived.Below
import Derived.BigQuiet
import Derived.Deep.QuietTactic
import Derived.Laws.OwnMore
import Derived.Outline
import Derived.Deep.RegionHeld3
import Derived.Laws.Concat
import Derived.Deep.AppendLies
import Derived.Deep.RegionLaw
namespace Go.Proofs.YtmmepgincbngeaaDoor
open Go.RowKit
theorem hide {p : Prop} (h : p) : Hid p := h
def venc : Nat → Nat → List UInt8
  | 0, n => [UInt8.ofNat n]
  | f + 1, n => if n < 128 then [UInt8.ofNat n] else UInt8.ofNat (n % 128 + 128) :: venc f (n / 128)
def vtext (n : Nat) : List UInt8 := venc 4 n
theorem venc_last (f n : Nat) (h : n < 128) : venc f n = [UInt8.ofNat n] := by
  cases f with
  | zero => rfl
  | succ f => simp [venc, h]
theorem venc_step (f n : Nat) (h : 128 ≤ n) (hf : n < 128 ^ (f + 1)) :
    ∃ g, f = g + 1 ∧ n / 128 < 128 ^ (g + 1) ∧ venc f n = UInt8.ofNat (n % 128 + 128) :: venc g (n / 128) := by
  cases f with
  | zero => simp at hf; omega
  | succ g =>
    refine ⟨g, rfl, ?_, ?_⟩
    · rw [Nat.pow_succ] at hf
      exact Nat.div_lt_of_lt_mul (by rw [Nat.mul_comm]; exact hf)
    · simp [venc, Nat.not_lt.2 h]
theorem venc_length (f n : Nat) : 1 ≤ (venc f n).length ∧ (venc f n).length ≤ f + 1 := by
  induction f generalizing n with
  | zero => simp [venc]
  | succ f ih =>
    unfold venc
    split
    · simp
    · have := ih (n / 128)
      simp; omega
theorem vtext_length (n : Nat) : 1 ≤ (vtext n).length ∧ (vtext n).length ≤ 5 := venc_length 4 n
theorem toNat_ofNat8 (k : Nat) (h : k < 256) : (UInt8.ofNat k).toNat = k := by
  simp [UInt8.toNat_ofNat']; omega
theorem cells_snoc (l : List UInt8) (k : Nat) (h : k < 256) : Lib.byteCells l ++ [Value.int .u8 (k : Int)] = Lib.byteCells (l ++ [UInt8.ofNat k]) := by
  simp [Lib.byteCells]; omega
theorem pow5 (n : Nat) (h : n ≤ 1000000000) : n < 128 ^ (4 + 1) := by
  simp; omega
open Go.RowKit
theorem Tryd.infoByte : (Tryd.prog.info? 5).map (fun i => (i.zero, i.size, i.bytes)) = some (some (.int .u8 0), 1, 1) := by kernel_rfl
theorem string_own {P : Program} {w : World} {B src dst e : TypeId} {v : Value} {l : List UInt8} (hs : P.underlying src = some (.slice e)) (he : P.underlying e = some (.int .u8)) (hd : P.underlying dst = some .string)
    (hown : w.ownsRow B e 1 v l.length (Lib.byteCells l)) : (convert src dst v).run P w = .ok (.string ⟨l.toArray⟩) w := by
  rcases hown.2 with ⟨rfl, h0⟩ | ⟨g, cap, cur, rfl, -, -, -, -, -, -⟩
  · rw [run_convert_bytes_nil w src e hs he 0 0 dst hd]
    obtain rfl : l = [] := List.length_eq_zero_iff.1 h0
    rfl
  · exact run_convert_bytes_back (P := P) w src dst e ⟨g, 0, none⟩ cap l hs he hd (fun j hj => hown.cells (g := g) rfl j _ (by simp [Lib.byteCells, hj]))
theorem below_grow {B : Nat} {w wr w0 w1 : World} {v : Value} {n : Nat} {xs : List Value} {e sz : Nat} (hb : Below B w wr) (hB : B ≤ wr.heap.size) (hown : wr.ownsRow B e sz v n xs) (h0 : Below B wr w0) (hg : w0.grownBy w1 v.ownBlock) : Below B w w1 :=
  (hb.trans h0).grown hg (by have := h0.size; omega) (fun k hk => (hown.lt k hk).1)
open Go.RowKit
def byt (s : ByteArray) (i : Nat) : Nat := if h : i < s.size then s[i].toNat else 0
theorem byt_lt (s : ByteArray) (i : Nat) : byt s i < 256 := by
  unfold byt
  split
  · exact UInt8.toNat_lt _
  · omega
theorem byt_eq (s : ByteArray) (i : Nat) (h : i < s.size) : s[i].toNat = byt s i := by simp [byt, h]
theorem wrap64_small (n : Int) (h0 : 0 ≤ n) (h1 : n ≤ 9223372036854775807) : wrap64 n = n := IntWalk.wrap64_in n ⟨by omega, by omega⟩
open Go.RowKit
theorem take_byt (s : ByteArray) (k : Nat) (h : k < s.size) : s.data.toList.take (k + 1) = s.data.toList.take k ++ [UInt8.ofNat (byt s k)] := by
  have hl : k < s.data.toList.length := by rw [Array.length_toList]; exact h
  rw [List.take_succ_eq_append_getElem hl]
  congr 2
  rw [← byt_eq s k h]
  simp
  rfl
open Go.RowKit
def strV (l : List UInt8) : Value := .string ⟨l.toArray⟩
def strVs (L : List (List UInt8)) : List Value := L.map strV
def plainB (s : ByteArray) : Bool := s.data.toList.all fun b => decide (32 ≤ b.toNat ∧ b.toNat ≤ 126)
theorem plainB_yes (s : ByteArray) (h : ∀ i, i < s.size → 32 ≤ byt s i ∧ byt s i ≤ 126) : plainB s = true := by
  rw [plainB, List.all_eq_true]
  intro b hb
  obtain ⟨i, hi, rfl⟩ := List.mem_iff_getElem.1 hb
  have hi' : i < s.size := by rw [Array.length_toList] at hi; exact hi
  have := h i hi'
  rw [← byt_eq s i hi'] at this
  have e : s.data.toList[i] = s[i] := by simp; rfl
  rw [e]
  exact decide_eq_true this
theorem plainB_at (s : ByteArray) (h : plainB s = true) (i : Nat) (hi : i < s.size) : 32 ≤ byt s i ∧ byt s i ≤ 126 := by
  rw [plainB, List.all_eq_true] at h
  have hm : s[i] ∈ s.data.toList := by
    have : s.data[i]'hi ∈ s.data := Array.getElem_mem _
    exact Array.mem_toList_iff.2 this
  have := of_decide_eq_true (h _ hm)
  rw [byt_eq s i hi] at this
  exact this
theorem plainB_no (s : ByteArray) (i : Nat) (hi : i < s.size) (h : ¬ (32 ≤ byt s i ∧ byt s i ≤ 126)) : plainB s = false := by
  rw [← Bool.not_eq_true]
  exact fun e => h (plainB_at s e i hi)
def partsOut (s : ByteArray) : List (List UInt8) × Bool :=
  if s.size ≤ 600 ∧ plainB s = true ∧ (Lib.fields s.data.toList).length ≤ 10 then (Lib.fields s.data.toList, true) else ([], false)
theorem drop_byt (s : ByteArray) (k : Nat) (h : k < s.size) : s.data.toList.drop k = UInt8.ofNat (byt s k) :: s.data.toList.drop (k + 1) := by
  have hl : k < s.data.toList.length := by rw [Array.length_toList]; exact h
  rw [List.drop_eq_getElem_cons hl]
  congr 1
  rw [← byt_eq s k h]
  simp
  rfl
def cutL (s : ByteArray) (b k : Nat) : List UInt8 := (s.extract b k).data.toList
theorem cutL_eq (s : ByteArray) (b k : Nat) : cutL s b k = (s.data.toList.drop b).take (k - b) := Lib.extract_data s b k
theorem cutL_length (s : ByteArray) (b k : Nat) (hb : b ≤ k) (h : k ≤ s.size) : (cutL s b k).length = k - b := by
  have hl : s.data.toList.length = s.size := by rw [Array.length_toList]; rfl
  rw [cutL_eq, List.length_take, List.length_drop]; omega
theorem strV_cut (s : ByteArray) (b k : Nat) : strV (cutL s b k) = .string (s.extract b k) := by
  unfold strV cutL
  rw [Array.toArray_toList]
open Go.RowKit
theorem Tryd.infoString : (Tryd.prog.info? 9).map (fun i => (i.zero, i.size, i.bytes)) = some (some (.string ByteArray.empty), 1, 16) := by kernel_rfl
theorem own_none (w : World) (B : Nat) (hB : B ≤ w.heap.size) : (w.alloc (.cells #[] 9)).ownsRow B 9 1 (.slice (some ⟨w.heap.size, 0, none⟩) 0 0) ([] : List (List UInt8)).length (strVs []) := by
  simpa [strVs] using World.ownsRow_lit (base := B) (e := 9) (size := 1) w #[] 0 hB (by unfold maxLen; omega) (by simp)
theorem one_str (w : World) (x : Value) : ∀ (j : Nat) (u : Value), [x][j]? = some u → (w.alloc (Obj.cells #[x] 9)).cell? ((⟨w.heap.size, 0, none⟩ : Addr).add j) = some u := by
  intro j u hj
  match j, hj with
  | 0, hj => simp at hj; subst hj; simp [Addr.add]
theorem own_snocS {w1 : World} {B n : Nat} {v : Value} {L : List (List UInt8)} {x : List UInt8} (hn : n = L.length) (h : w1.ownsRow B 9 1 v (n + 1) (strVs L ++ [strV x])) :
    w1.ownsRow B 9 1 v (L ++ [x]).length (strVs (L ++ [x])) := by
  subst hn
  simpa [strVs] using h
open Go.RowKit
def isD (y : Nat) : Prop := 48 ≤ y ∧ y ≤ 57
def valD (s : ByteArray) : Nat → Nat
  | 0 => 0
  | k + 1 => 10 * valD s k + (byt s k - 48)
def okD (s : ByteArray) : Prop := 1 ≤ s.size ∧ (∀ i, i < s.size → isD (byt s i)) ∧ (s.size = 1 ∨ byt s 0 ≠ 48) ∧ valD s s.size ≤ 1000000000
theorem valD_mono (s : ByteArray) (k j : Nat) (h : k ≤ j) : valD s k ≤ valD s j := by
  induction j with
  | zero => obtain rfl : k = 0 := by omega
            exact Nat.le_refl _
  | succ j ih =>
    by_cases e : k = j + 1
    · rw [e]; exact Nat.le_refl _
    · have := ih (by omega)
      simp only [valD]; omega
theorem len_data (s : ByteArray) : s.data.toList.length = s.size := by rw [Array.length_toList]; rfl
open Go.RowKit
def RowAt (w : World) (sz : Nat) (v : Value) (n : Nat) (xs : List Value) : Prop :=
  xs.length = n * sz ∧ ∃ a cap, v = .slice a n cap ∧ (n = 0 ∨ ∃ b off, a = some ⟨b, off, none⟩ ∧ b < w.heap.size ∧ ∀ j, j < n * sz → w.cell? ⟨b, off + j, none⟩ = xs[j]?)
theorem row_below {w w' : World} {sz n : Nat} {v : Value} {xs : List Value} (h : RowAt w sz v n xs) (hb : Below w.heap.size w w') : RowAt w' sz v n xs := by
  obtain ⟨hl, a, cap, hv, h2⟩ := h
  refine ⟨hl, a, cap, hv, h2.imp id ?_⟩
  rintro ⟨b, off, e, hlt, hc⟩
  exact ⟨b, off, e, Nat.lt_of_lt_of_le hlt hb.size, fun j hj => by rw [hb.cell (by exact hlt)]; exact hc j hj⟩
theorem row_of_own {w : World} {B e sz n : Nat} {v : Value} {xs : List Value} (h : w.ownsRow B e sz v n xs) : RowAt w sz v n xs := by
  refine ⟨h.1, ?_⟩
  rcases h.2 with ⟨rfl, rfl⟩ | ⟨g, cap, cur, rfl, hg, hh, rest⟩
  · exact ⟨none, 0, rfl, Or.inl rfl⟩
  · exact ⟨_, _, rfl, Or.inr ⟨g, 0, rfl, (h.lt g rfl).2, fun j hj => by rw [Nat.zero_add]; exact h.cellAt j hj⟩⟩
theorem own_stays {w w' : World} {B e sz n : Nat} {v : Value} {xs : List Value} (h : w.ownsRow B e sz v n xs) (hb : Below w.heap.size w w') : w'.ownsRow B e sz v n xs := by
  refine ⟨h.1, ?_⟩
  rcases h.2 with ⟨rfl, hn⟩ | ⟨g, cap, cur, rfl, hg, hh, rest⟩
  · exact Or.inl ⟨rfl, hn⟩
  · have hlt : g < w.heap.size := (h.lt g rfl).2
    exact Or.inr ⟨g, cap, cur, rfl, hg, (hb.block g hlt).trans hh, rest⟩
theorem own_down {w : World} {B B' e sz n : Nat} {v : Value} {xs : List Value} (h : w.ownsRow B e sz v n xs) (hb : B' ≤ B) : w.ownsRow B' e sz v n xs := by
  refine ⟨h.1, ?_⟩
  rcases h.2 with h0 | ⟨g, cap, cur, e1, hg, rest⟩
  · exact Or.inl h0
  · exact Or.inr ⟨g, cap, cur, e1, Nat.le_trans hb hg, rest⟩
def strs (l : List ByteArray) : List Value := l.map Value.string
theorem Tryd.infoStrR : (Tryd.prog.info? 9).map (fun i => (i.zero, i.size, i.bytes)) = some (some (.string ⟨#[]⟩), 1, 16) := by kernel_rfl
theorem strs_made (n : Nat) : (madeCells #[Value.string ⟨#[]⟩] n).toList = strs (List.replicate n ⟨#[]⟩) := by simp [toList_madeCells_one, strs]
theorem strs_set (l : List ByteArray) (k : Nat) (x : ByteArray) : (strs l).set k (.string x) = strs (l.set k x) := by rw [strs, strs, List.map_set]
theorem own_n {w : World} {B e sz n m : Nat} {v : Value} {xs ys : List Value} (h : w.ownsRow B e sz v n xs) (hm : n = m) (hx : xs = ys) : w.ownsRow B e sz v m ys := by subst hm hx; exact h
open Go.RowKit
def puts (l : List (Int × ByteArray)) : List Value := l.flatMap fun p => [.int .i64 p.1, .string p.2]
open Go.RowKit
def Kept (w w' : World) (S : Nat → Prop) : Prop := w'.os = w.os ∧ w'.tape = w.tape ∧ w'.output = w.output ∧ w.heap.size ≤ w'.heap.size ∧ ∀ k, k < w.heap.size → ¬ S k → w'.heap[k]? = w.heap[k]?
theorem kept_trans {a b c : World} {S T : Nat → Prop} (h : Kept a b S) (k : Kept b c T) (hT : ∀ j, j < a.heap.size → T j → S j) : Kept a c S :=
  ⟨k.1.trans h.1, k.2.1.trans h.2.1, k.2.2.1.trans h.2.2.1, Nat.le_trans h.2.2.2.1 k.2.2.2.1, fun j hj hn => (k.2.2.2.2 j (Nat.lt_of_lt_of_le hj h.2.2.2.1) (fun t => hn (hT j hj t))).trans (h.2.2.2.2 j hj hn)⟩
theorem kept_setCell (w : World) (g j : Nat) (u : Value) : Kept w (w.setCell ⟨g, j, none⟩ u) (fun k => k = g) :=
  ⟨rfl, rfl, rfl, by simp, fun k _ hn => heap_setCell_other w ⟨g, j, none⟩ k u hn⟩
theorem own_kept {w w' : World} {B e sz n : Nat} {v : Value} {xs : List Value} {S : Nat → Prop} (h : w.ownsRow B e sz v n xs) (hk : Kept w w' S) (hS : ∀ k, v.ownBlock = some k → ¬ S k) : w'.ownsRow B e sz v n xs := by
  refine ⟨h.1, ?_⟩
  rcases h.2 with ⟨rfl, hn⟩ | ⟨g, cap, cur, rfl, hg, hh, rest⟩
  · exact Or.inl ⟨rfl, hn⟩
  · have hlt : g < w.heap.size := (h.lt g rfl).2
    exact Or.inr ⟨g, cap, cur, rfl, hg, (hk.2.2.2.2 g hlt (hS g rfl)).trans hh, rest⟩
theorem heap_push (w : World) (o : Obj) (k : Nat) : (w.alloc o).heap[k]? = if k = w.heap.size then some o else w.heap[k]? := by
  show (w.heap.push o)[k]? = _
  rw [Array.getElem?_push]
theorem two_allocs (w : World) (a b : Obj) : ((w.alloc a).alloc b).heap[w.heap.size]? = some a ∧ ((w.alloc a).alloc b).heap[w.heap.size + 1]? = some b ∧ ((w.alloc a).alloc b).heap.size = w.heap.size + 2 := by
  refine ⟨?_, ?_, by simp⟩
  · rw [heap_push, heap_push]; simp
  · rw [heap_push]; simp
theorem cell_at {w : World} {g : Nat} {cs : Array Value} {t : TypeId} (h : w.heap[g]? = some (.cells cs t (0, 0))) (j : Nat) : w.cell? ⟨g, j, none⟩ = cs[j]? ∧ w.frozen? ⟨g, j, none⟩ = false :=
  ⟨cell_of_row w g j cs t (0, 0) h, frozen_of_row w g j cs t h⟩
open Go.RowKit
def ints (l : List Int) : List Value := l.map (Value.int .i64)
theorem ints_at (l : List Int) (k : Nat) (h : k < l.length) : (ints l)[k]? = some (.int .i64 l[k]) := by simp [ints, h]
open Go.RowKit
theorem own_slice {w : World} {B e sz n : Nat} {v : Value} {xs : List Value} (h : w.ownsRow B e sz v n xs) : ∃ a cap, v = .slice a n cap := by
  obtain ⟨-, a, cap, e, -⟩ := row_of_own h
  exact ⟨a, cap, e⟩
theorem one_type {w : World} {B B' e e' sz sz' n n' : Nat} {v v' : Value} {xs xs' : List Value} (h : w.ownsRow B e sz v n xs) (h' : w.ownsRow B' e' sz' v' n' xs') (hne : e ≠ e') (k : Nat) (h1 : v.ownBlock = some k) : v'.ownBlock ≠ some k := by
  intro h2
  rcases h.2 with ⟨rfl, -⟩ | ⟨g, cap, cur, rfl, -, hh, -⟩
  · cases h1
  · rcases h'.2 with ⟨rfl, -⟩ | ⟨g', cap', cur', rfl, -, hh', -⟩
    · cases h2
    · injection h1 with h1
      injection h2 with h2
      have h1 : g = k := h1
      have h2 : g' = k := h2
      subst h1
      subst h2
      rw [hh] at hh'
      injection hh' with hh'
      injection hh' with _ he _
      exact hne he
theorem blk_other {w : World} {g g' j : Nat} {u : Value} {o : Obj} (h : w.heap[g]? = some o) (hne : g ≠ g') : (w.setCell ⟨g', j, none⟩ u).heap[g]? = some o := (heap_setCell_other w ⟨g', j, none⟩ g u (by exact hne)).trans h
open Go.RowKit
def DiskOwn (w : World) (B : Nat) (v : Value) (ps : List ByteArray) (ls : List (Int × ByteArray)) : Prop :=
  ∃ vp vl, v = .agg #[vp, vl] ∧ w.ownsRow B 9 1 vp ps.length (strs ps) ∧ w.ownsRow B 103 2 vl ls.length (puts ls)
def diskBlocks (v : Value) (k : Nat) : Prop := ∃ vp vl, v = .agg #[vp, vl] ∧ (vp.ownBlock = some k ∨ vl.ownBlock = some k)
theorem diskOwn_lt {w : World} {B : Nat} {v : Value} {ps : List ByteArray} {ls : List (Int × ByteArray)} (h : DiskOwn w B v ps ls) : ∀ k, diskBlocks v k → B ≤ k ∧ k < w.heap.size := by
  obtain ⟨vp, vl, rfl, h1, h2⟩ := h
  rintro k ⟨vp', vl', e, hk⟩
  have e2 : vp = vp' ∧ vl = vl' := by injection e with e; injection e with e; injection e with e1 e; injection e with e2; exact ⟨e1, e2⟩
  obtain ⟨rfl, rfl⟩ := e2
  rcases hk with hk | hk
  · exact h1.lt k hk
  · exact h2.lt k hk
theorem Tryd.types_part : (9 : Nat) ≠ 103 := by decide
open Go.RowKit
theorem Tryd.infoU8 : (Tryd.prog.info? 5).map (fun i => (i.zero, i.size, i.bytes)) = some (some (.int .u8 0), 1, 1) := by kernel_rfl
theorem below_app {B : Nat} {w wr w1 : World} {v : Value} {n : Nat} {xs : List Value} {o : Obj} (hB : B ≤ wr.heap.size) (hb : Below B w wr) (hown : wr.ownsRow B 5 1 v n xs) (hg : (wr.alloc o).grownBy w1 v.ownBlock) : Below B w w1 :=
  (hb.alloc hB o).grown hg (by simp; omega) (fun k hk => (hown.lt k hk).1)
theorem one_cell (w : World) (x : Value) : ∀ (j : Nat) (u : Value), [x][j]? = some u → (w.alloc (Obj.cells #[x] 5)).cell? ((⟨w.heap.size, 0, none⟩ : Addr).add j) = some u := by
  intro j u hj
  match j, hj with
  | 0, hj => simp at hj; subst hj; simp [Addr.add]
theorem string_of_row {P : Program} {w : World} {B src dst e : TypeId} {v : Value} {l : List UInt8} (hs : P.underlying src = some (.slice e)) (he : P.underlying e = some (.int .u8)) (hd : P.underlying dst = some .string)
    (hown : w.ownsRow B e 1 v l.length (Lib.byteCells l)) (hpos : 0 < l.length) :
    ∃ g cap, v = .slice (some ⟨g, 0, none⟩) l.length cap ∧ (convert src dst (.slice (some ⟨g, 0, none⟩) l.length cap)).run P w = .ok (.string ⟨l.toArray⟩) w := by
  rcases hown.2 with ⟨-, h0⟩ | ⟨g, cap, cur, rfl, -, -, -, -, -, -⟩
  · omega
  · exact ⟨g, cap, rfl, run_convert_bytes_back (P := P) w src dst e ⟨g, 0, none⟩ cap l hs he hd (fun j hj => hown.cells (g := g) rfl j _ (by simp [Lib.byteCells, hj]))⟩
set_option maxHeartbeats 1000000 in
set_option maxRecDepth 100000 in
theorem implVarText_yes (n : Int) (h0 : 0 ≤ n) (h1 : n ≤ 1000000000) (w : World) :
    Calls Tryd.prog 81 #[.int .i64 n] w fun e w' => e = .returned (.tuple #[.string ⟨(vtext n.toNat).toArray⟩, .bool true]) ∧ Below w.heap.size w w' := by
  obtain ⟨k, rfl⟩ := Int.eq_ofNat_of_zero_le h0
  rw [Int.toNat_natCast]
  obtain ⟨i0, hi, hz0, hz1, hz2⟩ := info_parts Tryd.infoU8
  go_enter Tryd.func81, Tryd.ntmps81
  go_wp2
  go_loopw [0, 4] (fun nv v wr => ∃ (f m : Nat) (done : List UInt8), nv = .int .i64 m ∧ m < 128 ^ (f + 1) ∧ m ≤ 1000000000 ∧ done.length + f ≤ 4 ∧ done ++ venc f m = vtext k ∧ wr.ownsRow w.heap.size 5 1 v done.length (Lib.byteCells done) ∧ Below w.heap.size w wr)
    (fun nv _ _ => (intOf nv).toNat)
  case atStart => exact ⟨4, k, [], rfl, pow5 k (by omega), by omega, by simp, by simp [vtext], by simpa [Lib.byteCells] using World.ownsRow_lit (base := w.heap.size) (e := 5) (size := 1) w #[] 0 (Nat.le_refl _) (by unfold maxLen; omega) (by simp), (Below.refl _ _).alloc (Nat.le_refl _) _⟩
  case round =>
    obtain ⟨f, m, done, rfl, hf, hm, hl, hd, hown, hb⟩ := hrel
    have hB := hb.size
    by_cases hlt : 127 < m
    · obtain ⟨g, hg, hf', hv⟩ := venc_step f m (by omega) hf
      have HV := hide hv
      have HG := hide hg
      have HD := hide hd
      clear hv hg hd
      go_wp2_with (at_builtin; refine wpList_append_own _ rfl _ _ 22 rfl w.heap.size 5 i0 (.int .u8 0) 1 1 Tryd.underlying22 hi hz0 hz1 hz2 rfl (by decide) _ _ _ rfl (hown.alloc _) ⟨wr.heap.size, 0, none⟩ 1 1 [.int .u8 (m % 128 + 128)] rfl rfl ?c1 ?c2 ?c3 ?c4 ?c5 ?_)
      case c1 => exact one_cell _ _
      case c2 => intro u hu; simp at hu; subst hu; rfl
      case c3 => unfold maxLen; omega
      case c4 => omega
      case c5 => simp; omega
      intro v' w1 hown' hgrow _
      have hb1 := below_app hB hb hown hgrow
      have hown2 : w1.ownsRow w.heap.size 5 1 v' (done ++ [UInt8.ofNat (m % 128 + 128)]).length (Lib.byteCells (done ++ [UInt8.ofNat (m % 128 + 128)])) := by
        rw [← cells_snoc done (m % 128 + 128) (by omega), List.length_append]
        simpa using hown'
      clear hown' hgrow hown hb
      go_wp2
      go_roundw
      case rel => exact ⟨g, m / 128, done ++ [UInt8.ofNat (m % 128 + 128)], by go_num, hf', by omega, by have := HG.out; simp; omega, by rw [List.append_assoc, List.singleton_append, ← HV.out]; exact HD.out, hown2, hb1⟩
      case measure => simp [intOf]; omega
    · have hv := venc_last f m (by omega)
      rw [hv] at hd
      have HD := hide hd
      clear hv hd
      go_wp2_with (at_builtin; refine wpList_append_own _ rfl _ _ 22 rfl w.heap.size 5 i0 (.int .u8 0) 1 1 Tryd.underlying22 hi hz0 hz1 hz2 rfl (by decide) _ _ _ rfl (hown.alloc _) ⟨wr.heap.size, 0, none⟩ 1 1 [.int .u8 m] rfl rfl ?c1 ?c2 ?c3 ?c4 ?c5 ?_)
      case c1 => exact one_cell _ _
      case c2 => intro u hu; simp at hu; subst hu; rfl
      case c3 => unfold maxLen; omega
      case c4 => omega
      case c5 => simp; omega
      intro v' w1 hown' hgrow _
      have hb1 := below_app hB hb hown hgrow
      have hown2 : w1.ownsRow w.heap.size 5 1 v' (vtext k).length (Lib.byteCells (vtext k)) := by
        rw [← HD.out, ← cells_snoc done m (by omega), List.length_append]
        simpa using hown'
      clear hown' hgrow hown hb
      obtain ⟨gb, cp, hv', hcv⟩ := string_of_row (dst := 9) (src := 22) (e := 5) Tryd.underlying22 Tryd.underlying5 Tryd.underlying9 hown2 (by have := (vtext_length k).1; omega)
      rw [hv']
      clear hv' hown2
      go_wp2
      go_ret2
      exact ⟨rfl, hb1⟩
open Go.RowKit
def diskOkB (ps : List ByteArray) (ls : List (Int × ByteArray)) : Bool :=
  ps.all (fun s => decide (s.size ≤ 240)) && ls.all (fun p => decide (0 ≤ p.1 ∧ p.1 < (ps.length : Int) ∧ p.2.size ≤ 240)) && decide (4 ≤ ps.length ∧ ps.length ≤ 40 ∧ ls.length ≤ 200)
def putD (ps : List ByteArray) (p : Int × ByteArray) : List ByteArray := if 0 ≤ p.1 ∧ p.1 < (ps.length : Int) then ps.set p.1.toNat p.2 else ps
def syncD (ps : List ByteArray) (ls : List (Int × ByteArray)) : List ByteArray := ls.foldl putD ps
open Go.RowKit
theorem run_append_row {P : Program} (w : World) (t ty : TypeId) (base : Nat) (e : TypeId) (i : TypeInfo) (z : Value) (size bytes : Nat) (ht : P.underlying t = some (.slice e)) (hi : P.info? e = some i) (hz : i.zero = some z)
    (hsize : i.size = size) (hby : i.bytes = bytes) (hzs : z.cells.size = size) (hsz : 0 < size)
    (v : Value) (n : Nat) (xs : List Value) (hown : w.ownsRow base e size v n xs)
    (u : Value) (m : Nat) (ys : List Value) (hrow : RowAt w size u m ys) (h1 : ∀ y ∈ ys, y.oneCell' = true)
    (h63 : n + m ≤ maxLen) (hbytes : (n + m) * bytes ≤ 140737488355328) (hbase : base ≤ w.heap.size) :
    ∃ x c w', (Builtin.append_ #[t, t] ty #[v, u]).run P w = .ok (.slice x (n + m) c) w' ∧ w'.ownsRow base e size (.slice x (n + m) c) (n + m) (xs ++ ys) ∧ w.grownBy w' v.ownBlock := by
  have key : ∀ (v' : Value) (w' : World), w'.ownsRow base e size v' (n + m) (xs ++ ys) → ∃ x c, v' = Value.slice x (n + m) c := fun v' w' h => by
    obtain ⟨-, a, cap, ee, -⟩ := row_of_own h
    exact ⟨a, cap, ee⟩
  obtain ⟨hl, a, cap, rfl, h2⟩ := hrow
  rcases a with _ | ad
  · rcases h2 with h0 | ⟨b, off, e, _⟩
    · subst h0
      have hy : ys = [] := List.length_eq_zero_iff.1 (by rw [hl]; omega)
      subst hy
      obtain ⟨x, c, hx⟩ := key v w (by rw [List.append_nil]; exact hown)
      refine ⟨x, c, w, ?_, ?_, ⟨rfl, rfl, rfl, Nat.le_refl _, fun _ _ _ => rfl⟩⟩
      · rw [← hx]
        rcases hown.2 with ⟨rfl, rfl⟩ | ⟨g, cap, cur, rfl, _, _, hnc, _⟩
        · simp [Builtin.append_, run_underlying ht, sizeOf, typeInfo, hi, Builtin.lenOf, Builtin.firstCells]
        · simp [Builtin.append_, run_underlying ht, sizeOf, typeInfo, hi, Builtin.lenOf, Builtin.firstCells, hnc, storeCells]
      · rw [← hx, List.append_nil]; exact hown
    · cases e
  · have hnews : ∀ j y, ys[j]? = some y → w.cell? (ad.add j) = some y := fun j y hj => by
      have hjl : j < m * size := by rw [← hl]; exact (List.getElem?_eq_some_iff.1 hj).1
      rcases h2 with h0 | ⟨b, off, e, hlt, hc⟩
      · subst h0; simp at hjl
      · injection e with e
        subst e
        rw [Addr.add_lit, hc j hjl, hj]
    obtain ⟨v', w', hr, g2, g3, _⟩ := run_append_own (P := P) w base t ty e i z size bytes ht hi hz hsize hby hzs hsz v n xs hown ad m cap ys hl hnews h1 h63 hbytes hbase
    obtain ⟨x, c, rfl⟩ := key v' w' g2
    exact ⟨x, c, w', hr, g2, g3⟩
theorem wp_append_row {P : Program} (w : World) {o : Oper} {a : Act} {K : Act → World → Prop} {Q : Exit → Act → World → Prop} (s x : Operand) (t : TypeId)
    (ho : o.op = .call { callee := .builtin .append, args := #[s, x], argTypes := #[t, t] })
    (base : Nat) (e : TypeId) (i : TypeInfo) (z : Value) (size bytes : Nat) (ht : P.underlying t = some (.slice e)) (hi : P.info? e = some i) (hz : i.zero = some z)
    (hsize : i.size = size) (hby : i.bytes = bytes) (hzs : z.cells.size = size) (hsz : 0 < size)
    (v : Value) (n : Nat) (xs : List Value) (hs : a.eval s = v) (hown : w.ownsRow base e size v n xs)
    (u : Value) (m : Nat) (ys : List Value) (hx : a.eval x = u) (hrow : RowAt w size u m ys) (h1 : ∀ y ∈ ys, y.oneCell' = true)
    (h63 : n + m ≤ maxLen) (hbytes : (n + m) * bytes ≤ 140737488355328) (hbase : base ≤ w.heap.size)
    (h : ∀ x c w', w'.ownsRow base e size (.slice x (n + m) c) (n + m) (xs ++ ys) → w.grownBy w' v.ownBlock → K (a.put o.dst (.slice x (n + m) c)) w') : o.wp P a w K Q := by
  obtain ⟨y, c, w', hr, h2, h3⟩ := run_append_row (P := P) w t o.type base e i z size bytes ht hi hz hsize hby hzs hsz v n xs hown u m ys hrow h1 h63 hbytes hbase
  unfold Oper.wp execOp
  simp only [ho, resolve, invoke, builtin, Sem.run_bind, Sem.run_pure, Result.andThen_ok, List.map_toArray, List.map_cons, List.map_nil, hs, hx, hr]
  exact h y c w' h2 h3
theorem wpList_append_row {P : Program} (w : World) {ops : Array Oper} {rest : List Oper} {o : Oper} {a : Act} {Q : Exit → Act → World → Prop} (hgd : o.guard = none) (s x : Operand) (t : TypeId)
    (ho : o.op = .call { callee := .builtin .append, args := #[s, x], argTypes := #[t, t] })
    (base : Nat) (e : TypeId) (i : TypeInfo) (z : Value) (size bytes : Nat) (ht : P.underlying t = some (.slice e)) (hi : P.info? e = some i) (hz : i.zero = some z)
    (hsize : i.size = size) (hby : i.bytes = bytes) (hzs : z.cells.size = size) (hsz : 0 < size)
    (v : Value) (n : Nat) (xs : List Value) (hs : a.eval s = v) (hown : w.ownsRow base e size v n xs)
    (u : Value) (m : Nat) (ys : List Value) (hx : a.eval x = u) (hrow : RowAt w size u m ys) (h1 : ∀ y ∈ ys, y.oneCell' = true)
    (h63 : n + m ≤ maxLen) (hbytes : (n + m) * bytes ≤ 140737488355328) (hbase : base ≤ w.heap.size)
    (h : ∀ x c w', w'.ownsRow base e size (.slice x (n + m) c) (n + m) (xs ++ ys) → w.grownBy w' v.ownBlock → wpList P ops Q rest (a.put o.dst (.slice x (n + m) c)) w') : wpList P ops Q (o :: rest) a w :=
  wpList_plain hgd fun _ hK => wp_append_row w s x t ho base e i z size bytes ht hi hz hsize hby hzs hsz v n xs hs hown u m ys hx hrow h1 h63 hbytes hbase fun x c w' h2 h3 => hK _ _ (h x c w' h2 h3)
open Go.RowKit
theorem own_empty {w : World} {g e sz : Nat} (h : w.heap[g]? = some (.cells #[] e (0, 0))) : w.ownsRow g e sz (.slice (some ⟨g, 0, none⟩) 0 0) 0 [] :=
  ⟨by simp, Or.inr ⟨g, 0, #[], rfl, Nat.le_refl _, h, Nat.le_refl _, by unfold maxLen; omega, by simp, by simp⟩⟩
theorem k1 {w w' : World} {o : Obj} {g k : Nat} {x : Obj} (hg : (w.alloc o).drew.grownBy w' (some g)) (hq : w.heap[k]? = some x) (hlt : k < w.heap.size) (hne : k ≠ g) : w'.heap[k]? = some x :=
  ((hg.block k (by show k < (w.alloc o).heap.size; simp; omega) (by intro e; injection e with e; exact hne e)).trans (Below.heap_alloc w o k hlt)).trans hq
theorem k2 {w w' : World} {o o' : Obj} {g k : Nat} {x : Obj} (hg : ((w.alloc o).alloc o').drew.grownBy w' (some g)) (hq : w.heap[k]? = some x) (hlt : k < w.heap.size) (hne : k ≠ g) : w'.heap[k]? = some x :=
  (((hg.block k (by show k < ((w.alloc o).alloc o').heap.size; simp; omega) (by intro e; injection e with e; exact hne e)).trans (Below.heap_alloc (w.alloc o) o' k (by simp; omega))).trans (Below.heap_alloc w o k hlt)).trans hq
theorem k3 {w w' : World} {o : Obj} {g k : Nat} {x : Obj} (hg : (w.alloc o).grownBy w' (some g)) (hq : w.heap[k]? = some x) (hne : k ≠ g) : w'.heap[k]? = some x := by
  have hlt : k < w.heap.size := (Array.getElem?_eq_some_iff.1 hq).1
  exact ((hg.block k (by simp; omega) (by intro e; injection e with e; exact hne e)).trans (Below.heap_alloc w o k hlt)).trans hq
open Go.RowKit
theorem disk_form {w : World} {B : Nat} {v : Value} {ps : List ByteArray} {ls : List (Int × ByteArray)} (h : DiskOwn w B v ps ls) : ∃ x c y d, v = .agg #[.slice x ps.length c, .slice y ls.length d] := by
  obtain ⟨vp, vl, rfl, h1, h2⟩ := h
  obtain ⟨x, c, rfl⟩ := own_slice h1
  obtain ⟨y, d, rfl⟩ := own_slice h2
  exact ⟨x, c, y, d, rfl⟩
open Go.RowKit
def newP (n : Int) : List ByteArray := if 4 ≤ n ∧ n ≤ 40 then List.replicate n.toNat ⟨#[]⟩ else []
def writeOk (ps : List ByteArray) (ls : List (Int × ByteArray)) (page : Int) (text : ByteArray) : Bool := diskOkB ps ls && decide (0 ≤ page ∧ page ≤ (ps.length : Int) - 1) && decide (text.size ≤ 240) && decide (ls.length ≠ 200)
def writeL (ps : List ByteArray) (ls : List (Int × ByteArray)) (page : Int) (text : ByteArray) : List (Int × ByteArray) := if writeOk ps ls page text = true then ls ++ [(page, text)] else ls
open Go.RowKit
def bools (l : List Bool) : List Value := l.map Value.bool
open Go.RowKit
theorem Tryd.infoBool : (Tryd.prog.info? 4).map (fun i => (i.zero, i.size, i.bytes)) = some (some (.bool false), 1, 1) := by kernel_rfl
open Go.RowKit
def hvN (y : Nat) : Nat := if 48 ≤ y ∧ y ≤ 57 then y - 48 else if 97 ≤ y ∧ y ≤ 102 then y - 87 else 16
def hexAt (s : ByteArray) (i : Nat) : Nat := hvN (byt s i)
def pairAt (s : ByteArray) (i : Nat) : Nat := 16 * hexAt s (2 * i) + hexAt s (2 * i + 1)
def pv (s : ByteArray) (k i : Nat) : Nat := if 2 * i + 2 ≤ k then pairAt s i else if 2 * i + 1 ≤ k then hexAt s (2 * i) else 0
open Go.RowKit
theorem ba_len (A : ByteArray) : A.data.toList.length = A.size := by rw [Array.length_toList]; rfl
theorem vtB_size (n : Nat) : (⟨(vtext n).toArray⟩ : ByteArray).size = (vtext n).length := List.size_toArray
theorem extract_cat (A B : ByteArray) (X : ByteArray) : (A ++ B ++ X).extract A.size (A.size + B.size) = B := by
  apply ByteArray.ext
  apply Array.toList_inj.1
  rw [Lib.extract_data]
  simp only [ByteArray.data_append, Array.toList_append]
  rw [← ba_len A, ← ba_len B, List.append_assoc, List.drop_left, Nat.add_sub_cancel_left, List.take_left]
open Go.RowKit
def half (c : Nat) : Nat := if c % 2 = 1 then (c / 2) ^^^ 3558460437 else c / 2
def half4 (c : Nat) : Nat := half (half (half (half c)))
def sumB (c b : Nat) : Nat := half4 (half4 (c ^^^ b))
def sumL (c : Nat) (l : List UInt8) : Nat := l.foldl (fun c b => sumB c b.toNat) c
def fourL (x : Nat) : List UInt8 := [UInt8.ofNat (x / 16777216 % 256), UInt8.ofNat (x / 65536 % 256), UInt8.ofNat (x / 256 % 256), UInt8.ofNat (x % 256)]
theorem xor_lt32 (a b : Nat) (ha : a < 4294967296) (hb : b < 4294967296) : a ^^^ b < 4294967296 := Nat.xor_lt_two_pow (n := 32) ha hb
theorem half_lt (c : Nat) (h : c < 4294967296) : half c < 4294967296 := by
  unfold half
  split
  · exact xor_lt32 _ _ (by omega) (by omega)
  · omega
theorem half4_lt (c : Nat) (h : c < 4294967296) : half4 c < 4294967296 := half_lt _ (half_lt _ (half_lt _ (half_lt _ h)))
theorem sumB_lt (c b : Nat) (h : c < 4294967296) (hb : b < 256) : sumB c b < 4294967296 := half4_lt _ (half4_lt _ (xor_lt32 _ _ h (by omega)))
theorem sumL_append (c : Nat) (l m : List UInt8) : sumL c (l ++ m) = sumL (sumL c l) m := by simp [sumL, List.foldl_append]
theorem half_xor (a b : Nat) : half (a ^^^ b) = half a ^^^ half b := by
  have h1 : (a ^^^ b) % 2 = (a + b) % 2 := by
    have := Nat.xor_mod_two_pow (a := a) (b := b) (n := 1)
    simp only [Nat.pow_one] at this
    rw [this]
    rcases Nat.mod_two_eq_zero_or_one a with ha | ha <;> rcases Nat.mod_two_eq_zero_or_one b with hb | hb <;> rw [ha, hb] <;> simp <;> omega
  have h2 : (a ^^^ b) / 2 = a / 2 ^^^ b / 2 := by have := Nat.xor_div_two_pow (a := a) (b := b) (n := 1); simpa using this
  unfold half
  rw [h1, h2]
  by_cases ha : a % 2 = 1 <;> by_cases hb : b % 2 = 1
  · rw [if_neg (by omega), if_pos ha, if_pos hb, Nat.xor_assoc, Nat.xor_comm (b / 2) 3558460437, ← Nat.xor_assoc 3558460437, Nat.xor_self, Nat.zero_xor]
  · rw [if_pos (by omega), if_pos ha, if_neg hb, Nat.xor_assoc, Nat.xor_comm (b / 2), ← Nat.xor_assoc]
  · rw [if_pos (by omega), if_neg ha, if_pos hb, Nat.xor_assoc]
  · rw [if_neg (by omega), if_neg ha, if_neg hb]
theorem half4_xor (a b : Nat) : half4 (a ^^^ b) = half4 a ^^^ half4 b := by simp only [half4, half_xor]
theorem half4_mul (q : Nat) : half4 (16 * q) = q := by
  have e : ∀ x, half (2 * x) = x := fun x => by unfold half; rw [if_neg (by omega)]; omega
  have h : 16 * q = 2 * (2 * (2 * (2 * q))) := by omega
  unfold half4
  rw [h, e, e, e, e]
theorem split16 (x : Nat) : x = (16 * (x / 16)) ^^^ (x % 16) := by
  have h1 : ((16 * (x / 16)) ^^^ (x % 16)) / 16 = x / 16 := by
    have := Nat.xor_div_two_pow (a := 16 * (x / 16)) (b := x % 16) (n := 4)
    rw [show (2 : Nat) ^ 4 = 16 from rfl] at this
    rw [this, Nat.mul_div_cancel_left _ (by omega), Nat.div_eq_of_lt (by omega : x % 16 < 16), Nat.xor_zero]
  have h2 : ((16 * (x / 16)) ^^^ (x % 16)) % 16 = x % 16 := by
    have := Nat.xor_mod_two_pow (a := 16 * (x / 16)) (b := x % 16) (n := 4)
    rw [show (2 : Nat) ^ 4 = 16 from rfl] at this
    rw [this, Nat.mul_mod_right, Nat.zero_xor, Nat.mod_mod]
  omega
def tab16 : List Nat := [0, 1166650509, 2333301018, 3466261911, 3189058079, 4221339282, 889615109, 1888477064, 3558460437, 2442158232, 1594529039, 444807554, 1779230218, 797264519, 3776954128, 2761298845]
theorem half4_tab (r : Nat) (h : r < 16) : half4 r = tab16.getD r 0 := by
  revert r
  decide
theorem half4_eq (x : Nat) : half4 x = (x / 16) ^^^ tab16.getD (x % 16) 0 := by
  rw [← half4_tab _ (Nat.mod_lt _ (by omega)), ← half4_mul (x / 16)]
  conv => lhs; rw [split16 x]
  rw [half4_xor, half4_mul]
theorem fourL_length (x : Nat) : (fourL x).length = 4 := rfl
def sealL (l : List UInt8) : List UInt8 := l ++ fourL (sumL 4294967295 l)
theorem sealL_length (l : List UInt8) : (sealL l).length = l.length + 4 := by simp [sealL, fourL_length]
def pgsB (next : Int) : List Int → Int → List Int → Option (List Int)
  | seen, _, [] => some seen
  | seen, last, p :: ps => if 2 ≤ p ∧ p < next ∧ last < p ∧ p ∉ seen then pgsB next (seen ++ [p]) p ps else none
def freesB (tx next : Int) : List Int → Int → List (Int × List Int) → Bool
  | _, _, [] => true
  | seen, last, f :: fs => if last < f.1 ∧ f.1 ≤ tx ∧ 1 ≤ f.2.length ∧ f.2.length ≤ 40 then (match pgsB next seen 1 f.2 with | none => false | some s => freesB tx next s f.1 fs) else false
def headOkB (tx root next : Int) (n : Nat) : Bool := decide (0 ≤ tx ∧ tx ≤ 100000 ∧ 2 ≤ next ∧ next ≤ 40 ∧ (root = 0 ∨ 2 ≤ root ∧ root < next) ∧ n ≤ 20)
structure Mt where
  tx : Int
  root : Int
  next : Int
  fs : List (Int × List Int)
def Mt.none : Mt := ⟨0, 0, 0, []⟩
def Mt.ok (m : Mt) : Bool := headOkB m.tx m.root m.next m.fs.length && freesB m.tx m.next [m.root] 0 m.fs
def freeNums (fs : List (Int × List Int)) : List Int := fs.flatMap fun f => f.1 :: (f.2.length : Int) :: f.2
def Mt.nums (m : Mt) : List Int := m.tx :: m.root :: m.next :: (m.fs.length : Int) :: freeNums m.fs
def numsL (l : List Int) : List UInt8 := l.flatMap fun n => vtext n.toNat
def numsB (l : List Int) : ByteArray := ⟨(numsL l).toArray⟩
def Mt.text (m : Mt) : ByteArray := ⟨(sealL (numsL m.nums)).toArray⟩
def Mt.good (m : Mt) : Bool := m.ok && decide ((numsL m.nums).length + 4 ≤ 240)
theorem numsL_snoc (l : List Int) (n : Int) : numsL (l ++ [n]) = numsL l ++ vtext n.toNat := by simp [numsL]
theorem numsL_cons (n : Int) (l : List Int) : numsL (n :: l) = vtext n.toNat ++ numsL l := by simp [numsL]
theorem numsB_list (l : List Int) : (numsB l).data.toList = numsL l := by simp [numsB]
theorem numsL_size (l : List Int) : l.length ≤ (numsL l).length ∧ (numsL l).length ≤ 5 * l.length := by
  induction l with
  | nil => simp [numsL]
  | cons n l ih =>
    have := vtext_length n.toNat
    rw [numsL_cons, List.length_append, List.length_cons]
    omega
theorem numsB_size (l : List Int) : (numsB l).size = (numsL l).length := by rw [← numsB_list, ba_len]
theorem freeNums_append (a b : List (Int × List Int)) : freeNums (a ++ b) = freeNums a ++ freeNums b := by simp [freeNums]
theorem freeNums_cons (f : Int × List Int) (b : List (Int × List Int)) : freeNums (f :: b) = f.1 :: (f.2.length : Int) :: (f.2 ++ freeNums b) := by simp [freeNums]
theorem freeNums_snoc (a : List (Int × List Int)) (f : Int × List Int) : freeNums (a ++ [f]) = freeNums a ++ (f.1 :: (f.2.length : Int) :: f.2) := by simp [freeNums]
theorem freeNums_len (fs : List (Int × List Int)) (h : ∀ f ∈ fs, f.2.length ≤ 40) : (freeNums fs).length ≤ 42 * fs.length := by
  induction fs with
  | nil => simp [freeNums]
  | cons f fs ih =>
    have h1 := ih (fun g hg => h g (List.mem_cons_of_mem _ hg))
    have h2 := h f List.mem_cons_self
    rw [freeNums_cons]
    simp
    omega
theorem pgsB_in {next : Int} {seen s : List Int} {last : Int} {ps : List Int} (h : pgsB next seen last ps = some s) : ∀ p ∈ ps, 2 ≤ p ∧ p < next := by
  induction ps generalizing seen last with
  | nil => intro p hp; cases hp
  | cons q ps ih =>
    rw [pgsB] at h
    split at h
    · next hq =>
      intro p hp
      rcases List.mem_cons.1 hp with rfl | hp
      · exact ⟨hq.1, hq.2.1⟩
      · exact ih h p hp
    · cases h
theorem freesB_in {tx next : Int} {seen : List Int} {last : Int} {fs : List (Int × List Int)} (h0 : 0 ≤ last) (h : freesB tx next seen last fs = true) : ∀ f ∈ fs, 1 ≤ f.1 ∧ f.1 ≤ tx ∧ 1 ≤ f.2.length ∧ f.2.length ≤ 40 ∧ ∀ p ∈ f.2, 2 ≤ p ∧ p < next := by
  induction fs generalizing seen last with
  | nil => intro p hp; cases hp
  | cons g fs ih =>
    rw [freesB] at h
    split at h
    · next hq =>
      split at h
      · cases h
      · next s hs =>
        intro f hf
        rcases List.mem_cons.1 hf with rfl | hf
        · exact ⟨by omega, hq.2.1, hq.2.2.1, hq.2.2.2, pgsB_in hs⟩
        · exact ih (by omega) h f hf
    · cases h
theorem ok_parts {m : Mt} (h : m.ok = true) : (0 ≤ m.tx ∧ m.tx ≤ 100000 ∧ 2 ≤ m.next ∧ m.next ≤ 40 ∧ (m.root = 0 ∨ 2 ≤ m.root ∧ m.root < m.next) ∧ m.fs.length ≤ 20) ∧ ∀ f ∈ m.fs, 1 ≤ f.1 ∧ f.1 ≤ m.tx ∧ 1 ≤ f.2.length ∧ f.2.length ≤ 40 ∧ ∀ p ∈ f.2, 2 ≤ p ∧ p < m.next := by
  rw [Mt.ok, Bool.and_eq_true, headOkB, decide_eq_true_eq] at h
  exact ⟨h.1, freesB_in (Int.le_refl _) h.2⟩
theorem nums_in {m : Mt} (h : m.ok = true) : ∀ n ∈ m.nums, 0 ≤ n ∧ n ≤ 100000 := by
  obtain ⟨⟨h1, h2, h3, h4, h5, h6⟩, h7⟩ := ok_parts h
  intro n hn
  rw [Mt.nums] at hn
  simp only [List.mem_cons] at hn
  rcases hn with rfl | rfl | rfl | rfl | hn
  · omega
  · omega
  · omega
  · omega
  · rw [freeNums, List.mem_flatMap] at hn
    obtain ⟨f, hf, hn⟩ := hn
    obtain ⟨g1, g2, g3, g4, g5⟩ := h7 f hf
    simp only [List.mem_cons] at hn
    rcases hn with rfl | rfl | hn
    · omega
    · omega
    · have := g5 n hn; omega
theorem nums_len {m : Mt} (h : m.ok = true) : m.nums.length ≤ 844 := by
  obtain ⟨⟨h1, h2, h3, h4, h5, h6⟩, h7⟩ := ok_parts h
  have := freeNums_len m.fs (fun f hf => (h7 f hf).2.2.2.1)
  simp [Mt.nums]
  omega
theorem nums_size {m : Mt} (h : m.ok = true) : (numsB m.nums).size ≤ 4220 ∧ 4 ≤ (numsB m.nums).size := by
  rw [numsB_size]
  have h1 := numsL_size m.nums
  have h2 := nums_len h
  have h3 : 4 ≤ m.nums.length := by simp [Mt.nums]
  omega
def MSt (tx root next : Int) (fs : List (Int × List Int)) (k : Nat) (seen : List Int) (last : Int) : Prop :=
  seen.length ≤ 1 + 40 * k ∧ freesB tx next seen last (fs.drop k) = freesB tx next [root] 0 fs ∧ 0 ≤ last ∧ (k = 0 → last = 0) ∧ (∀ f, 0 < k → fs[k - 1]? = some f → f.1 = last) ∧ root ∈ seen ∧ ∀ x ∈ seen, x = root ∨ (2 ≤ x ∧ x < next)
def PSt (next : Int) (seen0 ps : List Int) (j : Nat) (seen : List Int) (prev : Int) : Prop :=
  seen.length = seen0.length + j ∧ pgsB next seen prev (ps.drop j) = pgsB next seen0 1 ps ∧ (j = 0 → prev = 1) ∧ (∀ x, 0 < j → ps[j - 1]? = some x → x = prev) ∧ (0 < j → prev ∈ seen) ∧ (∀ x, x ∈ seen0 → x ∈ seen) ∧ ∀ x ∈ seen, x ∈ seen0 ∨ (2 ≤ x ∧ x < next)
theorem mst_start (tx root next : Int) (fs : List (Int × List Int)) : MSt tx root next fs 0 [root] 0 :=
  ⟨by simp, by simp, Int.le_refl _, fun _ => rfl, fun f h => by omega, by simp, fun x hx => Or.inl (by simpa using hx)⟩
theorem drop_at {α : Type} {l : List α} {k : Nat} {x : α} (h : l[k]? = some x) : l.drop k = x :: l.drop (k + 1) := by
  obtain ⟨hk, e⟩ := List.getElem?_eq_some_iff.1 h
  rw [List.drop_eq_getElem_cons hk, e]
theorem mst_end {tx root next : Int} {fs : List (Int × List Int)} {k : Nat} {seen : List Int} {last : Int} (h : MSt tx root next fs k seen last) (hk : fs.length ≤ k) : freesB tx next [root] 0 fs = true := by
  rw [← h.2.1, List.drop_eq_nil_of_le hk, freesB]
theorem mst_bad {tx root next : Int} {fs : List (Int × List Int)} {k : Nat} {seen : List Int} {last ftx : Int} {ps : List Int} (h : MSt tx root next fs k seen last) (hf : fs[k]? = some (ftx, ps)) (hb : ¬ (last < ftx ∧ ftx ≤ tx ∧ 1 ≤ ps.length ∧ ps.length ≤ 40)) : freesB tx next [root] 0 fs = false := by
  rw [← h.2.1, drop_at hf, freesB, if_neg hb]
theorem mst_none {tx root next : Int} {fs : List (Int × List Int)} {k : Nat} {seen : List Int} {last ftx : Int} {ps : List Int} (h : MSt tx root next fs k seen last) (hf : fs[k]? = some (ftx, ps)) (hb : pgsB next seen 1 ps = none) : freesB tx next [root] 0 fs = false := by
  rw [← h.2.1, drop_at hf, freesB]
  split
  · rw [hb]
  · rfl
theorem mst_next {tx root next : Int} {fs : List (Int × List Int)} {k : Nat} {seen s : List Int} {last ftx : Int} {ps : List Int} (h : MSt tx root next fs k seen last) (hf : fs[k]? = some (ftx, ps)) (hb : last < ftx ∧ ftx ≤ tx ∧ 1 ≤ ps.length ∧ ps.length ≤ 40)
    {prev : Int} (hp : PSt next seen ps ps.length s prev) : MSt tx root next fs (k + 1) s ftx := by
  obtain ⟨p1, p2, p3, p4, p5, p6, p7⟩ := hp
  rw [List.drop_length, pgsB] at p2
  refine ⟨by have := h.1; omega, ?_, by have := h.2.2.1; omega, fun e => by omega, fun f _ e => ?_, p6 _ h.2.2.2.2.2.1, fun x hx => ?_⟩
  · rw [← h.2.1, drop_at hf, freesB, if_pos hb]
    simp only [← p2]
  · rw [Nat.add_sub_cancel, hf] at e
    injection e with e
    rw [← e]
  · rcases p7 x hx with h1 | h1
    · exact h.2.2.2.2.2.2 x h1
    · exact Or.inr h1
theorem pst_start (next : Int) (seen ps : List Int) : PSt next seen ps 0 seen 1 := ⟨rfl, by simp, fun _ => rfl, fun x h => by omega, fun h => by omega, fun x h => h, fun x h => Or.inl h⟩
theorem pst_bad {next : Int} {seen0 ps : List Int} {j : Nat} {seen : List Int} {prev p : Int} (h : PSt next seen0 ps j seen prev) (hf : ps[j]? = some p) (hb : ¬ (2 ≤ p ∧ p < next ∧ prev < p ∧ p ∉ seen)) : pgsB next seen0 1 ps = none := by
  rw [← h.2.1, drop_at hf, pgsB, if_neg hb]
theorem pst_next {next : Int} {seen0 ps : List Int} {j : Nat} {seen : List Int} {prev p : Int} (h : PSt next seen0 ps j seen prev) (hf : ps[j]? = some p) (hb : 2 ≤ p ∧ p < next ∧ prev < p ∧ p ∉ seen) : PSt next seen0 ps (j + 1) (seen ++ [p]) p := by
  refine ⟨by rw [List.length_append]; have := h.1; simp; omega, ?_, fun e => by omega, fun x _ e => ?_, fun _ => by simp, fun x hx => List.mem_append_left _ (h.2.2.2.2.2.1 x hx), fun x hx => ?_⟩
  · rw [← h.2.1, drop_at hf, pgsB, if_pos hb]
  · rw [Nat.add_sub_cancel, hf] at e
    injection e with e
    exact e.symm
  · rcases List.mem_append.1 hx with h1 | h1
    · exact h.2.2.2.2.2.2 x h1
    · rw [List.mem_singleton] at h1
      subst h1
      exact Or.inr ⟨hb.1, hb.2.1⟩
end Go.Proofs.YtmmepgincbngeaaDoor
