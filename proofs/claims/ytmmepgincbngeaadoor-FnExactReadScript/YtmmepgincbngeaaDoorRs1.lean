/-
  Facts and contracts that the law's own text rests on, by their texts' names: Plain1, Own, Plain2, Plain3, Plain6, PartsSpec, Plain5, Dec, Row, PutRow, Frame, IntRow, Node, DiskN.
-/
import Derived.Lib.UnsafeStr
import Derived.WalkKit
import Derived.Laws.BytesArg
import Derived.Laws.IdiomStrings
import Derived.OwnWalk
import Derived.Test.YtmmepgincbngeaaDoorProg
import Derived.Lib.Fields
import Derived.Lib.Strings
import Derived.Deep.LoopGhost
import Derived.WalkSmall
import Derived.WalkSpells
import Derived.Laws.Concat
import Derived.Below
import Derived.BigQuiet
import Derived.Deep.QuietTactic
import Derived.Laws.OwnMore
import Derived.Outline
import Derived.Deep.RegionHeld3
namespace Go.Proofs.YtmmepgincbngeaaDoor
open Go.RowKit
theorem hide {p : Prop} (h : p) : Hid p := h
def venc : Nat → Nat → List UInt8
  | 0, n => [UInt8.ofNat n]
  | f + 1, n => if n < 128 then [UInt8.ofNat n] else UInt8.ofNat (n % 128 + 128) :: venc f (n / 128)
def vtext (n : Nat) : List UInt8 := venc 4 n
theorem venc_last (f n : Nat) (h : n < 128) : venc f n = [UInt8.ofNat n] := by
  cases f with
  | zero => rfl
  | succ f => simp [venc, h]
theorem venc_step (f n : Nat) (h : 128 ≤ n) (hf : n < 128 ^ (f + 1)) :
    ∃ g, f = g + 1 ∧ n / 128 < 128 ^ (g + 1) ∧ venc f n = UInt8.ofNat (n % 128 + 128) :: venc g (n / 128) := by
  cases f with
  | zero => simp at hf; omega
  | succ g =>
    refine ⟨g, rfl, ?_, ?_⟩
    · rw [Nat.pow_succ] at hf
      exact Nat.div_lt_of_lt_mul (by rw [Nat.mul_comm]; exact hf)
    · simp [venc, Nat.not_lt.2 h]
theorem venc_length (f n : Nat) : 1 ≤ (venc f n).length ∧ (venc f n).length ≤ f + 1 := by
  induction f generalizing n with
  | zero => simp [venc]
  | succ f ih =>
    unfold venc
    split
    · simp
    · have := ih (n / 128)
      simp; omega
theorem vtext_length (n : Nat) : 1 ≤ (vtext n).length ∧ (vtext n).length ≤ 5 := venc_length 4 n
theorem toNat_ofNat8 (k : Nat) (h : k < 256) : (UInt8.ofNat k).toNat = k := by
  simp [UInt8.toNat_ofNat']; omega
theorem cells_snoc (l : List UInt8) (k : Nat) (h : k < 256) : Lib.byteCells l ++ [Value.int .u8 (k : Int)] = Lib.byteCells (l ++ [UInt8.ofNat k]) := by
  simp [Lib.byteCells]; omega
theorem pow5 (n : Nat) (h : n ≤ 1000000000) : n < 128 ^ (4 + 1) := by
  simp; omega
open Go.RowKit
theorem string_own {P : Program} {w : World} {B src dst e : TypeId} {v : Value} {l : List UInt8} (hs : P.underlying src = some (.slice e)) (he : P.underlying e = some (.int .u8)) (hd : P.underlying dst = some .string)
    (hown : w.ownsRow B e 1 v l.length (Lib.byteCells l)) : (convert src dst v).run P w = .ok (.string ⟨l.toArray⟩) w := by
  rcases hown.2 with ⟨rfl, h0⟩ | ⟨g, cap, cur, rfl, -, -, -, -, -, -⟩
  · rw [run_convert_bytes_nil w src e hs he 0 0 dst hd]
    obtain rfl : l = [] := List.length_eq_zero_iff.1 h0
    rfl
  · exact run_convert_bytes_back (P := P) w src dst e ⟨g, 0, none⟩ cap l hs he hd (fun j hj => hown.cells (g := g) rfl j _ (by simp [Lib.byteCells, hj]))
theorem below_grow {B : Nat} {w wr w0 w1 : World} {v : Value} {n : Nat} {xs : List Value} {e sz : Nat} (hb : Below B w wr) (hB : B ≤ wr.heap.size) (hown : wr.ownsRow B e sz v n xs) (h0 : Below B wr w0) (hg : w0.grownBy w1 v.ownBlock) : Below B w w1 :=
  (hb.trans h0).grown hg (by have := h0.size; omega) (fun k hk => (hown.lt k hk).1)
open Go.RowKit
def byt (s : ByteArray) (i : Nat) : Nat := if h : i < s.size then s[i].toNat else 0
theorem byt_lt (s : ByteArray) (i : Nat) : byt s i < 256 := by
  unfold byt
  split
  · exact UInt8.toNat_lt _
  · omega
theorem byt_eq (s : ByteArray) (i : Nat) (h : i < s.size) : s[i].toNat = byt s i := by simp [byt, h]
theorem wrap64_small (n : Int) (h0 : 0 ≤ n) (h1 : n ≤ 9223372036854775807) : wrap64 n = n := IntWalk.wrap64_in n ⟨by omega, by omega⟩
open Go.RowKit
theorem take_byt (s : ByteArray) (k : Nat) (h : k < s.size) : s.data.toList.take (k + 1) = s.data.toList.take k ++ [UInt8.ofNat (byt s k)] := by
  have hl : k < s.data.toList.length := by rw [Array.length_toList]; exact h
  rw [List.take_succ_eq_append_getElem hl]
  congr 2
  rw [← byt_eq s k h]
  simp
  rfl
open Go.RowKit
def strV (l : List UInt8) : Value := .string ⟨l.toArray⟩
def strVs (L : List (List UInt8)) : List Value := L.map strV
def plainB (s : ByteArray) : Bool := s.data.toList.all fun b => decide (32 ≤ b.toNat ∧ b.toNat ≤ 126)
theorem plainB_yes (s : ByteArray) (h : ∀ i, i < s.size → 32 ≤ byt s i ∧ byt s i ≤ 126) : plainB s = true := by
  rw [plainB, List.all_eq_true]
  intro b hb
  obtain ⟨i, hi, rfl⟩ := List.mem_iff_getElem.1 hb
  have hi' : i < s.size := by rw [Array.length_toList] at hi; exact hi
  have := h i hi'
  rw [← byt_eq s i hi'] at this
  have e : s.data.toList[i] = s[i] := by simp; rfl
  rw [e]
  exact decide_eq_true this
theorem plainB_at (s : ByteArray) (h : plainB s = true) (i : Nat) (hi : i < s.size) : 32 ≤ byt s i ∧ byt s i ≤ 126 := by
  rw [plainB, List.all_eq_true] at h
  have hm : s[i] ∈ s.data.toList := by
    have : s.data[i]'hi ∈ s.data := Array.getElem_mem _
    exact Array.mem_toList_iff.2 this
  have := of_decide_eq_true (h _ hm)
  rw [byt_eq s i hi] at this
  exact this
theorem plainB_no (s : ByteArray) (i : Nat) (hi : i < s.size) (h : ¬ (32 ≤ byt s i ∧ byt s i ≤ 126)) : plainB s = false := by
  rw [← Bool.not_eq_true]
  exact fun e => h (plainB_at s e i hi)
def partsOut (s : ByteArray) : List (List UInt8) × Bool :=
  if s.size ≤ 600 ∧ plainB s = true ∧ (Lib.fields s.data.toList).length ≤ 10 then (Lib.fields s.data.toList, true) else ([], false)
theorem drop_byt (s : ByteArray) (k : Nat) (h : k < s.size) : s.data.toList.drop k = UInt8.ofNat (byt s k) :: s.data.toList.drop (k + 1) := by
  have hl : k < s.data.toList.length := by rw [Array.length_toList]; exact h
  rw [List.drop_eq_getElem_cons hl]
  congr 1
  rw [← byt_eq s k h]
  simp
  rfl
def cutL (s : ByteArray) (b k : Nat) : List UInt8 := (s.extract b k).data.toList
theorem cutL_eq (s : ByteArray) (b k : Nat) : cutL s b k = (s.data.toList.drop b).take (k - b) := Lib.extract_data s b k
theorem cutL_same (s : ByteArray) (b : Nat) : cutL s b b = [] := by rw [cutL_eq]; simp
theorem cutL_snoc (s : ByteArray) (b k : Nat) (hb : b ≤ k) (h : k < s.size) : cutL s b (k + 1) = cutL s b k ++ [UInt8.ofNat (byt s k)] := by
  rw [cutL_eq, cutL_eq]
  have hl : s.data.toList.length = s.size := by rw [Array.length_toList]; rfl
  rw [show k + 1 - b = (k - b) + 1 from by omega, List.take_succ_eq_append_getElem (by rw [List.length_drop]; omega)]
  congr 2
  rw [← byt_eq s k h, List.getElem_drop]
  simp [show b + (k - b) = k from by omega]
  rfl
theorem cutL_length (s : ByteArray) (b k : Nat) (hb : b ≤ k) (h : k ≤ s.size) : (cutL s b k).length = k - b := by
  have hl : s.data.toList.length = s.size := by rw [Array.length_toList]; rfl
  rw [cutL_eq, List.length_take, List.length_drop]; omega
theorem strV_cut (s : ByteArray) (b k : Nat) : strV (cutL s b k) = .string (s.extract b k) := by
  unfold strV cutL
  rw [Array.toArray_toList]
theorem isSp_plain (y : Nat) (h1 : 32 ≤ y) (h2 : y ≤ 126) : Lib.isSp (UInt8.ofNat y) = decide (y = 32) := by
  have key : ∀ y : Fin 127, 32 ≤ y.val → Lib.isSp (UInt8.ofNat y.val) = decide (y.val = 32) := by decide +kernel
  exact key ⟨y, by omega⟩ h1
def toCome (s : ByteArray) (b k : Nat) : List (List UInt8) := Lib.fieldsGo (cutL s b k) (s.data.toList.drop k)
theorem toCome_start (s : ByteArray) : toCome s 0 0 = Lib.fields s.data.toList := by
  rw [toCome, cutL_same, Lib.fields]; rfl
theorem toCome_letter (s : ByteArray) (b k : Nat) (hb : b ≤ k) (h : k < s.size) (h1 : 32 ≤ byt s k) (h2 : byt s k ≤ 126) (h3 : byt s k ≠ 32) : toCome s b k = toCome s b (k + 1) := by
  rw [toCome, drop_byt s k h, Lib.fieldsGo, isSp_plain _ h1 h2, if_neg (by simpa using h3), toCome, cutL_snoc s b k hb h]
theorem toCome_blank (s : ByteArray) (b k : Nat) (hb : b < k) (h : k < s.size) (h1 : byt s k = 32) : toCome s b k = cutL s b k :: toCome s (k + 1) (k + 1) := by
  have hne : (cutL s b k).isEmpty = false := by
    rw [← Bool.not_eq_true, List.isEmpty_iff, ← List.length_eq_zero_iff, cutL_length s b k (by omega) (by omega)]; omega
  rw [toCome, drop_byt s k h, Lib.fieldsGo, isSp_plain _ (by omega) (by omega), if_pos (by simpa using h1), hne, toCome, cutL_same]
  rfl
theorem toCome_blank0 (s : ByteArray) (k : Nat) (h : k < s.size) (h1 : byt s k = 32) : toCome s k k = toCome s (k + 1) (k + 1) := by
  rw [toCome, drop_byt s k h, Lib.fieldsGo, isSp_plain _ (by omega) (by omega), if_pos (by simpa using h1), cutL_same, toCome, cutL_same]
  rfl
theorem toCome_end (s : ByteArray) (b : Nat) (hb : b < s.size) : toCome s b s.size = [cutL s b s.size] := by
  have hne : (cutL s b s.size).isEmpty = false := by
    rw [← Bool.not_eq_true, List.isEmpty_iff, ← List.length_eq_zero_iff, cutL_length s b s.size (by omega) (by omega)]; omega
  have hd : s.data.toList.drop s.size = [] := List.drop_of_length_le (by rw [Array.length_toList]; exact Nat.le_refl _)
  rw [toCome, hd, Lib.fieldsGo, hne]; rfl
theorem toCome_end0 (s : ByteArray) : toCome s s.size s.size = [] := by
  have hd : s.data.toList.drop s.size = [] := List.drop_of_length_le (by rw [Array.length_toList]; exact Nat.le_refl _)
  rw [toCome, hd, cutL_same, Lib.fieldsGo]; rfl
open Go.RowKit
theorem Tryd.infoString : (Tryd.prog.info? 9).map (fun i => (i.zero, i.size, i.bytes)) = some (some (.string ByteArray.empty), 1, 16) := by kernel_rfl
theorem own_none (w : World) (B : Nat) (hB : B ≤ w.heap.size) : (w.alloc (.cells #[] 9)).ownsRow B 9 1 (.slice (some ⟨w.heap.size, 0, none⟩) 0 0) ([] : List (List UInt8)).length (strVs []) := by
  simpa [strVs] using World.ownsRow_lit (base := B) (e := 9) (size := 1) w #[] 0 hB (by unfold maxLen; omega) (by simp)
theorem one_str (w : World) (x : Value) : ∀ (j : Nat) (u : Value), [x][j]? = some u → (w.alloc (Obj.cells #[x] 9)).cell? ((⟨w.heap.size, 0, none⟩ : Addr).add j) = some u := by
  intro j u hj
  match j, hj with
  | 0, hj => simp at hj; subst hj; simp [Addr.add]
theorem own_snocS {w1 : World} {B n : Nat} {v : Value} {L : List (List UInt8)} {x : List UInt8} (hn : n = L.length) (h : w1.ownsRow B 9 1 v (n + 1) (strVs L ++ [strV x])) :
    w1.ownsRow B 9 1 v (L ++ [x]).length (strVs (L ++ [x])) := by
  subst hn
  simpa [strVs] using h
theorem own_shape {w : World} {B e sz n : Nat} {v : Value} {xs : List Value} (h : w.ownsRow B e sz v n xs) : ∃ ao cap, v = .slice ao n cap := by
  rcases h.2 with ⟨rfl, rfl⟩ | ⟨g, cap, cur, rfl, -⟩
  · exact ⟨none, 0, rfl⟩
  · exact ⟨_, _, rfl⟩
set_option maxHeartbeats 4000000 in
set_option maxRecDepth 100000 in
theorem specPartsOf_any (s : ByteArray) (hs : s.size ≤ 1048576) (w : World) :
    Calls Tryd.prog 22 #[.string s] w fun e w' => ∃ v, e = .returned (.tuple #[v, .bool (partsOut s).2]) ∧ w'.ownsRow w.heap.size 9 1 v (partsOut s).1.length (strVs (partsOut s).1) ∧ Below w.heap.size w w' := by
  obtain ⟨i0, hi, hz0, hz1, hz2⟩ := info_parts Tryd.infoString
  by_cases hbig : 600 < s.size
  · have HP : Hid (partsOut s = ([], false)) := hide (by rw [partsOut, if_neg (by omega)])
    go_enter Tryd.func22, Tryd.ntmps22
    go_wp2
    go_ret2
    rw [HP.out]
    exact ⟨_, rfl, own_none w w.heap.size (Nat.le_refl _), (Below.refl _ _).alloc (Nat.le_refl _) _⟩
  · have hq : decide ((600 : Int) < (s.size : Int)) = false := by simp; omega
    go_enter Tryd.func22, Tryd.ntmps22
    go_wp2
    go_loopg [4, 5, 6] (s.size + 2) (fun g v bv iv wr => ∃ (k b : Nat) (D : List (List UInt8)), k ≤ s.size + 1 ∧ b ≤ k ∧ bv = .int .i64 (b : Int) ∧ iv = .int .i64 (k : Int) ∧ g + k = s.size + 2 ∧
      D.length ≤ k ∧ Hid (∀ i, i < k → i < s.size → 32 ≤ byt s i ∧ byt s i ≤ 126) ∧ Hid (k ≤ s.size → D ++ toCome s b k = Lib.fields s.data.toList) ∧ Hid (s.size < k → D = Lib.fields s.data.toList) ∧
      wr.ownsRow w.heap.size 9 1 v D.length (strVs D) ∧ Below w.heap.size w wr)
    case atStart => exact ⟨0, 0, [], by omega, by omega, rfl, rfl, by omega, by simp, hide (fun i h => by omega), hide (fun _ => by rw [toCome_start]; rfl), hide (fun h => by omega), own_none w w.heap.size (Nat.le_refl _), (Below.refl _ _).alloc (Nat.le_refl _) _⟩
    case round =>
      obtain ⟨k, b, D, hk, hbk, rfl, rfl, hg, hDk, HA, HT, HE, hown, hb⟩ := hrel
      have HG := hide hg
      clear hg
      have hB := hb.size
      by_cases hin : k ≤ s.size
      · by_cases hlt : k < s.size
        · obtain ⟨y, hy⟩ : ∃ y, y = byt s k := ⟨_, rfl⟩
          have hyb : y < 256 := by rw [hy]; exact byt_lt s _
          have hs1 : s[k].toNat = y := by rw [hy]; exact byt_eq s _ hlt
          have HY := hide hy
          clear hy
          by_cases hpl : 32 ≤ y ∧ y ≤ 126
          · obtain ⟨hp1, hp2⟩ := hpl
            have HA' : Hid (∀ i, i < k + 1 → i < s.size → 32 ≤ byt s i ∧ byt s i ≤ 126) := hide (fun i h1 h2 => by by_cases e : i = k; (rw [e, ← HY.out]; exact ⟨hp1, hp2⟩); exact HA.out i (by omega) h2)
            by_cases hbl : y = 32
            · have hyn : ((y : Int) != 32) = false := by rw [bne_eq_false_iff_eq]; omega
              have HB : Hid (byt s k = 32) := hide (by rw [← HY.out]; exact hbl)
              clear hbl
              by_cases hw : b < k
              · have hsl : ∀ wx : World, (Instr.slice 9 (.string s) (some (.int .i64 (b : Int))) (some (.int .i64 (k : Int))) none).run Tryd.prog wx = .ok (.string (s.extract b k)) wx := fun wx => by
                  have := run_slice_string (P := Tryd.prog) wx 9 s .i64 .i64 (b : Int) (k : Int) Tryd.underlying9 (by omega) (by omega) (by omega)
                  rw [this, Int.toNat_natCast, Int.toNat_natCast]
                go_wp2_with (at_builtin; refine wpList_append_own _ rfl _ _ 50 rfl w.heap.size 9 i0 (.string ByteArray.empty) 1 16 Tryd.underlying50 hi hz0 hz1 hz2 rfl (by decide) _ _ _ rfl (hown.alloc _) ⟨wr.heap.size, 0, none⟩ 1 1 [.string (s.extract b k)] rfl rfl ?c1 ?c2 ?c3 ?c4 ?c5 ?_)
                case c1 => exact one_str _ _
                case c2 => intro u hu; simp at hu; subst hu; rfl
                case c3 => unfold maxLen; omega
                case c4 => omega
                case c5 => simp; omega
                intro v' w1 hown' hgrow _
                have hb1 : Below w.heap.size w w1 := below_grow hb hB hown ((Below.refl _ _).alloc hB _) hgrow
                have hown2 : w1.ownsRow w.heap.size 9 1 v' (D ++ [cutL s b k]).length (strVs (D ++ [cutL s b k])) := own_snocS rfl (by rw [strV_cut]; exact hown')
                clear hown' hgrow hown hb
                go_wp2
                go_roundg (gk - 1)
                case measure => have := HG.out; omega
                case rel => exact ⟨k + 1, k + 1, D ++ [cutL s b k], by omega, by omega, by go_num, by go_num, by have := HG.out; omega, by simp; omega, HA', hide (fun _ => by rw [← HT.out hin, toCome_blank s b k hw hlt HB.out]; simp), hide (fun h => by omega), hown2, hb1⟩
              · go_wp2
                go_roundg (gk - 1)
                case measure => have := HG.out; omega
                case rel => exact ⟨k + 1, k + 1, D, by omega, by omega, by go_num, by go_num, by have := HG.out; omega, by omega, HA', hide (fun _ => by have e : b = k := (by omega); rw [← HT.out hin, e, toCome_blank0 s k hlt HB.out]), hide (fun h => by omega), hown, hb⟩
            · have hyn : ((y : Int) != 32) = true := by rw [bne_iff_ne]; omega
              have HB : Hid (byt s k ≠ 32) := hide (by rw [← HY.out]; exact hbl)
              clear hbl
              go_wp2
              go_roundg (gk - 1)
              case measure => have := HG.out; omega
              case rel => exact ⟨k + 1, b, D, by omega, by omega, rfl, by go_num, by have := HG.out; omega, by omega, HA', hide (fun _ => by rw [← HT.out hin, toCome_letter s b k hbk hlt (by rw [← HY.out]; exact hp1) (by rw [← HY.out]; exact hp2) HB.out]), hide (fun h => by omega), hown, hb⟩
          · have HP : Hid (partsOut s = ([], false)) := hide (by rw [partsOut, if_neg (fun h => by have := plainB_no s k hlt (by rw [← HY.out]; exact hpl); rw [this] at h; simp at h)])
            by_cases h1 : y < 32
            · clear hpl
              go_wp2
              go_ret2
              rw [HP.out]
              exact ⟨_, rfl, own_none wr w.heap.size hB, hb.alloc hB _⟩
            · have h2 : 126 < y := by omega
              clear hpl
              go_wp2
              go_ret2
              rw [HP.out]
              exact ⟨_, rfl, own_none wr w.heap.size hB, hb.alloc hB _⟩
        · have hks : decide ((k : Int) < (s.size : Int)) = false := by simp; omega
          have HK : Hid (k = s.size) := hide (by omega)
          have HA' : Hid (∀ i, i < k + 1 → i < s.size → 32 ≤ byt s i ∧ byt s i ≤ 126) := hide (fun i h1 h2 => HA.out i (by have := HK.out; omega) h2)
          by_cases hw : b < k
          · have hsl : ∀ wx : World, (Instr.slice 9 (.string s) (some (.int .i64 (b : Int))) (some (.int .i64 (k : Int))) none).run Tryd.prog wx = .ok (.string (s.extract b k)) wx := fun wx => by
              have := run_slice_string (P := Tryd.prog) wx 9 s .i64 .i64 (b : Int) (k : Int) Tryd.underlying9 (by omega) (by omega) (by omega)
              rw [this, Int.toNat_natCast, Int.toNat_natCast]
            go_wp2_with (at_builtin; refine wpList_append_own _ rfl _ _ 50 rfl w.heap.size 9 i0 (.string ByteArray.empty) 1 16 Tryd.underlying50 hi hz0 hz1 hz2 rfl (by decide) _ _ _ rfl (hown.alloc _) ⟨wr.heap.size, 0, none⟩ 1 1 [.string (s.extract b k)] rfl rfl ?d1 ?d2 ?d3 ?d4 ?d5 ?_)
            case d1 => exact one_str _ _
            case d2 => intro u hu; simp at hu; subst hu; rfl
            case d3 => unfold maxLen; omega
            case d4 => omega
            case d5 => simp; omega
            intro v' w1 hown' hgrow _
            have hb1 : Below w.heap.size w w1 := below_grow hb hB hown ((Below.refl _ _).alloc hB _) hgrow
            have hown2 : w1.ownsRow w.heap.size 9 1 v' (D ++ [cutL s b k]).length (strVs (D ++ [cutL s b k])) := own_snocS rfl (by rw [strV_cut]; exact hown')
            clear hown' hgrow hown hb
            go_wp2
            go_roundg (gk - 1)
            case measure => have := HG.out; omega
            case rel => exact ⟨k + 1, k + 1, D ++ [cutL s b k], by omega, by omega, by go_num, by go_num, by have := HG.out; omega, by simp; omega, HA', hide (fun h => by omega), hide (fun _ => by have e := HK.out; have h := HT.out hin; rw [e, toCome_end s b (by omega)] at h; rw [e]; exact h), hown2, hb1⟩
          · go_wp2
            go_roundg (gk - 1)
            case measure => have := HG.out; omega
            case rel => exact ⟨k + 1, k + 1, D, by omega, by omega, by go_num, by go_num, by have := HG.out; omega, by omega, HA', hide (fun h => by omega), hide (fun _ => by have e := HK.out; have e2 : b = s.size := (by omega); have h := HT.out hin; rw [e, e2, toCome_end0, List.append_nil] at h; exact h), hown, hb⟩
      · have HF := hide (HE.out (by omega))
        have HPl : Hid (plainB s = true) := hide (plainB_yes s (fun i hi => HA.out i (by omega) hi))
        obtain ⟨ao, cap, rfl⟩ := own_shape hown
        by_cases h10 : 10 < D.length
        · have HP : Hid (partsOut s = ([], false)) := hide (by rw [partsOut, if_neg (fun h => by have := h.2.2; rw [← HF.out] at this; omega)])
          go_wp2
          go_ret2
          rw [HP.out]
          exact ⟨_, rfl, own_none wr w.heap.size hB, hb.alloc hB _⟩
        · have HP : Hid (partsOut s = (D, true)) := hide (by rw [partsOut, if_pos ⟨by omega, HPl.out, by rw [← HF.out]; omega⟩, ← HF.out])
          go_wp2
          go_ret2
          rw [HP.out]
          exact ⟨_, rfl, hown, hb⟩
open Go.RowKit
def decF : Nat → Nat → List UInt8
  | 0, _ => []
  | f + 1, m => if m = 0 then [] else decF f (m / 10) ++ [UInt8.ofNat (48 + m % 10)]
theorem decF_zero (f : Nat) : decF f 0 = [] := by
  cases f <;> simp [decF]
theorem decF_step (f m : Nat) (h : m ≠ 0) (hf : m < 10 ^ f) : ∃ g, f = g + 1 ∧ m / 10 < 10 ^ g ∧ decF f m = decF g (m / 10) ++ [UInt8.ofNat (48 + m % 10)] := by
  cases f with
  | zero => simp at hf; omega
  | succ g =>
    refine ⟨g, rfl, ?_, ?_⟩
    · rw [Nat.pow_succ] at hf
      exact Nat.div_lt_of_lt_mul (by rw [Nat.mul_comm]; exact hf)
    · rw [decF, if_neg h]
def decN (m : Nat) : List UInt8 := if m = 0 then [48] else decF 20 m
theorem pow20 (m : Nat) (h : m ≤ 9223372036854775808) : m < 10 ^ 20 := by
  have : (10 : Nat) ^ 20 = 100000000000000000000 := by decide
  omega
theorem str_cons (c : UInt8) (L : List UInt8) : (⟨#[c]⟩ ++ ⟨L.toArray⟩ : ByteArray) = ⟨(c :: L).toArray⟩ := by
  apply ByteArray.ext
  simp [ByteArray.data_append]
def isD (y : Nat) : Prop := 48 ≤ y ∧ y ≤ 57
def valD (s : ByteArray) : Nat → Nat
  | 0 => 0
  | k + 1 => 10 * valD s k + (byt s k - 48)
def okD (s : ByteArray) : Prop := 1 ≤ s.size ∧ (∀ i, i < s.size → isD (byt s i)) ∧ (s.size = 1 ∨ byt s 0 ≠ 48) ∧ valD s s.size ≤ 1000000000
theorem valD_mono (s : ByteArray) (k j : Nat) (h : k ≤ j) : valD s k ≤ valD s j := by
  induction j with
  | zero => obtain rfl : k = 0 := by omega
            exact Nat.le_refl _
  | succ j ih =>
    by_cases e : k = j + 1
    · rw [e]; exact Nat.le_refl _
    · have := ih (by omega)
      simp only [valD]; omega
theorem valD_pos (s : ByteArray) (k : Nat) (h0 : isD (byt s 0)) (h : byt s 0 ≠ 48) : 10 ^ k ≤ valD s (k + 1) := by
  induction k with
  | zero => simp only [valD, isD] at *; omega
  | succ k ih =>
    rw [valD, Nat.pow_succ]
    omega
theorem valD_small (s : ByteArray) (k : Nat) (h0 : byt s 0 = 48) (h : ∀ i, i < k + 1 → isD (byt s i)) : valD s (k + 1) < 10 ^ k := by
  induction k with
  | zero => simp only [valD]; omega
  | succ k ih =>
    have h1 := ih (fun i hi => h i (by omega))
    have h2 := h (k + 1) (by omega)
    rw [valD, Nat.pow_succ]
    simp only [isD] at h2
    omega
theorem valD_lt (s : ByteArray) (k : Nat) (h : ∀ i, i < k → isD (byt s i)) : valD s k < 10 ^ k := by
  induction k with
  | zero => simp [valD]
  | succ k ih =>
    have h1 := ih (fun i hi => h i (by omega))
    have h2 := h k (by omega)
    rw [valD, Nat.pow_succ]
    simp only [isD] at h2
    omega
theorem decF_short (f m j : Nat) (h : m < 10 ^ j) : (decF f m).length ≤ j := by
  induction j generalizing f m with
  | zero => obtain rfl : m = 0 := by simp at h; omega
            rw [decF_zero]; simp
  | succ j ih =>
    cases f with
    | zero => simp [decF]
    | succ f =>
      unfold decF
      split
      · simp
      · have := ih f (m / 10) (by rw [Nat.pow_succ] at h; exact Nat.div_lt_of_lt_mul (by rw [Nat.mul_comm]; exact h))
        simp; omega
theorem decF_take (s : ByteArray) (k f : Nat) (hf : k ≤ f) (hk : k ≤ s.size) (hd : ∀ i, i < k → isD (byt s i)) (h0 : byt s 0 ≠ 48) : decF f (valD s k) = s.data.toList.take k := by
  induction k generalizing f with
  | zero => rw [valD, decF_zero]; simp
  | succ k ih =>
    cases f with
    | zero => omega
    | succ f =>
      have hp := valD_pos s k (hd 0 (by omega)) h0
      have hpp : 0 < 10 ^ k := Nat.pow_pos (by omega)
      have hk' := hd k (by omega)
      simp only [isD] at hk'
      have e1 : valD s (k + 1) / 10 = valD s k := by rw [valD]; omega
      have e2 : 48 + valD s (k + 1) % 10 = byt s k := by rw [valD]; omega
      rw [decF, if_neg (by omega), e1, e2, ih f (by omega) (by omega) (fun i hi => hd i (by omega)), take_byt s k (by omega)]
theorem take_all (s : ByteArray) : s.data.toList.take s.size = s.data.toList := List.take_of_length_le (by rw [Array.length_toList]; exact Nat.le_refl _)
theorem len_data (s : ByteArray) : s.data.toList.length = s.size := by rw [Array.length_toList]; rfl
theorem decN_iff (s : ByteArray) (hs : s.size ≤ 10) (hd : ∀ i, i < s.size → isD (byt s i)) : decN (valD s s.size) = s.data.toList ↔ (1 ≤ s.size ∧ (s.size = 1 ∨ byt s 0 ≠ 48)) := by
  constructor
  · intro e
    have hl := congrArg List.length e
    rw [len_data] at hl
    by_cases hz : s.size = 0
    · rw [hz] at hl; simp [valD, decN] at hl
    · refine ⟨by omega, ?_⟩
      by_cases h1 : s.size = 1
      · exact Or.inl h1
      · refine Or.inr (fun h0 => ?_)
        obtain ⟨k, hk⟩ : ∃ k, s.size = k + 1 := ⟨s.size - 1, by omega⟩
        have hsm := valD_small s k h0 (fun i hi => hd i (by omega))
        rw [← hk] at hsm
        unfold decN at hl
        split at hl
        · simp at hl; omega
        · have := decF_short 20 _ k hsm
          omega
  · rintro ⟨h1, h2⟩
    by_cases h0 : byt s 0 = 48
    · have hs1 : s.size = 1 := by omega
      have hv : valD s s.size = 0 := by rw [hs1]; simp [valD, h0]
      have ht := take_byt s 0 (by omega)
      have ha := take_all s
      rw [hs1] at ha
      rw [hv, ← ha, ht, h0]
      simp [decN]
    · have hp := valD_pos s (s.size - 1) (hd 0 (by omega)) h0
      have hpp : 0 < 10 ^ (s.size - 1) := Nat.pow_pos (by omega)
      rw [show s.size - 1 + 1 = s.size from by omega] at hp
      rw [decN, if_neg (by omega), decF_take s s.size 20 (by omega) (Nat.le_refl _) hd h0, take_all]
theorem okD_small (s : ByteArray) (h : okD s) : s.size ≤ 10 := by
  obtain ⟨h1, h2, h3, h4⟩ := h
  rcases h3 with h3 | h3
  · omega
  · by_cases hs : s.size ≤ 10
    · exact hs
    · exfalso
      have hp := valD_pos s 10 (h2 0 (by omega)) h3
      have hm := valD_mono s (10 + 1) s.size (by omega)
      have : (10 : Nat) ^ 10 = 10000000000 := by decide
      omega
open Go.RowKit
set_option maxHeartbeats 400000 in
theorem figure_dec (i : Int) (x f : Nat) (hx : x < 10) (e : i = (x : Int)) (hf : f = 48 + x) (w : World) : Calls Tryd.prog 57 #[.int .i64 i] w fun e w' => e = .returned (.int .u8 (f : Int)) ∧ w = w' := by
  subst e hf
  go_enter Tryd.func57, Tryd.ntmps57
  go_wp2
  go_ret
  exact ⟨by simp, rfl⟩
theorem string_one (W : World) (f : Nat) (hf : f < 256) :
    (convert 22 9 (.slice (some ⟨W.heap.size, 0, none⟩) 1 1)).run Tryd.prog (W.alloc (.cells #[.int .u8 (f : Int)] 5)) = .ok (.string ⟨#[UInt8.ofNat f]⟩) (W.alloc (.cells #[.int .u8 (f : Int)] 5)) := by
  have h := run_convert_bytes_back (P := Tryd.prog) (W.alloc (.cells #[.int .u8 (f : Int)] 5)) 22 9 5 ⟨W.heap.size, 0, none⟩ 1 [UInt8.ofNat f] Tryd.underlying22 Tryd.underlying5 Tryd.underlying9
    (fun j hj => by
      obtain rfl : j = 0 := by simp at hj; omega
      simp [Addr.add, toNat_ofNat8 f hf])
  simpa using h
set_option maxHeartbeats 1000000 in
set_option maxRecDepth 100000 in
theorem specDecimal_pos (n : Nat) (h0 : 0 < n) (h1 : n ≤ 9223372036854775807) (w : World) :
    Calls Tryd.prog 40 #[.int .i64 (n : Int)] w fun e w' => e = .returned (.string ⟨(decF 20 n).toArray⟩) ∧ Below w.heap.size w w' := by
  have hne : ((n : Int) == 0) = false := by simp; omega
  have hnn : decide ((n : Int) < 0) = false := by simp
  go_enter Tryd.func40, Tryd.ntmps40
  go_wp2_with fail
  go_loopg [0, 4] 20 (fun g nv sv wr => ∃ (m : Nat) (t : ByteArray), nv = .int .i64 (m : Int) ∧ sv = .string t ∧ m ≤ 9223372036854775807 ∧ t.size ≤ 20 - g ∧ g ≤ 20 ∧ Hid (m < 10 ^ g) ∧ Hid (∃ L : List UInt8, t = ⟨L.toArray⟩ ∧ decF g m ++ L = decF 20 n) ∧ Below w.heap.size w wr)
  case atStart => exact ⟨n, ⟨#[]⟩, rfl, rfl, h1, Nat.le_refl 0, by omega, hide (pow20 n (by omega)), hide ⟨[], rfl, by simp⟩, Below.refl _ _⟩
  case round =>
    obtain ⟨m, t, rfl, rfl, hm, hts, hg20, HF, HL, hb⟩ := hrel
    have hB := hb.size
    by_cases hz : m = 0
    · have HE : Hid (t = ⟨(decF 20 n).toArray⟩) := hide (by
        obtain ⟨L, hL, hd⟩ := HL.out
        rw [hz, decF_zero, List.nil_append] at hd
        rw [hL, hd])
      have hmz : ((m : Int) != 0) = false := by rw [bne_eq_false_iff_eq]; omega
      clear hz
      go_wp2_with fail
      go_ret
      exact ⟨by rw [HE.out]; rfl, hb⟩
    · have hmz : ((m : Int) != 0) = true := by rw [bne_iff_ne]; omega
      obtain ⟨q, hq, hf', hdec⟩ := decF_step gk m hz HF.out
      have HC := hide (figure_dec ((m : Int) % 10) (m % 10) (48 + m % 10) (by omega) (by omega) rfl)
      obtain ⟨f, hf⟩ : ∃ f, f = 48 + m % 10 := ⟨_, rfl⟩
      rw [← hf] at HC
      have hf256 : f < 256 := by omega
      have hso := string_one wr f hf256
      have HQ := hide hq
      have HF' := hide hf'
      have HD : Hid (∃ L : List UInt8, (⟨#[UInt8.ofNat f]⟩ ++ t : ByteArray) = ⟨L.toArray⟩ ∧ decF q (m / 10) ++ L = decF 20 n) := hide (by
        obtain ⟨L, hL, hd⟩ := HL.out
        refine ⟨UInt8.ofNat f :: L, by rw [hL, str_cons], ?_⟩
        rw [← hd, hdec, hf, List.append_assoc]; rfl)
      have hg1 : 1 ≤ gk := by omega
      clear hq hf' hdec hf hz
      go_wp2_with fail
      refine (HC.out _).mono ?_
      rintro e w1 ⟨rfl, rfl⟩
      go_wp2_with fail
      go_roundg q
      case measure => have := HQ.out; omega
      case rel => exact ⟨m / 10, ⟨#[UInt8.ofNat f]⟩ ++ t, by go_num, rfl, by omega, by have := HQ.out; have h1 : (⟨#[UInt8.ofNat f]⟩ : ByteArray).size = 1 := rfl; rw [ByteArray.size_append, h1]; omega, by have := HQ.out; omega, HF', HD, hb.alloc hB _⟩
set_option maxHeartbeats 400000 in
theorem specDecimal_zero (w : World) : Calls Tryd.prog 40 #[.int .i64 0] w fun e w' => e = .returned (.string ⟨#[48]⟩) ∧ w = w' := by
  go_enter Tryd.func40, Tryd.ntmps40
  go_wp2
  go_ret
  exact ⟨rfl, rfl⟩
theorem specDecimal_nat (n : Nat) (h1 : n ≤ 9223372036854775807) (w : World) :
    Calls Tryd.prog 40 #[.int .i64 (n : Int)] w fun e w' => e = .returned (.string ⟨(decN n).toArray⟩) ∧ Below w.heap.size w w' := by
  by_cases h : n = 0
  · subst h
    refine (specDecimal_zero w).mono ?_
    rintro e w1 ⟨rfl, rfl⟩
    exact ⟨rfl, Below.refl _ _⟩
  · have e : decN n = decF 20 n := by rw [decN, if_neg h]
    rw [e]
    exact specDecimal_pos n (by omega) h1 w
open Go.RowKit
def RowAt (w : World) (sz : Nat) (v : Value) (n : Nat) (xs : List Value) : Prop :=
  xs.length = n * sz ∧ ∃ a cap, v = .slice a n cap ∧ (n = 0 ∨ ∃ b off, a = some ⟨b, off, none⟩ ∧ b < w.heap.size ∧ ∀ j, j < n * sz → w.cell? ⟨b, off + j, none⟩ = xs[j]?)
theorem row_below {w w' : World} {sz n : Nat} {v : Value} {xs : List Value} (h : RowAt w sz v n xs) (hb : Below w.heap.size w w') : RowAt w' sz v n xs := by
  obtain ⟨hl, a, cap, hv, h2⟩ := h
  refine ⟨hl, a, cap, hv, h2.imp id ?_⟩
  rintro ⟨b, off, e, hlt, hc⟩
  exact ⟨b, off, e, Nat.lt_of_lt_of_le hlt hb.size, fun j hj => by rw [hb.cell (by exact hlt)]; exact hc j hj⟩
theorem row_of_own {w : World} {B e sz n : Nat} {v : Value} {xs : List Value} (h : w.ownsRow B e sz v n xs) : RowAt w sz v n xs := by
  refine ⟨h.1, ?_⟩
  rcases h.2 with ⟨rfl, rfl⟩ | ⟨g, cap, cur, rfl, hg, hh, rest⟩
  · exact ⟨none, 0, rfl, Or.inl rfl⟩
  · exact ⟨_, _, rfl, Or.inr ⟨g, 0, rfl, (h.lt g rfl).2, fun j hj => by rw [Nat.zero_add]; exact h.cellAt j hj⟩⟩
theorem own_stays {w w' : World} {B e sz n : Nat} {v : Value} {xs : List Value} (h : w.ownsRow B e sz v n xs) (hb : Below w.heap.size w w') : w'.ownsRow B e sz v n xs := by
  refine ⟨h.1, ?_⟩
  rcases h.2 with ⟨rfl, hn⟩ | ⟨g, cap, cur, rfl, hg, hh, rest⟩
  · exact Or.inl ⟨rfl, hn⟩
  · have hlt : g < w.heap.size := (h.lt g rfl).2
    exact Or.inr ⟨g, cap, cur, rfl, hg, (hb.block g hlt).trans hh, rest⟩
theorem own_down {w : World} {B B' e sz n : Nat} {v : Value} {xs : List Value} (h : w.ownsRow B e sz v n xs) (hb : B' ≤ B) : w.ownsRow B' e sz v n xs := by
  refine ⟨h.1, ?_⟩
  rcases h.2 with h0 | ⟨g, cap, cur, e1, hg, rest⟩
  · exact Or.inl h0
  · exact Or.inr ⟨g, cap, cur, e1, Nat.le_trans hb hg, rest⟩
def strs (l : List ByteArray) : List Value := l.map Value.string
theorem strs_at (l : List ByteArray) (k : Nat) (h : k < l.length) : (strs l)[k]? = some (.string l[k]) := by simp [strs, h]
theorem Tryd.infoStrR : (Tryd.prog.info? 9).map (fun i => (i.zero, i.size, i.bytes)) = some (some (.string ⟨#[]⟩), 1, 16) := by kernel_rfl
theorem strs_made (n : Nat) : (madeCells #[Value.string ⟨#[]⟩] n).toList = strs (List.replicate n ⟨#[]⟩) := by simp [toList_madeCells_one, strs]
theorem strs_set (l : List ByteArray) (k : Nat) (x : ByteArray) : (strs l).set k (.string x) = strs (l.set k x) := by rw [strs, strs, List.map_set]
theorem own_n {w : World} {B e sz n m : Nat} {v : Value} {xs ys : List Value} (h : w.ownsRow B e sz v n xs) (hm : n = m) (hx : xs = ys) : w.ownsRow B e sz v m ys := by subst hm hx; exact h
open Go.RowKit
def puts (l : List (Int × ByteArray)) : List Value := l.flatMap fun p => [.int .i64 p.1, .string p.2]
theorem puts_at (l : List (Int × ByteArray)) : ∀ k (h : k < l.length), (puts l)[k * 2]? = some (.int .i64 l[k].1) ∧ (puts l)[k * 2 + 1]? = some (.string l[k].2) := by
  induction l with
  | nil => intro k h; simp at h
  | cons p l ih =>
    intro k h
    have e : puts (p :: l) = [Value.int .i64 p.1, .string p.2] ++ puts l := rfl
    rw [e]
    cases k with
    | zero => exact ⟨rfl, rfl⟩
    | succ k =>
      have := ih k (by simpa using h)
      rw [List.getElem?_append_right (by simp; omega), List.getElem?_append_right (by simp; omega)]
      simp only [List.length_cons, List.length_nil, List.getElem_cons_succ]
      rw [show (k + 1) * 2 - (0 + 1 + 1) = k * 2 from by omega, show (k + 1) * 2 + 1 - (0 + 1 + 1) = k * 2 + 1 from by omega]
      exact this
theorem Tryd.infoPut : (Tryd.prog.info? 103).map (fun i => (i.zero, i.size, i.bytes)) = some (some (.agg #[.int .i64 0, .string ⟨#[]⟩]), 2, 24) := by kernel_rfl
theorem list_ne {α : Type} [DecidableEq α] {l m : List α} {k : Nat} (hk : k < l.length) (hm : k < m.length) (h : l[k] ≠ m[k]) : decide (l = m) = false := by
  simp only [decide_eq_false_iff_not]
  intro e
  subst e
  exact h rfl
open Go.RowKit
def Kept (w w' : World) (S : Nat → Prop) : Prop := w'.os = w.os ∧ w'.tape = w.tape ∧ w'.output = w.output ∧ w.heap.size ≤ w'.heap.size ∧ ∀ k, k < w.heap.size → ¬ S k → w'.heap[k]? = w.heap[k]?
theorem kept_refl (w : World) (S : Nat → Prop) : Kept w w S := ⟨rfl, rfl, rfl, Nat.le_refl _, fun _ _ _ => rfl⟩
theorem kept_trans {a b c : World} {S T : Nat → Prop} (h : Kept a b S) (k : Kept b c T) (hT : ∀ j, j < a.heap.size → T j → S j) : Kept a c S :=
  ⟨k.1.trans h.1, k.2.1.trans h.2.1, k.2.2.1.trans h.2.2.1, Nat.le_trans h.2.2.2.1 k.2.2.2.1, fun j hj hn => (k.2.2.2.2 j (Nat.lt_of_lt_of_le hj h.2.2.2.1) (fun t => hn (hT j hj t))).trans (h.2.2.2.2 j hj hn)⟩
theorem below_of_kept {B : Nat} {a b : World} {S : Nat → Prop} (h : Kept a b S) (hB : B ≤ a.heap.size) (hS : ∀ k, S k → B ≤ k) : Below B a b :=
  ⟨h.1, h.2.1, h.2.2.1, h.2.2.2.1, fun k hk => h.2.2.2.2 k (by omega) (fun s => by have := hS k s; omega)⟩
theorem kept_setCell (w : World) (g j : Nat) (u : Value) : Kept w (w.setCell ⟨g, j, none⟩ u) (fun k => k = g) :=
  ⟨rfl, rfl, rfl, by simp, fun k _ hn => heap_setCell_other w ⟨g, j, none⟩ k u hn⟩
theorem own_kept {w w' : World} {B e sz n : Nat} {v : Value} {xs : List Value} {S : Nat → Prop} (h : w.ownsRow B e sz v n xs) (hk : Kept w w' S) (hS : ∀ k, v.ownBlock = some k → ¬ S k) : w'.ownsRow B e sz v n xs := by
  refine ⟨h.1, ?_⟩
  rcases h.2 with ⟨rfl, hn⟩ | ⟨g, cap, cur, rfl, hg, hh, rest⟩
  · exact Or.inl ⟨rfl, hn⟩
  · have hlt : g < w.heap.size := (h.lt g rfl).2
    exact Or.inr ⟨g, cap, cur, rfl, hg, (hk.2.2.2.2 g hlt (hS g rfl)).trans hh, rest⟩
theorem heap_push (w : World) (o : Obj) (k : Nat) : (w.alloc o).heap[k]? = if k = w.heap.size then some o else w.heap[k]? := by
  show (w.heap.push o)[k]? = _
  rw [Array.getElem?_push]
theorem three_allocs (w : World) (a b c : Obj) : (((w.alloc a).alloc b).alloc c).heap[w.heap.size]? = some a ∧ (((w.alloc a).alloc b).alloc c).heap[w.heap.size + 1]? = some b ∧ (((w.alloc a).alloc b).alloc c).heap[w.heap.size + 1 + 1]? = some c ∧ (((w.alloc a).alloc b).alloc c).heap.size = w.heap.size + 3 := by
  refine ⟨?_, ?_, ?_, by simp⟩
  · rw [heap_push, heap_push, heap_push]; simp; omega
  · rw [heap_push, heap_push]; simp
  · rw [heap_push]; simp
theorem two_allocs (w : World) (a b : Obj) : ((w.alloc a).alloc b).heap[w.heap.size]? = some a ∧ ((w.alloc a).alloc b).heap[w.heap.size + 1]? = some b ∧ ((w.alloc a).alloc b).heap.size = w.heap.size + 2 := by
  refine ⟨?_, ?_, by simp⟩
  · rw [heap_push, heap_push]; simp
  · rw [heap_push]; simp
theorem cell_at {w : World} {g : Nat} {cs : Array Value} {t : TypeId} (h : w.heap[g]? = some (.cells cs t (0, 0))) (j : Nat) : w.cell? ⟨g, j, none⟩ = cs[j]? ∧ w.frozen? ⟨g, j, none⟩ = false :=
  ⟨cell_of_row w g j cs t (0, 0) h, frozen_of_row w g j cs t h⟩
open Go.RowKit
def ints (l : List Int) : List Value := l.map (Value.int .i64)
theorem ints_at (l : List Int) (k : Nat) (h : k < l.length) : (ints l)[k]? = some (.int .i64 l[k]) := by simp [ints, h]
open Go.RowKit
theorem own_slice {w : World} {B e sz n : Nat} {v : Value} {xs : List Value} (h : w.ownsRow B e sz v n xs) : ∃ a cap, v = .slice a n cap := by
  obtain ⟨-, a, cap, e, -⟩ := row_of_own h
  exact ⟨a, cap, e⟩
theorem one_type {w : World} {B B' e e' sz sz' n n' : Nat} {v v' : Value} {xs xs' : List Value} (h : w.ownsRow B e sz v n xs) (h' : w.ownsRow B' e' sz' v' n' xs') (hne : e ≠ e') (k : Nat) (h1 : v.ownBlock = some k) : v'.ownBlock ≠ some k := by
  intro h2
  rcases h.2 with ⟨rfl, -⟩ | ⟨g, cap, cur, rfl, -, hh, -⟩
  · cases h1
  · rcases h'.2 with ⟨rfl, -⟩ | ⟨g', cap', cur', rfl, -, hh', -⟩
    · cases h2
    · injection h1 with h1
      injection h2 with h2
      have h1 : g = k := h1
      have h2 : g' = k := h2
      subst h1
      subst h2
      rw [hh] at hh'
      injection hh' with hh'
      injection hh' with _ he _
      exact hne he
theorem blk_other {w : World} {g g' j : Nat} {u : Value} {o : Obj} (h : w.heap[g]? = some o) (hne : g ≠ g') : (w.setCell ⟨g', j, none⟩ u).heap[g]? = some o := (heap_setCell_other w ⟨g', j, none⟩ g u (by exact hne)).trans h
open Go.RowKit
def DiskAt (w : World) (v : Value) (ps : List ByteArray) (ls : List (Int × ByteArray)) : Prop :=
  ∃ vp vl, v = .agg #[vp, vl] ∧ RowAt w 1 vp ps.length (strs ps) ∧ RowAt w 2 vl ls.length (puts ls)
def DiskOwn (w : World) (B : Nat) (v : Value) (ps : List ByteArray) (ls : List (Int × ByteArray)) : Prop :=
  ∃ vp vl, v = .agg #[vp, vl] ∧ w.ownsRow B 9 1 vp ps.length (strs ps) ∧ w.ownsRow B 103 2 vl ls.length (puts ls)
theorem disk_of_own {w : World} {B : Nat} {v : Value} {ps : List ByteArray} {ls : List (Int × ByteArray)} (h : DiskOwn w B v ps ls) : DiskAt w v ps ls := by
  obtain ⟨vp, vl, e, h1, h2⟩ := h
  exact ⟨vp, vl, e, row_of_own h1, row_of_own h2⟩
theorem disk_below {w w' : World} {v : Value} {ps : List ByteArray} {ls : List (Int × ByteArray)} (h : DiskAt w v ps ls) (hb : Below w.heap.size w w') : DiskAt w' v ps ls := by
  obtain ⟨vp, vl, e, h1, h2⟩ := h
  exact ⟨vp, vl, e, row_below h1 hb, row_below h2 hb⟩
def diskBlocks (v : Value) (k : Nat) : Prop := ∃ vp vl, v = .agg #[vp, vl] ∧ (vp.ownBlock = some k ∨ vl.ownBlock = some k)
theorem diskOwn_kept {w w' : World} {B : Nat} {v : Value} {ps : List ByteArray} {ls : List (Int × ByteArray)} {S : Nat → Prop} (h : DiskOwn w B v ps ls) (hk : Kept w w' S) (hS : ∀ k, diskBlocks v k → ¬ S k) : DiskOwn w' B v ps ls := by
  obtain ⟨vp, vl, rfl, h1, h2⟩ := h
  exact ⟨vp, vl, rfl, own_kept h1 hk (fun k e => hS k ⟨vp, vl, rfl, Or.inl e⟩), own_kept h2 hk (fun k e => hS k ⟨vp, vl, rfl, Or.inr e⟩)⟩
theorem diskOwn_lt {w : World} {B : Nat} {v : Value} {ps : List ByteArray} {ls : List (Int × ByteArray)} (h : DiskOwn w B v ps ls) : ∀ k, diskBlocks v k → B ≤ k ∧ k < w.heap.size := by
  obtain ⟨vp, vl, rfl, h1, h2⟩ := h
  rintro k ⟨vp', vl', e, hk⟩
  have e2 : vp = vp' ∧ vl = vl' := by injection e with e; injection e with e; injection e with e1 e; injection e with e2; exact ⟨e1, e2⟩
  obtain ⟨rfl, rfl⟩ := e2
  rcases hk with hk | hk
  · exact h1.lt k hk
  · exact h2.lt k hk
theorem Tryd.types_part : (9 : Nat) ≠ 103 := by decide
end Go.Proofs.YtmmepgincbngeaaDoor
