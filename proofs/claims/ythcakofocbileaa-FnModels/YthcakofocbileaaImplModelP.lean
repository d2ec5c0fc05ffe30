/-
  Plain: a list of pairs that ascends, parted at a key; slices of a row of pairs. The closures of the program's ModelPut, slices.IndexFunc over each of them, and ModelPut by contracts (made by tools/implmodel.py).
-/
import Derived.Test.YthcakofocbileaaImplModelD
namespace Go.Proofs.Ythcakofocbileaa
open Go.RowKit

def eqP (key : ByteArray) (p : ByteArray × ByteArray) : Bool := p.1.toList == key.toList

def gtP (key : ByteArray) (p : ByteArray × ByteArray) : Bool := !Op.bytesLess p.1.toList key.toList && !p.1.toList == key.toList

/-- where a pair is put -/
def putAt (l : List (ByteArray × ByteArray)) (key : ByteArray) : Nat := if l.findIdx (eqP key) < l.length then l.findIdx (eqP key) else l.findIdx (gtP key)

def idxI (i n : Nat) : Int := if i < n then (i : Int) else -1

theorem fi_le {α : Type} (p : α → Bool) (l : List α) : l.findIdx p ≤ l.length := by
  induction l with
  | nil => exact Nat.le_refl _
  | cons y l ih =>
    rw [List.findIdx_cons]
    cases p y with
    | true => exact Nat.zero_le _
    | false => exact Nat.succ_le_succ ih

theorem fi_next {α : Type} (p : α → Bool) (l : List α) : ∀ (k : Nat) (x : α), l[k]? = some x → k ≤ l.findIdx p → (p x = true → l.findIdx p = k) ∧ (p x = false → k + 1 ≤ l.findIdx p) := by
  induction l with
  | nil => intro k x h; simp at h
  | cons y l ih =>
    intro k x h hk
    rw [List.findIdx_cons] at hk ⊢
    cases hy : p y with
    | true =>
      rw [hy] at hk
      have : k = 0 := by simpa using hk
      subst this
      injection h with h
      subst h
      exact ⟨fun _ => rfl, fun h => by rw [hy] at h; cases h⟩
    | false =>
      rw [hy] at hk
      cases k with
      | zero =>
        injection h with h
        subst h
        exact ⟨fun h => (by rw [hy] at h; cases h), fun _ => Nat.le_add_left _ _⟩
      | succ k =>
        obtain ⟨h1, h2⟩ := ih k x h (Nat.le_of_succ_le_succ hk)
        exact ⟨fun h => by simp [h1 h], fun h => Nat.succ_le_succ (h2 h)⟩

theorem put_le (l : List (ByteArray × ByteArray)) (key : ByteArray) : putAt l key ≤ l.length := by
  unfold putAt
  split
  · exact fi_le _ _
  · exact fi_le _ _

theorem put_split {l : List (ByteArray × ByteArray)} (h : AscM l) (key val : ByteArray) : modelD (l.take (putAt l key)) key ++ [(key, val)] ++ modelD (l.drop (putAt l key)) key = modelP l key val := by
  have main : modelD (l.take (putAt l key)) key = l.filter (fun p => Op.bytesLess p.1.toList key.toList) ∧ modelD (l.drop (putAt l key)) key = l.filter (aftB key) := by
    unfold AscM at h
    induction l with
    | nil => exact ⟨rfl, rfl⟩
    | cons p l ih =>
      obtain ⟨h1, h2⟩ := List.pairwise_cons.1 h
      obtain ⟨i1, i2⟩ := ih h2
      cases hb : Op.bytesLess p.1.toList key.toList with
      | true =>
        have he : eqP key p = false := by
          unfold eqP
          cases he : p.1.toList == key.toList with
          | false => rfl
          | true => rw [eq_of_beq he, less_irrefl] at hb; cases hb
        have hg : gtP key p = false := by
          unfold gtP
          rw [hb]
          rfl
        have hp : putAt (p :: l) key = putAt l key + 1 := by
          unfold putAt
          rw [List.findIdx_cons, List.findIdx_cons, he, hg]
          simp only [cond_false, List.length_cons, Nat.add_lt_add_iff_right]
          split <;> rfl
        have hd : (!(p.1.toList == key.toList)) = true := by unfold eqP at he; rw [he]; rfl
        have ha : aftB key p = false := by unfold aftB; rw [hb]; rfl
        rw [hp, List.take_succ_cons, List.drop_succ_cons]
        refine ⟨?_, ?_⟩
        · unfold modelD at i1 ⊢
          rw [List.filter_cons_of_pos (by exact hd), List.filter_cons_of_pos (by exact hb), i1]
        · rw [i2, List.filter_cons_of_neg (by rw [ha]; decide)]
      | false =>
        have hall : ∀ q ∈ l, Op.bytesLess q.1.toList key.toList = false ∧ aftB key q = true := fun q hq => by
          have hk : Op.bytesLess key.toList q.1.toList = true := by
            cases hc : p.1.toList == key.toList with
            | true => rw [← eq_of_beq hc]; exact h1 q hq
            | false => exact less_trans _ _ _ (less_total _ _ hb hc) (h1 q hq)
          have h0 : Op.bytesLess q.1.toList key.toList = false := by
            cases hc : Op.bytesLess q.1.toList key.toList with
            | false => rfl
            | true => have := less_trans _ _ _ hc hk; rw [less_irrefl] at this; cases this
          refine ⟨h0, ?_⟩
          unfold aftB
          rw [h0]
          cases hc : q.1.toList == key.toList with
          | false => rfl
          | true => rw [eq_of_beq hc, less_irrefl] at hk; cases hk
        have hnil : (p :: l).filter (fun p => Op.bytesLess p.1.toList key.toList) = [] := List.filter_eq_nil_iff.2 fun q hq => by
          rcases List.mem_cons.1 hq with rfl | hq
          · rw [hb]; decide
          · rw [(hall q hq).1]; decide
        have hp : putAt (p :: l) key = 0 := by
          unfold putAt
          rw [List.findIdx_cons, List.findIdx_cons]
          cases hc : eqP key p with
          | true => simp
          | false =>
            have hg : gtP key p = true := by
              unfold eqP at hc
              unfold gtP
              rw [hb, hc]
              rfl
            have hn : l.findIdx (eqP key) = l.length := by
              refine List.findIdx_eq_length.2 fun q hq => ?_
              have h3 := (hall q hq).2
              unfold aftB at h3
              rw [(hall q hq).1] at h3
              unfold eqP
              simpa using h3
            rw [hg, hn]
            simp
        rw [hp, List.take_zero, List.drop_zero, hnil]
        refine ⟨rfl, ?_⟩
        unfold modelD
        refine List.filter_congr fun q hq => ?_
        have hq0 : Op.bytesLess q.1.toList key.toList = false := by
          rcases List.mem_cons.1 hq with rfl | hq
          · exact hb
          · exact (hall q hq).1
        unfold aftB
        rw [hq0]
        simp
  rw [main.1, main.2]
  rfl

theorem prq_len (l : List (ByteArray × ByteArray)) : (prq l).length = l.length * 2 := by
  induction l with
  | nil => rfl
  | cons p l ih => rw [prq_cons, List.length_cons, List.length_cons, ih, List.length_cons]; omega

theorem prq_parts (l : List (ByteArray × ByteArray)) (m : Nat) : prq l = prq (l.take m) ++ prq (l.drop m) := by rw [← prq_app, List.take_append_drop]

theorem row2_take {w : World} {a : Option Addr} {n c : Nat} {l : List (ByteArray × ByteArray)} (h : RowAt w 2 (.slice a n c) n (prq l)) (hn : n = l.length) {m : Nat} (hm : m ≤ n) : RowAt w 2 (.slice a m c) m (prq (l.take m)) := by
  obtain ⟨-, a', c', e, h2⟩ := h
  injection e with e1 e2 e3
  subst e1
  have hl : (prq (l.take m)).length = m * 2 := by rw [prq_len, List.length_take]; omega
  refine ⟨hl, a, c, rfl, ?_⟩
  rcases h2 with h0 | ⟨b, off, ha, hb, hc⟩
  · exact Or.inl (by omega)
  · refine Or.inr ⟨b, off, ha, hb, fun j hj => ?_⟩
    rw [hc j (by omega), prq_parts l m, List.getElem?_append_left (by omega)]

theorem row2_drop {w : World} {a : Option Addr} {n c : Nat} {l : List (ByteArray × ByteArray)} (h : RowAt w 2 (.slice a n c) n (prq l)) (hn : n = l.length) (hc : n ≤ c) {m : Nat} (hm : m ≤ n) : RowAt w 2 (sliced a m n c 2) (n - m) (prq (l.drop m)) := by
  obtain ⟨-, a', c', e, h2⟩ := h
  injection e with e1 e2 e3
  subst e1
  have hl : (prq (l.take m)).length = m * 2 := by rw [prq_len, List.length_take]; omega
  have hl' : (prq (l.drop m)).length = (n - m) * 2 := by rw [prq_len, List.length_drop]; omega
  refine ⟨hl', _, _, rfl, ?_⟩
  by_cases hz : m = n
  · exact Or.inl (by omega)
  rcases h2 with h0 | ⟨b, off, ha, hb, hc2⟩
  · exact Or.inl (by omega)
  · subst ha
    rw [if_neg (by omega)]
    refine Or.inr ⟨b, off + m * 2, by simp [Addr.add], hb, fun j hj => ?_⟩
    rw [Nat.add_assoc, hc2 (m * 2 + j) (by omega), prq_parts l m, List.getElem?_append_right (by omega), hl, Nat.add_sub_cancel_left]

theorem step_pr1 {ops : Array Oper} {o : Oper} {a : Act} {K : Act → World → Prop} {Q : Exit → Act → World → Prop} {E : Prop} {B : Nat} {W : World} {l : List Ast} (h : Sep B W l) (i : Nat) {B' n : Nat} {v : Value} {xs : List (ByteArray × ByteArray)} (hi : l[i]? = some (rowA B' 30 2 v n (prq xs))) (hBB : B ≤ B') (hBW : B ≤ W.heap.size) (hBW' : B' ≤ W.heap.size)
    (hgd : o.guard = none) (s x : Operand) (ho : o.op = .call { callee := .builtin .append, args := #[s, x], argTypes := #[24, 24] }) (hs : a.eval s = v) (key val : ByteArray) {H : Nat} (hH : H = W.heap.size) (hx : a.eval x = .slice (some ⟨H, 0, none⟩) 1 1) (hn : n ≤ 3000000)
    (hK : ∀ b c w', Sep B w' (l.set i (rowA B' 30 2 (.slice (some ⟨b, 0, none⟩) (n + 1) c) (n + 1) (prq (xs ++ [(key, val)])))) → Below B W w' → K (a.put o.dst (.slice (some ⟨b, 0, none⟩) (n + 1) c)) w') :
    if Region.wanted o (yielded ops a.tmps) = true then Oper.wp Try.prog o a (W.alloc (Obj.cells #[.string key, .string val] 30)) K Q else E := by
  obtain ⟨i0, hinf, hz0, hz1, hz2⟩ := info_parts Try.infoPairM
  refine step_sep1 h i hi hBB hBW hBW' hgd s x 24 ho i0 (.agg #[.string ⟨#[]⟩, .string ⟨#[]⟩]) 32 Try.underlying24 hinf hz0 hz1 hz2 rfl (by decide) hs #[.string key, .string val] hH hx rfl (fun y hy => by simp at hy; rcases hy with rfl | rfl <;> rfl) (by unfold maxLen; omega) (by omega) (fun b c w' k1 k2 => hK b c w' ?_ k2)
  rw [prq_app]
  exact k1

theorem step_prR {ops : Array Oper} {o : Oper} {a : Act} {K : Act → World → Prop} {Q : Exit → Act → World → Prop} {E : Prop} {B : Nat} {W : World} {l : List Ast} (h : Sep B W l) (i : Nat) {B' n : Nat} {v : Value} {xs : List (ByteArray × ByteArray)} (hi : l[i]? = some (rowA B' 30 2 v n (prq xs))) (hBB : B ≤ B') (hBW : B ≤ W.heap.size) (hBW' : B' ≤ W.heap.size)
    (hgd : o.guard = none) (s x : Operand) (ho : o.op = .call { callee := .builtin .append, args := #[s, x], argTypes := #[24, 24] }) (hs : a.eval s = v) (u : Value) (m : Nat) (ys : List (ByteArray × ByteArray)) (hx : a.eval x = u) (hrow : RowAt W 2 u m (prq ys)) (hn : n + m ≤ 3000000)
    (hK : ∀ y c w', Sep B w' (l.set i (rowA B' 30 2 (.slice y (n + m) c) (n + m) (prq (xs ++ ys)))) → Below B W w' → K (a.put o.dst (.slice y (n + m) c)) w') :
    if Region.wanted o (yielded ops a.tmps) = true then Oper.wp Try.prog o a W K Q else E := by
  have hw : Region.wanted o (yielded ops a.tmps) = true := by simp [Region.wanted, hgd]
  rw [if_pos hw]
  obtain ⟨i0, hinf, hz0, hz1, hz2⟩ := info_parts Try.infoPairM
  obtain ⟨y, c, w', hr, h2, h3, h4⟩ := run_append_sep (P := Try.prog) W 24 o.type B' 30 i0 (.agg #[.string ⟨#[]⟩, .string ⟨#[]⟩]) 2 32 Try.underlying24 hinf hz0 hz1 hz2 rfl (by decide) v n (prq xs) (sep_get h i hi) u m (prq ys) hrow (prq_one ys) (by unfold maxLen; omega) (by omega) hBW'
  obtain ⟨k1, k2⟩ := row_sep h i hi hBB hBW h3 h2 h4
  unfold Oper.wp execOp
  simp only [ho, resolve, invoke, builtin, Sem.run_bind, Sem.run_pure, Result.andThen_ok, List.map_toArray, List.map_cons, List.map_nil, hs, hx, hr]
  refine hK y c w' ?_ k2
  rw [prq_app]
  exact k1

set_option maxHeartbeats 2000000 in
theorem eq_clo (key pk pv : ByteArray) (g : Nat) (w : World) (hg : w.heap[g]? = some (Obj.cells #[.string key] 9)) :
    Calls Try.prog 28 #[.agg #[.string pk, .string pv], .pointer (some ⟨g, 0, none⟩)] w fun e w' => e = .returned (.bool (eqP key (pk, pv))) ∧ Below w.heap.size w w' := by
  have hgl := (Array.getElem?_eq_some_iff.1 hg).1
  have HB := hide ((Below.refl w.heap.size w).alloc (Nat.le_refl _) (Obj.cells #[.string pk, .string pv] 30))
  have c0 : (w.alloc (Obj.cells #[.string pk, .string pv] 30)).cell? ⟨g, 0, none⟩ = some (.string key) := (cell_at (show (w.alloc (Obj.cells #[.string pk, .string pv] 30)).heap[g]? = some (Obj.cells #[.string key] 9) by rw [HB.out.block g hgl]; exact hg) 0).1
  obtain ⟨t, ht⟩ : ∃ t, eqP key (pk, pv) = t := ⟨_, rfl⟩
  have ht' : (pk.toList == key.toList) = t := ht
  rw [ht]
  clear ht hg
  cases t <;>
  · go_enter Try.func28, Try.ntmps28
    go_wp2
    go_ret
    exact ⟨rfl, HB.out⟩

set_option maxHeartbeats 4000000 in
set_option maxRecDepth 100000 in
theorem eq_idx (l : List (ByteArray × ByteArray)) (hl : l.length ≤ 1200000) (key : ByteArray) (g : Nat) (v : Value) (w : World) (hr : RowAt w 2 v l.length (prq l)) (hg : w.heap[g]? = some (Obj.cells #[.string key] 9)) :
    Calls Try.prog 27 #[v, .func (.func 28) #[] #[.pointer (some ⟨g, 0, none⟩)]] w fun e w' => e = .returned (.int .i64 (idxI (l.findIdx (eqP key)) l.length)) ∧ Below w.heap.size w w' := by
  have HR0 := hide hr
  obtain ⟨-, a, cap, rfl, -⟩ := hr
  obtain ⟨L, hL⟩ : ∃ n, n = l.length := ⟨_, rfl⟩
  have HL := hide hL
  have HR : Hid (RowAt w 2 (.slice a L cap) L (prq l)) := hide (by rw [hL]; exact HR0.out)
  have HG := hide hg
  have hgl := (Array.getElem?_eq_some_iff.1 hg).1
  have HF := hide (fi_le (eqP key) l)
  obtain ⟨F, hF⟩ : ∃ F, F = l.findIdx (eqP key) := ⟨_, rfl⟩
  have HFe := hide hF
  rw [← hF, ← hL] at HF
  rw [← hL] at hl ⊢
  rw [← hF]
  clear HR0 hL hg hF
  go_enter Try.func27, Try.ntmps27
  go_wp2_with fail
  go_loopg [8] L (fun q iv wr => ∃ (k : Nat), k ≤ L ∧ iv = .int .i64 (k : Int) ∧ q + k = L ∧ Hid (k ≤ F) ∧ Hid (Below w.heap.size w wr))
  case atStart => exact ⟨0, Nat.zero_le _, rfl, by omega, hide (Nat.zero_le _), hide (Below.refl _ _)⟩
  case round =>
    obtain ⟨k, hk, rfl, hq, HK, HB⟩ := hrel
    have HQ := hide hq
    clear hq
    by_cases hlt : k < L
    · obtain ⟨p, hp⟩ : ∃ p, l[k]? = some p := ⟨_, List.getElem?_eq_getElem (by rw [← HL.out]; exact hlt)⟩
      obtain ⟨b, off, hab, c0, c1⟩ := prq_cells HR.out HB.out hlt hp
      subst hab
      have HNx := hide (fi_next (eqP key) l k p hp (by rw [← HFe.out]; exact HK.out))
      obtain ⟨pk, pv⟩ := p
      dsimp only at c0 c1
      have hk1 : (k : Int) < (L : Int) := by omega
      have HC := hide (eq_clo key pk pv g wr (by rw [HB.out.block g hgl]; exact HG.out))
      clear hp
      rw [← HFe.out] at HNx
      obtain ⟨t, ht⟩ : ∃ t, eqP key (pk, pv) = t := ⟨_, rfl⟩
      rw [ht] at HNx HC
      clear ht
      cases t
      · have HN : Hid (k + 1 ≤ F) := hide (HNx.out.2 rfl)
        clear HNx
        go_wp2_with fail
        refine HC.out.mono ?_
        rintro e w2 ⟨rfl, hb2⟩
        have HB2 : Hid (Below w.heap.size w w2) := hide (HB.out.trans (hb2.mono HB.out.size))
        clear hb2
        go_wp2_with fail
        go_roundg (gk - 1)
        case measure => have := HQ.out; omega
        case rel => exact ⟨k + 1, by omega, by go_num, by have := HQ.out; omega, HN, HB2⟩
      · have HN : Hid (F = k) := hide (HNx.out.1 rfl)
        have HO : Hid (idxI F L = (k : Int)) := hide (by rw [HN.out]; unfold idxI; rw [if_pos hlt])
        clear HNx
        go_wp2_with fail
        refine HC.out.mono ?_
        rintro e w2 ⟨rfl, hb2⟩
        have HB2 : Hid (Below w.heap.size w w2) := hide (HB.out.trans (hb2.mono HB.out.size))
        clear hb2
        go_wp2_with fail
        go_ret
        rw [HO.out]
        exact ⟨rfl, HB2.out⟩
    · have hkL : L = k := by omega
      subst hkL
      have HO : Hid (idxI F L = -1) := hide (by unfold idxI; rw [if_neg (by have := HK.out; omega)])
      go_wp2_with fail
      go_ret
      rw [HO.out]
      exact ⟨rfl, HB.out⟩

set_option maxHeartbeats 2000000 in
theorem gt_clo (key pk pv : ByteArray) (g : Nat) (w : World) (hg : w.heap[g]? = some (Obj.cells #[.string key] 9)) :
    Calls Try.prog 29 #[.agg #[.string pk, .string pv], .pointer (some ⟨g, 0, none⟩)] w fun e w' => e = .returned (.bool (gtP key (pk, pv))) ∧ Below w.heap.size w w' := by
  have hgl := (Array.getElem?_eq_some_iff.1 hg).1
  have HB := hide ((Below.refl w.heap.size w).alloc (Nat.le_refl _) (Obj.cells #[.string pk, .string pv] 30))
  have c0 : (w.alloc (Obj.cells #[.string pk, .string pv] 30)).cell? ⟨g, 0, none⟩ = some (.string key) := (cell_at (show (w.alloc (Obj.cells #[.string pk, .string pv] 30)).heap[g]? = some (Obj.cells #[.string key] 9) by rw [HB.out.block g hgl]; exact hg) 0).1
  obtain ⟨t, ht⟩ : ∃ t, gtP key (pk, pv) = t := ⟨_, rfl⟩
  have ht' : (!Op.bytesLess pk.toList key.toList && !pk.toList == key.toList) = t := ht
  rw [ht]
  clear ht hg
  cases t <;>
  · go_enter Try.func29, Try.ntmps29
    go_wp2
    go_ret
    exact ⟨rfl, HB.out⟩

set_option maxHeartbeats 4000000 in
set_option maxRecDepth 100000 in
theorem gt_idx (l : List (ByteArray × ByteArray)) (hl : l.length ≤ 1200000) (key : ByteArray) (g : Nat) (v : Value) (w : World) (hr : RowAt w 2 v l.length (prq l)) (hg : w.heap[g]? = some (Obj.cells #[.string key] 9)) :
    Calls Try.prog 27 #[v, .func (.func 29) #[] #[.pointer (some ⟨g, 0, none⟩)]] w fun e w' => e = .returned (.int .i64 (idxI (l.findIdx (gtP key)) l.length)) ∧ Below w.heap.size w w' := by
  have HR0 := hide hr
  obtain ⟨-, a, cap, rfl, -⟩ := hr
  obtain ⟨L, hL⟩ : ∃ n, n = l.length := ⟨_, rfl⟩
  have HL := hide hL
  have HR : Hid (RowAt w 2 (.slice a L cap) L (prq l)) := hide (by rw [hL]; exact HR0.out)
  have HG := hide hg
  have hgl := (Array.getElem?_eq_some_iff.1 hg).1
  have HF := hide (fi_le (gtP key) l)
  obtain ⟨F, hF⟩ : ∃ F, F = l.findIdx (gtP key) := ⟨_, rfl⟩
  have HFe := hide hF
  rw [← hF, ← hL] at HF
  rw [← hL] at hl ⊢
  rw [← hF]
  clear HR0 hL hg hF
  go_enter Try.func27, Try.ntmps27
  go_wp2_with fail
  go_loopg [8] L (fun q iv wr => ∃ (k : Nat), k ≤ L ∧ iv = .int .i64 (k : Int) ∧ q + k = L ∧ Hid (k ≤ F) ∧ Hid (Below w.heap.size w wr))
  case atStart => exact ⟨0, Nat.zero_le _, rfl, by omega, hide (Nat.zero_le _), hide (Below.refl _ _)⟩
  case round =>
    obtain ⟨k, hk, rfl, hq, HK, HB⟩ := hrel
    have HQ := hide hq
    clear hq
    by_cases hlt : k < L
    · obtain ⟨p, hp⟩ : ∃ p, l[k]? = some p := ⟨_, List.getElem?_eq_getElem (by rw [← HL.out]; exact hlt)⟩
      obtain ⟨b, off, hab, c0, c1⟩ := prq_cells HR.out HB.out hlt hp
      subst hab
      have HNx := hide (fi_next (gtP key) l k p hp (by rw [← HFe.out]; exact HK.out))
      obtain ⟨pk, pv⟩ := p
      dsimp only at c0 c1
      have hk1 : (k : Int) < (L : Int) := by omega
      have HC := hide (gt_clo key pk pv g wr (by rw [HB.out.block g hgl]; exact HG.out))
      clear hp
      rw [← HFe.out] at HNx
      obtain ⟨t, ht⟩ : ∃ t, gtP key (pk, pv) = t := ⟨_, rfl⟩
      rw [ht] at HNx HC
      clear ht
      cases t
      · have HN : Hid (k + 1 ≤ F) := hide (HNx.out.2 rfl)
        clear HNx
        go_wp2_with fail
        refine HC.out.mono ?_
        rintro e w2 ⟨rfl, hb2⟩
        have HB2 : Hid (Below w.heap.size w w2) := hide (HB.out.trans (hb2.mono HB.out.size))
        clear hb2
        go_wp2_with fail
        go_roundg (gk - 1)
        case measure => have := HQ.out; omega
        case rel => exact ⟨k + 1, by omega, by go_num, by have := HQ.out; omega, HN, HB2⟩
      · have HN : Hid (F = k) := hide (HNx.out.1 rfl)
        have HO : Hid (idxI F L = (k : Int)) := hide (by rw [HN.out]; unfold idxI; rw [if_pos hlt])
        clear HNx
        go_wp2_with fail
        refine HC.out.mono ?_
        rintro e w2 ⟨rfl, hb2⟩
        have HB2 : Hid (Below w.heap.size w w2) := hide (HB.out.trans (hb2.mono HB.out.size))
        clear hb2
        go_wp2_with fail
        go_ret
        rw [HO.out]
        exact ⟨rfl, HB2.out⟩
    · have hkL : L = k := by omega
      subst hkL
      have HO : Hid (idxI F L = -1) := hide (by unfold idxI; rw [if_neg (by have := HK.out; omega)])
      go_wp2_with fail
      go_ret
      rw [HO.out]
      exact ⟨rfl, HB.out⟩

set_option maxHeartbeats 8000000 in
set_option maxRecDepth 100000 in
theorem implModelPut_any (l : List (ByteArray × ByteArray)) (hasc : AscM l) (hl : l.length ≤ 1048576) (hs : ∀ p ∈ l, p.1.size ≤ 1048576 ∧ p.2.size ≤ 1048576) (key val : ByteArray) (hk : key.size ≤ 1048576) (hv : val.size ≤ 1048576) (v : Value) (w : World) (hr : RowAt w 2 v l.length (prq l)) (hcap : ∃ a c, v = .slice a l.length c ∧ l.length ≤ c) :
    Calls Try.prog 8 #[v, .string key, .string val] w fun e w' => ∃ v', e = .returned v' ∧ w'.ownsRow w.heap.size 30 2 v' (modelP l key val).length (prq (modelP l key val)) ∧ Below w.heap.size w w' := by
  obtain ⟨a, cap, rfl, hcp⟩ := hcap
  have HM := hide (put_split hasc key val)
  have hml := put_le l key
  obtain ⟨m, hm⟩ : ∃ m, m = putAt l key := ⟨_, rfl⟩
  rw [← hm] at HM hml
  obtain ⟨D1, hD1⟩ : ∃ D, D = modelD (l.take m) key := ⟨_, rfl⟩
  obtain ⟨D2, hD2⟩ : ∃ D, D = modelD (l.drop m) key := ⟨_, rfl⟩
  obtain ⟨R, hR⟩ : ∃ R, R = modelP l key val := ⟨_, rfl⟩
  rw [← hD1, ← hD2, ← hR] at HM
  rw [← hR]
  have hn1 : D1.length ≤ 3000000 := by rw [hD1]; have h1 := modelD_len (l.take m) key; have h2 := List.length_take_le m l; omega
  have hn2 : D1.length + 1 + D2.length ≤ 3000000 := by
    rw [hD1, hD2]
    have h1 := modelD_len (l.take m) key
    have h2 := modelD_len (l.drop m) key
    have h3 : (l.take m).length = m := by rw [List.length_take]; omega
    have h4 : (l.drop m).length = l.length - m := List.length_drop
    omega
  have HD1 := hide (fun (u : Value) wx (h : RowAt wx 2 u (l.take m).length (prq (l.take m))) => implModelDrop_any (l.take m) (by rw [List.length_take]; omega) (fun p hp => ⟨Nat.le_trans (hs p (List.mem_of_mem_take hp)).1 (by decide), Nat.le_trans (hs p (List.mem_of_mem_take hp)).2 (by decide)⟩) key u wx h)
  have HD2 := hide (fun (u : Value) wx (h : RowAt wx 2 u (l.drop m).length (prq (l.drop m))) => implModelDrop_any (l.drop m) (by rw [List.length_drop]; omega) (fun p hp => ⟨Nat.le_trans (hs p (List.mem_of_mem_drop hp)).1 (by decide), Nat.le_trans (hs p (List.mem_of_mem_drop hp)).2 (by decide)⟩) key u wx h)
  rw [← hD1, show (l.take m).length = m by rw [List.length_take]; omega] at HD1
  rw [← hD2, List.length_drop] at HD2
  have HCp := hide (fun wx => implCopyPair_any key val (by omega) (by omega) wx)
  obtain ⟨U1, hU1⟩ : ∃ U, U = Value.slice a m cap := ⟨_, rfl⟩
  obtain ⟨U2, hU2⟩ : ∃ U, U = sliced a m l.length cap 2 := ⟨_, rfl⟩
  have HR1 := hide (fun wx (hb : Below w.heap.size w wx) => row2_take (row_below hr hb) rfl hml)
  have HR2 := hide (fun wx (hb : Below w.heap.size w wx) => row2_drop (row_below hr hb) rfl hcp hml)
  have HRl := hide (fun wx (hb : Below w.heap.size w wx) => row_below hr hb)
  obtain ⟨n1, hn1'⟩ : ∃ n, n = D1.length := ⟨_, rfl⟩
  obtain ⟨n2, hn2'⟩ : ∃ n, n = D2.length := ⟨_, rfl⟩
  have HI1 := hide (fun wx (h : RowAt wx 2 (.slice a l.length cap) l.length (prq l)) g hg => eq_idx l (by omega) key g _ wx h hg)
  have HI2 := hide (fun wx (h : RowAt wx 2 (.slice a l.length cap) l.length (prq l)) g hg => gt_idx l (by omega) key g _ wx h hg)
  have HU1 : Hid (m ≤ cap ∧ U1 = .slice a m cap) := hide ⟨by omega, hU1⟩
  have HU2 : Hid (.slice (if cap = m then a else Option.map (fun x => x.add (m * 2)) a) (l.length - m) (cap - m) = U2) := hide (by rw [hU2]; rfl)
  rw [← hU1] at HR1
  rw [← hU2] at HR2
  obtain ⟨a0, ha0⟩ : ∃ a0, a0 = w.heap.size := ⟨_, rfl⟩
  obtain ⟨w0, hw0⟩ : ∃ w0, w0 = w.alloc (Obj.cells #[.string key] 9) := ⟨_, rfl⟩
  have hb0 : Below w.heap.size w w0 := by rw [hw0]; exact (Below.refl _ _).alloc (Nat.le_refl _) _
  have hs0 : Sep a0 w0 [cellA a0 (Obj.cells #[.string key] 9)] := by rw [hw0, ha0]; exact sep_new (sep_nil w.heap.size w) _ (Nat.le_refl _)
  have HS0 := hide hs0
  have HB0 := hide hb0
  have HA := hide ha0
  have HE := hide (⟨hw0, ha0⟩ : _ ∧ _)
  have HRes := hide HM
  -- which of the three ways
  have hway : (l.findIdx (eqP key) < l.length ∧ m = l.findIdx (eqP key)) ∨ (¬ l.findIdx (eqP key) < l.length ∧ l.findIdx (gtP key) < l.length ∧ m = l.findIdx (gtP key)) ∨ (¬ l.findIdx (eqP key) < l.length ∧ ¬ l.findIdx (gtP key) < l.length ∧ m = l.length) := by
    by_cases h1 : l.findIdx (eqP key) < l.length
    · exact Or.inl ⟨h1, by rw [hm, putAt, if_pos h1]⟩
    · by_cases h2 : l.findIdx (gtP key) < l.length
      · exact Or.inr (Or.inl ⟨h1, h2, by rw [hm, putAt, if_neg h1]⟩)
      · exact Or.inr (Or.inr ⟨h1, h2, by rw [hm, putAt, if_neg h1]; have := fi_le (gtP key) l; omega⟩)
  have hl9 : l.length ≤ 1048576 := hl
  obtain ⟨L, hL⟩ : ∃ L, L = l.length := ⟨_, rfl⟩
  have HLe := hide hL
  obtain ⟨i1, hi1⟩ : ∃ i, i = l.findIdx (eqP key) := ⟨_, rfl⟩
  obtain ⟨i2, hi2⟩ : ∃ i, i = l.findIdx (gtP key) := ⟨_, rfl⟩
  rw [← hi1] at HI1 hway
  rw [← hi2] at HI2 hway
  rw [← hL] at HI1 HI2 hway HU2 HR2 HRl HD2 hml hl hl9 hcp ⊢
  have hn1u : n1 ≤ 3000000 := by omega
  have hn2u : n1 + 1 + n2 ≤ 3000000 := by omega
  rw [← hn1'] at HD1
  rw [← hn2'] at HD2
  have HN1 := hide hn1'
  have HN2 := hide hn2'
  clear hb0 hs0 hw0 ha0 HM hm hD1 hD2 hR hn1 hn2 hU1 hU2 hr hs hasc hi1 hi2 hL hk hv hn1' hn2' hcp
  have HW1 := hide (HI1.out w0 (HRl.out _ HB0.out) a0 (sep_get HS0.out 0 rfl))
  have HY1 : Hid (∀ wx, Below w0.heap.size w0 wx → Below w.heap.size w wx ∧ Sep a0 wx [cellA a0 (Obj.cells #[.string key] 9)]) := hide (fun wx hb => ⟨HB0.out.trans (hb.mono HB0.out.size), sep_below HS0.out hb⟩)
  clear HI1
  rcases hway with ⟨hx1, hx2⟩ | ⟨hx1, hx2, hx3⟩ | ⟨hx1, hx2, hx3⟩
  · rw [show idxI i1 L = (m : Int) by unfold idxI; rw [if_pos hx1, hx2]] at HW1
    clear hx1 hx2
    go_enter Try.func8, Try.ntmps8
    go_wp2_with fail
    obtain ⟨hw0, ha0⟩ := HE.out
    rw [← hw0, ← ha0]
    clear hw0 ha0 HE
    refine HW1.out.mono ?_
    rintro e wz ⟨rfl, hb1⟩
    obtain ⟨hbz, hsz⟩ := HY1.out wz hb1
    have HBz := hide hbz
    have HSz := hide hsz
    clear hbz hsz hb1 HW1 HY1 HI2
    go_upto_region 6 with fail
    have HSd := hide (sep_drew HSz.out)
    obtain ⟨wd, hwd⟩ : ∃ wd, wd = wz.drew := ⟨_, rfl⟩
    have HBd := hide HBz.out.drew
    have HRd := hide (HR1.out _ HBz.out.drew)
    have HRe := hide (HR2.out _ HBz.out.drew)
    rw [← hwd] at HSd HBd HRd HRe
    have hSd : (fun wx => wx.heap[a0]? = some (Obj.cells #[.string key] 9)) wd := sep_get HSd.out 0 rfl
    have hzd : a0 ≤ wd.heap.size := by rw [HA.out]; exact HBd.out.size
    refine wp_region_held_drew (S := (fun wx => wx.heap[a0]? = some (Obj.cells #[.string key] 9))) (by kernel_rfl) (by rw [← hwd]; exact hSd) (fun _ => ?_)
    rw [← hwd]
    clear hwd
    refine takeW 0 21 ?_ rfl rfl (by kernel_rfl) (by kernel_rfl) (by kernel_rfl) (fun _ _ _ h => h) (Or.inl ⟨by rfl, ?_⟩) hSd ?_
    rotate_left
    · (intro wx hSw; (try dsimp only at hSw); go_simp; try with_reducible rfl)
    (try simp only [List.setIfInBounds_toArray, List.set_cons_zero, List.set_cons_succ])
    refine takeW 1 22 ?_ rfl rfl (by kernel_rfl) (by kernel_rfl) (by kernel_rfl) (fun _ _ _ h => h) (Or.inl ⟨by rfl, ?_⟩) hSd ?_
    rotate_left
    · (intro wx hSw; (try dsimp only at hSw); go_simp; try with_reducible rfl)
    (try simp only [List.setIfInBounds_toArray, List.set_cons_zero, List.set_cons_succ])
    refine takeW 2 23 U1 rfl rfl (by kernel_rfl) (by kernel_rfl) (by kernel_rfl) (fun _ _ _ h => h) (Or.inl ⟨by rfl, ?_⟩) hSd ?_
    · (intro wx hSw; (try dsimp only at hSw); go_simp; rw [if_pos HU1.out.1, HU1.out.2])
    (try simp only [List.setIfInBounds_toArray, List.set_cons_zero, List.set_cons_succ])
    refine takeW 3 24 ?_ rfl rfl (by kernel_rfl) (by kernel_rfl) (by kernel_rfl) (fun _ _ _ h => h) (Or.inl ⟨by rfl, ?_⟩) hSd ?_
    rotate_left
    · (intro wx hSw; (try dsimp only at hSw); have c0 := (cell_at hSw 0).1; go_simp; try with_reducible rfl)
    (try simp only [List.setIfInBounds_toArray, List.set_cons_zero, List.set_cons_succ])
    refine takeW 5 26 ?_ rfl rfl (by kernel_rfl) (by kernel_rfl) (by kernel_rfl) (fun _ _ _ h => h) (Or.inl ⟨by rfl, ?_⟩) hSd ?_
    rotate_left
    · (intro wx hSw; (try dsimp only at hSw); have c0 := (cell_at hSw 0).1; go_simp; try with_reducible rfl)
    (try simp only [List.setIfInBounds_toArray, List.set_cons_zero, List.set_cons_succ])
    refine takeW 6 27 ?_ rfl rfl (by kernel_rfl) (by kernel_rfl) (by kernel_rfl) (fun _ _ _ h => h) (Or.inl ⟨by rfl, ?_⟩) hSd ?_
    rotate_left
    · (intro wx hSw; (try dsimp only at hSw); go_simp; try with_reducible rfl)
    (try simp only [List.setIfInBounds_toArray, List.set_cons_zero, List.set_cons_succ])
    refine takeW 7 28 ?_ rfl rfl (by kernel_rfl) (by kernel_rfl) (by kernel_rfl) (fun _ _ _ h => h) (Or.inl ⟨by rfl, ?_⟩) hSd ?_
    rotate_left
    · (intro wx hSw; (try dsimp only at hSw); go_simp; try with_reducible rfl)
    (try simp only [List.setIfInBounds_toArray, List.set_cons_zero, List.set_cons_succ])
    refine wpAnyH_ready (rs := [4]) (by kernel_rfl) (by simp) ?_
    refine AllReadyH.cons rfl (fun K hK => ?_) AllReadyH.nil
    refine step_call2 wd ?_ 9 Try.f9 Try.func9 ?_ ?_ (.tmp 23) (.tmp 24) #[24, 9] ?_ (U1) (.string key) ?_ ?_ _ (HD1.out _ wd HRd.out) ?_
    · exact rfl
    · decide
    · exact Option.some_ne_none _
    · exact rfl
    · exact rfl
    · exact rfl
    rintro e w3 ⟨v3, rfl, ho3, hb3⟩
    have hs3 := sep_add HSd.out hb3 (rowA a0 30 2 v3 n1 (prq D1)) (own_down ho3 hzd) (fun j hj => ho3.lt j hj) hzd
    have hB3 : Below w.heap.size w w3 := HBd.out.trans (hb3.mono HBd.out.size)
    have hz3 : a0 ≤ w3.heap.size := Nat.le_trans hzd hb3.size
    have hS3 : (fun wx => wx.heap[a0]? = some (Obj.cells #[.string key] 9)) w3 := sep_get hs3 1 rfl
    refine ⟨_, rfl, ?_⟩
    refine hK.out (Act.put _ (some 25) _) w3 hS3 (fun _ => ?_)
    clear hK K
    simp only [Act.put, List.setIfInBounds_toArray, List.set_cons_zero, List.set_cons_succ]
    refine wpAnyH_ready (rs := [8]) (by kernel_rfl) (by simp) ?_
    refine AllReadyH.cons rfl (fun K hK => ?_) AllReadyH.nil
    refine step_call1 w3 ?_ 30 Try.f30 Try.func30 ?_ ?_ (.tmp 28) #[30] ?_ (.agg #[.string key, .string val]) ?_ _ (HCp.out w3) ?_
    · exact rfl
    · decide
    · exact Option.some_ne_none _
    · exact rfl
    · exact rfl
    rintro e w4 ⟨rfl, hb4⟩
    have hs4 := sep_below hs3 hb4
    have hB4 : Below w.heap.size w w4 := hB3.trans (hb4.mono hB3.size)
    have hz4 : a0 ≤ w4.heap.size := Nat.le_trans hz3 hb4.size
    have hS4 : (fun wx => wx.heap[a0]? = some (Obj.cells #[.string key] 9)) w4 := sep_get hs4 1 rfl
    refine ⟨_, rfl, ?_⟩
    refine hK.out (Act.put _ (some 29) _) w4 hS4 (fun _ => ?_)
    clear hK K
    simp only [Act.put, List.setIfInBounds_toArray, List.set_cons_zero, List.set_cons_succ]
    refine wpAnyH_ready (rs := [9]) (by kernel_rfl) (by simp) ?_
    refine AllReadyH.cons rfl (fun K hK => ?_) AllReadyH.nil
    have hS5 : (fun wx => wx.heap[a0]? = some (Obj.cells #[.string key] 9)) (w4.alloc (Obj.cells #[.string key, .string val] 30)) := sep_get (sep_alloc hs4 _) 1 rfl
    go_simp
    refine hK.out _ _ hS5 (fun _ => ?_)
    clear hK K
    refine wpAnyH_ready (rs := [10]) (by kernel_rfl) (by simp) ?_
    refine AllReadyH.cons rfl (fun K hK => ?_) AllReadyH.nil
    refine step_pr1 hs4 0 rfl (Nat.le_refl a0) hz4 hz4 ?_ (.tmp 25) (.tmp 30) ?_ ?_ key val rfl ?_ hn1u ?_
    · exact rfl
    · exact rfl
    · exact rfl
    · exact rfl
    intro b6 c6 w6 hs6 hb6
    have hS6 : (fun wx => wx.heap[a0]? = some (Obj.cells #[.string key] 9)) w6 := sep_get hs6 1 rfl
    have hB6 : Below w.heap.size w w6 := hB4.trans (by rw [← HA.out]; exact hb6)
    have hz6 : a0 ≤ w6.heap.size := Nat.le_trans hz4 hb6.size
    refine hK.out (Act.put _ (some 31) _) w6 hS6 (fun _ => ?_)
    clear hK K
    simp only [Act.put, List.setIfInBounds_toArray, List.set_cons_zero, List.set_cons_succ]
    refine takeW 11 8 ?_ rfl rfl (by kernel_rfl) (by kernel_rfl) (by kernel_rfl) (fun _ _ _ h => h) (Or.inl ⟨by rfl, ?_⟩) hS6 ?_
    rotate_left
    · (intro wx hSw; (try dsimp only at hSw); go_simp; try with_reducible rfl)
    (try simp only [List.setIfInBounds_toArray, List.set_cons_zero, List.set_cons_succ])
    refine wpAnyH_done (by kernel_rfl) ?_ _
    have HS6 := hide hs6
    have HB6 := hide hB6
    clear hs6 hB6 hz6 hs3 hs4 hb3 hb4 hb6 hB3 hB4 hz3 hz4 hS3 hS4 hS5 hS6 hSd hzd ho3 HSd HBd HRd HRe
    go_upto_region 7 with fail
    have HSd := hide (sep_drew HS6.out)
    have HRd := hide (HR2.out _ HB6.out.drew)
    obtain ⟨wd, hwd⟩ : ∃ wd, wd = w6.drew := ⟨_, rfl⟩
    have HBd := hide HB6.out.drew
    rw [← hwd] at HSd HBd HRd
    have hSd : (fun wx => wx.heap[a0]? = some (Obj.cells #[.string key] 9)) wd := sep_get HSd.out 1 rfl
    have hzd : a0 ≤ wd.heap.size := by rw [HA.out]; exact HBd.out.size
    refine wp_region_held_drew (S := (fun wx => wx.heap[a0]? = some (Obj.cells #[.string key] 9))) (by kernel_rfl) (by rw [← hwd]; exact hSd) (fun _ => ?_)
    rw [← hwd]
    clear hwd
    refine takeW 0 32 ?_ rfl rfl (by kernel_rfl) (by kernel_rfl) (by kernel_rfl) (fun _ _ _ h => h) (Or.inl ⟨by rfl, ?_⟩) hSd ?_
    rotate_left
    · (intro wx hSw; (try dsimp only at hSw); go_simp; try with_reducible rfl)
    (try simp only [List.setIfInBounds_toArray, List.set_cons_zero, List.set_cons_succ])
    refine takeW 1 33 ?_ rfl rfl (by kernel_rfl) (by kernel_rfl) (by kernel_rfl) (fun _ _ _ h => h) (Or.inl ⟨by rfl, ?_⟩) hSd ?_
    rotate_left
    · (intro wx hSw; (try dsimp only at hSw); go_simp; try with_reducible rfl)
    (try simp only [List.setIfInBounds_toArray, List.set_cons_zero, List.set_cons_succ])
    refine takeW 2 34 ?_ rfl rfl (by kernel_rfl) (by kernel_rfl) (by kernel_rfl) (fun _ _ _ h => h) (Or.inl ⟨by rfl, ?_⟩) hSd ?_
    rotate_left
    · (intro wx hSw; (try dsimp only at hSw); go_simp; try with_reducible rfl)
    (try simp only [List.setIfInBounds_toArray, List.set_cons_zero, List.set_cons_succ])
    refine takeW 3 35 U2 rfl rfl (by kernel_rfl) (by kernel_rfl) (by kernel_rfl) (fun _ _ _ h => h) (Or.inl ⟨by rfl, ?_⟩) hSd ?_
    · (intro wx hSw; (try dsimp only at hSw); go_simp; first | exact HU2.out | (have h2 := HU2.out; rw [Nat.sub_self] at h2; exact h2))
    (try simp only [List.setIfInBounds_toArray, List.set_cons_zero, List.set_cons_succ])
    refine takeW 4 36 ?_ rfl rfl (by kernel_rfl) (by kernel_rfl) (by kernel_rfl) (fun _ _ _ h => h) (Or.inl ⟨by rfl, ?_⟩) hSd ?_
    rotate_left
    · (intro wx hSw; (try dsimp only at hSw); have c0 := (cell_at hSw 0).1; go_simp; try with_reducible rfl)
    (try simp only [List.setIfInBounds_toArray, List.set_cons_zero, List.set_cons_succ])
    refine wpAnyH_ready (rs := [5]) (by kernel_rfl) (by simp) ?_
    refine AllReadyH.cons rfl (fun K hK => ?_) AllReadyH.nil
    refine step_call2 wd ?_ 9 Try.f9 Try.func9 ?_ ?_ (.tmp 35) (.tmp 36) #[24, 9] ?_ (U2) (.string key) ?_ ?_ _ (HD2.out _ wd HRd.out) ?_
    · exact rfl
    · decide
    · exact Option.some_ne_none _
    · exact rfl
    · exact rfl
    · exact rfl
    rintro e w7 ⟨v7, rfl, ho7, hb7⟩
    have hs7 := sep_below HSd.out hb7
    have hB7 : Below w.heap.size w w7 := HBd.out.trans (hb7.mono HBd.out.size)
    have hz7 : a0 ≤ w7.heap.size := Nat.le_trans hzd hb7.size
    have hS7 : (fun wx => wx.heap[a0]? = some (Obj.cells #[.string key] 9)) w7 := sep_get hs7 1 rfl
    refine ⟨_, rfl, ?_⟩
    refine hK.out (Act.put _ (some 37) _) w7 hS7 (fun _ => ?_)
    clear hK K
    simp only [Act.put, List.setIfInBounds_toArray, List.set_cons_zero, List.set_cons_succ]
    refine wpAnyH_ready (rs := [6]) (by kernel_rfl) (by simp) ?_
    refine AllReadyH.cons rfl (fun K hK => ?_) AllReadyH.nil
    refine step_prR hs7 0 rfl (Nat.le_refl a0) hz7 hz7 ?_ (.tmp 32) (.tmp 37) ?_ ?_ v7 n2 D2 ?_ (row_of_own ho7) hn2u ?_
    · exact rfl
    · exact rfl
    · exact rfl
    · exact rfl
    intro b8 c8 w8 hs8 hb8
    have hS8 : (fun wx => wx.heap[a0]? = some (Obj.cells #[.string key] 9)) w8 := sep_get hs8 1 rfl
    have hB8 : Below w.heap.size w w8 := hB7.trans (by rw [← HA.out]; exact hb8)
    refine hK.out (Act.put _ (some 38) _) w8 hS8 (fun _ => ?_)
    clear hK K
    simp only [Act.put, List.setIfInBounds_toArray, List.set_cons_zero, List.set_cons_succ]
    refine takeW 7 6 ?_ rfl rfl (by kernel_rfl) (by kernel_rfl) (by kernel_rfl) (fun _ _ _ h => h) (Or.inl ⟨by rfl, ?_⟩) hS8 ?_
    rotate_left
    · (intro wx hSw; (try dsimp only at hSw); go_simp; try with_reducible rfl)
    (try simp only [List.setIfInBounds_toArray, List.set_cons_zero, List.set_cons_succ])
    refine wpAnyH_done (by kernel_rfl) ?_ _
    have HS8 := hide hs8
    have HB8 := hide hB8
    clear hs8 hB8 hs7 hb7 hb8 hB7 hz7 hS7 hS8 hSd hzd ho7
    go_wp2_with fail
    go_ret
    refine ⟨_, rfl, ?_, HB8.out⟩
    have h8 := sep_get HS8.out 0 rfl
    rw [HRes.out, HA.out] at h8
    have hlen : n1 + 1 + n2 = R.length := by rw [← HRes.out, List.length_append, List.length_append, HN1.out, HN2.out]; rfl
    rw [← hlen]
    exact h8
  · rw [show idxI i1 L = -1 by unfold idxI; rw [if_neg hx1]] at HW1
    rw [show idxI i2 L = (m : Int) by unfold idxI; rw [if_pos hx2, hx3]] at HI2
    clear hx1 hx2 hx3
    go_enter Try.func8, Try.ntmps8
    go_wp2_with fail
    obtain ⟨hw0, ha0⟩ := HE.out
    rw [← hw0, ← ha0]
    clear hw0 ha0 HE
    refine HW1.out.mono ?_
    rintro e w1 ⟨rfl, hb1⟩
    obtain ⟨hb1', hs1⟩ := HY1.out w1 hb1
    have HW2 := hide (HI2.out w1 (HRl.out _ hb1') a0 (sep_get hs1 0 rfl))
    have HY2 : Hid (∀ wx, Below w1.heap.size w1 wx → Below w.heap.size w wx ∧ Sep a0 wx [cellA a0 (Obj.cells #[.string key] 9)]) := hide (fun wx hb => HY1.out wx (hb1.trans (hb.mono hb1.size)))
    clear hb1' hs1 HW1 HI2
    go_wp2_with fail
    refine HW2.out.mono ?_
    rintro e wz ⟨rfl, hb2⟩
    obtain ⟨hbz, hsz⟩ := HY2.out wz hb2
    have HBz := hide hbz
    have HSz := hide hsz
    clear hbz hsz hb2 HW2 HY1 HY2 hb1
    go_upto_region 6 with fail
    have HSd := hide (sep_drew HSz.out)
    obtain ⟨wd, hwd⟩ : ∃ wd, wd = wz.drew := ⟨_, rfl⟩
    have HBd := hide HBz.out.drew
    have HRd := hide (HR1.out _ HBz.out.drew)
    have HRe := hide (HR2.out _ HBz.out.drew)
    rw [← hwd] at HSd HBd HRd HRe
    have hSd : (fun wx => wx.heap[a0]? = some (Obj.cells #[.string key] 9)) wd := sep_get HSd.out 0 rfl
    have hzd : a0 ≤ wd.heap.size := by rw [HA.out]; exact HBd.out.size
    refine wp_region_held_drew (S := (fun wx => wx.heap[a0]? = some (Obj.cells #[.string key] 9))) (by kernel_rfl) (by rw [← hwd]; exact hSd) (fun _ => ?_)
    rw [← hwd]
    clear hwd
    refine takeW 0 21 ?_ rfl rfl (by kernel_rfl) (by kernel_rfl) (by kernel_rfl) (fun _ _ _ h => h) (Or.inl ⟨by rfl, ?_⟩) hSd ?_
    rotate_left
    · (intro wx hSw; (try dsimp only at hSw); go_simp; try with_reducible rfl)
    (try simp only [List.setIfInBounds_toArray, List.set_cons_zero, List.set_cons_succ])
    refine takeW 1 22 ?_ rfl rfl (by kernel_rfl) (by kernel_rfl) (by kernel_rfl) (fun _ _ _ h => h) (Or.inl ⟨by rfl, ?_⟩) hSd ?_
    rotate_left
    · (intro wx hSw; (try dsimp only at hSw); go_simp; try with_reducible rfl)
    (try simp only [List.setIfInBounds_toArray, List.set_cons_zero, List.set_cons_succ])
    refine takeW 2 23 U1 rfl rfl (by kernel_rfl) (by kernel_rfl) (by kernel_rfl) (fun _ _ _ h => h) (Or.inl ⟨by rfl, ?_⟩) hSd ?_
    · (intro wx hSw; (try dsimp only at hSw); go_simp; rw [if_pos HU1.out.1, HU1.out.2])
    (try simp only [List.setIfInBounds_toArray, List.set_cons_zero, List.set_cons_succ])
    refine takeW 3 24 ?_ rfl rfl (by kernel_rfl) (by kernel_rfl) (by kernel_rfl) (fun _ _ _ h => h) (Or.inl ⟨by rfl, ?_⟩) hSd ?_
    rotate_left
    · (intro wx hSw; (try dsimp only at hSw); have c0 := (cell_at hSw 0).1; go_simp; try with_reducible rfl)
    (try simp only [List.setIfInBounds_toArray, List.set_cons_zero, List.set_cons_succ])
    refine takeW 5 26 ?_ rfl rfl (by kernel_rfl) (by kernel_rfl) (by kernel_rfl) (fun _ _ _ h => h) (Or.inl ⟨by rfl, ?_⟩) hSd ?_
    rotate_left
    · (intro wx hSw; (try dsimp only at hSw); have c0 := (cell_at hSw 0).1; go_simp; try with_reducible rfl)
    (try simp only [List.setIfInBounds_toArray, List.set_cons_zero, List.set_cons_succ])
    refine takeW 6 27 ?_ rfl rfl (by kernel_rfl) (by kernel_rfl) (by kernel_rfl) (fun _ _ _ h => h) (Or.inl ⟨by rfl, ?_⟩) hSd ?_
    rotate_left
    · (intro wx hSw; (try dsimp only at hSw); go_simp; try with_reducible rfl)
    (try simp only [List.setIfInBounds_toArray, List.set_cons_zero, List.set_cons_succ])
    refine takeW 7 28 ?_ rfl rfl (by kernel_rfl) (by kernel_rfl) (by kernel_rfl) (fun _ _ _ h => h) (Or.inl ⟨by rfl, ?_⟩) hSd ?_
    rotate_left
    · (intro wx hSw; (try dsimp only at hSw); go_simp; try with_reducible rfl)
    (try simp only [List.setIfInBounds_toArray, List.set_cons_zero, List.set_cons_succ])
    refine wpAnyH_ready (rs := [4]) (by kernel_rfl) (by simp) ?_
    refine AllReadyH.cons rfl (fun K hK => ?_) AllReadyH.nil
    refine step_call2 wd ?_ 9 Try.f9 Try.func9 ?_ ?_ (.tmp 23) (.tmp 24) #[24, 9] ?_ (U1) (.string key) ?_ ?_ _ (HD1.out _ wd HRd.out) ?_
    · exact rfl
    · decide
    · exact Option.some_ne_none _
    · exact rfl
    · exact rfl
    · exact rfl
    rintro e w3 ⟨v3, rfl, ho3, hb3⟩
    have hs3 := sep_add HSd.out hb3 (rowA a0 30 2 v3 n1 (prq D1)) (own_down ho3 hzd) (fun j hj => ho3.lt j hj) hzd
    have hB3 : Below w.heap.size w w3 := HBd.out.trans (hb3.mono HBd.out.size)
    have hz3 : a0 ≤ w3.heap.size := Nat.le_trans hzd hb3.size
    have hS3 : (fun wx => wx.heap[a0]? = some (Obj.cells #[.string key] 9)) w3 := sep_get hs3 1 rfl
    refine ⟨_, rfl, ?_⟩
    refine hK.out (Act.put _ (some 25) _) w3 hS3 (fun _ => ?_)
    clear hK K
    simp only [Act.put, List.setIfInBounds_toArray, List.set_cons_zero, List.set_cons_succ]
    refine wpAnyH_ready (rs := [8]) (by kernel_rfl) (by simp) ?_
    refine AllReadyH.cons rfl (fun K hK => ?_) AllReadyH.nil
    refine step_call1 w3 ?_ 30 Try.f30 Try.func30 ?_ ?_ (.tmp 28) #[30] ?_ (.agg #[.string key, .string val]) ?_ _ (HCp.out w3) ?_
    · exact rfl
    · decide
    · exact Option.some_ne_none _
    · exact rfl
    · exact rfl
    rintro e w4 ⟨rfl, hb4⟩
    have hs4 := sep_below hs3 hb4
    have hB4 : Below w.heap.size w w4 := hB3.trans (hb4.mono hB3.size)
    have hz4 : a0 ≤ w4.heap.size := Nat.le_trans hz3 hb4.size
    have hS4 : (fun wx => wx.heap[a0]? = some (Obj.cells #[.string key] 9)) w4 := sep_get hs4 1 rfl
    refine ⟨_, rfl, ?_⟩
    refine hK.out (Act.put _ (some 29) _) w4 hS4 (fun _ => ?_)
    clear hK K
    simp only [Act.put, List.setIfInBounds_toArray, List.set_cons_zero, List.set_cons_succ]
    refine wpAnyH_ready (rs := [9]) (by kernel_rfl) (by simp) ?_
    refine AllReadyH.cons rfl (fun K hK => ?_) AllReadyH.nil
    have hS5 : (fun wx => wx.heap[a0]? = some (Obj.cells #[.string key] 9)) (w4.alloc (Obj.cells #[.string key, .string val] 30)) := sep_get (sep_alloc hs4 _) 1 rfl
    go_simp
    refine hK.out _ _ hS5 (fun _ => ?_)
    clear hK K
    refine wpAnyH_ready (rs := [10]) (by kernel_rfl) (by simp) ?_
    refine AllReadyH.cons rfl (fun K hK => ?_) AllReadyH.nil
    refine step_pr1 hs4 0 rfl (Nat.le_refl a0) hz4 hz4 ?_ (.tmp 25) (.tmp 30) ?_ ?_ key val rfl ?_ hn1u ?_
    · exact rfl
    · exact rfl
    · exact rfl
    · exact rfl
    intro b6 c6 w6 hs6 hb6
    have hS6 : (fun wx => wx.heap[a0]? = some (Obj.cells #[.string key] 9)) w6 := sep_get hs6 1 rfl
    have hB6 : Below w.heap.size w w6 := hB4.trans (by rw [← HA.out]; exact hb6)
    have hz6 : a0 ≤ w6.heap.size := Nat.le_trans hz4 hb6.size
    refine hK.out (Act.put _ (some 31) _) w6 hS6 (fun _ => ?_)
    clear hK K
    simp only [Act.put, List.setIfInBounds_toArray, List.set_cons_zero, List.set_cons_succ]
    refine takeW 11 8 ?_ rfl rfl (by kernel_rfl) (by kernel_rfl) (by kernel_rfl) (fun _ _ _ h => h) (Or.inl ⟨by rfl, ?_⟩) hS6 ?_
    rotate_left
    · (intro wx hSw; (try dsimp only at hSw); go_simp; try with_reducible rfl)
    (try simp only [List.setIfInBounds_toArray, List.set_cons_zero, List.set_cons_succ])
    refine wpAnyH_done (by kernel_rfl) ?_ _
    have HS6 := hide hs6
    have HB6 := hide hB6
    clear hs6 hB6 hz6 hs3 hs4 hb3 hb4 hb6 hB3 hB4 hz3 hz4 hS3 hS4 hS5 hS6 hSd hzd ho3 HSd HBd HRd HRe
    go_upto_region 7 with fail
    have HSd := hide (sep_drew HS6.out)
    have HRd := hide (HR2.out _ HB6.out.drew)
    obtain ⟨wd, hwd⟩ : ∃ wd, wd = w6.drew := ⟨_, rfl⟩
    have HBd := hide HB6.out.drew
    rw [← hwd] at HSd HBd HRd
    have hSd : (fun wx => wx.heap[a0]? = some (Obj.cells #[.string key] 9)) wd := sep_get HSd.out 1 rfl
    have hzd : a0 ≤ wd.heap.size := by rw [HA.out]; exact HBd.out.size
    refine wp_region_held_drew (S := (fun wx => wx.heap[a0]? = some (Obj.cells #[.string key] 9))) (by kernel_rfl) (by rw [← hwd]; exact hSd) (fun _ => ?_)
    rw [← hwd]
    clear hwd
    refine takeW 0 32 ?_ rfl rfl (by kernel_rfl) (by kernel_rfl) (by kernel_rfl) (fun _ _ _ h => h) (Or.inl ⟨by rfl, ?_⟩) hSd ?_
    rotate_left
    · (intro wx hSw; (try dsimp only at hSw); go_simp; try with_reducible rfl)
    (try simp only [List.setIfInBounds_toArray, List.set_cons_zero, List.set_cons_succ])
    refine takeW 1 33 ?_ rfl rfl (by kernel_rfl) (by kernel_rfl) (by kernel_rfl) (fun _ _ _ h => h) (Or.inl ⟨by rfl, ?_⟩) hSd ?_
    rotate_left
    · (intro wx hSw; (try dsimp only at hSw); go_simp; try with_reducible rfl)
    (try simp only [List.setIfInBounds_toArray, List.set_cons_zero, List.set_cons_succ])
    refine takeW 2 34 ?_ rfl rfl (by kernel_rfl) (by kernel_rfl) (by kernel_rfl) (fun _ _ _ h => h) (Or.inl ⟨by rfl, ?_⟩) hSd ?_
    rotate_left
    · (intro wx hSw; (try dsimp only at hSw); go_simp; try with_reducible rfl)
    (try simp only [List.setIfInBounds_toArray, List.set_cons_zero, List.set_cons_succ])
    refine takeW 3 35 U2 rfl rfl (by kernel_rfl) (by kernel_rfl) (by kernel_rfl) (fun _ _ _ h => h) (Or.inl ⟨by rfl, ?_⟩) hSd ?_
    · (intro wx hSw; (try dsimp only at hSw); go_simp; first | exact HU2.out | (have h2 := HU2.out; rw [Nat.sub_self] at h2; exact h2))
    (try simp only [List.setIfInBounds_toArray, List.set_cons_zero, List.set_cons_succ])
    refine takeW 4 36 ?_ rfl rfl (by kernel_rfl) (by kernel_rfl) (by kernel_rfl) (fun _ _ _ h => h) (Or.inl ⟨by rfl, ?_⟩) hSd ?_
    rotate_left
    · (intro wx hSw; (try dsimp only at hSw); have c0 := (cell_at hSw 0).1; go_simp; try with_reducible rfl)
    (try simp only [List.setIfInBounds_toArray, List.set_cons_zero, List.set_cons_succ])
    refine wpAnyH_ready (rs := [5]) (by kernel_rfl) (by simp) ?_
    refine AllReadyH.cons rfl (fun K hK => ?_) AllReadyH.nil
    refine step_call2 wd ?_ 9 Try.f9 Try.func9 ?_ ?_ (.tmp 35) (.tmp 36) #[24, 9] ?_ (U2) (.string key) ?_ ?_ _ (HD2.out _ wd HRd.out) ?_
    · exact rfl
    · decide
    · exact Option.some_ne_none _
    · exact rfl
    · exact rfl
    · exact rfl
    rintro e w7 ⟨v7, rfl, ho7, hb7⟩
    have hs7 := sep_below HSd.out hb7
    have hB7 : Below w.heap.size w w7 := HBd.out.trans (hb7.mono HBd.out.size)
    have hz7 : a0 ≤ w7.heap.size := Nat.le_trans hzd hb7.size
    have hS7 : (fun wx => wx.heap[a0]? = some (Obj.cells #[.string key] 9)) w7 := sep_get hs7 1 rfl
    refine ⟨_, rfl, ?_⟩
    refine hK.out (Act.put _ (some 37) _) w7 hS7 (fun _ => ?_)
    clear hK K
    simp only [Act.put, List.setIfInBounds_toArray, List.set_cons_zero, List.set_cons_succ]
    refine wpAnyH_ready (rs := [6]) (by kernel_rfl) (by simp) ?_
    refine AllReadyH.cons rfl (fun K hK => ?_) AllReadyH.nil
    refine step_prR hs7 0 rfl (Nat.le_refl a0) hz7 hz7 ?_ (.tmp 32) (.tmp 37) ?_ ?_ v7 n2 D2 ?_ (row_of_own ho7) hn2u ?_
    · exact rfl
    · exact rfl
    · exact rfl
    · exact rfl
    intro b8 c8 w8 hs8 hb8
    have hS8 : (fun wx => wx.heap[a0]? = some (Obj.cells #[.string key] 9)) w8 := sep_get hs8 1 rfl
    have hB8 : Below w.heap.size w w8 := hB7.trans (by rw [← HA.out]; exact hb8)
    refine hK.out (Act.put _ (some 38) _) w8 hS8 (fun _ => ?_)
    clear hK K
    simp only [Act.put, List.setIfInBounds_toArray, List.set_cons_zero, List.set_cons_succ]
    refine takeW 7 6 ?_ rfl rfl (by kernel_rfl) (by kernel_rfl) (by kernel_rfl) (fun _ _ _ h => h) (Or.inl ⟨by rfl, ?_⟩) hS8 ?_
    rotate_left
    · (intro wx hSw; (try dsimp only at hSw); go_simp; try with_reducible rfl)
    (try simp only [List.setIfInBounds_toArray, List.set_cons_zero, List.set_cons_succ])
    refine wpAnyH_done (by kernel_rfl) ?_ _
    have HS8 := hide hs8
    have HB8 := hide hB8
    clear hs8 hB8 hs7 hb7 hb8 hB7 hz7 hS7 hS8 hSd hzd ho7
    go_wp2_with fail
    go_ret
    refine ⟨_, rfl, ?_, HB8.out⟩
    have h8 := sep_get HS8.out 0 rfl
    rw [HRes.out, HA.out] at h8
    have hlen : n1 + 1 + n2 = R.length := by rw [← HRes.out, List.length_append, List.length_append, HN1.out, HN2.out]; rfl
    rw [← hlen]
    exact h8
  · rw [show idxI i1 L = -1 by unfold idxI; rw [if_neg hx1]] at HW1
    rw [show idxI i2 L = -1 by unfold idxI; rw [if_neg hx2]] at HI2
    subst hx3
    clear hx1 hx2
    go_enter Try.func8, Try.ntmps8
    go_wp2_with fail
    obtain ⟨hw0, ha0⟩ := HE.out
    rw [← hw0, ← ha0]
    clear hw0 ha0 HE
    refine HW1.out.mono ?_
    rintro e w1 ⟨rfl, hb1⟩
    obtain ⟨hb1', hs1⟩ := HY1.out w1 hb1
    have HW2 := hide (HI2.out w1 (HRl.out _ hb1') a0 (sep_get hs1 0 rfl))
    have HY2 : Hid (∀ wx, Below w1.heap.size w1 wx → Below w.heap.size w wx ∧ Sep a0 wx [cellA a0 (Obj.cells #[.string key] 9)]) := hide (fun wx hb => HY1.out wx (hb1.trans (hb.mono hb1.size)))
    clear hb1' hs1 HW1 HI2
    go_wp2_with fail
    refine HW2.out.mono ?_
    rintro e wz ⟨rfl, hb2⟩
    obtain ⟨hbz, hsz⟩ := HY2.out wz hb2
    have HBz := hide hbz
    have HSz := hide hsz
    clear hbz hsz hb2 HW2 HY1 HY2 hb1
    go_upto_region 6 with fail
    have HSd := hide (sep_drew HSz.out)
    obtain ⟨wd, hwd⟩ : ∃ wd, wd = wz.drew := ⟨_, rfl⟩
    have HBd := hide HBz.out.drew
    have HRd := hide (HR1.out _ HBz.out.drew)
    have HRe := hide (HR2.out _ HBz.out.drew)
    rw [← hwd] at HSd HBd HRd HRe
    have hSd : (fun wx => wx.heap[a0]? = some (Obj.cells #[.string key] 9)) wd := sep_get HSd.out 0 rfl
    have hzd : a0 ≤ wd.heap.size := by rw [HA.out]; exact HBd.out.size
    refine wp_region_held_drew (S := (fun wx => wx.heap[a0]? = some (Obj.cells #[.string key] 9))) (by kernel_rfl) (by rw [← hwd]; exact hSd) (fun _ => ?_)
    rw [← hwd]
    clear hwd
    refine takeW 0 21 ?_ rfl rfl (by kernel_rfl) (by kernel_rfl) (by kernel_rfl) (fun _ _ _ h => h) (Or.inl ⟨by rfl, ?_⟩) hSd ?_
    rotate_left
    · (intro wx hSw; (try dsimp only at hSw); go_simp; try with_reducible rfl)
    (try simp only [List.setIfInBounds_toArray, List.set_cons_zero, List.set_cons_succ])
    refine takeW 1 22 ?_ rfl rfl (by kernel_rfl) (by kernel_rfl) (by kernel_rfl) (fun _ _ _ h => h) (Or.inl ⟨by rfl, ?_⟩) hSd ?_
    rotate_left
    · (intro wx hSw; (try dsimp only at hSw); go_simp; try with_reducible rfl)
    (try simp only [List.setIfInBounds_toArray, List.set_cons_zero, List.set_cons_succ])
    refine takeW 2 23 U1 rfl rfl (by kernel_rfl) (by kernel_rfl) (by kernel_rfl) (fun _ _ _ h => h) (Or.inl ⟨by rfl, ?_⟩) hSd ?_
    · (intro wx hSw; (try dsimp only at hSw); go_simp; rw [if_pos HU1.out.1, HU1.out.2])
    (try simp only [List.setIfInBounds_toArray, List.set_cons_zero, List.set_cons_succ])
    refine takeW 3 24 ?_ rfl rfl (by kernel_rfl) (by kernel_rfl) (by kernel_rfl) (fun _ _ _ h => h) (Or.inl ⟨by rfl, ?_⟩) hSd ?_
    rotate_left
    · (intro wx hSw; (try dsimp only at hSw); have c0 := (cell_at hSw 0).1; go_simp; try with_reducible rfl)
    (try simp only [List.setIfInBounds_toArray, List.set_cons_zero, List.set_cons_succ])
    refine takeW 5 26 ?_ rfl rfl (by kernel_rfl) (by kernel_rfl) (by kernel_rfl) (fun _ _ _ h => h) (Or.inl ⟨by rfl, ?_⟩) hSd ?_
    rotate_left
    · (intro wx hSw; (try dsimp only at hSw); have c0 := (cell_at hSw 0).1; go_simp; try with_reducible rfl)
    (try simp only [List.setIfInBounds_toArray, List.set_cons_zero, List.set_cons_succ])
    refine takeW 6 27 ?_ rfl rfl (by kernel_rfl) (by kernel_rfl) (by kernel_rfl) (fun _ _ _ h => h) (Or.inl ⟨by rfl, ?_⟩) hSd ?_
    rotate_left
    · (intro wx hSw; (try dsimp only at hSw); go_simp; try with_reducible rfl)
    (try simp only [List.setIfInBounds_toArray, List.set_cons_zero, List.set_cons_succ])
    refine takeW 7 28 ?_ rfl rfl (by kernel_rfl) (by kernel_rfl) (by kernel_rfl) (fun _ _ _ h => h) (Or.inl ⟨by rfl, ?_⟩) hSd ?_
    rotate_left
    · (intro wx hSw; (try dsimp only at hSw); go_simp; try with_reducible rfl)
    (try simp only [List.setIfInBounds_toArray, List.set_cons_zero, List.set_cons_succ])
    refine wpAnyH_ready (rs := [4]) (by kernel_rfl) (by simp) ?_
    refine AllReadyH.cons rfl (fun K hK => ?_) AllReadyH.nil
    refine step_call2 wd ?_ 9 Try.f9 Try.func9 ?_ ?_ (.tmp 23) (.tmp 24) #[24, 9] ?_ (U1) (.string key) ?_ ?_ _ (HD1.out _ wd HRd.out) ?_
    · exact rfl
    · decide
    · exact Option.some_ne_none _
    · exact rfl
    · exact rfl
    · exact rfl
    rintro e w3 ⟨v3, rfl, ho3, hb3⟩
    have hs3 := sep_add HSd.out hb3 (rowA a0 30 2 v3 n1 (prq D1)) (own_down ho3 hzd) (fun j hj => ho3.lt j hj) hzd
    have hB3 : Below w.heap.size w w3 := HBd.out.trans (hb3.mono HBd.out.size)
    have hz3 : a0 ≤ w3.heap.size := Nat.le_trans hzd hb3.size
    have hS3 : (fun wx => wx.heap[a0]? = some (Obj.cells #[.string key] 9)) w3 := sep_get hs3 1 rfl
    refine ⟨_, rfl, ?_⟩
    refine hK.out (Act.put _ (some 25) _) w3 hS3 (fun _ => ?_)
    clear hK K
    simp only [Act.put, List.setIfInBounds_toArray, List.set_cons_zero, List.set_cons_succ]
    refine wpAnyH_ready (rs := [8]) (by kernel_rfl) (by simp) ?_
    refine AllReadyH.cons rfl (fun K hK => ?_) AllReadyH.nil
    refine step_call1 w3 ?_ 30 Try.f30 Try.func30 ?_ ?_ (.tmp 28) #[30] ?_ (.agg #[.string key, .string val]) ?_ _ (HCp.out w3) ?_
    · exact rfl
    · decide
    · exact Option.some_ne_none _
    · exact rfl
    · exact rfl
    rintro e w4 ⟨rfl, hb4⟩
    have hs4 := sep_below hs3 hb4
    have hB4 : Below w.heap.size w w4 := hB3.trans (hb4.mono hB3.size)
    have hz4 : a0 ≤ w4.heap.size := Nat.le_trans hz3 hb4.size
    have hS4 : (fun wx => wx.heap[a0]? = some (Obj.cells #[.string key] 9)) w4 := sep_get hs4 1 rfl
    refine ⟨_, rfl, ?_⟩
    refine hK.out (Act.put _ (some 29) _) w4 hS4 (fun _ => ?_)
    clear hK K
    simp only [Act.put, List.setIfInBounds_toArray, List.set_cons_zero, List.set_cons_succ]
    refine wpAnyH_ready (rs := [9]) (by kernel_rfl) (by simp) ?_
    refine AllReadyH.cons rfl (fun K hK => ?_) AllReadyH.nil
    have hS5 : (fun wx => wx.heap[a0]? = some (Obj.cells #[.string key] 9)) (w4.alloc (Obj.cells #[.string key, .string val] 30)) := sep_get (sep_alloc hs4 _) 1 rfl
    go_simp
    refine hK.out _ _ hS5 (fun _ => ?_)
    clear hK K
    refine wpAnyH_ready (rs := [10]) (by kernel_rfl) (by simp) ?_
    refine AllReadyH.cons rfl (fun K hK => ?_) AllReadyH.nil
    refine step_pr1 hs4 0 rfl (Nat.le_refl a0) hz4 hz4 ?_ (.tmp 25) (.tmp 30) ?_ ?_ key val rfl ?_ hn1u ?_
    · exact rfl
    · exact rfl
    · exact rfl
    · exact rfl
    intro b6 c6 w6 hs6 hb6
    have hS6 : (fun wx => wx.heap[a0]? = some (Obj.cells #[.string key] 9)) w6 := sep_get hs6 1 rfl
    have hB6 : Below w.heap.size w w6 := hB4.trans (by rw [← HA.out]; exact hb6)
    have hz6 : a0 ≤ w6.heap.size := Nat.le_trans hz4 hb6.size
    refine hK.out (Act.put _ (some 31) _) w6 hS6 (fun _ => ?_)
    clear hK K
    simp only [Act.put, List.setIfInBounds_toArray, List.set_cons_zero, List.set_cons_succ]
    refine takeW 11 8 ?_ rfl rfl (by kernel_rfl) (by kernel_rfl) (by kernel_rfl) (fun _ _ _ h => h) (Or.inl ⟨by rfl, ?_⟩) hS6 ?_
    rotate_left
    · (intro wx hSw; (try dsimp only at hSw); go_simp; try with_reducible rfl)
    (try simp only [List.setIfInBounds_toArray, List.set_cons_zero, List.set_cons_succ])
    refine wpAnyH_done (by kernel_rfl) ?_ _
    have HS6 := hide hs6
    have HB6 := hide hB6
    clear hs6 hB6 hz6 hs3 hs4 hb3 hb4 hb6 hB3 hB4 hz3 hz4 hS3 hS4 hS5 hS6 hSd hzd ho3 HSd HBd HRd HRe
    go_upto_region 7 with fail
    have HSd := hide (sep_drew HS6.out)
    have HRd := hide (HR2.out _ HB6.out.drew)
    obtain ⟨wd, hwd⟩ : ∃ wd, wd = w6.drew := ⟨_, rfl⟩
    have HBd := hide HB6.out.drew
    rw [← hwd] at HSd HBd HRd
    have hSd : (fun wx => wx.heap[a0]? = some (Obj.cells #[.string key] 9)) wd := sep_get HSd.out 1 rfl
    have hzd : a0 ≤ wd.heap.size := by rw [HA.out]; exact HBd.out.size
    refine wp_region_held_drew (S := (fun wx => wx.heap[a0]? = some (Obj.cells #[.string key] 9))) (by kernel_rfl) (by rw [← hwd]; exact hSd) (fun _ => ?_)
    rw [← hwd]
    clear hwd
    refine takeW 0 32 ?_ rfl rfl (by kernel_rfl) (by kernel_rfl) (by kernel_rfl) (fun _ _ _ h => h) (Or.inl ⟨by rfl, ?_⟩) hSd ?_
    rotate_left
    · (intro wx hSw; (try dsimp only at hSw); go_simp; try with_reducible rfl)
    (try simp only [List.setIfInBounds_toArray, List.set_cons_zero, List.set_cons_succ])
    refine takeW 1 33 ?_ rfl rfl (by kernel_rfl) (by kernel_rfl) (by kernel_rfl) (fun _ _ _ h => h) (Or.inl ⟨by rfl, ?_⟩) hSd ?_
    rotate_left
    · (intro wx hSw; (try dsimp only at hSw); go_simp; try with_reducible rfl)
    (try simp only [List.setIfInBounds_toArray, List.set_cons_zero, List.set_cons_succ])
    refine takeW 2 34 ?_ rfl rfl (by kernel_rfl) (by kernel_rfl) (by kernel_rfl) (fun _ _ _ h => h) (Or.inl ⟨by rfl, ?_⟩) hSd ?_
    rotate_left
    · (intro wx hSw; (try dsimp only at hSw); go_simp; try with_reducible rfl)
    (try simp only [List.setIfInBounds_toArray, List.set_cons_zero, List.set_cons_succ])
    refine takeW 3 35 U2 rfl rfl (by kernel_rfl) (by kernel_rfl) (by kernel_rfl) (fun _ _ _ h => h) (Or.inl ⟨by rfl, ?_⟩) hSd ?_
    · (intro wx hSw; (try dsimp only at hSw); go_simp; first | exact HU2.out | (have h2 := HU2.out; rw [Nat.sub_self] at h2; exact h2))
    (try simp only [List.setIfInBounds_toArray, List.set_cons_zero, List.set_cons_succ])
    refine takeW 4 36 ?_ rfl rfl (by kernel_rfl) (by kernel_rfl) (by kernel_rfl) (fun _ _ _ h => h) (Or.inl ⟨by rfl, ?_⟩) hSd ?_
    rotate_left
    · (intro wx hSw; (try dsimp only at hSw); have c0 := (cell_at hSw 0).1; go_simp; try with_reducible rfl)
    (try simp only [List.setIfInBounds_toArray, List.set_cons_zero, List.set_cons_succ])
    refine wpAnyH_ready (rs := [5]) (by kernel_rfl) (by simp) ?_
    refine AllReadyH.cons rfl (fun K hK => ?_) AllReadyH.nil
    refine step_call2 wd ?_ 9 Try.f9 Try.func9 ?_ ?_ (.tmp 35) (.tmp 36) #[24, 9] ?_ (U2) (.string key) ?_ ?_ _ (HD2.out _ wd HRd.out) ?_
    · exact rfl
    · decide
    · exact Option.some_ne_none _
    · exact rfl
    · exact rfl
    · exact rfl
    rintro e w7 ⟨v7, rfl, ho7, hb7⟩
    have hs7 := sep_below HSd.out hb7
    have hB7 : Below w.heap.size w w7 := HBd.out.trans (hb7.mono HBd.out.size)
    have hz7 : a0 ≤ w7.heap.size := Nat.le_trans hzd hb7.size
    have hS7 : (fun wx => wx.heap[a0]? = some (Obj.cells #[.string key] 9)) w7 := sep_get hs7 1 rfl
    refine ⟨_, rfl, ?_⟩
    refine hK.out (Act.put _ (some 37) _) w7 hS7 (fun _ => ?_)
    clear hK K
    simp only [Act.put, List.setIfInBounds_toArray, List.set_cons_zero, List.set_cons_succ]
    refine wpAnyH_ready (rs := [6]) (by kernel_rfl) (by simp) ?_
    refine AllReadyH.cons rfl (fun K hK => ?_) AllReadyH.nil
    refine step_prR hs7 0 rfl (Nat.le_refl a0) hz7 hz7 ?_ (.tmp 32) (.tmp 37) ?_ ?_ v7 n2 D2 ?_ (row_of_own ho7) hn2u ?_
    · exact rfl
    · exact rfl
    · exact rfl
    · exact rfl
    intro b8 c8 w8 hs8 hb8
    have hS8 : (fun wx => wx.heap[a0]? = some (Obj.cells #[.string key] 9)) w8 := sep_get hs8 1 rfl
    have hB8 : Below w.heap.size w w8 := hB7.trans (by rw [← HA.out]; exact hb8)
    refine hK.out (Act.put _ (some 38) _) w8 hS8 (fun _ => ?_)
    clear hK K
    simp only [Act.put, List.setIfInBounds_toArray, List.set_cons_zero, List.set_cons_succ]
    refine takeW 7 6 ?_ rfl rfl (by kernel_rfl) (by kernel_rfl) (by kernel_rfl) (fun _ _ _ h => h) (Or.inl ⟨by rfl, ?_⟩) hS8 ?_
    rotate_left
    · (intro wx hSw; (try dsimp only at hSw); go_simp; try with_reducible rfl)
    (try simp only [List.setIfInBounds_toArray, List.set_cons_zero, List.set_cons_succ])
    refine wpAnyH_done (by kernel_rfl) ?_ _
    have HS8 := hide hs8
    have HB8 := hide hB8
    clear hs8 hB8 hs7 hb7 hb8 hB7 hz7 hS7 hS8 hSd hzd ho7
    go_wp2_with fail
    go_ret
    refine ⟨_, rfl, ?_, HB8.out⟩
    have h8 := sep_get HS8.out 0 rfl
    rw [HRes.out, HA.out] at h8
    have hlen : n1 + 1 + n2 = R.length := by rw [← HRes.out, List.length_append, List.length_append, HN1.out, HN2.out]; rfl
    rw [← hlen]
    exact h8

end Go.Proofs.Ythcakofocbileaa
