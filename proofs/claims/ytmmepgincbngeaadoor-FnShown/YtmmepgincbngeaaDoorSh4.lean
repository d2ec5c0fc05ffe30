/-
  Facts and contracts that the law's own text rests on, by their texts' names: SpecScript, SpecModel, SpecShow, Plain17, PlaceFacts, ModelPl, Draw4, DrawPick, DrawNode, DrawPairs.
-/
import Derived.OwnWalk
import Derived.Test.YtmmepgincbngeaaDoorSh1
import Derived.Test.YtmmepgincbngeaaDoorSh2
import Derived.Test.YtmmepgincbngeaaDoorSh3
import Derived.Laws.Cover1
import Derived.Maps.AppendAt
import Derived.BigQuiet
import Derived.Laws.StructEq
import Derived.Deep.RegionLaw
namespace Go.Proofs.YtmmepgincbngeaaDoor
open Go.RowKit
theorem Tryd.infoEvE : (Tryd.prog.info? 35).map (fun i => (i.zero, i.size, i.bytes)) = some (some (.agg #[.int .i64 0, .int .i64 0, .string ⟨#[]⟩, .string ⟨#[]⟩, .int .i64 0, .slice none 0 0, .int .i64 0]), 7, 88) := by kernel_rfl
theorem fieldsGo_in : ∀ (l cur : List UInt8), ∀ x ∈ Lib.fieldsGo cur l, x ≠ [] ∧ x.length ≤ cur.length + l.length
  | [], cur, x, h => by
    rw [Lib.fieldsGo] at h
    cases hc : cur.isEmpty with
    | true => rw [hc] at h; simp at h
    | false =>
      rw [hc] at h
      simp at h
      subst h
      exact ⟨fun e => by rw [e] at hc; simp at hc, by simp⟩
  | b :: l, cur, x, h => by
    rw [Lib.fieldsGo] at h
    by_cases hs : Lib.isSp b = true
    · rw [if_pos hs] at h
      cases hc : cur.isEmpty with
      | true =>
        rw [hc, if_pos rfl] at h
        have := fieldsGo_in l [] x h
        exact ⟨this.1, by have := this.2; simp at this ⊢; omega⟩
      | false =>
        rw [hc, if_neg (by decide)] at h
        rcases List.mem_cons.1 h with rfl | h
        · exact ⟨fun e => by rw [e] at hc; simp at hc, by simp⟩
        · have := fieldsGo_in l [] x h
          exact ⟨this.1, by have := this.2; simp at this ⊢; omega⟩
    · rw [if_neg hs] at h
      have := fieldsGo_in l (cur ++ [b]) x h
      exact ⟨this.1, by have := this.2; simp at this ⊢; omega⟩
theorem parts_in (l : List UInt8) : (partsOut (ba l)).1.length ≤ 10 ∧ ∀ x ∈ (partsOut (ba l)).1, x ≠ [] ∧ x.length ≤ 600 := by
  unfold partsOut
  split
  · rename_i h
    refine ⟨h.2.2, fun x hx => ?_⟩
    have h1 := fieldsGo_in _ _ x hx
    refine ⟨h1.1, Nat.le_trans h1.2 ?_⟩
    have : (ba l).data.toList.length = (ba l).size := by rw [Array.length_toList]; rfl
    rw [this]
    simpa using h.1
  · exact ⟨Nat.zero_le _, fun x hx => by cases hx⟩
theorem bitsO_len {l : List UInt8} {bs : List Bool} (h : bitsO l = some bs) : bs.length ≤ l.length := by
  unfold bitsO at h
  split at h
  · injection h with h; subst h; simp
  · split at h
    · injection h with h; subst h; simp
    · cases h
theorem evOf_small {p : List (List UInt8)} (hp : ∀ x ∈ p, x.length ≤ 600) {ev : Evt} (h : evOf p = some ev) : ev.key.size ≤ 600 ∧ ev.val.size ≤ 600 ∧ ev.left.length ≤ 600 := by
  have hd : ∀ j, (p.getD j []).length ≤ 600 := fun j => by
    rw [List.getD_eq_getElem?_getD]
    cases h : p[j]? with
    | none => simp
    | some x => exact hp x (List.mem_of_getElem? h)
  have hb : ∀ j, (ba (p.getD j [])).size ≤ 600 := fun j => by rw [ba_size]; exact hd j
  have h0 : (⟨#[]⟩ : ByteArray).size ≤ 600 := Nat.zero_le _
  rw [evOf] at h
  obtain ⟨i, -, h⟩ := Option.bind_eq_some_iff.1 h
  unfold evAt at h
  split at h
  · injection h with h; subst h; exact ⟨hb 1, hb 2, Nat.zero_le _⟩
  · injection h with h; subst h; exact ⟨hb 1, h0, Nat.zero_le _⟩
  · obtain ⟨n, -, h⟩ := Option.map_eq_some_iff.1 h; subst h; exact ⟨h0, h0, Nat.zero_le _⟩
  · obtain ⟨n, -, h⟩ := Option.map_eq_some_iff.1 h; subst h; exact ⟨hb 2, h0, Nat.zero_le _⟩
  · obtain ⟨n, -, h⟩ := Option.map_eq_some_iff.1 h; subst h; exact ⟨h0, h0, Nat.zero_le _⟩
  · obtain ⟨n, -, h⟩ := Option.bind_eq_some_iff.1 h
    obtain ⟨bs, hbs, h⟩ := Option.map_eq_some_iff.1 h
    subst h
    exact ⟨h0, h0, Nat.le_trans (bitsO_len hbs) (hd 2)⟩
  · injection h with h; subst h; exact ⟨h0, h0, Nat.zero_le _⟩
theorem kept_appE {W w' : World} {o : Obj} {v : Value} (hg : (W.alloc o).grownBy w' v.ownBlock) : Kept W w' (fun k => v.ownBlock = some k) := by
  exact ⟨hg.os, hg.tape, hg.output, Nat.le_trans (by simp) hg.size, fun k hk hn => (hg.block k (by simp; omega) (fun e => hn e.symm)).trans (heap_alloc_old W o hk)⟩
theorem evsOwn_snoc {W W' : World} {B K : Nat} {v v' : Value} {l : List (Evt × Value)} {q : Evt × Value} (h : EvsOwn W B v l) (hold : ∀ p ∈ l, ∀ b, p.2.ownBlock = some b → b < K) (hq : W.ownsRow B 4 1 q.2 q.1.left.length (bools q.1.left)) (hnew : ∀ b, q.2.ownBlock = some b → K ≤ b)
    (h1 : W'.ownsRow B 35 7 v' (l.length + 1) (evs l ++ ev7 q)) (hk : Kept W W' (fun b => v.ownBlock = some b)) : EvsOwn W' B v' (l ++ [q]) := by
  refine ⟨?_, fun p hp => ?_, fun i j p r b hi hj h2 h3 => ?_⟩
  · rw [List.length_append, evs_append]
    simpa [evs] using h1
  · rcases List.mem_append.1 hp with hp | hp
    · exact own_kept (h.2.1 p hp) hk (fun b hb e => one_type h.1 (h.2.1 p hp) Tryd.ev_bool b e hb)
    · rw [List.mem_singleton] at hp
      subst hp
      exact own_kept hq hk (fun b hb e => one_type h.1 hq Tryd.ev_bool b e hb)
  · by_cases hil : i < l.length
    · rw [List.getElem?_append_left hil] at hi
      by_cases hjl : j < l.length
      · rw [List.getElem?_append_left hjl] at hj
        exact h.2.2 i j p r b hi hj h2 h3
      · rw [List.getElem?_append_right (by omega)] at hj
        have hj2 := List.mem_of_getElem? hj
        rw [List.mem_singleton] at hj2
        subst hj2
        have h4 := hold p (List.mem_of_getElem? hi) b h2
        have h5 := hnew b h3
        omega
    · have hi2 := (List.getElem?_eq_some_iff.1 hi).1
      rw [List.length_append, List.length_singleton] at hi2
      by_cases hjl : j < l.length
      · rw [List.getElem?_append_left hjl] at hj
        rw [List.getElem?_append_right (by omega)] at hi
        have hi3 := List.mem_of_getElem? hi
        rw [List.mem_singleton] at hi3
        subst hi3
        have h4 := hold r (List.mem_of_getElem? hj) b h3
        have h5 := hnew b h2
        omega
      · have hj2 := (List.getElem?_eq_some_iff.1 hj).1
        rw [List.length_append, List.length_singleton] at hj2
        omega
theorem evs_none (w : World) (B : Nat) (hB : B ≤ w.heap.size) : EvsOwn (w.alloc (.cells #[] 35)) B (.slice (some ⟨w.heap.size, 0, none⟩) 0 0) [] := by
  refine ⟨?_, fun p hp => by (cases hp), fun i j p q b hi => by simp at hi⟩
  have h := World.ownsRow_lit (base := B) (e := 35) (size := 7) w #[] 0 hB (by unfold maxLen; omega) (by simp)
  simpa [evs] using h
theorem oneCell_ev7 (p : Evt × Value) (h : p.2.oneCell' = true) : ∀ u ∈ ev7 p, u.oneCell' = true := by
  intro u hu
  simp only [ev7, List.mem_cons, List.mem_nil_iff, or_false] at hu
  rcases hu with rfl | rfl | rfl | rfl | rfl | rfl | rfl <;> first | rfl | exact h
theorem scr_drop {L : List (List UInt8)} {i : Nat} {x : List UInt8} (h : L[i]? = some x) : L.drop i = x :: L.drop (i + 1) := by
  obtain ⟨hi, e⟩ := List.getElem?_eq_some_iff.1 h
  rw [List.drop_eq_getElem_cons hi, e]
def ScrRet (w w' : World) (r : Int × List Evt × Int) (e : Ending) : Prop := (∃ (v : Value) (l : List (Evt × Value)), e = .returned (.tuple #[.int .i64 r.1, v, .int .i64 r.2.2]) ∧ l.map Prod.fst = r.2.1 ∧ EvsOwn w' w.heap.size v l) ∧ Below w.heap.size w w'
theorem scr_mk {w w' : World} {r : Int × List Evt × Int} {e : Ending} (v : Value) (l : List (Evt × Value)) (he : e = .returned (.tuple #[.int .i64 r.1, v, .int .i64 r.2.2])) (h1 : l.map Prod.fst = r.2.1) (h2 : EvsOwn w' w.heap.size v l) (h3 : Below w.heap.size w w') : ScrRet w w' r e := ⟨⟨v, l, he, h1, h2⟩, h3⟩
open Go.RowKit
def prq (l : List (ByteArray × ByteArray)) : List Value := l.flatMap fun p => [.string p.1, .string p.2]
theorem prq_cons (p : ByteArray × ByteArray) (l : List (ByteArray × ByteArray)) : prq (p :: l) = Value.string p.1 :: .string p.2 :: prq l := rfl
theorem prq_at (l : List (ByteArray × ByteArray)) : ∀ k (h : k < l.length), (prq l)[k * 2]? = some (.string l[k].1) ∧ (prq l)[k * 2 + 1]? = some (.string l[k].2) := by
  induction l with
  | nil => intro k h; simp at h
  | cons p l ih =>
    intro k h
    cases k with
    | zero => exact ⟨rfl, rfl⟩
    | succ k =>
      have := ih k (by simpa using h)
      have e : (k + 1) * 2 = k * 2 + 1 + 1 := by omega
      rw [e, prq_cons]
      exact this
def modelP (l : List (ByteArray × ByteArray)) (key val : ByteArray) : List (ByteArray × ByteArray) := l.filter (fun p => Op.bytesLess p.1.toList key.toList) ++ [(key, val)] ++ l.filter (fun p => !Op.bytesLess p.1.toList key.toList && !p.1.toList == key.toList)
theorem prq_app (l m : List (ByteArray × ByteArray)) : prq (l ++ m) = prq l ++ prq m := by
  induction l with
  | nil => rfl
  | cons p l ih => rw [List.cons_append, prq_cons, prq_cons, ih]; rfl
theorem take_nextM {α : Type} (l : List α) (k : Nat) (x : α) (h : l[k]? = some x) : l.take (k + 1) = l.take k ++ [x] := by rw [List.take_add_one, h]; rfl
theorem tf_yes {α : Type} {zs : List α} {k : Nat} {z : α} (hz : zs[k]? = some z) {p : α → Bool} (hp : p z = true) : (zs.take (k + 1)).filter p = (zs.take k).filter p ++ [z] := by
  rw [take_nextM zs k z hz, List.filter_append]
  simp [hp]
theorem tf_no {α : Type} {zs : List α} {k : Nat} {z : α} (hz : zs[k]? = some z) {p : α → Bool} (hp : p z = false) : (zs.take (k + 1)).filter p = (zs.take k).filter p := by
  rw [take_nextM zs k z hz, List.filter_append]
  simp [hp]
theorem sep_row2 {B : Nat} {W : World} {g e : Nat} {l : List Ast} (h : Sep B W (cellA g (Obj.cells #[] e) :: l)) : Sep B W (rowA B e 2 (.slice (some ⟨g, 0, none⟩) 0 0) 0 [] :: l) := by
  obtain ⟨⟨h1, h2⟩, h3, h4⟩ := sep_cons.1 h
  refine sep_cons.2 ⟨⟨⟨rfl, Or.inr ⟨g, 0, #[], rfl, (h2 g rfl).1, h1, Nat.le_refl _, Nat.zero_le _, rfl, rfl⟩⟩, fun k hk => ?_⟩, fun A' hA' k hk => ?_, h4⟩
  · injection hk with hk
    exact h2 k hk.symm
  · injection hk with hk
    exact h3 A' hA' k hk.symm
theorem Tryd.infoPairM : (Tryd.prog.info? 32).map (fun i => (i.zero, i.size, i.bytes)) = some (some (.agg #[.string ⟨#[]⟩, .string ⟨#[]⟩]), 2, 32) := by kernel_rfl
theorem wpList_pr1 {ops : Array Oper} {rest : List Oper} {o : Oper} {a : Act} {Q : Exit → Act → World → Prop} {B : Nat} {W : World} {l : List Ast} (h : Sep B W l) (i : Nat) {B' n : Nat} {v : Value} {xs : List (ByteArray × ByteArray)} (hi : l[i]? = some (rowA B' 32 2 v n (prq xs))) (hBB : B ≤ B') (hBW : B ≤ W.heap.size) (hBW' : B' ≤ W.heap.size)
    (hgd : o.guard = none) (s x : Operand) (ho : o.op = .call { callee := .builtin .append, args := #[s, x], argTypes := #[24, 24] }) (hs : a.eval s = v) (key val : ByteArray) {H : Nat} (hH : H = W.heap.size) (hx : a.eval x = .slice (some ⟨H, 0, none⟩) 1 1) (hn : n ≤ 3000000)
    (hK : ∀ b c w', Sep B w' (l.set i (rowA B' 32 2 (.slice (some ⟨b, 0, none⟩) (n + 1) c) (n + 1) (prq (xs ++ [(key, val)])))) → Below B W w' → wpList Tryd.prog ops Q rest (a.put o.dst (.slice (some ⟨b, 0, none⟩) (n + 1) c)) w') :
    wpList Tryd.prog ops Q (o :: rest) a (W.alloc (Obj.cells #[.string key, .string val] 32)) := by
  obtain ⟨i0, hinf, hz0, hz1, hz2⟩ := info_parts Tryd.infoPairM
  refine wpList_sep1 h i hi hBB hBW hBW' hgd s x 24 ho i0 (.agg #[.string ⟨#[]⟩, .string ⟨#[]⟩]) 32 Tryd.underlying24 hinf hz0 hz1 hz2 rfl (by decide) hs #[.string key, .string val] hH hx rfl (fun y hy => by simp at hy; rcases hy with rfl | rfl <;> rfl) (by unfold maxLen; omega) (by omega) (fun b c w' k1 k2 => hK b c w' ?_ k2)
  rw [prq_app]
  exact k1
theorem prq_cells {w wr : World} {a : Option Addr} {n c : Nat} {l : List (ByteArray × ByteArray)} (h : RowAt w 2 (.slice a n c) n (prq l)) (hb : Below w.heap.size w wr) {k : Nat} (hk : k < n) {p : ByteArray × ByteArray} (hp : l[k]? = some p) :
    ∃ b off, a = some ⟨b, off, none⟩ ∧ wr.cell? ⟨b, off + k * 2, none⟩ = some (.string p.1) ∧ wr.cell? ⟨b, off + k * 2 + 1, none⟩ = some (.string p.2) := by
  obtain ⟨hl, a', cap, ea, h2⟩ := h
  injection ea with e1 e2 e3
  subst e1
  rcases h2 with h0 | ⟨b, off, rfl, hlt, hc⟩
  · omega
  · obtain ⟨hlk, hpk⟩ := List.getElem?_eq_some_iff.1 hp
    obtain ⟨q1, q2⟩ := prq_at l k hlk
    rw [hpk] at q1 q2
    exact ⟨b, off, rfl, by rw [hb.cell (by exact hlt), hc (k * 2) (by omega)]; exact q1, by rw [hb.cell (by exact hlt), Nat.add_assoc, hc (k * 2 + 1) (by omega)]; exact q2⟩
set_option maxHeartbeats 8000000 in
set_option maxRecDepth 100000 in
theorem specModelPut_any (l : List (ByteArray × ByteArray)) (hl : l.length ≤ 1200000) (key : ByteArray) (val : ByteArray) (v : Value) (w : World) (hr : RowAt w 2 v l.length (prq l)) :
    Calls Tryd.prog 32 #[v, .string key, .string val] w fun e w' => ∃ v', e = .returned v' ∧ w'.ownsRow w.heap.size 32 2 v' (modelP l key val).length (prq (modelP l key val)) ∧ Below w.heap.size w w' := by
  have HR0 := hide hr
  obtain ⟨-, a, cap, rfl, -⟩ := hr
  obtain ⟨L, hL⟩ : ∃ n, n = l.length := ⟨_, rfl⟩
  have HL := hide hL
  have HR : Hid (RowAt w 2 (.slice a L cap) L (prq l)) := hide (by rw [hL]; exact HR0.out)
  rw [← hL] at hl ⊢
  clear HR0 hL
  obtain ⟨a0, ha0⟩ : ∃ x, x = w.heap.size := ⟨_, rfl⟩
  have HA := hide ha0
  obtain ⟨w0, hw0⟩ : ∃ wx, wx = w.alloc (Obj.cells #[] 32) := ⟨_, rfl⟩
  have HS0 : Hid (Sep a0 w0 [rowA a0 32 2 (.slice (some ⟨a0, 0, none⟩) 0 0) 0 []]) := hide (by rw [hw0, ha0]; exact sep_row2 (sep_new (sep_nil w.heap.size w) _ (Nat.le_refl _)))
  have HB0 : Hid (Below w.heap.size w w0) := hide (by rw [hw0]; exact (Below.refl w.heap.size w).alloc (Nat.le_refl _) _)
  have HZ0 : Hid (a0 ≤ w0.heap.size) := hide (by rw [hw0, ha0]; simp)
  clear ha0
  go_enter Tryd.func32, Tryd.ntmps32
  go_wp2_with fail
  rw [← hw0, ← HA.out]
  clear hw0
  go_loopg [7, 8] L (fun q lv iv wr => ∃ (k n : Nat) (x : Option Addr) (y : Nat), k ≤ L ∧ lv = .slice x n y ∧ iv = .int .i64 (k : Int) ∧ q + k = L ∧ Hid (n = ((l.take k).filter (fun p => Op.bytesLess p.1.toList key.toList)).length) ∧ Hid (Sep a0 wr [rowA a0 32 2 (.slice x n y) n (prq ((l.take k).filter (fun p => Op.bytesLess p.1.toList key.toList)))]) ∧ Hid (Below w.heap.size w wr) ∧ Hid (a0 ≤ wr.heap.size))
  case atStart => exact ⟨0, 0, some ⟨a0, 0, none⟩, 0, Nat.zero_le _, rfl, rfl, by omega, hide (by simp), hide (by rw [List.take_zero, List.filter_nil]; exact HS0.out), HB0, HZ0⟩
  case round =>
    obtain ⟨k, n, x, y, hk, rfl, rfl, hg, HN, HSl, HB, HZ⟩ := hrel
    have HQ := hide hg
    clear hg
    by_cases hlt : k < L
    · obtain ⟨p, hp⟩ : ∃ p, l[k]? = some p := ⟨_, List.getElem?_eq_getElem (by rw [← HL.out]; exact hlt)⟩
      obtain ⟨b, off, hab, c0, c1⟩ := prq_cells HR.out HB.out hlt hp
      subst hab
      have HPk := hide hp
      obtain ⟨pk, pv⟩ := p
      dsimp only at c0 c1
      have hk1 : (k : Int) < (L : Int) := by omega
      have hnl : n ≤ 3000000 := by have h1 := HN.out; have h2 : ((l.take k).filter (fun p => Op.bytesLess p.1.toList key.toList)).length ≤ 2900000 := (by (try simp only [List.length_append, List.length_cons, List.length_nil]); have h3 := List.length_filter_le (fun p => Op.bytesLess p.1.toList key.toList) (l.take k); have h4 := List.length_take_le k l; obtain h6 := HL.out; omega); omega
      clear hp
      obtain ⟨t, ht⟩ : ∃ t, Op.bytesLess pk.toList key.toList = t := ⟨_, rfl⟩
      have HT : Hid ((fun p => Op.bytesLess p.1.toList key.toList) (pk, pv) = t) := hide (by rw [← ht])
      cases t
      · have HF : Hid ((l.take (k + 1)).filter (fun p => Op.bytesLess p.1.toList key.toList) = (l.take k).filter (fun p => Op.bytesLess p.1.toList key.toList)) := hide (by rw [tf_no HPk.out (p := (fun p => Op.bytesLess p.1.toList key.toList)) HT.out])
        go_wp2_with fail
        go_roundg (gk - 1)
        case measure => have := HQ.out; omega
        case rel => exact ⟨k + 1, n, x, y, by omega, rfl, by go_num, by have := HQ.out; omega, hide (by rw [HF.out]; exact HN.out), hide (by rw [HF.out]; exact HSl.out), HB, HZ⟩
      · have HF : Hid ((l.take (k + 1)).filter (fun p => Op.bytesLess p.1.toList key.toList) = (l.take k).filter (fun p => Op.bytesLess p.1.toList key.toList) ++ [(pk, pv)]) := hide (by rw [tf_yes HPk.out (p := (fun p => Op.bytesLess p.1.toList key.toList)) HT.out])
        go_wp2_with (at_builtin; refine wpList_pr1 HSl.out 0 rfl (Nat.le_refl a0) HZ.out HZ.out rfl (.tmp 24) (.tmp 29) rfl rfl pk pv rfl rfl hnl ?_)
        intro b9 c9 W9 hs9 hb9
        have HS9 : Hid (Sep a0 W9 [rowA a0 32 2 (.slice (some ⟨b9, 0, none⟩) (n + 1) c9) (n + 1) (prq ((l.take (k + 1)).filter (fun p => Op.bytesLess p.1.toList key.toList)))]) := hide (by
          rw [HF.out]
          exact hs9)
        have HB9 : Hid (Below w.heap.size w W9) := hide (HB.out.trans (by rw [← HA.out]; exact hb9))
        have HZ9 : Hid (a0 ≤ W9.heap.size) := hide (Nat.le_trans HZ.out hb9.size)
        have HN9 : Hid (n + 1 = ((l.take (k + 1)).filter (fun p => Op.bytesLess p.1.toList key.toList)).length) := hide (by rw [HF.out, List.length_append, HN.out]; rfl)
        clear hs9 hb9 c0 c1
        go_wp2_with fail
        go_roundg (gk - 1)
        case measure => have := HQ.out; omega
        case rel => exact ⟨k + 1, n + 1, some ⟨b9, 0, none⟩, c9, by omega, rfl, by go_num, by have := HQ.out; omega, HN9, HS9, HB9, HZ9⟩
    · have hkL : L = k := by omega
      subst hkL
      have hfa : l.take L = l := List.take_of_length_le (by rw [← HL.out]; exact Nat.le_refl _)
      have HSl2 := HSl.out
      rw [hfa] at HSl2
      have HN2 := HN.out
      rw [hfa] at HN2
      have HSa := hide HSl2
      have HNa := hide HN2
      clear HSl HN HSl2 HN2 hfa
      have hnl : n ≤ 3000000 := by have h1 := HNa.out; have h3 := List.length_filter_le (fun p => Op.bytesLess p.1.toList key.toList) l; have h6 := HL.out; omega
      go_wp2_with (at_builtin; refine wpList_pr1 HSa.out 0 rfl (Nat.le_refl a0) HZ.out HZ.out rfl (.tmp 31) (.tmp 35) rfl rfl key val rfl rfl hnl ?_)
      intro b9 c9 W9 hs9 hb9
      have HS9 : Hid (Sep a0 W9 [rowA a0 32 2 (.slice (some ⟨b9, 0, none⟩) (n + 1) c9) (n + 1) (prq (l.filter (fun p => Op.bytesLess p.1.toList key.toList) ++ [(key, val)]))]) := hide hs9
      have HB9 : Hid (Below w.heap.size w W9) := hide (HB.out.trans (by rw [← HA.out]; exact hb9))
      have HZ9 : Hid (a0 ≤ W9.heap.size) := hide (Nat.le_trans HZ.out hb9.size)
      have HN9 : Hid (n + 1 = (l.filter (fun p => Op.bytesLess p.1.toList key.toList) ++ [(key, val)]).length) := hide (by rw [List.length_append, HNa.out]; rfl)
      clear hs9 hb9 hnl
      go_wp2_with fail
      go_loopg [7, 9] L (fun q lv iv wr => ∃ (k n : Nat) (x : Option Addr) (y : Nat), k ≤ L ∧ lv = .slice x n y ∧ iv = .int .i64 (k : Int) ∧ q + k = L ∧ Hid (n = (l.filter (fun p => Op.bytesLess p.1.toList key.toList) ++ [(key, val)] ++ (l.take k).filter (fun p => !Op.bytesLess p.1.toList key.toList && !p.1.toList == key.toList)).length) ∧ Hid (Sep a0 wr [rowA a0 32 2 (.slice x n y) n (prq (l.filter (fun p => Op.bytesLess p.1.toList key.toList) ++ [(key, val)] ++ (l.take k).filter (fun p => !Op.bytesLess p.1.toList key.toList && !p.1.toList == key.toList)))]) ∧ Hid (Below w.heap.size w wr) ∧ Hid (a0 ≤ wr.heap.size))
      case atStart => exact ⟨0, n + 1, some ⟨b9, 0, none⟩, c9, Nat.zero_le _, rfl, rfl, by omega, hide (by rw [HN9.out]; simp), hide (by rw [List.take_zero, List.filter_nil, List.append_nil]; exact HS9.out), HB9, HZ9⟩
      case round =>
        obtain ⟨k, n, x, y, hk, rfl, rfl, hg, HN, HSl, HB, HZ⟩ := hrel
        have HQ := hide hg
        clear hg
        by_cases hlt : k < L
        · obtain ⟨p, hp⟩ : ∃ p, l[k]? = some p := ⟨_, List.getElem?_eq_getElem (by rw [← HL.out]; exact hlt)⟩
          obtain ⟨b, off, hab, c0, c1⟩ := prq_cells HR.out HB.out hlt hp
          subst hab
          have HPk := hide hp
          obtain ⟨pk, pv⟩ := p
          dsimp only at c0 c1
          have hk1 : (k : Int) < (L : Int) := by omega
          have hnl : n ≤ 3000000 := by have h1 := HN.out; have h2 : (l.filter (fun p => Op.bytesLess p.1.toList key.toList) ++ [(key, val)] ++ (l.take k).filter (fun p => !Op.bytesLess p.1.toList key.toList && !p.1.toList == key.toList)).length ≤ 2900000 := (by (try simp only [List.length_append, List.length_cons, List.length_nil]); have h3 := List.length_filter_le (fun p => !Op.bytesLess p.1.toList key.toList && !p.1.toList == key.toList) (l.take k); have h4 := List.length_take_le k l; have h5 := List.length_filter_le (fun p => Op.bytesLess p.1.toList key.toList) l; obtain h6 := HL.out; omega); omega
          clear hp
          obtain ⟨t, ht⟩ : ∃ t, Op.bytesLess pk.toList key.toList = t := ⟨_, rfl⟩
          obtain ⟨q2, hq2⟩ : ∃ t, (pk.toList == key.toList) = t := ⟨_, rfl⟩
          have HT : Hid ((fun p => !Op.bytesLess p.1.toList key.toList && !p.1.toList == key.toList) (pk, pv) = (!t && !q2)) := hide (by rw [← ht, ← hq2])
          cases t
          rotate_left
          · have HF : Hid (l.filter (fun p => Op.bytesLess p.1.toList key.toList) ++ [(key, val)] ++ (l.take (k + 1)).filter (fun p => !Op.bytesLess p.1.toList key.toList && !p.1.toList == key.toList) = l.filter (fun p => Op.bytesLess p.1.toList key.toList) ++ [(key, val)] ++ (l.take k).filter (fun p => !Op.bytesLess p.1.toList key.toList && !p.1.toList == key.toList)) := hide (by rw [tf_no HPk.out (p := (fun p => !Op.bytesLess p.1.toList key.toList && !p.1.toList == key.toList)) HT.out])
            go_wp2_with fail
            go_roundg (gk - 1)
            case measure => have := HQ.out; omega
            case rel => exact ⟨k + 1, n, x, y, by omega, rfl, by go_num, by have := HQ.out; omega, hide (by rw [HF.out]; exact HN.out), hide (by rw [HF.out]; exact HSl.out), HB, HZ⟩
          cases q2
          rotate_left
          · have HF : Hid (l.filter (fun p => Op.bytesLess p.1.toList key.toList) ++ [(key, val)] ++ (l.take (k + 1)).filter (fun p => !Op.bytesLess p.1.toList key.toList && !p.1.toList == key.toList) = l.filter (fun p => Op.bytesLess p.1.toList key.toList) ++ [(key, val)] ++ (l.take k).filter (fun p => !Op.bytesLess p.1.toList key.toList && !p.1.toList == key.toList)) := hide (by rw [tf_no HPk.out (p := (fun p => !Op.bytesLess p.1.toList key.toList && !p.1.toList == key.toList)) HT.out])
            go_wp2_with fail
            go_roundg (gk - 1)
            case measure => have := HQ.out; omega
            case rel => exact ⟨k + 1, n, x, y, by omega, rfl, by go_num, by have := HQ.out; omega, hide (by rw [HF.out]; exact HN.out), hide (by rw [HF.out]; exact HSl.out), HB, HZ⟩
          · have HF : Hid (l.filter (fun p => Op.bytesLess p.1.toList key.toList) ++ [(key, val)] ++ (l.take (k + 1)).filter (fun p => !Op.bytesLess p.1.toList key.toList && !p.1.toList == key.toList) = l.filter (fun p => Op.bytesLess p.1.toList key.toList) ++ [(key, val)] ++ (l.take k).filter (fun p => !Op.bytesLess p.1.toList key.toList && !p.1.toList == key.toList) ++ [(pk, pv)]) := hide (by rw [tf_yes HPk.out (p := (fun p => !Op.bytesLess p.1.toList key.toList && !p.1.toList == key.toList)) HT.out]; exact (List.append_assoc _ _ _).symm)
            go_wp2_with (at_builtin; refine wpList_pr1 HSl.out 0 rfl (Nat.le_refl a0) HZ.out HZ.out rfl (.tmp 50) (.tmp 55) rfl rfl pk pv rfl rfl hnl ?_)
            intro b9 c9 W9 hs9 hb9
            have HS9 : Hid (Sep a0 W9 [rowA a0 32 2 (.slice (some ⟨b9, 0, none⟩) (n + 1) c9) (n + 1) (prq (l.filter (fun p => Op.bytesLess p.1.toList key.toList) ++ [(key, val)] ++ (l.take (k + 1)).filter (fun p => !Op.bytesLess p.1.toList key.toList && !p.1.toList == key.toList)))]) := hide (by
              rw [HF.out]
              simp only [List.append_assoc, List.cons_append, List.nil_append] at hs9 ⊢; exact hs9)
            have HB9 : Hid (Below w.heap.size w W9) := hide (HB.out.trans (by rw [← HA.out]; exact hb9))
            have HZ9 : Hid (a0 ≤ W9.heap.size) := hide (Nat.le_trans HZ.out hb9.size)
            have HN9 : Hid (n + 1 = (l.filter (fun p => Op.bytesLess p.1.toList key.toList) ++ [(key, val)] ++ (l.take (k + 1)).filter (fun p => !Op.bytesLess p.1.toList key.toList && !p.1.toList == key.toList)).length) := hide (by rw [HF.out, List.length_append, HN.out]; rfl)
            clear hs9 hb9 c0 c1
            go_wp2_with fail
            go_roundg (gk - 1)
            case measure => have := HQ.out; omega
            case rel => exact ⟨k + 1, n + 1, some ⟨b9, 0, none⟩, c9, by omega, rfl, by go_num, by have := HQ.out; omega, HN9, HS9, HB9, HZ9⟩
        · have hkL : L = k := by omega
          subst hkL
          have hfa : l.take L = l := List.take_of_length_le (by rw [← HL.out]; exact Nat.le_refl _)
          have HSl2 := HSl.out
          rw [hfa] at HSl2
          have HN2 := HN.out
          rw [hfa] at HN2
          have HSa := hide HSl2
          have HNa := hide HN2
          clear HSl HN HSl2 HN2 hfa
          go_wp2_with fail
          go_ret
          refine ⟨_, rfl, ?_, HB.out⟩
          have h := sep_get HSa.out 0 rfl
          rw [HNa.out, HA.out] at h
          rw [HNa.out]
          exact h
open Go.RowKit
def showP (L : List (ByteArray × ByteArray)) : ByteArray := L.foldl (fun s p => s ++ p.1 ++ ⟨#[32]⟩ ++ p.2 ++ ⟨#[10]⟩) ⟨#[]⟩
theorem showP_next (L : List (ByteArray × ByteArray)) (i : Nat) {p : ByteArray × ByteArray} (h : L[i]? = some p) : showP (L.take (i + 1)) = showP (L.take i) ++ p.1 ++ ⟨#[32]⟩ ++ p.2 ++ ⟨#[10]⟩ := by
  rw [take_nextM L i p h, showP, List.foldl_append]
  rfl
set_option maxHeartbeats 1000000 in
set_option maxRecDepth 100000 in
theorem specShowPairs_any (L : List (ByteArray × ByteArray)) (hl : L.length ≤ 1200000) (hz : ∀ p ∈ L, p.1.size ≤ 1048576 ∧ p.2.size ≤ 1048576) (v : Value) (w : World) (hr : RowAt w 2 v L.length (prq L)) :
    Calls Tryd.prog 10 #[v] w fun e w' => e = .returned (.string (showP L)) ∧ Below w.heap.size w w' := by
  obtain ⟨hlen, a, cap, rfl, hrow⟩ := hr
  have HC := hide (fun (wr : World) (hb : Below w.heap.size w wr) (k : Nat) (hk : k < L.length) (p : ByteArray × ByteArray) (hp : L[k]? = some p) => prq_cells (⟨hlen, a, cap, rfl, hrow⟩ : RowAt w 2 (.slice a L.length cap) L.length (prq L)) hb hk hp)
  obtain ⟨n, hn⟩ : ∃ n, L.length = n := ⟨_, rfl⟩
  have HN := hide hn
  have HZz := hide hz
  rw [hn] at HC hl ⊢
  clear hn hrow hlen hz
  go_enter Tryd.func10, Tryd.ntmps10
  go_wp2
  go_loopg [3, 4] n (fun q sv iv wr => ∃ (i : Nat) (s : ByteArray), i ≤ n ∧ q + i = n ∧ iv = .int .i64 (i : Int) ∧ sv = .string s ∧ Hid (s = showP (L.take i) ∧ s.size ≤ i * 2097154) ∧ Hid (Below w.heap.size w wr))
  case atStart => exact ⟨0, ⟨#[]⟩, Nat.zero_le _, rfl, rfl, rfl, hide ⟨rfl, Nat.le_refl _⟩, hide (Below.refl _ _)⟩
  case round =>
    obtain ⟨i, s, hin, hq, rfl, rfl, HSh, HB⟩ := hrel
    have HQ := hide hq
    clear hq
    by_cases hlt : i < n
    · obtain ⟨p, hp⟩ : ∃ p, L[i]? = some p := ⟨L[i]'(by have := HN.out; omega), List.getElem?_eq_getElem _⟩
      obtain ⟨x, y⟩ := p
      obtain ⟨g, off, rfl, c0, c1⟩ := HC.out wr HB.out i hlt (x, y) hp
      have HNx := hide (showP_next L i hp)
      obtain ⟨z1, z2⟩ := HZz.out (x, y) (List.mem_of_getElem? hp)
      have z1 : x.size ≤ 1048576 := z1
      have z2 : y.size ≤ 1048576 := z2
      have z3 : s.size ≤ 2600000000000 := by have := HSh.out.2; omega
      have HSz : Hid ((s ++ x ++ ⟨#[32]⟩ ++ y ++ ⟨#[10]⟩).size ≤ (i + 1) * 2097154) := hide (by have := HSh.out.2; simp only [ByteArray.size_append]; have e1 : (⟨#[32]⟩ : ByteArray).size = 1 := rfl; have e2 : (⟨#[10]⟩ : ByteArray).size = 1 := rfl; omega)
      have hi0 : (0 : Int) ≤ (i : Int) := by omega
      have hi1 : (i : Int) < (n : Int) := by omega
      clear hp
      go_wp2_with fail
      go_quiet (fail)
      go_wp2_with fail
      go_roundg (gk - 1)
      case measure => have := HQ.out; omega
      case rel => exact ⟨i + 1, _, by omega, by have := HQ.out; omega, by go_num, rfl, hide ⟨by rw [HNx.out, ← HSh.out.1], HSz.out⟩, hide (below_drewN HB.out _)⟩
    · obtain rfl : i = n := by omega
      go_wp2
      go_ret
      exact ⟨by rw [HSh.out.1, List.take_of_length_le (by rw [HN.out]; exact Nat.le_refl _)]; rfl, HB.out⟩
open Go.RowKit
def bases : List ByteArray := [⟨#[97]⟩, ⟨#[98]⟩, ⟨#[99]⟩, ⟨#[100]⟩, ⟨#[101]⟩, ⟨#[102]⟩, ⟨#[103]⟩, ⟨#[104]⟩, ⟨#[107]⟩, ⟨#[109]⟩, ⟨#[112]⟩, ⟨#[113]⟩, ⟨#[115]⟩, ⟨#[120]⟩, ⟨#[122]⟩, ⟨#[]⟩]
theorem bases_size {c : ByteArray} (h : c ∈ bases) : c.size ≤ 1 := by
  simp only [bases, List.mem_cons, List.not_mem_nil, or_false] at h
  rcases h with rfl | rfl | rfl | rfl | rfl | rfl | rfl | rfl | rfl | rfl | rfl | rfl | rfl | rfl | rfl | rfl <;> decide
theorem less_total : ∀ (s t : List UInt8), Op.bytesLess s t = false → (s == t) = false → Op.bytesLess t s = true
  | [], [], _, h => by simp at h
  | [], _ :: _, h, _ => by simp [Op.bytesLess] at h
  | _ :: _, [], _, _ => by simp [Op.bytesLess]
  | x :: s, y :: t, h, hq => by
    rw [Op.bytesLess] at h ⊢
    by_cases he : x = y
    · subst he
      have hq' : (s == t) = false := by
        rw [beq_eq_false_iff_ne] at hq ⊢
        intro e; exact hq (by rw [e])
      simp at h ⊢
      exact less_total s t h hq'
    · have h1 : ¬ x < y := by intro hl; simp [hl] at h
      have h2 : y < x := by
        rcases UInt8.lt_or_lt_of_ne he with h | h
        · exact absurd h h1
        · exact h
      simp [h2]
open Go.RowKit
theorem less_trans : ∀ (s t u : List UInt8), Op.bytesLess s t = true → Op.bytesLess t u = true → Op.bytesLess s u = true
  | [], [], _, h, _ => by simp [Op.bytesLess] at h
  | [], _ :: _, [], _, k => by simp [Op.bytesLess] at k
  | [], _ :: _, _ :: _, _, _ => by simp [Op.bytesLess]
  | _ :: _, [], _, h, _ => by simp [Op.bytesLess] at h
  | _ :: _, _ :: _, [], _, k => by simp [Op.bytesLess] at k
  | x :: s, y :: t, z :: u, h, k => by
    simp only [Op.bytesLess, Bool.or_eq_true, Bool.and_eq_true, decide_eq_true_eq, beq_iff_eq] at h k ⊢
    rcases h with h | ⟨rfl, h⟩
    · rcases k with k | ⟨rfl, k⟩
      · exact Or.inl (UInt8.lt_trans h k)
      · exact Or.inl h
    · rcases k with k | ⟨rfl, k⟩
      · exact Or.inl k
      · exact Or.inr ⟨rfl, less_trans s t u h k⟩
open Go.RowKit
def AscM (l : List (ByteArray × ByteArray)) : Prop := l.Pairwise fun p q => Op.bytesLess p.1.toList q.1.toList = true
def aftB (key : ByteArray) (p : ByteArray × ByteArray) : Bool := !Op.bytesLess p.1.toList key.toList && !p.1.toList == key.toList
theorem aft_less {key : ByteArray} {p : ByteArray × ByteArray} (h : aftB key p = true) : Op.bytesLess key.toList p.1.toList = true := by
  unfold aftB at h
  rw [Bool.and_eq_true, Bool.not_eq_true', Bool.not_eq_true'] at h
  exact less_total _ _ h.1 h.2
theorem modelP_eq (l : List (ByteArray × ByteArray)) (key val : ByteArray) : modelP l key val = l.filter (fun p => Op.bytesLess p.1.toList key.toList) ++ [(key, val)] ++ l.filter (aftB key) := rfl
theorem modelP_asc {l : List (ByteArray × ByteArray)} (h : AscM l) (key val : ByteArray) : AscM (modelP l key val) := by
  rw [modelP_eq]
  unfold AscM at h ⊢
  rw [List.append_assoc]
  refine List.pairwise_append.2 ⟨h.filter _, List.pairwise_append.2 ⟨List.pairwise_singleton _ _, h.filter _, fun p hp q hq => ?_⟩, fun p hp q hq => ?_⟩
  · obtain rfl := List.mem_singleton.1 hp
    exact aft_less (List.mem_filter.1 hq).2
  · have h1 : Op.bytesLess p.1.toList key.toList = true := (List.mem_filter.1 hp).2
    rcases List.mem_append.1 hq with hq | hq
    · obtain rfl := List.mem_singleton.1 hq
      exact h1
    · exact less_trans _ _ _ h1 (aft_less (List.mem_filter.1 hq).2)
theorem modelP_len (l : List (ByteArray × ByteArray)) (key val : ByteArray) : (modelP l key val).length ≤ l.length + 1 := by
  have : ∀ l : List (ByteArray × ByteArray), (l.filter (fun p => Op.bytesLess p.1.toList key.toList)).length + (l.filter (aftB key)).length ≤ l.length := fun l => by
    induction l with
    | nil => simp
    | cons p l ih =>
      rw [List.filter_cons, List.filter_cons]
      cases h : Op.bytesLess p.1.toList key.toList with
      | true =>
        have h2 : aftB key p = false := by unfold aftB; rw [h]; rfl
        rw [h2]
        simp
        omega
      | false =>
        cases h2 : aftB key p with
        | true => simp; omega
        | false => simp; omega
  rw [modelP_eq]
  simp only [List.length_append, List.length_singleton]
  have := this l
  omega
theorem modelP_mem {l : List (ByteArray × ByteArray)} {key val : ByteArray} {p : ByteArray × ByteArray} (h : p ∈ modelP l key val) : p ∈ l ∨ p = (key, val) := by
  rw [modelP_eq] at h
  rcases List.mem_append.1 h with h | h
  · rcases List.mem_append.1 h with h | h
    · exact Or.inl (List.mem_filter.1 h).1
    · exact Or.inr (List.mem_singleton.1 h)
  · exact Or.inl (List.mem_filter.1 h).1
open Go.RowKit
theorem big_no (a : Option Addr) (len cap : Nat) (h : len ≤ 1048576) (w : World) : Calls Tryd.prog 5 #[.slice a len cap] w fun e w' => e = .returned (.bool false) ∧ w = w' := by
  have hq : decide ((1048576 : Int) < (len : Int)) = false := by simp; omega
  go_enter Tryd.func5, Tryd.ntmps5
  go_wp2
  go_ret
  exact ⟨rfl, rfl⟩
theorem big_yes (a : Option Addr) (len cap : Nat) (h : 1048576 < len) (w : World) : Calls Tryd.prog 5 #[.slice a len cap] w fun e w' => e = .returned (.bool true) ∧ w = w' := by
  have hq : decide ((1048576 : Int) < (len : Int)) = true := by simp; omega
  go_enter Tryd.func5, Tryd.ntmps5
  go_wp2
  go_ret
  exact ⟨rfl, rfl⟩
open Go.RowKit
set_option maxHeartbeats 1000000 in
theorem l01Pick_any (g B : Nat) (a : Option Addr) (len cap : Nat) (zs : List ByteArray) (n : Nat) (hzn : zs.length = n) (hz : 0 < n) (hz1 : n ≤ 1000) (r c : Nat) (w : World) (hc : CurAt w g a len cap) (hd : CodeIn w B a len) (hB : B ≤ g) (hr : r ≠ g) (hrl : r < w.heap.size)
    (hrow : ∀ j, j < n → w.cell? ⟨r, j, none⟩ = some (.string (zs.getD j ⟨#[]⟩))) :
    Calls Tryd.prog 34 #[.pointer (some ⟨g, 0, none⟩), .slice (some ⟨r, 0, none⟩) n c] w fun e w' => ∃ z : ByteArray, z ∈ zs ∧ e = .returned (.string z) ∧ Drawn w w' g B a len cap := by
  have HD := hide hd
  have HC := hide hc
  have HR := hide hrow
  have HZn := hide hzn
  clear hd hc hrow hzn
  go_enter Tryd.func34, Tryd.ntmps34
  go_wp2_with fail
  refine (l01Below_any g B a len cap n hz (by omega) _ HC.out HD.out hB).mono ?_
  rintro e w1 ⟨x, hx, rfl, h1⟩
  have hcell : w1.cell? ⟨r, x, none⟩ = some (.string (zs.getD x ⟨#[]⟩)) := by
    rw [World.cell?_of_block (h1.2.1.block r hrl (by simpa using hr))]; exact HR.out x hx
  have hm : zs.getD x ⟨#[]⟩ ∈ zs := by
    have hx' : x < zs.length := by rw [HZn.out]; exact hx
    rw [List.getD, List.getElem?_eq_getElem hx']; exact List.getElem_mem hx'
  obtain ⟨y, hy⟩ : ∃ y, y = zs.getD x ⟨#[]⟩ := ⟨_, rfl⟩
  rw [← hy] at hcell hm
  have HM := hide hm
  have H1 := hide h1
  have hi0 : (0 : Int) ≤ (x : Int) := by omega
  have hi1 : (x : Int) < (n : Int) := by omega
  clear h1 hm hy hr
  go_wp2_with fail
  go_ret
  exact ⟨y, HM.out, rfl, H1.out⟩
theorem pick_strs (g B : Nat) (a : Option Addr) (len cap : Nat) (zs : List ByteArray) (n : Nat) (hn : zs.length = n) (h0 : 0 < n) (h1 : n ≤ 1000) (w : World) (r : Nat) (hr : r = w.heap.size) (hc : CurAt w g a len cap) (hd : CodeIn w B a len) (hB : B ≤ g) (cs : Array Value) (he : cs = (zs.map Value.string).toArray) :
    Calls Tryd.prog 34 #[.pointer (some ⟨g, 0, none⟩), .slice (some ⟨r, 0, none⟩) n n] (w.alloc (Obj.cells cs 9)) fun e w' => ∃ z : ByteArray, z ∈ zs ∧ e = .returned (.string z) ∧ Drawn w w' g B a len cap := by
  have hgl := cur_lt hc
  have hg := World.grownBy_alloc w (Obj.cells cs 9) (some g)
  subst he hn hr
  refine (l01Pick_any g B a len cap zs zs.length rfl h0 h1 w.heap.size zs.length _ (cur_grown hc (World.grownBy_alloc w _ none) (by simp)) (code_grown hd hg hB hgl) hB (by omega) (by simp) (fun j hj => ?_)).mono ?_
  · rw [(cell_at (heap_alloc_new w _) j).1]
    simp [List.getD, hj]
  · rintro e w2 ⟨z, hz, rfl, h2⟩
    exact ⟨z, hz, rfl, h2.1, grown_trans hg h2.2.1, h2.2.2⟩
open Go.RowKit
set_option maxHeartbeats 1000000 in
set_option maxRecDepth 100000 in
theorem l05Key_any (g B : Nat) (a : Option Addr) (len cap : Nat) (w : World) (hc : CurAt w g a len cap) (hd : CodeIn w B a len) (hB : B ≤ g) :
    Calls Tryd.prog 33 #[.pointer (some ⟨g, 0, none⟩)] w fun e w' => ∃ z : ByteArray, z ∈ bases ∧ e = .returned (.string z) ∧ Drawn w w' g B a len cap := by
  have HP := hide (pick_strs g B a len cap bases 16 rfl (by omega) (by omega) w w.heap.size rfl hc hd hB _ rfl)
  clear hc hd
  go_enter Tryd.func33, Tryd.ntmps33
  go_wp2_with fail
  refine HP.out.mono ?_
  rintro e w1 ⟨z, hz, rfl, h1⟩
  have H1 := hide h1
  have HZ := hide hz
  clear h1 hz
  go_wp2_with fail
  go_ret
  exact ⟨z, HZ.out, rfl, H1.out⟩
open Go.RowKit
def DrwP (L : List (ByteArray × ByteArray)) : Prop := AscM L ∧ L.length ≤ 20 ∧ ∀ p ∈ L, p.1.size ≤ 8 ∧ p.2.size ≤ 8
theorem own_drawn {w w' : World} {B e sz n g : Nat} {v : Value} {xs : List Value} (h : w.ownsRow B e sz v n xs) (hg : w.grownBy w' (some g)) (hB : g < B) : w'.ownsRow B e sz v n xs := by
  refine ⟨h.1, ?_⟩
  rcases h.2 with ⟨rfl, hn⟩ | ⟨b, cap, cur, rfl, hb, hh, rest⟩
  · exact Or.inl ⟨rfl, hn⟩
  · refine Or.inr ⟨b, cap, cur, rfl, hb, ?_, rest⟩
    rw [hg.block b (Array.getElem?_eq_some_iff.1 hh).1 (fun e => by injection e with e; omega)]
    exact hh
theorem draw_below {w w1 w2 : World} {g B : Nat} {a : Option Addr} {len cap : Nat} (h : Drawn w w1 g B a len cap) (hb : Below w1.heap.size w1 w2) (hB : B ≤ g) : Drawn w w2 g B a len cap := by
  have hg : w1.grownBy w2 none := ⟨hb.os, hb.tape, hb.output, hb.size, fun k hk _ => hb.block k hk⟩
  have hg' : w1.grownBy w2 (some g) := ⟨hb.os, hb.tape, hb.output, hb.size, fun k hk _ => hb.block k hk⟩
  exact ⟨cur_grown h.1 hg (by simp), grown_trans h.2.1 hg', code_grown h.2.2 hg' hB (cur_lt h.1)⟩
set_option maxHeartbeats 4000000 in
set_option maxRecDepth 100000 in
theorem l15Pairs_any (g B : Nat) (a : Option Addr) (len cap : Nat) (w : World) (hc : CurAt w g a len cap) (hd : CodeIn w B a len) (hB : B ≤ g) :
    Calls Tryd.prog 15 #[.pointer (some ⟨g, 0, none⟩)] w fun e w' => ∃ (L : List (ByteArray × ByteArray)) (v' : Value), e = .returned v' ∧ DrwP L ∧ w'.ownsRow w.heap.size 32 2 v' L.length (prq L) ∧ Drawn w w' g B a len cap := by
  have hgl := cur_lt hc
  have hD0 : Drawn w w g B a len cap := ⟨hc, ⟨rfl, rfl, rfl, Nat.le_refl _, fun _ _ _ => rfl⟩, hd⟩
  have hS0 := sep_row2 (sep_new (sep_nil w.heap.size w) (Obj.cells #[] 32) (Nat.le_refl _))
  have HO0 := hide (sep_get hS0 0 rfl : (w.alloc (Obj.cells #[] 32)).ownsRow w.heap.size 32 2 (.slice (some ⟨w.heap.size, 0, none⟩) 0 0) 0 [])
  have HD0 := hide (draw_below hD0 ((Below.refl w.heap.size w).alloc (Nat.le_refl _) (Obj.cells #[] 32)) hB)
  clear hS0 hD0 hc hd
  go_enter Tryd.func15, Tryd.ntmps15
  go_wp2_with fail
  go_loopg [3, 4] 20 (fun q lv iv wr => ∃ (i : Nat) (L : List (ByteArray × ByteArray)) (v : Value), i ≤ 20 ∧ q + i = 20 ∧ iv = .int .i64 (i : Int) ∧ v = lv ∧ Hid (DrwP L ∧ L.length ≤ i) ∧ Hid (wr.ownsRow w.heap.size 32 2 v L.length (prq L)) ∧ Hid (Drawn w wr g B a len cap))
  case atStart => exact ⟨0, [], _, Nat.zero_le _, rfl, rfl, rfl, hide ⟨⟨List.Pairwise.nil, Nat.zero_le _, fun p hp => by cases hp⟩, Nat.le_refl _⟩, HO0, HD0⟩
  case round =>
    clear HO0 HD0
    obtain ⟨i, L, v, hi20, hq, rfl, rfl, HL, HO, HD⟩ := hrel
    have HQ := hide hq
    clear hq
    go_wp2_with fail
    refine (l01Below_any g B a len cap 20 (by omega) (by omega) wr HD.out.1 HD.out.2.2 hB).mono ?_
    rintro e w2 ⟨x, hx, rfl, hd2⟩
    have HO2 := hide (own_drawn HO.out hd2.2.1 hgl)
    have HD2 := hide (drawn_trans HD.out hd2)
    clear HO HD hd2
    by_cases hlt : i < x
    · have hlt' : (i : Int) < (x : Int) := by omega
      go_wp2_with fail
      refine (l05Key_any g B a len cap w2 HD2.out.1 HD2.out.2.2 hB).mono ?_
      rintro e w3 ⟨z, hz, rfl, hd3⟩
      have hzs := bases_size hz
      have HO3 := hide (own_drawn HO2.out hd3.2.1 hgl)
      have HD3 := hide (drawn_trans HD2.out hd3)
      have HPk := hide (pick_strs g B a len cap [⟨#[]⟩, ⟨#[49]⟩] 2 rfl (by omega) (by omega) w3 w3.heap.size rfl HD3.out.1 HD3.out.2.2 hB #[.string ⟨#[]⟩, .string ⟨#[49]⟩] rfl)
      clear HO2 HD2 hd3 hz
      go_wp2_with fail
      refine HPk.out.mono ?_
      rintro e w4 ⟨y, hy, rfl, hd4⟩
      have hys : y.size ≤ 1 := by simp at hy; rcases hy with rfl | rfl <;> decide
      have HO4 := hide (own_drawn HO3.out hd4.2.1 hgl)
      have HD4 := hide (drawn_trans HD3.out hd4)
      have HPk2 := hide (pick_strs g B a len cap [⟨#[]⟩, ⟨#[118]⟩] 2 rfl (by omega) (by omega) w4 w4.heap.size rfl HD4.out.1 HD4.out.2.2 hB #[.string ⟨#[]⟩, .string ⟨#[118]⟩] rfl)
      clear HO3 HD3 hd4 hy HPk
      go_wp2_with fail
      refine HPk2.out.mono ?_
      rintro e w5 ⟨u, hu, rfl, hd5⟩
      have hus : u.size ≤ 1 := by simp at hu; rcases hu with rfl | rfl <;> decide
      have HO5 := hide (own_drawn HO4.out hd5.2.1 hgl)
      have HD5 := hide (drawn_trans HD4.out hd5)
      clear HO4 HD4 hd5 hu HPk2
      have HMp := hide (specModelPut_any L (by have := HL.out.2; omega) (z ++ y) u v w5 (row_of_own HO5.out))
      have HL6 : Hid (DrwP (modelP L (z ++ y) u) ∧ (modelP L (z ++ y) u).length ≤ i + 1) := hide (by
        obtain ⟨⟨q1, q2, q3⟩, q4⟩ := HL.out
        have hm := modelP_len L (z ++ y) u
        refine ⟨⟨modelP_asc q1 _ _, by omega, fun p hp => ?_⟩, by omega⟩
        rcases modelP_mem hp with hp | rfl
        · exact q3 p hp
        · refine ⟨?_, ?_⟩
          · show (z ++ y).size ≤ 8
            rw [ByteArray.size_append]
            omega
          · show u.size ≤ 8
            omega)
      go_wp2_with fail
      refine HMp.out.mono ?_
      rintro e w6 ⟨v6, rfl, ho6, hb6⟩
      have HO6 := hide (own_down ho6 (by have := HD5.out.2.1.size; exact this))
      have HD6 := hide (draw_below HD5.out hb6 hB)
      clear ho6 hb6 HO5 HD5 HMp
      go_wp2_with fail
      go_roundg (gk - 1)
      case measure => have := HQ.out; omega
      case rel => exact ⟨i + 1, _, _, by omega, by have := HQ.out; omega, by go_num, rfl, HL6, HO6, HD6⟩
    · have hlt' : ¬ (i : Int) < (x : Int) := by omega
      go_wp2_with fail
      go_ret
      exact ⟨L, v, rfl, HL.out.1, HO2.out, HD2.out⟩
end Go.Proofs.YtmmepgincbngeaaDoor
