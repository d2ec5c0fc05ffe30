/-
  Facts and contracts that the law's own text rests on, by their texts' names: SpecEvent.
-/
import Derived.BigQuiet
import Derived.Deep.Cut
import Derived.Test.YtmmepgincbngeaaDoorRs5
import Derived.Test.YtmmepgincbngeaaDoorRs6
import Derived.Test.YtmmepgincbngeaaDoorRs4
namespace Go.Proofs.YtmmepgincbngeaaDoor
open Go.RowKit
def ba (l : List UInt8) : ByteArray := ⟨l.toArray⟩
theorem ba_toList (l : List UInt8) : (ba l).toList = l := by rw [ByteArray.toList_eq]; rfl
theorem ba_size (l : List UInt8) : (ba l).size = l.length := by simp [ba, ByteArray.size]
theorem bl_beq (l m : List UInt8) : ((ba l).toList == (ba m).toList) = decide (l = m) := by
  rw [ba_toList, ba_toList]
  by_cases h : l = m
  · rw [h]; simp
  · simp [h]
theorem bl_lit (l m : List UInt8) : ((ba l).toList == m) = decide (l = m) := by
  rw [ba_toList]
  by_cases h : l = m
  · rw [h]; simp
  · simp [h]
theorem ba_byt (l : List UInt8) (i : Nat) (h : i < l.length) : byt (ba l) i = (l[i]).toNat := by
  have hs : i < (ba l).size := by rw [ba_size]; exact h
  rw [byt, dif_pos hs]
  rfl
def EvRet (w w' : World) (r : Option Evt) (e : Ending) : Prop := (∃ (cs : Array Value) (b : Bool), e = .returned (.tuple #[.agg cs, .bool b]) ∧ cs.size = 7 ∧ cs.toList.all (·.oneCell') = true ∧ (match r with | none => b = false | some ev => b = true ∧ ∃ u, cs = (ev7 (ev, u)).toArray ∧ w'.ownsRow w.heap.size 4 1 u ev.left.length (bools ev.left))) ∧ Below w.heap.size w w'
theorem ws_at (i : Nat) (h : i < 10) : (#[.string ⟨#[98, 101, 103, 105, 110]⟩, .string ⟨#[112, 117, 116]⟩, .string ⟨#[100, 114, 111, 112]⟩, .string ⟨#[101, 110, 100]⟩, .string ⟨#[115, 116, 111, 112]⟩, .string ⟨#[114, 101, 97, 100]⟩, .string ⟨#[103, 101, 116]⟩, .string ⟨#[99, 108, 111, 115, 101]⟩, .string ⟨#[112, 97, 99, 107]⟩, .string ⟨#[102, 97, 108, 108]⟩] : Array Value)[i]? = some (.string (ba (kws.getD i []))) := by
  match i, h with
  | 0, _ => rfl
  | 1, _ => rfl
  | 2, _ => rfl
  | 3, _ => rfl
  | 4, _ => rfl
  | 5, _ => rfl
  | 6, _ => rfl
  | 7, _ => rfl
  | 8, _ => rfl
  | 9, _ => rfl
theorem ns_at (i : Nat) (h : i < 10) : (#[.int .i64 1, .int .i64 3, .int .i64 2, .int .i64 1, .int .i64 1, .int .i64 2, .int .i64 3, .int .i64 2, .int .i64 1, .int .i64 3] : Array Value)[i]? = some (.int .i64 ((kns.getD i 0 : Nat) : Int)) := by
  match i, h with
  | 0, _ => rfl
  | 1, _ => rfl
  | 2, _ => rfl
  | 3, _ => rfl
  | 4, _ => rfl
  | 5, _ => rfl
  | 6, _ => rfl
  | 7, _ => rfl
  | 8, _ => rfl
  | 9, _ => rfl
theorem find_none (p : List (List UInt8)) (h : ∀ j, j < 10 → isKw p j = false) : evOf p = none := by
  rw [evOf, List.find?_eq_none.2 (fun x hx => by rw [h x (List.mem_range.1 hx)]; decide)]
  rfl
theorem find_at (p : List (List UInt8)) (i : Nat) (hi : i < 10) (h : ∀ j, j < i → isKw p j = false) (hk : isKw p i = true) : evOf p = evAt p i := by
  have e : (List.range 10).find? (isKw p) = some i := by
    rw [List.find?_range_eq_some]
    exact ⟨hk, List.mem_range.2 hi, fun j hj => by rw [h j hj]; rfl⟩
  rw [evOf, e]
  rfl
theorem dec_yes {l : List UInt8} (h : okD (ba l)) : decO l = some ((valD (ba l) (ba l).size : Nat) : Int) := by
  have h2 : okD ⟨l.toArray⟩ := h
  unfold decO
  rw [if_pos h2, ba_size]
  rfl
theorem dec_no {l : List UInt8} (h : ¬ okD (ba l)) : decO l = none := by
  have h2 : ¬ okD ⟨l.toArray⟩ := h
  unfold decO
  rw [if_neg h2]
theorem bits_dash {l : List UInt8} (h : l = [45]) : bitsO l = some [] := by rw [bitsO, if_pos h]
theorem bits_all {l : List UInt8} (h : l ≠ [45]) (ha : ∀ i, i < l.length → byt (ba l) i = 48 ∨ byt (ba l) i = 49) : bitsO l = some (l.map (· == 49)) := by
  rw [bitsO, if_neg h, if_pos]
  rw [List.all_eq_true]
  intro x hx
  obtain ⟨i, hi, rfl⟩ := List.getElem_of_mem hx
  have h1 := ha i hi
  rw [ba_byt l i hi] at h1
  rcases h1 with h1 | h1
  · have : l[i] = 48 := UInt8.toNat_inj.1 h1
    simp [this]
  · have : l[i] = 49 := UInt8.toNat_inj.1 h1
    simp [this]
theorem bits_no {l : List UInt8} (h : l ≠ [45]) (i : Nat) (hi : i < l.length) (h8 : byt (ba l) i ≠ 48) (h9 : byt (ba l) i ≠ 49) : bitsO l = none := by
  rw [bitsO, if_neg h, if_neg]
  rw [List.all_eq_true]
  intro ha
  have h1 := ha l[i] (List.getElem_mem hi)
  rw [ba_byt l i hi] at h8 h9
  rw [Bool.or_eq_true, beq_iff_eq, beq_iff_eq] at h1
  rcases h1 with h1 | h1
  · exact h8 (by rw [h1]; rfl)
  · exact h9 (by rw [h1]; rfl)
theorem bit_next (l : List UInt8) (i : Nat) (hi : i < l.length) : (l.take (i + 1)).map (· == 49) = (l.take i).map (· == (49 : UInt8)) ++ [((byt (ba l) i : Nat) : Int) == 49] := by
  rw [List.take_succ_eq_append_getElem hi, List.map_append, ba_byt l i hi]
  congr 1
  simp only [List.map_cons, List.map_nil, List.cons.injEq, and_true]
  by_cases h : l[i] = 49
  · rw [h]; rfl
  · have h2 : (l[i] == 49) = false := by simp [h]
    have h3 : ((l[i].toNat : Int) == 49) = false := by
      rw [beq_eq_false_iff_ne]
      intro e
      exact h (UInt8.toNat_inj.1 (by show l[i].toNat = 49; omega))
    rw [h2, h3]
theorem bools_snocE (l : List Bool) (b : Bool) : bools (l ++ [b]) = bools l ++ [.bool b] := by simp [bools]
theorem step_bool1 {ops : Array Oper} {o : Oper} {a : Act} {K : Act → World → Prop} {Q : Exit → Act → World → Prop} {E : Prop} {B : Nat} {W : World} {l : List Ast} (h : Sep B W l) (i : Nat) {B' n : Nat} {v : Value} {xs : List Bool} (hi : l[i]? = some (rowA B' 4 1 v n (bools xs))) (hBB : B ≤ B') (hBW : B ≤ W.heap.size) (hBW' : B' ≤ W.heap.size)
    (hgd : o.guard = none) (s x : Operand) (ho : o.op = .call { callee := .builtin .append, args := #[s, x], argTypes := #[33, 33] }) (hs : a.eval s = v) (p : Bool) {H : Nat} (hH : H = W.heap.size) (hx : a.eval x = .slice (some ⟨H, 0, none⟩) 1 1) (hn : n ≤ 3000000)
    (hK : ∀ b c w', Sep B w' (l.set i (rowA B' 4 1 (.slice (some ⟨b, 0, none⟩) (n + 1) c) (n + 1) (bools (xs ++ [p])))) → Below B W w' → K (a.put o.dst (.slice (some ⟨b, 0, none⟩) (n + 1) c)) w') :
    if Region.wanted o (yielded ops a.tmps) = true then Oper.wp Tryd.prog o a (W.alloc (Obj.cells #[.bool p] 4)) K Q else E := by
  obtain ⟨i0, hinf, hz0, hz1, hz2⟩ := info_parts Tryd.infoBool
  refine step_sep1 h i hi hBB hBW hBW' hgd s x 33 ho i0 (.bool false) 1 Tryd.underlying33 hinf hz0 hz1 hz2 rfl (by decide) hs #[.bool p] hH hx rfl (fun u hu => by simp at hu; subst hu; rfl) (by unfold maxLen; omega) (by omega) (fun b c w' k1 k2 => hK b c w' ?_ k2)
  rw [bools_snocE]
  exact k1
set_option maxHeartbeats 16000000 in
set_option maxRecDepth 100000 in
theorem specEvent_any (p : List (List UInt8)) (v : Value) (hp0 : 0 < p.length) (hpl : p.length ≤ 10) (hps : ∀ x ∈ p, x.length ≤ 600) (w : World) (hr : RowAt w 1 v p.length (strVs p)) :
    Calls Tryd.prog 25 #[v] w fun e w' => EvRet w w' (evOf p) e := by
  obtain ⟨-, ap, cp, rfl, hrow⟩ := hr
  obtain ⟨b, off, rfl, hbl, hc⟩ : ∃ b off, ap = some ⟨b, off, none⟩ ∧ b < w.heap.size ∧ ∀ j, j < p.length → w.cell? ⟨b, off + j, none⟩ = some (.string (ba (p.getD j []))) := by
    rcases hrow with h0 | ⟨b, off, rfl, hb, hc⟩
    · omega
    · refine ⟨b, off, rfl, hb, fun j hj => ?_⟩
      rw [hc j (by omega), strVs, List.getElem?_map, List.getElem?_eq_getElem hj, List.getD_eq_getElem?_getD, List.getElem?_eq_getElem hj]
      rfl
  have HC : Hid (∀ wx, Below w.heap.size w wx → ∀ j, j < p.length → wx.cell? ⟨b, off + j, none⟩ = some (.string (ba (p.getD j [])))) := hide (fun wx hb j hj => (hb.cell (by exact hbl)).trans (hc j hj))
  have HSz : Hid (∀ j, (p.getD j []).length ≤ 600) := hide (fun j => by
    rw [List.getD_eq_getElem?_getD]
    cases h : p[j]? with
    | none => simp
    | some x => exact hps x (List.mem_of_getElem? h))
  have HRd := hide (fun (j : Nat) (wx : World) => specReadDecimal_any (ba (p.getD j [])) (by rw [ba_size]; have := HSz.out j; omega) wx)
  obtain ⟨n, hn⟩ : ∃ n, n = p.length := ⟨_, rfl⟩
  have HN := hide hn
  rw [← hn] at HC hp0 hpl ⊢
  clear hrow hc hps hn hbl
  obtain ⟨a0, ha0⟩ : ∃ a, a = w.heap.size := ⟨_, rfl⟩
  have hs3 := sep_new (sep_new (sep_new (sep_nil w.heap.size w) (Obj.cells #[.int .i64 0, .int .i64 0, .string ⟨#[]⟩, .string ⟨#[]⟩, .int .i64 0, .slice none 0 0, .int .i64 0] 35) (Nat.le_refl _)) (Obj.cells #[.string ⟨#[98, 101, 103, 105, 110]⟩, .string ⟨#[112, 117, 116]⟩, .string ⟨#[100, 114, 111, 112]⟩, .string ⟨#[101, 110, 100]⟩, .string ⟨#[115, 116, 111, 112]⟩, .string ⟨#[114, 101, 97, 100]⟩, .string ⟨#[103, 101, 116]⟩, .string ⟨#[99, 108, 111, 115, 101]⟩, .string ⟨#[112, 97, 99, 107]⟩, .string ⟨#[102, 97, 108, 108]⟩] 9) (by simp)) (Obj.cells #[.int .i64 1, .int .i64 3, .int .i64 2, .int .i64 1, .int .i64 1, .int .i64 2, .int .i64 3, .int .i64 2, .int .i64 1, .int .i64 3] 3) (by simp; omega)
  simp only [World.size_alloc] at hs3
  obtain ⟨w3, hw3⟩ : ∃ w3, w3 = ((w.alloc (Obj.cells #[.int .i64 0, .int .i64 0, .string ⟨#[]⟩, .string ⟨#[]⟩, .int .i64 0, .slice none 0 0, .int .i64 0] 35)).alloc (Obj.cells #[.string ⟨#[98, 101, 103, 105, 110]⟩, .string ⟨#[112, 117, 116]⟩, .string ⟨#[100, 114, 111, 112]⟩, .string ⟨#[101, 110, 100]⟩, .string ⟨#[115, 116, 111, 112]⟩, .string ⟨#[114, 101, 97, 100]⟩, .string ⟨#[103, 101, 116]⟩, .string ⟨#[99, 108, 111, 115, 101]⟩, .string ⟨#[112, 97, 99, 107]⟩, .string ⟨#[102, 97, 108, 108]⟩] 9)).alloc (Obj.cells #[.int .i64 1, .int .i64 3, .int .i64 2, .int .i64 1, .int .i64 1, .int .i64 2, .int .i64 3, .int .i64 2, .int .i64 1, .int .i64 3] 3) := ⟨_, rfl⟩
  have HB3 : Hid (Below w.heap.size w w3) := hide (by rw [hw3]; exact (((Below.refl w.heap.size w).alloc (Nat.le_refl _) _).alloc (by simp) _).alloc (by simp; omega) _)
  have HWS : Hid (∀ i, i < 10 → (#[.string ⟨#[98, 101, 103, 105, 110]⟩, .string ⟨#[112, 117, 116]⟩, .string ⟨#[100, 114, 111, 112]⟩, .string ⟨#[101, 110, 100]⟩, .string ⟨#[115, 116, 111, 112]⟩, .string ⟨#[114, 101, 97, 100]⟩, .string ⟨#[103, 101, 116]⟩, .string ⟨#[99, 108, 111, 115, 101]⟩, .string ⟨#[112, 97, 99, 107]⟩, .string ⟨#[102, 97, 108, 108]⟩] : Array Value)[i]? = some (.string (ba (kws.getD i [])))) := hide ws_at
  have HNS : Hid (∀ i, i < 10 → (#[.int .i64 1, .int .i64 3, .int .i64 2, .int .i64 1, .int .i64 1, .int .i64 2, .int .i64 3, .int .i64 2, .int .i64 1, .int .i64 3] : Array Value)[i]? = some (.int .i64 ((kns.getD i 0 : Nat) : Int))) := hide ns_at
  rw [← hw3] at hs3
  have HW3 := hide hw3
  obtain ⟨WS, hWS⟩ : ∃ x : Array Value, x = #[.string ⟨#[98, 101, 103, 105, 110]⟩, .string ⟨#[112, 117, 116]⟩, .string ⟨#[100, 114, 111, 112]⟩, .string ⟨#[101, 110, 100]⟩, .string ⟨#[115, 116, 111, 112]⟩, .string ⟨#[114, 101, 97, 100]⟩, .string ⟨#[103, 101, 116]⟩, .string ⟨#[99, 108, 111, 115, 101]⟩, .string ⟨#[112, 97, 99, 107]⟩, .string ⟨#[102, 97, 108, 108]⟩] := ⟨_, rfl⟩
  obtain ⟨NS, hNS⟩ : ∃ x : Array Value, x = #[.int .i64 1, .int .i64 3, .int .i64 2, .int .i64 1, .int .i64 1, .int .i64 2, .int .i64 3, .int .i64 2, .int .i64 1, .int .i64 3] := ⟨_, rfl⟩
  rw [← hWS, ← hNS] at hs3
  rw [← hWS] at HWS
  rw [← hNS] at HNS
  have HS3 := hide hs3
  clear hs3 hw3 hWS hNS
  go_enter Tryd.func25, Tryd.ntmps25
  go_upto_region 3 with fail
  rw [← HW3.out, ← ha0]
  rw [← ha0] at HS3
  have HA := hide ha0
  clear ha0 HW3
  go_wp2_with fail
  go_loopg [6] 10 (fun q iv wr => ∃ (i : Nat), i ≤ 10 ∧ q + i = 10 ∧ iv = .int .i64 (i : Int) ∧ Hid (∀ j, j < i → isKw p j = false) ∧ Hid (Sep a0 wr [cellA (a0 + 1 + 1) (Obj.cells NS 3), cellA (a0 + 1) (Obj.cells WS 9), cellA a0 (Obj.cells #[.int .i64 0, .int .i64 0, .string ⟨#[]⟩, .string ⟨#[]⟩, .int .i64 0, .slice none 0 0, .int .i64 0] 35)]) ∧ Hid (Below w.heap.size w wr))
  case atStart => exact ⟨0, Nat.zero_le _, rfl, rfl, hide (fun j h => by omega), HS3, HB3⟩
  case round =>
    clear HS3 HB3
    obtain ⟨i, hi, hq, rfl, HK, HS, HB⟩ := hrel
    have HQ := hide hq
    clear hq
    by_cases hlt : i < 10
    · have c0 := HC.out wr HB.out 0 (by omega)
      have cw : wr.cell? ⟨a0 + 1, i, none⟩ = _ := (cell_at (sep_get HS.out 1 rfl) i).1.trans (HWS.out i hlt)
      have cn : wr.cell? ⟨a0 + 1 + 1, i, none⟩ = _ := (cell_at (sep_get HS.out 0 rfl) i).1.trans (HNS.out i hlt)
      rw [Nat.add_zero] at c0
      have hbq := bl_beq (p.getD 0 []) (kws.getD i [])
      obtain ⟨P0, hP0⟩ : ∃ x, x = ba (p.getD 0 []) := ⟨_, rfl⟩
      obtain ⟨Wi, hWi⟩ : ∃ x, x = ba (kws.getD i []) := ⟨_, rfl⟩
      obtain ⟨Ni, hNi⟩ : ∃ x, x = kns.getD i 0 := ⟨_, rfl⟩
      rw [← hP0] at c0 hbq
      rw [← hWi] at cw hbq
      rw [← hNi] at cn
      have HNi := hide hNi
      have hi0 : (0 : Int) ≤ (i : Int) := by omega
      have hi1 : (i : Int) < 10 := by omega
      have hn0 : (0 : Int) < (n : Int) := by omega
      clear hP0 hWi hNi
      by_cases hw : p.getD 0 [] = kws.getD i []
      rotate_left
      · rw [decide_eq_false hw] at hbq
        have HK2 : Hid (∀ j, j < i + 1 → isKw p j = false) := hide (fun j hj => by
          by_cases e : j = i
          · rw [e, isKw, decide_eq_false hw]; rfl
          · exact HK.out j (by omega))
        clear hw
        go_wp2_with fail
        go_quiet (fail)
        go_wp2_with fail
        go_roundg (gk - 1)
        case measure => have := HQ.out; omega
        case rel => exact ⟨i + 1, by omega, by have := HQ.out; omega, by go_num, HK2, hide (sep_below HS.out (below_drewN (Below.refl _ _) _)), hide (below_drewN HB.out _)⟩
      rw [decide_eq_true hw] at hbq
      by_cases hsz : n = Ni
      rotate_left
      · have hnq : ((n : Int) != (Ni : Int)) = true := by simp; omega
        have HK2 : Hid (∀ j, j < i + 1 → isKw p j = false) := hide (fun j hj => by
          by_cases e : j = i
          · rw [e, isKw, decide_eq_false (show ¬ p.length = kns.getD i 0 from fun h => hsz (by rw [HN.out, HNi.out, h])), Bool.and_false]
          · exact HK.out j (by omega))
        clear hw hsz
        go_wp2_with fail
        go_quiet (fail)
        go_wp2_with fail
        go_roundg (gk - 1)
        case measure => have := HQ.out; omega
        case rel => exact ⟨i + 1, by omega, by have := HQ.out; omega, by go_num, HK2, hide (sep_below HS.out (below_drewN (Below.refl _ _) _)), hide (below_drewN HB.out _)⟩
      have hnq : ((n : Int) != (Ni : Int)) = false := by rw [hsz]; simp
      have HEv : Hid (evOf p = evAt p i) := hide (find_at p i hlt HK.out (by rw [isKw, decide_eq_true hw, decide_eq_true (show p.length = kns.getD i 0 by rw [← HN.out, ← HNi.out]; exact hsz)]; rfl))
      have HNn : Hid (n = kns.getD i 0) := hide (by rw [← HNi.out]; exact hsz)
      clear hw hsz
      go_wp2_with fail
      go_quiet (fail)
      obtain ⟨wq, hwq⟩ : ∃ wq, wq = wr.drewN nq := ⟨_, rfl⟩
      have HSq := hide (sep_below HS.out (below_drewN (Below.refl wr.heap.size wr) nq))
      have HBq := hide (below_drewN HB.out nq)
      rw [← hwq] at HSq HBq ⊢
      clear hwq c0 cw cn hbq hnq HS HB HQ
      have hzq : a0 ≤ wq.heap.size := by rw [HA.out]; exact HBq.out.size
      have hs7 := sep_new HSq.out (Obj.cells #[.int .i64 ((i : Int) + 1), .int .i64 1, .string ⟨#[]⟩, .string ⟨#[]⟩, .int .i64 0, .slice none 0 0, .int .i64 (-1)] 35) hzq
      obtain ⟨w7, hw7⟩ : ∃ wx, wx = wq.alloc (Obj.cells #[.int .i64 ((i : Int) + 1), .int .i64 1, .string ⟨#[]⟩, .string ⟨#[]⟩, .int .i64 0, .slice none 0 0, .int .i64 (-1)] 35) := ⟨_, rfl⟩
      have HB_w7 : Hid (Below w.heap.size w w7) := hide (by rw [hw7]; exact HBq.out.alloc HBq.out.size _)
      obtain ⟨g7, hg7⟩ : ∃ g, g = wq.heap.size := ⟨_, rfl⟩
      have HG7 : Hid (w.heap.size ≤ g7) := hide (by rw [hg7]; exact HBq.out.size)
      rw [← hw7, ← hg7] at hs7
      have HS_w7 := hide hs7
      clear hs7 hzq HSq HBq
      go_upto_region 8 with fail
      rw [← hw7, ← hg7]
      clear hw7 hg7
      obtain ⟨A1, hA1⟩ : ∃ x, x = ba (p.getD 1 []) := ⟨_, rfl⟩
      obtain ⟨A2, hA2⟩ : ∃ x, x = ba (p.getD 2 []) := ⟨_, rfl⟩
      have HC1 : Hid (∀ wx, Below w.heap.size w wx → 1 < n → wx.cell? ⟨b, off + 1, none⟩ = some (.string A1)) := hide (fun wx hb h => by rw [hA1]; exact HC.out wx hb 1 h)
      have HC2 : Hid (∀ wx, Below w.heap.size w wx → 2 < n → wx.cell? ⟨b, off + 2, none⟩ = some (.string A2)) := hide (fun wx hb h => by rw [hA2]; exact HC.out wx hb 2 h)
      have HR1 := hide (HRd.out 1)
      rw [← hA1] at HR1
      have HAe := hide (⟨hA1, hA2⟩ : _ ∧ _)
      clear hA1 hA2 HRd HC
      have hi10 : i = 1 ∨ i = 2 ∨ i = 5 ∨ i = 7 ∨ i = 6 ∨ i = 9 ∨ (i = 0 ∨ i = 3 ∨ i = 4 ∨ i = 8) := by omega
      rcases hi10 with e | e | e | e | e | e | e
      · have d2 : ((i : Int) + 1 == 2) = true := by rw [beq_iff_eq]; omega
        have y0 := (cell_at (sep_get HS_w7.out 0 rfl : w7.heap[g7]? = some (Obj.cells #[.int .i64 ((i : Int) + 1), .int .i64 1, .string ⟨#[]⟩, .string ⟨#[]⟩, .int .i64 0, .slice none 0 0, .int .i64 (-1)] 35)) 0).1
        have hnn : n = 3 := by rw [HNn.out, e]; rfl
        have HI := hide e
        clear e
        have y2 := (cell_at (sep_get HS_w7.out 0 rfl : w7.heap[g7]? = some (Obj.cells #[.int .i64 ((i : Int) + 1), .int .i64 1, .string ⟨#[]⟩, .string ⟨#[]⟩, .int .i64 0, .slice none 0 0, .int .i64 (-1)] 35)) 2).1
        have z2 := (cell_at (sep_get HS_w7.out 0 rfl : w7.heap[g7]? = some (Obj.cells #[.int .i64 ((i : Int) + 1), .int .i64 1, .string ⟨#[]⟩, .string ⟨#[]⟩, .int .i64 0, .slice none 0 0, .int .i64 (-1)] 35)) 2).2
        have c1 := HC1.out w7 HB_w7.out (by omega)
        go_upto_region 12 with fail
        clear y0 y2 z2 c1
        have hsn := sep_store HS_w7.out 0 rfl 2 (.string A1)
        have hbn := HB_w7.out.setCell (p := ⟨g7, 2, none⟩) HG7.out (.string A1)
        obtain ⟨w8, hwn⟩ : ∃ wx, wx = w7.setCell ⟨g7, 2, none⟩ (.string A1) := ⟨_, rfl⟩
        rw [← hwn] at hsn hbn ⊢
        have HS_w8 : Hid (Sep a0 w8 [cellA g7 (Obj.cells #[.int .i64 ((i : Int) + 1), .int .i64 1, .string A1, .string ⟨#[]⟩, .int .i64 0, .slice none 0 0, .int .i64 (-1)] 35), cellA (a0 + 1 + 1) (Obj.cells NS 3), cellA (a0 + 1) (Obj.cells WS 9), cellA a0 (Obj.cells #[.int .i64 0, .int .i64 0, .string ⟨#[]⟩, .string ⟨#[]⟩, .int .i64 0, .slice none 0 0, .int .i64 0] 35)]) := hide hsn
        have HB_w8 := hide hbn
        clear hsn hbn hwn HS_w7 HB_w7
        have y3 := (cell_at (sep_get HS_w8.out 0 rfl : w8.heap[g7]? = some (Obj.cells #[.int .i64 ((i : Int) + 1), .int .i64 1, .string A1, .string ⟨#[]⟩, .int .i64 0, .slice none 0 0, .int .i64 (-1)] 35)) 3).1
        have z3 := (cell_at (sep_get HS_w8.out 0 rfl : w8.heap[g7]? = some (Obj.cells #[.int .i64 ((i : Int) + 1), .int .i64 1, .string A1, .string ⟨#[]⟩, .int .i64 0, .slice none 0 0, .int .i64 (-1)] 35)) 3).2
        have c2 := HC2.out w8 HB_w8.out (by omega)
        go_upto_region 29 with fail
        clear y3 z3 c2
        have hsn := sep_store HS_w8.out 0 rfl 3 (.string A2)
        have hbn := HB_w8.out.setCell (p := ⟨g7, 3, none⟩) HG7.out (.string A2)
        obtain ⟨w9, hwn⟩ : ∃ wx, wx = w8.setCell ⟨g7, 3, none⟩ (.string A2) := ⟨_, rfl⟩
        rw [← hwn] at hsn hbn ⊢
        have HS_w9 : Hid (Sep a0 w9 [cellA g7 (Obj.cells #[.int .i64 ((i : Int) + 1), .int .i64 1, .string A1, .string A2, .int .i64 0, .slice none 0 0, .int .i64 (-1)] 35), cellA (a0 + 1 + 1) (Obj.cells NS 3), cellA (a0 + 1) (Obj.cells WS 9), cellA a0 (Obj.cells #[.int .i64 0, .int .i64 0, .string ⟨#[]⟩, .string ⟨#[]⟩, .int .i64 0, .slice none 0 0, .int .i64 0] 35)]) := hide hsn
        have HB_w9 := hide hbn
        clear hsn hbn hwn HS_w8 HB_w8
        obtain ⟨cs, hcs⟩ : ∃ cs : Array Value, cs = #[.int .i64 ((i : Int) + 1), .int .i64 1, .string A1, .string A2, .int .i64 0, .slice none 0 0, .int .i64 (-1)] := ⟨_, rfl⟩
        have hsx := HS_w9.out
        rw [← hcs] at hsx
        have HSx := hide hsx
        have HRg : Hid (w9.rangeAt g7 0 cs.toList) := hide (range_all (sep_get HSx.out 0 rfl : w9.heap[g7]? = some (Obj.cells cs 35)))
        have HNz : Hid ((Tryd.prog.info? 35).map (·.size) = some cs.size) := hide (by rw [hcs]; exact Tryd.sizeEvI)
        have HOne : Hid (cs.toList.all (·.oneCell') = true) := hide (by rw [hcs]; rfl)
        have hth : Hid (w9.there a0 0 cs.size) := hide (by rw [hcs]; exact there_of (sep_get HSx.out 3 rfl : w9.heap[a0]? = some (Obj.cells #[.int .i64 0, .int .i64 0, .string ⟨#[]⟩, .string ⟨#[]⟩, .int .i64 0, .slice none 0 0, .int .i64 0] 35)) 0 7 (show 0 + 7 ≤ 7 by decide))
        have HSf := hide (sep_cellsAll HSx.out 3 rfl cs (by rw [hcs]; rfl))
        have HBf := hide (below_cells (show w.heap.size ≤ a0 by rw [HA.out]; exact Nat.le_refl _) cs.toList 0 w9 HB_w9.out)
        obtain ⟨wf, hwf⟩ : ∃ wf, wf = w9.setCells a0 0 cs.toList := ⟨_, rfl⟩
        rw [← hwf] at HSf HBf
        have HWf := hide hwf.symm
        have HCs := hide hcs
        clear hwf hcs hsx
        go_wp2_with (first | ((with_reducible refine wpList_loadL ?_ 35 (.tmp 7) ?_ g7 0 ?_ cs HRg.out _ Tryd.underlying35 ?_ ?_ ?_); exact rfl; exact rfl; exact rfl; exact rfl; exact HNz.out) | ((with_reducible refine wpList_storeL ?_ 35 (.tmp 2) (.tmp 131) ?_ a0 0 cs ?_ ?_ hth.out ?_ ?_ HWf.out ?_); exact rfl; exact rfl; exact rfl; exact rfl; exact HNz.out; exact HOne.out))
        refine bodyPost_ret (v := .tuple #[.agg cs, .bool true]) (results_ct Tryd.results25 rfl rfl (run_agg (range_all (sep_get HSf.out 3 rfl : wf.heap[a0]? = some (Obj.cells cs 35))) Tryd.underlying35 rfl HNz.out)) rfl ⟨⟨cs, true, rfl, by rw [HCs.out]; rfl, HOne.out, ?_⟩, HBf.out⟩
        rw [HEv.out]
        have ei := HI.out
        obtain ⟨a1, a2⟩ := HAe.out
        subst ei a1 a2
        exact ⟨rfl, .slice none 0 0, HCs.out, sep_get (sep_none HSf.out w.heap.size 4) 0 rfl⟩
      · have d2 : ((i : Int) + 1 == 2) = false := by rw [beq_eq_false_iff_ne]; omega
        have d3 : ((i : Int) + 1 == 3) = true := by rw [beq_iff_eq]; omega
        have y0 := (cell_at (sep_get HS_w7.out 0 rfl : w7.heap[g7]? = some (Obj.cells #[.int .i64 ((i : Int) + 1), .int .i64 1, .string ⟨#[]⟩, .string ⟨#[]⟩, .int .i64 0, .slice none 0 0, .int .i64 (-1)] 35)) 0).1
        have hnn : n = 2 := by rw [HNn.out, e]; rfl
        have HI := hide e
        clear e
        have y2 := (cell_at (sep_get HS_w7.out 0 rfl : w7.heap[g7]? = some (Obj.cells #[.int .i64 ((i : Int) + 1), .int .i64 1, .string ⟨#[]⟩, .string ⟨#[]⟩, .int .i64 0, .slice none 0 0, .int .i64 (-1)] 35)) 2).1
        have z2 := (cell_at (sep_get HS_w7.out 0 rfl : w7.heap[g7]? = some (Obj.cells #[.int .i64 ((i : Int) + 1), .int .i64 1, .string ⟨#[]⟩, .string ⟨#[]⟩, .int .i64 0, .slice none 0 0, .int .i64 (-1)] 35)) 2).2
        have c1 := HC1.out w7 HB_w7.out (by omega)
        go_upto_region 29 with fail
        clear y0 y2 z2 c1
        have hsn := sep_store HS_w7.out 0 rfl 2 (.string A1)
        have hbn := HB_w7.out.setCell (p := ⟨g7, 2, none⟩) HG7.out (.string A1)
        obtain ⟨w8, hwn⟩ : ∃ wx, wx = w7.setCell ⟨g7, 2, none⟩ (.string A1) := ⟨_, rfl⟩
        rw [← hwn] at hsn hbn ⊢
        have HS_w8 : Hid (Sep a0 w8 [cellA g7 (Obj.cells #[.int .i64 ((i : Int) + 1), .int .i64 1, .string A1, .string ⟨#[]⟩, .int .i64 0, .slice none 0 0, .int .i64 (-1)] 35), cellA (a0 + 1 + 1) (Obj.cells NS 3), cellA (a0 + 1) (Obj.cells WS 9), cellA a0 (Obj.cells #[.int .i64 0, .int .i64 0, .string ⟨#[]⟩, .string ⟨#[]⟩, .int .i64 0, .slice none 0 0, .int .i64 0] 35)]) := hide hsn
        have HB_w8 := hide hbn
        clear hsn hbn hwn HS_w7 HB_w7
        obtain ⟨cs, hcs⟩ : ∃ cs : Array Value, cs = #[.int .i64 ((i : Int) + 1), .int .i64 1, .string A1, .string ⟨#[]⟩, .int .i64 0, .slice none 0 0, .int .i64 (-1)] := ⟨_, rfl⟩
        have hsx := HS_w8.out
        rw [← hcs] at hsx
        have HSx := hide hsx
        have HRg : Hid (w8.rangeAt g7 0 cs.toList) := hide (range_all (sep_get HSx.out 0 rfl : w8.heap[g7]? = some (Obj.cells cs 35)))
        have HNz : Hid ((Tryd.prog.info? 35).map (·.size) = some cs.size) := hide (by rw [hcs]; exact Tryd.sizeEvI)
        have HOne : Hid (cs.toList.all (·.oneCell') = true) := hide (by rw [hcs]; rfl)
        have hth : Hid (w8.there a0 0 cs.size) := hide (by rw [hcs]; exact there_of (sep_get HSx.out 3 rfl : w8.heap[a0]? = some (Obj.cells #[.int .i64 0, .int .i64 0, .string ⟨#[]⟩, .string ⟨#[]⟩, .int .i64 0, .slice none 0 0, .int .i64 0] 35)) 0 7 (show 0 + 7 ≤ 7 by decide))
        have HSf := hide (sep_cellsAll HSx.out 3 rfl cs (by rw [hcs]; rfl))
        have HBf := hide (below_cells (show w.heap.size ≤ a0 by rw [HA.out]; exact Nat.le_refl _) cs.toList 0 w8 HB_w8.out)
        obtain ⟨wf, hwf⟩ : ∃ wf, wf = w8.setCells a0 0 cs.toList := ⟨_, rfl⟩
        rw [← hwf] at HSf HBf
        have HWf := hide hwf.symm
        have HCs := hide hcs
        clear hwf hcs hsx
        go_wp2_with (first | ((with_reducible refine wpList_loadL ?_ 35 (.tmp 7) ?_ g7 0 ?_ cs HRg.out _ Tryd.underlying35 ?_ ?_ ?_); exact rfl; exact rfl; exact rfl; exact rfl; exact HNz.out) | ((with_reducible refine wpList_storeL ?_ 35 (.tmp 2) (.tmp 131) ?_ a0 0 cs ?_ ?_ hth.out ?_ ?_ HWf.out ?_); exact rfl; exact rfl; exact rfl; exact rfl; exact HNz.out; exact HOne.out))
        refine bodyPost_ret (v := .tuple #[.agg cs, .bool true]) (results_ct Tryd.results25 rfl rfl (run_agg (range_all (sep_get HSf.out 3 rfl : wf.heap[a0]? = some (Obj.cells cs 35))) Tryd.underlying35 rfl HNz.out)) rfl ⟨⟨cs, true, rfl, by rw [HCs.out]; rfl, HOne.out, ?_⟩, HBf.out⟩
        rw [HEv.out]
        have ei := HI.out
        obtain ⟨a1, a2⟩ := HAe.out
        subst ei a1 a2
        exact ⟨rfl, .slice none 0 0, HCs.out, sep_get (sep_none HSf.out w.heap.size 4) 0 rfl⟩
      · have d2 : ((i : Int) + 1 == 2) = false := by rw [beq_eq_false_iff_ne]; omega
        have d3 : ((i : Int) + 1 == 3) = false := by rw [beq_eq_false_iff_ne]; omega
        have d6 : ((i : Int) + 1 == 6) = true := by rw [beq_iff_eq]; omega
        have y0 := (cell_at (sep_get HS_w7.out 0 rfl : w7.heap[g7]? = some (Obj.cells #[.int .i64 ((i : Int) + 1), .int .i64 1, .string ⟨#[]⟩, .string ⟨#[]⟩, .int .i64 0, .slice none 0 0, .int .i64 (-1)] 35)) 0).1
        have hnn : n = 2 := by rw [HNn.out, e]; rfl
        have HI := hide e
        clear e
        have c1 := HC1.out w7 HB_w7.out (by omega)
        go_wp2_with fail
        refine (HR1.out w7).mono ?_
        rintro e w8 ⟨hy, hno, hb⟩
        clear y0 c1
        have HS_w8 := hide (sep_below HS_w7.out hb)
        have HB_w8 : Hid (Below w.heap.size w w8) := hide (HB_w7.out.trans (hb.mono HB_w7.out.size))
        clear hb HS_w7 HB_w7
        by_cases hok : okD A1
        · obtain rfl := hy hok
          obtain ⟨V, hV⟩ : ∃ x : Int, x = ((valD A1 A1.size : Nat) : Int) := ⟨_, rfl⟩
          rw [← hV]
          have HD : Hid (decO (p.getD 1 []) = some V) := hide (by rw [hV, HAe.out.1] at *; exact dec_yes (by rw [← HAe.out.1]; exact hok))
          clear hV
          clear hy hno hok
          have y1 := (cell_at (sep_get HS_w8.out 0 rfl : w8.heap[g7]? = some (Obj.cells #[.int .i64 ((i : Int) + 1), .int .i64 1, .string ⟨#[]⟩, .string ⟨#[]⟩, .int .i64 0, .slice none 0 0, .int .i64 (-1)] 35)) 1).1
          have z1 := (cell_at (sep_get HS_w8.out 0 rfl : w8.heap[g7]? = some (Obj.cells #[.int .i64 ((i : Int) + 1), .int .i64 1, .string ⟨#[]⟩, .string ⟨#[]⟩, .int .i64 0, .slice none 0 0, .int .i64 (-1)] 35)) 1).2
          go_upto_region 29 with fail
          clear y1 z1
          have hsn := sep_store HS_w8.out 0 rfl 1 (.int .i64 V)
          have hbn := HB_w8.out.setCell (p := ⟨g7, 1, none⟩) HG7.out (.int .i64 V)
          obtain ⟨w9, hwn⟩ : ∃ wx, wx = w8.setCell ⟨g7, 1, none⟩ (.int .i64 V) := ⟨_, rfl⟩
          rw [← hwn] at hsn hbn ⊢
          have HS_w9 : Hid (Sep a0 w9 [cellA g7 (Obj.cells #[.int .i64 ((i : Int) + 1), .int .i64 V, .string ⟨#[]⟩, .string ⟨#[]⟩, .int .i64 0, .slice none 0 0, .int .i64 (-1)] 35), cellA (a0 + 1 + 1) (Obj.cells NS 3), cellA (a0 + 1) (Obj.cells WS 9), cellA a0 (Obj.cells #[.int .i64 0, .int .i64 0, .string ⟨#[]⟩, .string ⟨#[]⟩, .int .i64 0, .slice none 0 0, .int .i64 0] 35)]) := hide hsn
          have HB_w9 := hide hbn
          clear hsn hbn hwn HS_w8 HB_w8
          obtain ⟨cs, hcs⟩ : ∃ cs : Array Value, cs = #[.int .i64 ((i : Int) + 1), .int .i64 V, .string ⟨#[]⟩, .string ⟨#[]⟩, .int .i64 0, .slice none 0 0, .int .i64 (-1)] := ⟨_, rfl⟩
          have hsx := HS_w9.out
          rw [← hcs] at hsx
          have HSx := hide hsx
          have HRg : Hid (w9.rangeAt g7 0 cs.toList) := hide (range_all (sep_get HSx.out 0 rfl : w9.heap[g7]? = some (Obj.cells cs 35)))
          have HNz : Hid ((Tryd.prog.info? 35).map (·.size) = some cs.size) := hide (by rw [hcs]; exact Tryd.sizeEvI)
          have HOne : Hid (cs.toList.all (·.oneCell') = true) := hide (by rw [hcs]; rfl)
          have hth : Hid (w9.there a0 0 cs.size) := hide (by rw [hcs]; exact there_of (sep_get HSx.out 3 rfl : w9.heap[a0]? = some (Obj.cells #[.int .i64 0, .int .i64 0, .string ⟨#[]⟩, .string ⟨#[]⟩, .int .i64 0, .slice none 0 0, .int .i64 0] 35)) 0 7 (show 0 + 7 ≤ 7 by decide))
          have HSf := hide (sep_cellsAll HSx.out 3 rfl cs (by rw [hcs]; rfl))
          have HBf := hide (below_cells (show w.heap.size ≤ a0 by rw [HA.out]; exact Nat.le_refl _) cs.toList 0 w9 HB_w9.out)
          obtain ⟨wf, hwf⟩ : ∃ wf, wf = w9.setCells a0 0 cs.toList := ⟨_, rfl⟩
          rw [← hwf] at HSf HBf
          have HWf := hide hwf.symm
          have HCs := hide hcs
          clear hwf hcs hsx
          go_wp2_with (first | ((with_reducible refine wpList_loadL ?_ 35 (.tmp 7) ?_ g7 0 ?_ cs HRg.out _ Tryd.underlying35 ?_ ?_ ?_); exact rfl; exact rfl; exact rfl; exact rfl; exact HNz.out) | ((with_reducible refine wpList_storeL ?_ 35 (.tmp 2) (.tmp 131) ?_ a0 0 cs ?_ ?_ hth.out ?_ ?_ HWf.out ?_); exact rfl; exact rfl; exact rfl; exact rfl; exact HNz.out; exact HOne.out))
          refine bodyPost_ret (v := .tuple #[.agg cs, .bool true]) (results_ct Tryd.results25 rfl rfl (run_agg (range_all (sep_get HSf.out 3 rfl : wf.heap[a0]? = some (Obj.cells cs 35))) Tryd.underlying35 rfl HNz.out)) rfl ⟨⟨cs, true, rfl, by rw [HCs.out]; rfl, HOne.out, ?_⟩, HBf.out⟩
          rw [HEv.out]
          have ei := HI.out
          have hd := HD.out
          obtain ⟨a1, a2⟩ := HAe.out
          subst ei a1 a2
          rw [evAt, hd]
          exact ⟨rfl, .slice none 0 0, HCs.out, sep_get (sep_none HSf.out w.heap.size 4) 0 rfl⟩
        · obtain rfl := hno hok
          have HD : Hid (decO (p.getD 1 []) = none) := hide (dec_no (by rw [← HAe.out.1]; exact hok))
          clear hy hno hok
          have y1 := (cell_at (sep_get HS_w8.out 0 rfl : w8.heap[g7]? = some (Obj.cells #[.int .i64 ((i : Int) + 1), .int .i64 1, .string ⟨#[]⟩, .string ⟨#[]⟩, .int .i64 0, .slice none 0 0, .int .i64 (-1)] 35)) 1).1
          have z1 := (cell_at (sep_get HS_w8.out 0 rfl : w8.heap[g7]? = some (Obj.cells #[.int .i64 ((i : Int) + 1), .int .i64 1, .string ⟨#[]⟩, .string ⟨#[]⟩, .int .i64 0, .slice none 0 0, .int .i64 (-1)] 35)) 1).2
          go_upto_region 29 with fail
          clear y1 z1
          have hsn := sep_store HS_w8.out 0 rfl 1 (.int .i64 0)
          have hbn := HB_w8.out.setCell (p := ⟨g7, 1, none⟩) HG7.out (.int .i64 0)
          obtain ⟨w9, hwn⟩ : ∃ wx, wx = w8.setCell ⟨g7, 1, none⟩ (.int .i64 0) := ⟨_, rfl⟩
          rw [← hwn] at hsn hbn ⊢
          have HS_w9 : Hid (Sep a0 w9 [cellA g7 (Obj.cells #[.int .i64 ((i : Int) + 1), .int .i64 0, .string ⟨#[]⟩, .string ⟨#[]⟩, .int .i64 0, .slice none 0 0, .int .i64 (-1)] 35), cellA (a0 + 1 + 1) (Obj.cells NS 3), cellA (a0 + 1) (Obj.cells WS 9), cellA a0 (Obj.cells #[.int .i64 0, .int .i64 0, .string ⟨#[]⟩, .string ⟨#[]⟩, .int .i64 0, .slice none 0 0, .int .i64 0] 35)]) := hide hsn
          have HB_w9 := hide hbn
          clear hsn hbn hwn HS_w8 HB_w8
          obtain ⟨cs, hcs⟩ : ∃ cs : Array Value, cs = #[.int .i64 ((i : Int) + 1), .int .i64 0, .string ⟨#[]⟩, .string ⟨#[]⟩, .int .i64 0, .slice none 0 0, .int .i64 (-1)] := ⟨_, rfl⟩
          have hsx := HS_w9.out
          rw [← hcs] at hsx
          have HSx := hide hsx
          have HRg : Hid (w9.rangeAt g7 0 cs.toList) := hide (range_all (sep_get HSx.out 0 rfl : w9.heap[g7]? = some (Obj.cells cs 35)))
          have HNz : Hid ((Tryd.prog.info? 35).map (·.size) = some cs.size) := hide (by rw [hcs]; exact Tryd.sizeEvI)
          have HOne : Hid (cs.toList.all (·.oneCell') = true) := hide (by rw [hcs]; rfl)
          have hth : Hid (w9.there a0 0 cs.size) := hide (by rw [hcs]; exact there_of (sep_get HSx.out 3 rfl : w9.heap[a0]? = some (Obj.cells #[.int .i64 0, .int .i64 0, .string ⟨#[]⟩, .string ⟨#[]⟩, .int .i64 0, .slice none 0 0, .int .i64 0] 35)) 0 7 (show 0 + 7 ≤ 7 by decide))
          have HSf := hide (sep_cellsAll HSx.out 3 rfl cs (by rw [hcs]; rfl))
          have HBf := hide (below_cells (show w.heap.size ≤ a0 by rw [HA.out]; exact Nat.le_refl _) cs.toList 0 w9 HB_w9.out)
          obtain ⟨wf, hwf⟩ : ∃ wf, wf = w9.setCells a0 0 cs.toList := ⟨_, rfl⟩
          rw [← hwf] at HSf HBf
          have HWf := hide hwf.symm
          have HCs := hide hcs
          clear hwf hcs hsx
          go_wp2_with (first | ((with_reducible refine wpList_loadL ?_ 35 (.tmp 7) ?_ g7 0 ?_ cs HRg.out _ Tryd.underlying35 ?_ ?_ ?_); exact rfl; exact rfl; exact rfl; exact rfl; exact HNz.out) | ((with_reducible refine wpList_storeL ?_ 35 (.tmp 2) (.tmp 131) ?_ a0 0 cs ?_ ?_ hth.out ?_ ?_ HWf.out ?_); exact rfl; exact rfl; exact rfl; exact rfl; exact HNz.out; exact HOne.out))
          refine bodyPost_ret (v := .tuple #[.agg cs, .bool false]) (results_ct Tryd.results25 rfl rfl (run_agg (range_all (sep_get HSf.out 3 rfl : wf.heap[a0]? = some (Obj.cells cs 35))) Tryd.underlying35 rfl HNz.out)) rfl ⟨⟨cs, false, rfl, by rw [HCs.out]; rfl, HOne.out, ?_⟩, HBf.out⟩
          rw [HEv.out, HI.out, evAt, HD.out]
          rfl
      · have d2 : ((i : Int) + 1 == 2) = false := by rw [beq_eq_false_iff_ne]; omega
        have d3 : ((i : Int) + 1 == 3) = false := by rw [beq_eq_false_iff_ne]; omega
        have d6 : ((i : Int) + 1 == 6) = false := by rw [beq_eq_false_iff_ne]; omega
        have d8 : ((i : Int) + 1 == 8) = true := by rw [beq_iff_eq]; omega
        have y0 := (cell_at (sep_get HS_w7.out 0 rfl : w7.heap[g7]? = some (Obj.cells #[.int .i64 ((i : Int) + 1), .int .i64 1, .string ⟨#[]⟩, .string ⟨#[]⟩, .int .i64 0, .slice none 0 0, .int .i64 (-1)] 35)) 0).1
        have hnn : n = 2 := by rw [HNn.out, e]; rfl
        have HI := hide e
        clear e
        have c1 := HC1.out w7 HB_w7.out (by omega)
        go_wp2_with fail
        refine (HR1.out w7).mono ?_
        rintro e w8 ⟨hy, hno, hb⟩
        clear y0 c1
        have HS_w8 := hide (sep_below HS_w7.out hb)
        have HB_w8 : Hid (Below w.heap.size w w8) := hide (HB_w7.out.trans (hb.mono HB_w7.out.size))
        clear hb HS_w7 HB_w7
        by_cases hok : okD A1
        · obtain rfl := hy hok
          obtain ⟨V, hV⟩ : ∃ x : Int, x = ((valD A1 A1.size : Nat) : Int) := ⟨_, rfl⟩
          rw [← hV]
          have HD : Hid (decO (p.getD 1 []) = some V) := hide (by rw [hV, HAe.out.1] at *; exact dec_yes (by rw [← HAe.out.1]; exact hok))
          clear hV
          clear hy hno hok
          have y1 := (cell_at (sep_get HS_w8.out 0 rfl : w8.heap[g7]? = some (Obj.cells #[.int .i64 ((i : Int) + 1), .int .i64 1, .string ⟨#[]⟩, .string ⟨#[]⟩, .int .i64 0, .slice none 0 0, .int .i64 (-1)] 35)) 1).1
          have z1 := (cell_at (sep_get HS_w8.out 0 rfl : w8.heap[g7]? = some (Obj.cells #[.int .i64 ((i : Int) + 1), .int .i64 1, .string ⟨#[]⟩, .string ⟨#[]⟩, .int .i64 0, .slice none 0 0, .int .i64 (-1)] 35)) 1).2
          go_upto_region 29 with fail
          clear y1 z1
          have hsn := sep_store HS_w8.out 0 rfl 1 (.int .i64 V)
          have hbn := HB_w8.out.setCell (p := ⟨g7, 1, none⟩) HG7.out (.int .i64 V)
          obtain ⟨w9, hwn⟩ : ∃ wx, wx = w8.setCell ⟨g7, 1, none⟩ (.int .i64 V) := ⟨_, rfl⟩
          rw [← hwn] at hsn hbn ⊢
          have HS_w9 : Hid (Sep a0 w9 [cellA g7 (Obj.cells #[.int .i64 ((i : Int) + 1), .int .i64 V, .string ⟨#[]⟩, .string ⟨#[]⟩, .int .i64 0, .slice none 0 0, .int .i64 (-1)] 35), cellA (a0 + 1 + 1) (Obj.cells NS 3), cellA (a0 + 1) (Obj.cells WS 9), cellA a0 (Obj.cells #[.int .i64 0, .int .i64 0, .string ⟨#[]⟩, .string ⟨#[]⟩, .int .i64 0, .slice none 0 0, .int .i64 0] 35)]) := hide hsn
          have HB_w9 := hide hbn
          clear hsn hbn hwn HS_w8 HB_w8
          obtain ⟨cs, hcs⟩ : ∃ cs : Array Value, cs = #[.int .i64 ((i : Int) + 1), .int .i64 V, .string ⟨#[]⟩, .string ⟨#[]⟩, .int .i64 0, .slice none 0 0, .int .i64 (-1)] := ⟨_, rfl⟩
          have hsx := HS_w9.out
          rw [← hcs] at hsx
          have HSx := hide hsx
          have HRg : Hid (w9.rangeAt g7 0 cs.toList) := hide (range_all (sep_get HSx.out 0 rfl : w9.heap[g7]? = some (Obj.cells cs 35)))
          have HNz : Hid ((Tryd.prog.info? 35).map (·.size) = some cs.size) := hide (by rw [hcs]; exact Tryd.sizeEvI)
          have HOne : Hid (cs.toList.all (·.oneCell') = true) := hide (by rw [hcs]; rfl)
          have hth : Hid (w9.there a0 0 cs.size) := hide (by rw [hcs]; exact there_of (sep_get HSx.out 3 rfl : w9.heap[a0]? = some (Obj.cells #[.int .i64 0, .int .i64 0, .string ⟨#[]⟩, .string ⟨#[]⟩, .int .i64 0, .slice none 0 0, .int .i64 0] 35)) 0 7 (show 0 + 7 ≤ 7 by decide))
          have HSf := hide (sep_cellsAll HSx.out 3 rfl cs (by rw [hcs]; rfl))
          have HBf := hide (below_cells (show w.heap.size ≤ a0 by rw [HA.out]; exact Nat.le_refl _) cs.toList 0 w9 HB_w9.out)
          obtain ⟨wf, hwf⟩ : ∃ wf, wf = w9.setCells a0 0 cs.toList := ⟨_, rfl⟩
          rw [← hwf] at HSf HBf
          have HWf := hide hwf.symm
          have HCs := hide hcs
          clear hwf hcs hsx
          go_wp2_with (first | ((with_reducible refine wpList_loadL ?_ 35 (.tmp 7) ?_ g7 0 ?_ cs HRg.out _ Tryd.underlying35 ?_ ?_ ?_); exact rfl; exact rfl; exact rfl; exact rfl; exact HNz.out) | ((with_reducible refine wpList_storeL ?_ 35 (.tmp 2) (.tmp 131) ?_ a0 0 cs ?_ ?_ hth.out ?_ ?_ HWf.out ?_); exact rfl; exact rfl; exact rfl; exact rfl; exact HNz.out; exact HOne.out))
          refine bodyPost_ret (v := .tuple #[.agg cs, .bool true]) (results_ct Tryd.results25 rfl rfl (run_agg (range_all (sep_get HSf.out 3 rfl : wf.heap[a0]? = some (Obj.cells cs 35))) Tryd.underlying35 rfl HNz.out)) rfl ⟨⟨cs, true, rfl, by rw [HCs.out]; rfl, HOne.out, ?_⟩, HBf.out⟩
          rw [HEv.out]
          have ei := HI.out
          have hd := HD.out
          obtain ⟨a1, a2⟩ := HAe.out
          subst ei a1 a2
          rw [evAt, hd]
          exact ⟨rfl, .slice none 0 0, HCs.out, sep_get (sep_none HSf.out w.heap.size 4) 0 rfl⟩
        · obtain rfl := hno hok
          have HD : Hid (decO (p.getD 1 []) = none) := hide (dec_no (by rw [← HAe.out.1]; exact hok))
          clear hy hno hok
          have y1 := (cell_at (sep_get HS_w8.out 0 rfl : w8.heap[g7]? = some (Obj.cells #[.int .i64 ((i : Int) + 1), .int .i64 1, .string ⟨#[]⟩, .string ⟨#[]⟩, .int .i64 0, .slice none 0 0, .int .i64 (-1)] 35)) 1).1
          have z1 := (cell_at (sep_get HS_w8.out 0 rfl : w8.heap[g7]? = some (Obj.cells #[.int .i64 ((i : Int) + 1), .int .i64 1, .string ⟨#[]⟩, .string ⟨#[]⟩, .int .i64 0, .slice none 0 0, .int .i64 (-1)] 35)) 1).2
          go_upto_region 29 with fail
          clear y1 z1
          have hsn := sep_store HS_w8.out 0 rfl 1 (.int .i64 0)
          have hbn := HB_w8.out.setCell (p := ⟨g7, 1, none⟩) HG7.out (.int .i64 0)
          obtain ⟨w9, hwn⟩ : ∃ wx, wx = w8.setCell ⟨g7, 1, none⟩ (.int .i64 0) := ⟨_, rfl⟩
          rw [← hwn] at hsn hbn ⊢
          have HS_w9 : Hid (Sep a0 w9 [cellA g7 (Obj.cells #[.int .i64 ((i : Int) + 1), .int .i64 0, .string ⟨#[]⟩, .string ⟨#[]⟩, .int .i64 0, .slice none 0 0, .int .i64 (-1)] 35), cellA (a0 + 1 + 1) (Obj.cells NS 3), cellA (a0 + 1) (Obj.cells WS 9), cellA a0 (Obj.cells #[.int .i64 0, .int .i64 0, .string ⟨#[]⟩, .string ⟨#[]⟩, .int .i64 0, .slice none 0 0, .int .i64 0] 35)]) := hide hsn
          have HB_w9 := hide hbn
          clear hsn hbn hwn HS_w8 HB_w8
          obtain ⟨cs, hcs⟩ : ∃ cs : Array Value, cs = #[.int .i64 ((i : Int) + 1), .int .i64 0, .string ⟨#[]⟩, .string ⟨#[]⟩, .int .i64 0, .slice none 0 0, .int .i64 (-1)] := ⟨_, rfl⟩
          have hsx := HS_w9.out
          rw [← hcs] at hsx
          have HSx := hide hsx
          have HRg : Hid (w9.rangeAt g7 0 cs.toList) := hide (range_all (sep_get HSx.out 0 rfl : w9.heap[g7]? = some (Obj.cells cs 35)))
          have HNz : Hid ((Tryd.prog.info? 35).map (·.size) = some cs.size) := hide (by rw [hcs]; exact Tryd.sizeEvI)
          have HOne : Hid (cs.toList.all (·.oneCell') = true) := hide (by rw [hcs]; rfl)
          have hth : Hid (w9.there a0 0 cs.size) := hide (by rw [hcs]; exact there_of (sep_get HSx.out 3 rfl : w9.heap[a0]? = some (Obj.cells #[.int .i64 0, .int .i64 0, .string ⟨#[]⟩, .string ⟨#[]⟩, .int .i64 0, .slice none 0 0, .int .i64 0] 35)) 0 7 (show 0 + 7 ≤ 7 by decide))
          have HSf := hide (sep_cellsAll HSx.out 3 rfl cs (by rw [hcs]; rfl))
          have HBf := hide (below_cells (show w.heap.size ≤ a0 by rw [HA.out]; exact Nat.le_refl _) cs.toList 0 w9 HB_w9.out)
          obtain ⟨wf, hwf⟩ : ∃ wf, wf = w9.setCells a0 0 cs.toList := ⟨_, rfl⟩
          rw [← hwf] at HSf HBf
          have HWf := hide hwf.symm
          have HCs := hide hcs
          clear hwf hcs hsx
          go_wp2_with (first | ((with_reducible refine wpList_loadL ?_ 35 (.tmp 7) ?_ g7 0 ?_ cs HRg.out _ Tryd.underlying35 ?_ ?_ ?_); exact rfl; exact rfl; exact rfl; exact rfl; exact HNz.out) | ((with_reducible refine wpList_storeL ?_ 35 (.tmp 2) (.tmp 131) ?_ a0 0 cs ?_ ?_ hth.out ?_ ?_ HWf.out ?_); exact rfl; exact rfl; exact rfl; exact rfl; exact HNz.out; exact HOne.out))
          refine bodyPost_ret (v := .tuple #[.agg cs, .bool false]) (results_ct Tryd.results25 rfl rfl (run_agg (range_all (sep_get HSf.out 3 rfl : wf.heap[a0]? = some (Obj.cells cs 35))) Tryd.underlying35 rfl HNz.out)) rfl ⟨⟨cs, false, rfl, by rw [HCs.out]; rfl, HOne.out, ?_⟩, HBf.out⟩
          rw [HEv.out, HI.out, evAt, HD.out]
          rfl
      · have d2 : ((i : Int) + 1 == 2) = false := by rw [beq_eq_false_iff_ne]; omega
        have d3 : ((i : Int) + 1 == 3) = false := by rw [beq_eq_false_iff_ne]; omega
        have d6 : ((i : Int) + 1 == 6) = false := by rw [beq_eq_false_iff_ne]; omega
        have d8 : ((i : Int) + 1 == 8) = false := by rw [beq_eq_false_iff_ne]; omega
        have d7 : ((i : Int) + 1 == 7) = true := by rw [beq_iff_eq]; omega
        have y0 := (cell_at (sep_get HS_w7.out 0 rfl : w7.heap[g7]? = some (Obj.cells #[.int .i64 ((i : Int) + 1), .int .i64 1, .string ⟨#[]⟩, .string ⟨#[]⟩, .int .i64 0, .slice none 0 0, .int .i64 (-1)] 35)) 0).1
        have hnn : n = 3 := by rw [HNn.out, e]; rfl
        have HI := hide e
        clear e
        have c1 := HC1.out w7 HB_w7.out (by omega)
        go_wp2_with fail
        refine (HR1.out w7).mono ?_
        rintro e w8 ⟨hy, hno, hb⟩
        clear y0 c1
        have HS_w8 := hide (sep_below HS_w7.out hb)
        have HB_w8 : Hid (Below w.heap.size w w8) := hide (HB_w7.out.trans (hb.mono HB_w7.out.size))
        clear hb HS_w7 HB_w7
        by_cases hok : okD A1
        · obtain rfl := hy hok
          obtain ⟨V, hV⟩ : ∃ x : Int, x = ((valD A1 A1.size : Nat) : Int) := ⟨_, rfl⟩
          rw [← hV]
          have HD : Hid (decO (p.getD 1 []) = some V) := hide (by rw [hV, HAe.out.1] at *; exact dec_yes (by rw [← HAe.out.1]; exact hok))
          clear hV
          clear hy hno hok
          have y1 := (cell_at (sep_get HS_w8.out 0 rfl : w8.heap[g7]? = some (Obj.cells #[.int .i64 ((i : Int) + 1), .int .i64 1, .string ⟨#[]⟩, .string ⟨#[]⟩, .int .i64 0, .slice none 0 0, .int .i64 (-1)] 35)) 1).1
          have z1 := (cell_at (sep_get HS_w8.out 0 rfl : w8.heap[g7]? = some (Obj.cells #[.int .i64 ((i : Int) + 1), .int .i64 1, .string ⟨#[]⟩, .string ⟨#[]⟩, .int .i64 0, .slice none 0 0, .int .i64 (-1)] 35)) 1).2
          go_upto_region 20 with fail
          clear y1 z1
          have hsn := sep_store HS_w8.out 0 rfl 1 (.int .i64 V)
          have hbn := HB_w8.out.setCell (p := ⟨g7, 1, none⟩) HG7.out (.int .i64 V)
          obtain ⟨w9, hwn⟩ : ∃ wx, wx = w8.setCell ⟨g7, 1, none⟩ (.int .i64 V) := ⟨_, rfl⟩
          rw [← hwn] at hsn hbn ⊢
          have HS_w9 : Hid (Sep a0 w9 [cellA g7 (Obj.cells #[.int .i64 ((i : Int) + 1), .int .i64 V, .string ⟨#[]⟩, .string ⟨#[]⟩, .int .i64 0, .slice none 0 0, .int .i64 (-1)] 35), cellA (a0 + 1 + 1) (Obj.cells NS 3), cellA (a0 + 1) (Obj.cells WS 9), cellA a0 (Obj.cells #[.int .i64 0, .int .i64 0, .string ⟨#[]⟩, .string ⟨#[]⟩, .int .i64 0, .slice none 0 0, .int .i64 0] 35)]) := hide hsn
          have HB_w9 := hide hbn
          clear hsn hbn hwn HS_w8 HB_w8
          have y2 := (cell_at (sep_get HS_w9.out 0 rfl : w9.heap[g7]? = some (Obj.cells #[.int .i64 ((i : Int) + 1), .int .i64 V, .string ⟨#[]⟩, .string ⟨#[]⟩, .int .i64 0, .slice none 0 0, .int .i64 (-1)] 35)) 2).1
          have z2 := (cell_at (sep_get HS_w9.out 0 rfl : w9.heap[g7]? = some (Obj.cells #[.int .i64 ((i : Int) + 1), .int .i64 V, .string ⟨#[]⟩, .string ⟨#[]⟩, .int .i64 0, .slice none 0 0, .int .i64 (-1)] 35)) 2).2
          have c2 := HC2.out w9 HB_w9.out (by omega)
          go_upto_region 29 with fail
          clear y2 z2 c2
          have hsn := sep_store HS_w9.out 0 rfl 2 (.string A2)
          have hbn := HB_w9.out.setCell (p := ⟨g7, 2, none⟩) HG7.out (.string A2)
          obtain ⟨w10, hwn⟩ : ∃ wx, wx = w9.setCell ⟨g7, 2, none⟩ (.string A2) := ⟨_, rfl⟩
          rw [← hwn] at hsn hbn ⊢
          have HS_w10 : Hid (Sep a0 w10 [cellA g7 (Obj.cells #[.int .i64 ((i : Int) + 1), .int .i64 V, .string A2, .string ⟨#[]⟩, .int .i64 0, .slice none 0 0, .int .i64 (-1)] 35), cellA (a0 + 1 + 1) (Obj.cells NS 3), cellA (a0 + 1) (Obj.cells WS 9), cellA a0 (Obj.cells #[.int .i64 0, .int .i64 0, .string ⟨#[]⟩, .string ⟨#[]⟩, .int .i64 0, .slice none 0 0, .int .i64 0] 35)]) := hide hsn
          have HB_w10 := hide hbn
          clear hsn hbn hwn HS_w9 HB_w9
          obtain ⟨cs, hcs⟩ : ∃ cs : Array Value, cs = #[.int .i64 ((i : Int) + 1), .int .i64 V, .string A2, .string ⟨#[]⟩, .int .i64 0, .slice none 0 0, .int .i64 (-1)] := ⟨_, rfl⟩
          have hsx := HS_w10.out
          rw [← hcs] at hsx
          have HSx := hide hsx
          have HRg : Hid (w10.rangeAt g7 0 cs.toList) := hide (range_all (sep_get HSx.out 0 rfl : w10.heap[g7]? = some (Obj.cells cs 35)))
          have HNz : Hid ((Tryd.prog.info? 35).map (·.size) = some cs.size) := hide (by rw [hcs]; exact Tryd.sizeEvI)
          have HOne : Hid (cs.toList.all (·.oneCell') = true) := hide (by rw [hcs]; rfl)
          have hth : Hid (w10.there a0 0 cs.size) := hide (by rw [hcs]; exact there_of (sep_get HSx.out 3 rfl : w10.heap[a0]? = some (Obj.cells #[.int .i64 0, .int .i64 0, .string ⟨#[]⟩, .string ⟨#[]⟩, .int .i64 0, .slice none 0 0, .int .i64 0] 35)) 0 7 (show 0 + 7 ≤ 7 by decide))
          have HSf := hide (sep_cellsAll HSx.out 3 rfl cs (by rw [hcs]; rfl))
          have HBf := hide (below_cells (show w.heap.size ≤ a0 by rw [HA.out]; exact Nat.le_refl _) cs.toList 0 w10 HB_w10.out)
          obtain ⟨wf, hwf⟩ : ∃ wf, wf = w10.setCells a0 0 cs.toList := ⟨_, rfl⟩
          rw [← hwf] at HSf HBf
          have HWf := hide hwf.symm
          have HCs := hide hcs
          clear hwf hcs hsx
          go_wp2_with (first | ((with_reducible refine wpList_loadL ?_ 35 (.tmp 7) ?_ g7 0 ?_ cs HRg.out _ Tryd.underlying35 ?_ ?_ ?_); exact rfl; exact rfl; exact rfl; exact rfl; exact HNz.out) | ((with_reducible refine wpList_storeL ?_ 35 (.tmp 2) (.tmp 131) ?_ a0 0 cs ?_ ?_ hth.out ?_ ?_ HWf.out ?_); exact rfl; exact rfl; exact rfl; exact rfl; exact HNz.out; exact HOne.out))
          refine bodyPost_ret (v := .tuple #[.agg cs, .bool true]) (results_ct Tryd.results25 rfl rfl (run_agg (range_all (sep_get HSf.out 3 rfl : wf.heap[a0]? = some (Obj.cells cs 35))) Tryd.underlying35 rfl HNz.out)) rfl ⟨⟨cs, true, rfl, by rw [HCs.out]; rfl, HOne.out, ?_⟩, HBf.out⟩
          rw [HEv.out]
          have ei := HI.out
          have hd := HD.out
          obtain ⟨a1, a2⟩ := HAe.out
          subst ei a1 a2
          rw [evAt, hd]
          exact ⟨rfl, .slice none 0 0, HCs.out, sep_get (sep_none HSf.out w.heap.size 4) 0 rfl⟩
        · obtain rfl := hno hok
          have HD : Hid (decO (p.getD 1 []) = none) := hide (dec_no (by rw [← HAe.out.1]; exact hok))
          clear hy hno hok
          have y1 := (cell_at (sep_get HS_w8.out 0 rfl : w8.heap[g7]? = some (Obj.cells #[.int .i64 ((i : Int) + 1), .int .i64 1, .string ⟨#[]⟩, .string ⟨#[]⟩, .int .i64 0, .slice none 0 0, .int .i64 (-1)] 35)) 1).1
          have z1 := (cell_at (sep_get HS_w8.out 0 rfl : w8.heap[g7]? = some (Obj.cells #[.int .i64 ((i : Int) + 1), .int .i64 1, .string ⟨#[]⟩, .string ⟨#[]⟩, .int .i64 0, .slice none 0 0, .int .i64 (-1)] 35)) 1).2
          go_upto_region 20 with fail
          clear y1 z1
          have hsn := sep_store HS_w8.out 0 rfl 1 (.int .i64 0)
          have hbn := HB_w8.out.setCell (p := ⟨g7, 1, none⟩) HG7.out (.int .i64 0)
          obtain ⟨w9, hwn⟩ : ∃ wx, wx = w8.setCell ⟨g7, 1, none⟩ (.int .i64 0) := ⟨_, rfl⟩
          rw [← hwn] at hsn hbn ⊢
          have HS_w9 : Hid (Sep a0 w9 [cellA g7 (Obj.cells #[.int .i64 ((i : Int) + 1), .int .i64 0, .string ⟨#[]⟩, .string ⟨#[]⟩, .int .i64 0, .slice none 0 0, .int .i64 (-1)] 35), cellA (a0 + 1 + 1) (Obj.cells NS 3), cellA (a0 + 1) (Obj.cells WS 9), cellA a0 (Obj.cells #[.int .i64 0, .int .i64 0, .string ⟨#[]⟩, .string ⟨#[]⟩, .int .i64 0, .slice none 0 0, .int .i64 0] 35)]) := hide hsn
          have HB_w9 := hide hbn
          clear hsn hbn hwn HS_w8 HB_w8
          have y2 := (cell_at (sep_get HS_w9.out 0 rfl : w9.heap[g7]? = some (Obj.cells #[.int .i64 ((i : Int) + 1), .int .i64 0, .string ⟨#[]⟩, .string ⟨#[]⟩, .int .i64 0, .slice none 0 0, .int .i64 (-1)] 35)) 2).1
          have z2 := (cell_at (sep_get HS_w9.out 0 rfl : w9.heap[g7]? = some (Obj.cells #[.int .i64 ((i : Int) + 1), .int .i64 0, .string ⟨#[]⟩, .string ⟨#[]⟩, .int .i64 0, .slice none 0 0, .int .i64 (-1)] 35)) 2).2
          have c2 := HC2.out w9 HB_w9.out (by omega)
          go_upto_region 29 with fail
          clear y2 z2 c2
          have hsn := sep_store HS_w9.out 0 rfl 2 (.string A2)
          have hbn := HB_w9.out.setCell (p := ⟨g7, 2, none⟩) HG7.out (.string A2)
          obtain ⟨w10, hwn⟩ : ∃ wx, wx = w9.setCell ⟨g7, 2, none⟩ (.string A2) := ⟨_, rfl⟩
          rw [← hwn] at hsn hbn ⊢
          have HS_w10 : Hid (Sep a0 w10 [cellA g7 (Obj.cells #[.int .i64 ((i : Int) + 1), .int .i64 0, .string A2, .string ⟨#[]⟩, .int .i64 0, .slice none 0 0, .int .i64 (-1)] 35), cellA (a0 + 1 + 1) (Obj.cells NS 3), cellA (a0 + 1) (Obj.cells WS 9), cellA a0 (Obj.cells #[.int .i64 0, .int .i64 0, .string ⟨#[]⟩, .string ⟨#[]⟩, .int .i64 0, .slice none 0 0, .int .i64 0] 35)]) := hide hsn
          have HB_w10 := hide hbn
          clear hsn hbn hwn HS_w9 HB_w9
          obtain ⟨cs, hcs⟩ : ∃ cs : Array Value, cs = #[.int .i64 ((i : Int) + 1), .int .i64 0, .string A2, .string ⟨#[]⟩, .int .i64 0, .slice none 0 0, .int .i64 (-1)] := ⟨_, rfl⟩
          have hsx := HS_w10.out
          rw [← hcs] at hsx
          have HSx := hide hsx
          have HRg : Hid (w10.rangeAt g7 0 cs.toList) := hide (range_all (sep_get HSx.out 0 rfl : w10.heap[g7]? = some (Obj.cells cs 35)))
          have HNz : Hid ((Tryd.prog.info? 35).map (·.size) = some cs.size) := hide (by rw [hcs]; exact Tryd.sizeEvI)
          have HOne : Hid (cs.toList.all (·.oneCell') = true) := hide (by rw [hcs]; rfl)
          have hth : Hid (w10.there a0 0 cs.size) := hide (by rw [hcs]; exact there_of (sep_get HSx.out 3 rfl : w10.heap[a0]? = some (Obj.cells #[.int .i64 0, .int .i64 0, .string ⟨#[]⟩, .string ⟨#[]⟩, .int .i64 0, .slice none 0 0, .int .i64 0] 35)) 0 7 (show 0 + 7 ≤ 7 by decide))
          have HSf := hide (sep_cellsAll HSx.out 3 rfl cs (by rw [hcs]; rfl))
          have HBf := hide (below_cells (show w.heap.size ≤ a0 by rw [HA.out]; exact Nat.le_refl _) cs.toList 0 w10 HB_w10.out)
          obtain ⟨wf, hwf⟩ : ∃ wf, wf = w10.setCells a0 0 cs.toList := ⟨_, rfl⟩
          rw [← hwf] at HSf HBf
          have HWf := hide hwf.symm
          have HCs := hide hcs
          clear hwf hcs hsx
          go_wp2_with (first | ((with_reducible refine wpList_loadL ?_ 35 (.tmp 7) ?_ g7 0 ?_ cs HRg.out _ Tryd.underlying35 ?_ ?_ ?_); exact rfl; exact rfl; exact rfl; exact rfl; exact HNz.out) | ((with_reducible refine wpList_storeL ?_ 35 (.tmp 2) (.tmp 131) ?_ a0 0 cs ?_ ?_ hth.out ?_ ?_ HWf.out ?_); exact rfl; exact rfl; exact rfl; exact rfl; exact HNz.out; exact HOne.out))
          refine bodyPost_ret (v := .tuple #[.agg cs, .bool false]) (results_ct Tryd.results25 rfl rfl (run_agg (range_all (sep_get HSf.out 3 rfl : wf.heap[a0]? = some (Obj.cells cs 35))) Tryd.underlying35 rfl HNz.out)) rfl ⟨⟨cs, false, rfl, by rw [HCs.out]; rfl, HOne.out, ?_⟩, HBf.out⟩
          rw [HEv.out, HI.out, evAt, HD.out]
          rfl
      · have d2 : ((i : Int) + 1 == 2) = false := by rw [beq_eq_false_iff_ne]; omega
        have d3 : ((i : Int) + 1 == 3) = false := by rw [beq_eq_false_iff_ne]; omega
        have d6 : ((i : Int) + 1 == 6) = false := by rw [beq_eq_false_iff_ne]; omega
        have d8 : ((i : Int) + 1 == 8) = false := by rw [beq_eq_false_iff_ne]; omega
        have d7 : ((i : Int) + 1 == 7) = false := by rw [beq_eq_false_iff_ne]; omega
        have d10 : ((i : Int) + 1 == 10) = true := by rw [beq_iff_eq]; omega
        have y0 := (cell_at (sep_get HS_w7.out 0 rfl : w7.heap[g7]? = some (Obj.cells #[.int .i64 ((i : Int) + 1), .int .i64 1, .string ⟨#[]⟩, .string ⟨#[]⟩, .int .i64 0, .slice none 0 0, .int .i64 (-1)] 35)) 0).1
        have hnn : n = 3 := by rw [HNn.out, e]; rfl
        have HI := hide e
        clear e
        have c1 := HC1.out w7 HB_w7.out (by omega)
        go_wp2_with fail
        refine (HR1.out w7).mono ?_
        rintro e w8 ⟨hy, hno, hb⟩
        clear y0 c1
        have HS_w8 := hide (sep_below HS_w7.out hb)
        have HB_w8 : Hid (Below w.heap.size w w8) := hide (HB_w7.out.trans (hb.mono HB_w7.out.size))
        clear hb HS_w7 HB_w7
        obtain ⟨V, tt, he, hd⟩ : ∃ (V : Int) (tt : Bool), e = .returned (.tuple #[.int .i64 V, .bool tt]) ∧ ((tt = true ∧ decO (p.getD 1 []) = some V) ∨ (tt = false ∧ decO (p.getD 1 []) = none)) := by
          by_cases hok : okD A1
          · exact ⟨_, true, hy hok, Or.inl ⟨rfl, by have h := dec_yes (l := p.getD 1 []) (by rw [← HAe.out.1]; exact hok); rw [h, ← HAe.out.1]⟩⟩
          · exact ⟨0, false, hno hok, Or.inr ⟨rfl, dec_no (by rw [← HAe.out.1]; exact hok)⟩⟩
        subst he
        have HD := hide hd
        clear hy hno hd
        have y4 := (cell_at (sep_get HS_w8.out 0 rfl : w8.heap[g7]? = some (Obj.cells #[.int .i64 ((i : Int) + 1), .int .i64 1, .string ⟨#[]⟩, .string ⟨#[]⟩, .int .i64 0, .slice none 0 0, .int .i64 (-1)] 35)) 4).1
        have z4 := (cell_at (sep_get HS_w8.out 0 rfl : w8.heap[g7]? = some (Obj.cells #[.int .i64 ((i : Int) + 1), .int .i64 1, .string ⟨#[]⟩, .string ⟨#[]⟩, .int .i64 0, .slice none 0 0, .int .i64 (-1)] 35)) 4).2
        go_upto_region 23 with fail
        clear y4 z4
        have hsn := sep_store HS_w8.out 0 rfl 4 (.int .i64 V)
        have hbn := HB_w8.out.setCell (p := ⟨g7, 4, none⟩) HG7.out (.int .i64 V)
        obtain ⟨w9, hwn⟩ : ∃ wx, wx = w8.setCell ⟨g7, 4, none⟩ (.int .i64 V) := ⟨_, rfl⟩
        rw [← hwn] at hsn hbn ⊢
        have HS_w9 : Hid (Sep a0 w9 [cellA g7 (Obj.cells #[.int .i64 ((i : Int) + 1), .int .i64 1, .string ⟨#[]⟩, .string ⟨#[]⟩, .int .i64 V, .slice none 0 0, .int .i64 (-1)] 35), cellA (a0 + 1 + 1) (Obj.cells NS 3), cellA (a0 + 1) (Obj.cells WS 9), cellA a0 (Obj.cells #[.int .i64 0, .int .i64 0, .string ⟨#[]⟩, .string ⟨#[]⟩, .int .i64 0, .slice none 0 0, .int .i64 0] 35)]) := hide hsn
        have HB_w9 := hide hbn
        clear hsn hbn hwn HS_w8 HB_w8
        have HS0 : Hid (Sep a0 w9 [rowA a0 4 1 (.slice none 0 0) 0 (bools ([])), cellA g7 (Obj.cells #[.int .i64 ((i : Int) + 1), .int .i64 1, .string ⟨#[]⟩, .string ⟨#[]⟩, .int .i64 V, .slice none 0 0, .int .i64 (-1)] 35), cellA (a0 + 1 + 1) (Obj.cells NS 3), cellA (a0 + 1) (Obj.cells WS 9), cellA a0 (Obj.cells #[.int .i64 0, .int .i64 0, .string ⟨#[]⟩, .string ⟨#[]⟩, .int .i64 0, .slice none 0 0, .int .i64 0] 35)]) := hide (sep_none HS_w9.out a0 4)
        obtain ⟨l2, hl2⟩ : ∃ l, l = p.getD 2 [] := ⟨_, rfl⟩
        have HL2 := hide hl2
        have hls : l2.length ≤ 600 := by rw [hl2]; exact HSz.out 2
        have hA2 : A2 = ba l2 := by rw [hl2]; exact HAe.out.2
        have HSzA : Hid (A2.size = l2.length) := hide (by rw [hA2, ba_size])
        have HBy : Hid (∀ k, byt A2 k = byt (ba l2) k) := hide (fun k => by rw [hA2])
        obtain ⟨dd, hdd⟩ : ∃ dd, (A2.toList == ([45] : List UInt8)) = dd := ⟨_, rfl⟩
        have HDd : Hid (decide (l2 = [45]) = dd) := hide (by rw [← hdd, hA2]; exact (bl_lit l2 [45]).symm)
        obtain ⟨L, hL⟩ : ∃ L, L = A2.size := ⟨_, rfl⟩
        have HLe : Hid (L = l2.length) := hide (by rw [hL]; exact HSzA.out)
        have hLs : L ≤ 600 := by rw [hL, HSzA.out]; exact hls
        clear hl2 hls hA2 HS_w9
        go_wp2_with fail
        obtain ⟨gO, rfl⟩ : ∃ gO, gO = gk := ⟨gk, rfl⟩
        go_loopg [9] L (fun q kv wr => ∃ (k : Nat) (x : Option Addr) (c : Nat) (xs : List Bool), k ≤ L ∧ q + k = L ∧ kv = .int .i64 (k : Int) ∧ Hid (xs = (l2.take k).map (· == 49) ∧ (∀ j, j < k → byt (ba l2) j = 48 ∨ byt (ba l2) j = 49) ∧ (dd = true → k = 0)) ∧ Hid (Sep a0 wr [rowA a0 4 1 (.slice x k c) k (bools (xs)), cellA g7 (Obj.cells #[.int .i64 ((i : Int) + 1), .int .i64 1, .string ⟨#[]⟩, .string ⟨#[]⟩, .int .i64 V, .slice x k c, .int .i64 (-1)] 35), cellA (a0 + 1 + 1) (Obj.cells NS 3), cellA (a0 + 1) (Obj.cells WS 9), cellA a0 (Obj.cells #[.int .i64 0, .int .i64 0, .string ⟨#[]⟩, .string ⟨#[]⟩, .int .i64 0, .slice none 0 0, .int .i64 0] 35)]) ∧ Hid (Below w.heap.size w wr))
        case atStart => exact ⟨0, none, 0, [], Nat.zero_le _, rfl, rfl, hide ⟨rfl, fun j h => by omega, fun _ => rfl⟩, HS0, HB_w9⟩
        case round =>
          clear HS0 HB_w9
          obtain ⟨k, x, c, xs, hk, hq2, rfl, HX, HS_wr, HB_wr⟩ := hrel
          have HQ2 := hide hq2
          clear hq2
          have c2 := HC2.out wr HB_wr.out (by omega)
          have hk0 : (0 : Int) ≤ (k : Int) := by omega
          have exit_ : ∀ (hx : bitsO l2 = some xs) (hxl : xs.length = k), True := fun _ _ => trivial
          clear exit_
          by_cases hlt : k < L
          rotate_left
          · have hlt2 : ¬ ((k : Int) < (L : Int)) := by omega
            have hkL : Hid (k = l2.length) := hide (by rw [← HLe.out]; omega)
            have hbt : Hid (bitsO l2 = some xs) := hide (by
              rw [HX.out.1, hkL.out, List.take_length]
              by_cases h45 : l2 = [45]
              · have h0 := HX.out.2.2 (by rw [← HDd.out]; exact decide_eq_true h45)
                rw [hkL.out, h45] at h0
                simp at h0
              · exact bits_all h45 (fun j hj => HX.out.2.1 j (by rw [hkL.out]; exact hj)))
            rw [hL] at hlt2
            skip
            go_upto_region 29 with fail
            obtain ⟨cs, hcs⟩ : ∃ cs : Array Value, cs = #[.int .i64 ((i : Int) + 1), .int .i64 1, .string ⟨#[]⟩, .string ⟨#[]⟩, .int .i64 V, .slice x k c, .int .i64 (-1)] := ⟨_, rfl⟩
            have hsx := HS_wr.out
            rw [← hcs] at hsx
            have HSx := hide hsx
            have HRg : Hid (wr.rangeAt g7 0 cs.toList) := hide (range_all (sep_get HSx.out 1 rfl : wr.heap[g7]? = some (Obj.cells cs 35)))
            have HNz : Hid ((Tryd.prog.info? 35).map (·.size) = some cs.size) := hide (by rw [hcs]; exact Tryd.sizeEvI)
            have HOne : Hid (cs.toList.all (·.oneCell') = true) := hide (by rw [hcs]; rfl)
            have hth : Hid (wr.there a0 0 cs.size) := hide (by rw [hcs]; exact there_of (sep_get HSx.out 4 rfl : wr.heap[a0]? = some (Obj.cells #[.int .i64 0, .int .i64 0, .string ⟨#[]⟩, .string ⟨#[]⟩, .int .i64 0, .slice none 0 0, .int .i64 0] 35)) 0 7 (show 0 + 7 ≤ 7 by decide))
            have HSf := hide (sep_cellsAll HSx.out 4 rfl cs (by rw [hcs]; rfl))
            have HBf := hide (below_cells (show w.heap.size ≤ a0 by rw [HA.out]; exact Nat.le_refl _) cs.toList 0 wr HB_wr.out)
            obtain ⟨wf, hwf⟩ : ∃ wf, wf = wr.setCells a0 0 cs.toList := ⟨_, rfl⟩
            rw [← hwf] at HSf HBf
            have HWf := hide hwf.symm
            have HCs := hide hcs
            clear hwf hcs hsx
            go_wp2_with (first | ((with_reducible refine wpList_loadL ?_ 35 (.tmp 7) ?_ g7 0 ?_ cs HRg.out _ Tryd.underlying35 ?_ ?_ ?_); exact rfl; exact rfl; exact rfl; exact rfl; exact HNz.out) | ((with_reducible refine wpList_storeL ?_ 35 (.tmp 2) (.tmp 131) ?_ a0 0 cs ?_ ?_ hth.out ?_ ?_ HWf.out ?_); exact rfl; exact rfl; exact rfl; exact rfl; exact HNz.out; exact HOne.out))
            refine bodyPost_ret (v := .tuple #[.agg cs, .bool tt]) (results_ct Tryd.results25 rfl rfl (run_agg (range_all (sep_get HSf.out 4 rfl : wf.heap[a0]? = some (Obj.cells cs 35))) Tryd.underlying35 rfl HNz.out)) rfl ⟨⟨cs, tt, rfl, by rw [HCs.out]; rfl, HOne.out, ?_⟩, HBf.out⟩
            have hbits : bitsO (p.getD 2 []) = some xs := by rw [← HL2.out]; exact hbt.out
            have hxl : xs.length = k := by rw [HX.out.1, List.length_map, List.length_take]; have := HLe.out; omega
            rw [HEv.out]
            have ei := HI.out
            have hd := HD.out
            have hrow := sep_get HSf.out 0 rfl
            subst ei
            rcases hd with ⟨ht, hd⟩ | ⟨ht, hd⟩
            · rw [evAt, hd, Option.bind_some, hbits]
              refine ⟨ht, .slice x k c, HCs.out, ?_⟩
              show wf.ownsRow w.heap.size 4 1 (.slice x k c) xs.length (bools xs)
              rw [hxl, ← HA.out]
              exact hrow
            · rw [evAt, hd]
              exact ht
          have hlt2 : (k : Int) < (L : Int) := by omega
          cases dd with
          | true =>
            have hk00 : k = 0 := HX.out.2.2 rfl
            have hbt : Hid (bitsO l2 = some xs) := hide (by rw [HX.out.1, hk00]; exact bits_dash (of_decide_eq_true HDd.out))
            go_upto_region 29 with fail
            obtain ⟨cs, hcs⟩ : ∃ cs : Array Value, cs = #[.int .i64 ((i : Int) + 1), .int .i64 1, .string ⟨#[]⟩, .string ⟨#[]⟩, .int .i64 V, .slice x k c, .int .i64 (-1)] := ⟨_, rfl⟩
            have hsx := HS_wr.out
            rw [← hcs] at hsx
            have HSx := hide hsx
            have HRg : Hid (wr.rangeAt g7 0 cs.toList) := hide (range_all (sep_get HSx.out 1 rfl : wr.heap[g7]? = some (Obj.cells cs 35)))
            have HNz : Hid ((Tryd.prog.info? 35).map (·.size) = some cs.size) := hide (by rw [hcs]; exact Tryd.sizeEvI)
            have HOne : Hid (cs.toList.all (·.oneCell') = true) := hide (by rw [hcs]; rfl)
            have hth : Hid (wr.there a0 0 cs.size) := hide (by rw [hcs]; exact there_of (sep_get HSx.out 4 rfl : wr.heap[a0]? = some (Obj.cells #[.int .i64 0, .int .i64 0, .string ⟨#[]⟩, .string ⟨#[]⟩, .int .i64 0, .slice none 0 0, .int .i64 0] 35)) 0 7 (show 0 + 7 ≤ 7 by decide))
            have HSf := hide (sep_cellsAll HSx.out 4 rfl cs (by rw [hcs]; rfl))
            have HBf := hide (below_cells (show w.heap.size ≤ a0 by rw [HA.out]; exact Nat.le_refl _) cs.toList 0 wr HB_wr.out)
            obtain ⟨wf, hwf⟩ : ∃ wf, wf = wr.setCells a0 0 cs.toList := ⟨_, rfl⟩
            rw [← hwf] at HSf HBf
            have HWf := hide hwf.symm
            have HCs := hide hcs
            clear hwf hcs hsx
            go_wp2_with (first | ((with_reducible refine wpList_loadL ?_ 35 (.tmp 7) ?_ g7 0 ?_ cs HRg.out _ Tryd.underlying35 ?_ ?_ ?_); exact rfl; exact rfl; exact rfl; exact rfl; exact HNz.out) | ((with_reducible refine wpList_storeL ?_ 35 (.tmp 2) (.tmp 131) ?_ a0 0 cs ?_ ?_ hth.out ?_ ?_ HWf.out ?_); exact rfl; exact rfl; exact rfl; exact rfl; exact HNz.out; exact HOne.out))
            refine bodyPost_ret (v := .tuple #[.agg cs, .bool tt]) (results_ct Tryd.results25 rfl rfl (run_agg (range_all (sep_get HSf.out 4 rfl : wf.heap[a0]? = some (Obj.cells cs 35))) Tryd.underlying35 rfl HNz.out)) rfl ⟨⟨cs, tt, rfl, by rw [HCs.out]; rfl, HOne.out, ?_⟩, HBf.out⟩
            have hbits : bitsO (p.getD 2 []) = some xs := by rw [← HL2.out]; exact hbt.out
            have hxl : xs.length = k := by rw [HX.out.1, List.length_map, List.length_take]; have := HLe.out; omega
            rw [HEv.out]
            have ei := HI.out
            have hd := HD.out
            have hrow := sep_get HSf.out 0 rfl
            subst ei
            rcases hd with ⟨ht, hd⟩ | ⟨ht, hd⟩
            · rw [evAt, hd, Option.bind_some, hbits]
              refine ⟨ht, .slice x k c, HCs.out, ?_⟩
              show wf.ownsRow w.heap.size 4 1 (.slice x k c) xs.length (bools xs)
              rw [hxl, ← HA.out]
              exact hrow
            · rw [evAt, hd]
              exact ht
          | false =>
            obtain ⟨y, hy⟩ : ∃ y, y = byt A2 k := ⟨_, rfl⟩
            have hyb : y < 256 := by rw [hy]; exact byt_lt _ _
            have hs1 : A2[k].toNat = y := by rw [hy]; exact byt_eq A2 _ (by rw [← hL]; exact hlt)
            have HY : Hid (y = byt (ba l2) k) := hide (by rw [hy]; exact HBy.out k)
            clear hy
            have hkl : Hid (k < l2.length) := hide (by rw [← HLe.out]; exact hlt)
            have h45 : Hid (l2 ≠ [45]) := hide (of_decide_eq_false HDd.out)
            by_cases hyy : y = 48 ∨ y = 49
            rotate_left
            · have e1 : ((y : Int) != 48) = true := by rw [bne_iff_ne]; omega
              have e2 : ((y : Int) != 49) = true := by rw [bne_iff_ne]; omega
              have hbt : Hid (bitsO l2 = none) := hide (bits_no h45.out k hkl.out (by rw [← HY.out]; omega) (by rw [← HY.out]; omega))
              clear hyy
              go_upto_region 27 with fail
              obtain ⟨cs, hcs⟩ : ∃ cs : Array Value, cs = #[.int .i64 ((i : Int) + 1), .int .i64 1, .string ⟨#[]⟩, .string ⟨#[]⟩, .int .i64 V, .slice x k c, .int .i64 (-1)] := ⟨_, rfl⟩
              have hsx := HS_wr.out
              rw [← hcs] at hsx
              have HSx := hide hsx
              have HRg : Hid (wr.rangeAt g7 0 cs.toList) := hide (range_all (sep_get HSx.out 1 rfl : wr.heap[g7]? = some (Obj.cells cs 35)))
              have HNz : Hid ((Tryd.prog.info? 35).map (·.size) = some cs.size) := hide (by rw [hcs]; exact Tryd.sizeEvI)
              have HOne : Hid (cs.toList.all (·.oneCell') = true) := hide (by rw [hcs]; rfl)
              have hth : Hid (wr.there a0 0 cs.size) := hide (by rw [hcs]; exact there_of (sep_get HSx.out 4 rfl : wr.heap[a0]? = some (Obj.cells #[.int .i64 0, .int .i64 0, .string ⟨#[]⟩, .string ⟨#[]⟩, .int .i64 0, .slice none 0 0, .int .i64 0] 35)) 0 7 (show 0 + 7 ≤ 7 by decide))
              have HSf := hide (sep_cellsAll HSx.out 4 rfl cs (by rw [hcs]; rfl))
              have HBf := hide (below_cells (show w.heap.size ≤ a0 by rw [HA.out]; exact Nat.le_refl _) cs.toList 0 wr HB_wr.out)
              obtain ⟨wf, hwf⟩ : ∃ wf, wf = wr.setCells a0 0 cs.toList := ⟨_, rfl⟩
              rw [← hwf] at HSf HBf
              have HWf := hide hwf.symm
              have HCs := hide hcs
              clear hwf hcs hsx
              go_wp2_with (first | ((with_reducible refine wpList_loadL ?_ 35 (.tmp 7) ?_ g7 0 ?_ cs HRg.out _ Tryd.underlying35 ?_ ?_ ?_); exact rfl; exact rfl; exact rfl; exact rfl; exact HNz.out) | ((with_reducible refine wpList_storeL ?_ 35 (.tmp 2) (.tmp 119) ?_ a0 0 cs ?_ ?_ hth.out ?_ ?_ HWf.out ?_); exact rfl; exact rfl; exact rfl; exact rfl; exact HNz.out; exact HOne.out))
              refine bodyPost_ret (v := .tuple #[.agg cs, .bool false]) (results_ct Tryd.results25 rfl rfl (run_agg (range_all (sep_get HSf.out 4 rfl : wf.heap[a0]? = some (Obj.cells cs 35))) Tryd.underlying35 rfl HNz.out)) rfl ⟨⟨cs, false, rfl, by rw [HCs.out]; rfl, HOne.out, ?_⟩, HBf.out⟩
              rw [HEv.out]
              have ei := HI.out
              have hd := HD.out
              have hbits : bitsO (p.getD 2 []) = none := by rw [← HL2.out]; exact hbt.out
              subst ei
              rcases hd with ⟨ht, hd⟩ | ⟨ht, hd⟩ <;> rw [evAt, hd]
              · rw [Option.bind_some, hbits]
                rfl
              · rfl
            obtain ⟨tb, htb⟩ : ∃ tb, ((y : Int) == 49) = tb := ⟨_, rfl⟩
            have HTb : Hid ((xs ++ [tb]) = (l2.take (k + 1)).map (· == 49)) := hide (by rw [bit_next l2 k hkl.out, ← HX.out.1, ← HY.out, htb])
            have HYy := hide hyy
            have HJ : Hid (∀ j, j < k + 1 → byt (ba l2) j = 48 ∨ byt (ba l2) j = 49) := hide (fun j hj => by
              by_cases e : j = k
              · rw [e, ← HY.out]; exact HYy.out
              · exact HX.out.2.1 j (by omega))
            have hcond : ∀ (P : Prop), ((((y : Int) != 48) = false → P) ∧ (((y : Int) != 48) = true → ((y : Int) != 49) = false → P)) → P := fun P h => by
              by_cases e : y = 48
              · exact h.1 (by rw [bne_eq_false_iff_eq]; omega)
              · exact h.2 (by rw [bne_iff_ne]; omega) (by rw [bne_eq_false_iff_eq]; rcases HYy.out with h | h <;> omega)
            refine hcond _ ⟨fun e1 => ?_, fun e1 e2 => ?_⟩
            all_goals clear hcond hyy
            · go_wp2_with fail
              obtain ⟨wd, hwd⟩ : ∃ wd, wd = wr.drew := ⟨_, rfl⟩
              have HSd := hide (sep_drew HS_wr.out)
              have HBd := hide HB_wr.out.drew
              rw [← hwd] at HSd HBd
              have HSw : Hid (∀ wx, Below w.heap.size w wx → wx.heap[g7]? = some (Obj.cells #[.int .i64 ((i : Int) + 1), .int .i64 1, .string ⟨#[]⟩, .string ⟨#[]⟩, .int .i64 V, .slice x k c, .int .i64 (-1)] 35) → (fun wx => wx.cell? ⟨b, off + 2, none⟩ = some (.string A2) ∧ wx.cell? ⟨g7, 5, none⟩ = some (.slice x k c)) wx) := hide (fun wx hb h => ⟨HC2.out wx hb (by omega), (cell_at h 5).1⟩)
              have hSd := HSw.out wd HBd.out (sep_get HSd.out 1 rfl)
              refine wp_regionZ (S := fun wx => wx.cell? ⟨b, off + 2, none⟩ = some (.string A2) ∧ wx.cell? ⟨g7, 5, none⟩ = some (.slice x k c)) 11 (by kernel_rfl) ?_
              rw [← hwd]
              clear hwd
              refine takeZ 0 120 ?_ rfl rfl (by kernel_rfl) (by kernel_rfl) (by kernel_rfl) (by kernel_rfl) (fun _ _ _ h => h) (Or.inl ⟨by rfl, ?_⟩) hSd ?_
              rotate_left
              · (intro wx hSw; obtain ⟨hSa, hSb⟩ := hSw; go_simp; try with_reducible rfl)
              (try simp only [List.setIfInBounds_toArray, List.set_cons_zero, List.set_cons_succ])
              refine takeZ 1 121 ?_ rfl rfl (by kernel_rfl) (by kernel_rfl) (by kernel_rfl) (by kernel_rfl) (fun _ _ _ h => h) (Or.inl ⟨by rfl, ?_⟩) hSd ?_
              rotate_left
              · (intro wx hSw; obtain ⟨hSa, hSb⟩ := hSw; go_simp; try with_reducible rfl)
              (try simp only [List.setIfInBounds_toArray, List.set_cons_zero, List.set_cons_succ])
              refine takeZ 2 122 ?_ rfl rfl (by kernel_rfl) (by kernel_rfl) (by kernel_rfl) (by kernel_rfl) (fun _ _ _ h => h) (Or.inl ⟨by rfl, ?_⟩) hSd ?_
              rotate_left
              · (intro wx hSw; obtain ⟨hSa, hSb⟩ := hSw; go_simp; try with_reducible rfl)
              (try simp only [List.setIfInBounds_toArray, List.set_cons_zero, List.set_cons_succ])
              refine takeZ 3 123 ?_ rfl rfl (by kernel_rfl) (by kernel_rfl) (by kernel_rfl) (by kernel_rfl) (fun _ _ _ h => h) (Or.inl ⟨by rfl, ?_⟩) hSd ?_
              rotate_left
              · (intro wx hSw; obtain ⟨hSa, hSb⟩ := hSw; go_simp; try with_reducible rfl)
              (try simp only [List.setIfInBounds_toArray, List.set_cons_zero, List.set_cons_succ])
              refine takeZ 4 124 ?_ rfl rfl (by kernel_rfl) (by kernel_rfl) (by kernel_rfl) (by kernel_rfl) (fun _ _ _ h => h) (Or.inl ⟨by rfl, ?_⟩) hSd ?_
              rotate_left
              · (intro wx hSw; obtain ⟨hSa, hSb⟩ := hSw; go_simp; try with_reducible rfl)
              (try simp only [List.setIfInBounds_toArray, List.set_cons_zero, List.set_cons_succ])
              refine takeZ 5 125 ?_ rfl rfl (by kernel_rfl) (by kernel_rfl) (by kernel_rfl) (by kernel_rfl) (fun _ _ _ h => h) (Or.inl ⟨by rfl, ?_⟩) hSd ?_
              rotate_left
              · (intro wx hSw; obtain ⟨hSa, hSb⟩ := hSw; go_simp; try with_reducible rfl)
              (try simp only [List.setIfInBounds_toArray, List.set_cons_zero, List.set_cons_succ])
              refine takeZ 6 126 ?_ rfl rfl (by kernel_rfl) (by kernel_rfl) (by kernel_rfl) (by kernel_rfl) (fun _ _ _ h => h) (Or.inl ⟨by rfl, ?_⟩) hSd ?_
              rotate_left
              · (intro wx hSw; obtain ⟨hSa, hSb⟩ := hSw; go_simp; try with_reducible rfl)
              (try simp only [List.setIfInBounds_toArray, List.set_cons_zero, List.set_cons_succ])
              refine takeZ 7 127 ?_ rfl rfl (by kernel_rfl) (by kernel_rfl) (by kernel_rfl) (by kernel_rfl) (fun _ _ _ h => h) (Or.inl ⟨by rfl, ?_⟩) hSd ?_
              rotate_left
              · (intro wx hSw; obtain ⟨hSa, hSb⟩ := hSw; go_simp; try with_reducible rfl)
              (try simp only [List.setIfInBounds_toArray, List.set_cons_zero, List.set_cons_succ])
              have hzd : a0 ≤ wd.heap.size := by rw [HA.out]; exact HBd.out.size
              have hSa := HSw.out _ (HBd.out.alloc (by rw [← HA.out]; exact hzd) (Obj.cells #[.bool tb] 4)) (sep_get (sep_alloc HSd.out _) 1 rfl)
              refine readyZ (i := 8) (by kernel_rfl) rfl (fun K hK => ?_)
              go_simp
              refine hK.out _ _ (Or.inr hSa) ?_
              clear hK K
              refine readyZ (i := 9) (by kernel_rfl) rfl (fun K hK => ?_)
              refine step_bool1 HSd.out 0 rfl (Nat.le_refl _) hzd hzd rfl (.tmp 121) (.tmp 128) rfl rfl tb rfl rfl (by omega) ?_
              intro b1 d1 w4 hs4 hb4
              have HS4 := hide hs4
              have HB4 : Hid (Below w.heap.size w w4) := hide (HBd.out.trans (by rw [← HA.out]; exact hb4))
              have hS4 := HSw.out w4 HB4.out (sep_get hs4 1 rfl)
              refine hK.out (Act.put _ (some 129) _) _ (Or.inr hS4) ?_
              clear hK K
              simp only [Act.put, List.setIfInBounds_toArray, List.set_cons_zero, List.set_cons_succ]
              refine takeZ 10 130 ?_ rfl rfl (by kernel_rfl) (by kernel_rfl) (by kernel_rfl) (by kernel_rfl) (fun _ _ _ h => h) (Or.inl ⟨by rfl, ?_⟩) hS4 ?_
              rotate_left
              · (intro wx hSw; obtain ⟨hSa, hSb⟩ := hSw; go_simp; try with_reducible rfl)
              (try simp only [List.setIfInBounds_toArray, List.set_cons_zero, List.set_cons_succ])
              have y5c := (cell_at (sep_get HS4.out 1 rfl : w4.heap[g7]? = some (Obj.cells #[.int .i64 ((i : Int) + 1), .int .i64 1, .string ⟨#[]⟩, .string ⟨#[]⟩, .int .i64 V, .slice x k c, .int .i64 (-1)] 35)) 5).1
              have z5c := (cell_at (sep_get HS4.out 1 rfl : w4.heap[g7]? = some (Obj.cells #[.int .i64 ((i : Int) + 1), .int .i64 1, .string ⟨#[]⟩, .string ⟨#[]⟩, .int .i64 V, .slice x k c, .int .i64 (-1)] 35)) 5).2
              have hs5 := sep_store HS4.out 1 rfl 5 (.slice (some ⟨b1, 0, none⟩) (k + 1) d1)
              have hb5 := HB4.out.setCell (p := ⟨g7, 5, none⟩) HG7.out (.slice (some ⟨b1, 0, none⟩) (k + 1) d1)
              obtain ⟨w5, hw5⟩ : ∃ wx, wx = w4.setCell ⟨g7, 5, none⟩ (.slice (some ⟨b1, 0, none⟩) (k + 1) d1) := ⟨_, rfl⟩
              rw [← hw5] at hs5 hb5
              have HS5 : Hid (Sep a0 w5 [rowA a0 4 1 (.slice (some ⟨b1, 0, none⟩) (k + 1) d1) (k + 1) (bools (xs ++ [tb])), cellA g7 (Obj.cells #[.int .i64 ((i : Int) + 1), .int .i64 1, .string ⟨#[]⟩, .string ⟨#[]⟩, .int .i64 V, .slice (some ⟨b1, 0, none⟩) (k + 1) d1, .int .i64 (-1)] 35), cellA (a0 + 1 + 1) (Obj.cells NS 3), cellA (a0 + 1) (Obj.cells WS 9), cellA a0 (Obj.cells #[.int .i64 0, .int .i64 0, .string ⟨#[]⟩, .string ⟨#[]⟩, .int .i64 0, .slice none 0 0, .int .i64 0] 35)]) := hide hs5
              have HB5 := hide hb5
              refine readyZ (i := 11) (by kernel_rfl) rfl (fun K hK => ?_)
              go_simp
              rw [← hw5]
              refine hK.out _ _ (Or.inl rfl) ?_
              clear hK K
              refine doneZ (by kernel_rfl) ?_ _
              clear hs4 hb4 hs5 hb5 hw5 y5c z5c hS4 hSa hSd hzd HSw HSd HBd HS4 HB4
              go_wp2_with fail
              go_roundg (gk - 1)
              case measure => have := HQ2.out; omega
              case rel => exact ⟨k + 1, some ⟨b1, 0, none⟩, d1, xs ++ [tb], by omega, by have := HQ2.out; omega, by go_num, hide ⟨HTb.out, HJ.out, fun h => by cases h⟩, HS5, HB5⟩
            · go_wp2_with fail
              obtain ⟨wd, hwd⟩ : ∃ wd, wd = wr.drew := ⟨_, rfl⟩
              have HSd := hide (sep_drew HS_wr.out)
              have HBd := hide HB_wr.out.drew
              rw [← hwd] at HSd HBd
              have HSw : Hid (∀ wx, Below w.heap.size w wx → wx.heap[g7]? = some (Obj.cells #[.int .i64 ((i : Int) + 1), .int .i64 1, .string ⟨#[]⟩, .string ⟨#[]⟩, .int .i64 V, .slice x k c, .int .i64 (-1)] 35) → (fun wx => wx.cell? ⟨b, off + 2, none⟩ = some (.string A2) ∧ wx.cell? ⟨g7, 5, none⟩ = some (.slice x k c)) wx) := hide (fun wx hb h => ⟨HC2.out wx hb (by omega), (cell_at h 5).1⟩)
              have hSd := HSw.out wd HBd.out (sep_get HSd.out 1 rfl)
              refine wp_regionZ (S := fun wx => wx.cell? ⟨b, off + 2, none⟩ = some (.string A2) ∧ wx.cell? ⟨g7, 5, none⟩ = some (.slice x k c)) 11 (by kernel_rfl) ?_
              rw [← hwd]
              clear hwd
              refine takeZ 0 120 ?_ rfl rfl (by kernel_rfl) (by kernel_rfl) (by kernel_rfl) (by kernel_rfl) (fun _ _ _ h => h) (Or.inl ⟨by rfl, ?_⟩) hSd ?_
              rotate_left
              · (intro wx hSw; obtain ⟨hSa, hSb⟩ := hSw; go_simp; try with_reducible rfl)
              (try simp only [List.setIfInBounds_toArray, List.set_cons_zero, List.set_cons_succ])
              refine takeZ 1 121 ?_ rfl rfl (by kernel_rfl) (by kernel_rfl) (by kernel_rfl) (by kernel_rfl) (fun _ _ _ h => h) (Or.inl ⟨by rfl, ?_⟩) hSd ?_
              rotate_left
              · (intro wx hSw; obtain ⟨hSa, hSb⟩ := hSw; go_simp; try with_reducible rfl)
              (try simp only [List.setIfInBounds_toArray, List.set_cons_zero, List.set_cons_succ])
              refine takeZ 2 122 ?_ rfl rfl (by kernel_rfl) (by kernel_rfl) (by kernel_rfl) (by kernel_rfl) (fun _ _ _ h => h) (Or.inl ⟨by rfl, ?_⟩) hSd ?_
              rotate_left
              · (intro wx hSw; obtain ⟨hSa, hSb⟩ := hSw; go_simp; try with_reducible rfl)
              (try simp only [List.setIfInBounds_toArray, List.set_cons_zero, List.set_cons_succ])
              refine takeZ 3 123 ?_ rfl rfl (by kernel_rfl) (by kernel_rfl) (by kernel_rfl) (by kernel_rfl) (fun _ _ _ h => h) (Or.inl ⟨by rfl, ?_⟩) hSd ?_
              rotate_left
              · (intro wx hSw; obtain ⟨hSa, hSb⟩ := hSw; go_simp; try with_reducible rfl)
              (try simp only [List.setIfInBounds_toArray, List.set_cons_zero, List.set_cons_succ])
              refine takeZ 4 124 ?_ rfl rfl (by kernel_rfl) (by kernel_rfl) (by kernel_rfl) (by kernel_rfl) (fun _ _ _ h => h) (Or.inl ⟨by rfl, ?_⟩) hSd ?_
              rotate_left
              · (intro wx hSw; obtain ⟨hSa, hSb⟩ := hSw; go_simp; try with_reducible rfl)
              (try simp only [List.setIfInBounds_toArray, List.set_cons_zero, List.set_cons_succ])
              refine takeZ 5 125 ?_ rfl rfl (by kernel_rfl) (by kernel_rfl) (by kernel_rfl) (by kernel_rfl) (fun _ _ _ h => h) (Or.inl ⟨by rfl, ?_⟩) hSd ?_
              rotate_left
              · (intro wx hSw; obtain ⟨hSa, hSb⟩ := hSw; go_simp; try with_reducible rfl)
              (try simp only [List.setIfInBounds_toArray, List.set_cons_zero, List.set_cons_succ])
              refine takeZ 6 126 ?_ rfl rfl (by kernel_rfl) (by kernel_rfl) (by kernel_rfl) (by kernel_rfl) (fun _ _ _ h => h) (Or.inl ⟨by rfl, ?_⟩) hSd ?_
              rotate_left
              · (intro wx hSw; obtain ⟨hSa, hSb⟩ := hSw; go_simp; try with_reducible rfl)
              (try simp only [List.setIfInBounds_toArray, List.set_cons_zero, List.set_cons_succ])
              refine takeZ 7 127 ?_ rfl rfl (by kernel_rfl) (by kernel_rfl) (by kernel_rfl) (by kernel_rfl) (fun _ _ _ h => h) (Or.inl ⟨by rfl, ?_⟩) hSd ?_
              rotate_left
              · (intro wx hSw; obtain ⟨hSa, hSb⟩ := hSw; go_simp; try with_reducible rfl)
              (try simp only [List.setIfInBounds_toArray, List.set_cons_zero, List.set_cons_succ])
              have hzd : a0 ≤ wd.heap.size := by rw [HA.out]; exact HBd.out.size
              have hSa := HSw.out _ (HBd.out.alloc (by rw [← HA.out]; exact hzd) (Obj.cells #[.bool tb] 4)) (sep_get (sep_alloc HSd.out _) 1 rfl)
              refine readyZ (i := 8) (by kernel_rfl) rfl (fun K hK => ?_)
              go_simp
              refine hK.out _ _ (Or.inr hSa) ?_
              clear hK K
              refine readyZ (i := 9) (by kernel_rfl) rfl (fun K hK => ?_)
              refine step_bool1 HSd.out 0 rfl (Nat.le_refl _) hzd hzd rfl (.tmp 121) (.tmp 128) rfl rfl tb rfl rfl (by omega) ?_
              intro b1 d1 w4 hs4 hb4
              have HS4 := hide hs4
              have HB4 : Hid (Below w.heap.size w w4) := hide (HBd.out.trans (by rw [← HA.out]; exact hb4))
              have hS4 := HSw.out w4 HB4.out (sep_get hs4 1 rfl)
              refine hK.out (Act.put _ (some 129) _) _ (Or.inr hS4) ?_
              clear hK K
              simp only [Act.put, List.setIfInBounds_toArray, List.set_cons_zero, List.set_cons_succ]
              refine takeZ 10 130 ?_ rfl rfl (by kernel_rfl) (by kernel_rfl) (by kernel_rfl) (by kernel_rfl) (fun _ _ _ h => h) (Or.inl ⟨by rfl, ?_⟩) hS4 ?_
              rotate_left
              · (intro wx hSw; obtain ⟨hSa, hSb⟩ := hSw; go_simp; try with_reducible rfl)
              (try simp only [List.setIfInBounds_toArray, List.set_cons_zero, List.set_cons_succ])
              have y5c := (cell_at (sep_get HS4.out 1 rfl : w4.heap[g7]? = some (Obj.cells #[.int .i64 ((i : Int) + 1), .int .i64 1, .string ⟨#[]⟩, .string ⟨#[]⟩, .int .i64 V, .slice x k c, .int .i64 (-1)] 35)) 5).1
              have z5c := (cell_at (sep_get HS4.out 1 rfl : w4.heap[g7]? = some (Obj.cells #[.int .i64 ((i : Int) + 1), .int .i64 1, .string ⟨#[]⟩, .string ⟨#[]⟩, .int .i64 V, .slice x k c, .int .i64 (-1)] 35)) 5).2
              have hs5 := sep_store HS4.out 1 rfl 5 (.slice (some ⟨b1, 0, none⟩) (k + 1) d1)
              have hb5 := HB4.out.setCell (p := ⟨g7, 5, none⟩) HG7.out (.slice (some ⟨b1, 0, none⟩) (k + 1) d1)
              obtain ⟨w5, hw5⟩ : ∃ wx, wx = w4.setCell ⟨g7, 5, none⟩ (.slice (some ⟨b1, 0, none⟩) (k + 1) d1) := ⟨_, rfl⟩
              rw [← hw5] at hs5 hb5
              have HS5 : Hid (Sep a0 w5 [rowA a0 4 1 (.slice (some ⟨b1, 0, none⟩) (k + 1) d1) (k + 1) (bools (xs ++ [tb])), cellA g7 (Obj.cells #[.int .i64 ((i : Int) + 1), .int .i64 1, .string ⟨#[]⟩, .string ⟨#[]⟩, .int .i64 V, .slice (some ⟨b1, 0, none⟩) (k + 1) d1, .int .i64 (-1)] 35), cellA (a0 + 1 + 1) (Obj.cells NS 3), cellA (a0 + 1) (Obj.cells WS 9), cellA a0 (Obj.cells #[.int .i64 0, .int .i64 0, .string ⟨#[]⟩, .string ⟨#[]⟩, .int .i64 0, .slice none 0 0, .int .i64 0] 35)]) := hide hs5
              have HB5 := hide hb5
              refine readyZ (i := 11) (by kernel_rfl) rfl (fun K hK => ?_)
              go_simp
              rw [← hw5]
              refine hK.out _ _ (Or.inl rfl) ?_
              clear hK K
              refine doneZ (by kernel_rfl) ?_ _
              clear hs4 hb4 hs5 hb5 hw5 y5c z5c hS4 hSa hSd hzd HSw HSd HBd HS4 HB4
              go_wp2_with fail
              go_roundg (gk - 1)
              case measure => have := HQ2.out; omega
              case rel => exact ⟨k + 1, some ⟨b1, 0, none⟩, d1, xs ++ [tb], by omega, by have := HQ2.out; omega, by go_num, hide ⟨HTb.out, HJ.out, fun h => by cases h⟩, HS5, HB5⟩
      · have d2 : ((i : Int) + 1 == 2) = false := by rw [beq_eq_false_iff_ne]; omega
        have d3 : ((i : Int) + 1 == 3) = false := by rw [beq_eq_false_iff_ne]; omega
        have d6 : ((i : Int) + 1 == 6) = false := by rw [beq_eq_false_iff_ne]; omega
        have d8 : ((i : Int) + 1 == 8) = false := by rw [beq_eq_false_iff_ne]; omega
        have d7 : ((i : Int) + 1 == 7) = false := by rw [beq_eq_false_iff_ne]; omega
        have d10 : ((i : Int) + 1 == 10) = false := by rw [beq_eq_false_iff_ne]; omega
        have y0 := (cell_at (sep_get HS_w7.out 0 rfl : w7.heap[g7]? = some (Obj.cells #[.int .i64 ((i : Int) + 1), .int .i64 1, .string ⟨#[]⟩, .string ⟨#[]⟩, .int .i64 0, .slice none 0 0, .int .i64 (-1)] 35)) 0).1
        have HI := hide e
        clear e
        go_upto_region 29 with fail
        clear y0
        obtain ⟨cs, hcs⟩ : ∃ cs : Array Value, cs = #[.int .i64 ((i : Int) + 1), .int .i64 1, .string ⟨#[]⟩, .string ⟨#[]⟩, .int .i64 0, .slice none 0 0, .int .i64 (-1)] := ⟨_, rfl⟩
        have hsx := HS_w7.out
        rw [← hcs] at hsx
        have HSx := hide hsx
        have HRg : Hid (w7.rangeAt g7 0 cs.toList) := hide (range_all (sep_get HSx.out 0 rfl : w7.heap[g7]? = some (Obj.cells cs 35)))
        have HNz : Hid ((Tryd.prog.info? 35).map (·.size) = some cs.size) := hide (by rw [hcs]; exact Tryd.sizeEvI)
        have HOne : Hid (cs.toList.all (·.oneCell') = true) := hide (by rw [hcs]; rfl)
        have hth : Hid (w7.there a0 0 cs.size) := hide (by rw [hcs]; exact there_of (sep_get HSx.out 3 rfl : w7.heap[a0]? = some (Obj.cells #[.int .i64 0, .int .i64 0, .string ⟨#[]⟩, .string ⟨#[]⟩, .int .i64 0, .slice none 0 0, .int .i64 0] 35)) 0 7 (show 0 + 7 ≤ 7 by decide))
        have HSf := hide (sep_cellsAll HSx.out 3 rfl cs (by rw [hcs]; rfl))
        have HBf := hide (below_cells (show w.heap.size ≤ a0 by rw [HA.out]; exact Nat.le_refl _) cs.toList 0 w7 HB_w7.out)
        obtain ⟨wf, hwf⟩ : ∃ wf, wf = w7.setCells a0 0 cs.toList := ⟨_, rfl⟩
        rw [← hwf] at HSf HBf
        have HWf := hide hwf.symm
        have HCs := hide hcs
        clear hwf hcs hsx
        go_wp2_with (first | ((with_reducible refine wpList_loadL ?_ 35 (.tmp 7) ?_ g7 0 ?_ cs HRg.out _ Tryd.underlying35 ?_ ?_ ?_); exact rfl; exact rfl; exact rfl; exact rfl; exact HNz.out) | ((with_reducible refine wpList_storeL ?_ 35 (.tmp 2) (.tmp 131) ?_ a0 0 cs ?_ ?_ hth.out ?_ ?_ HWf.out ?_); exact rfl; exact rfl; exact rfl; exact rfl; exact HNz.out; exact HOne.out))
        refine bodyPost_ret (v := .tuple #[.agg cs, .bool true]) (results_ct Tryd.results25 rfl rfl (run_agg (range_all (sep_get HSf.out 3 rfl : wf.heap[a0]? = some (Obj.cells cs 35))) Tryd.underlying35 rfl HNz.out)) rfl ⟨⟨cs, true, rfl, by rw [HCs.out]; rfl, HOne.out, ?_⟩, HBf.out⟩
        rw [HEv.out]
        rcases HI.out with ei | ei | ei | ei <;> (subst ei; exact ⟨rfl, .slice none 0 0, HCs.out, sep_get (sep_none HSf.out w.heap.size 4) 0 rfl⟩)
    · obtain rfl : i = 10 := by omega
      have HEv : Hid (evOf p = none) := hide (find_none p HK.out)
      have HNz : Hid ((Tryd.prog.info? 35).map (·.size) = some (#[.int .i64 0, .int .i64 0, .string ⟨#[]⟩, .string ⟨#[]⟩, .int .i64 0, .slice none 0 0, .int .i64 0] : Array Value).size) := hide Tryd.sizeEvI
      have HOne : Hid ((#[.int .i64 0, .int .i64 0, .string ⟨#[]⟩, .string ⟨#[]⟩, .int .i64 0, .slice none 0 0, .int .i64 0] : Array Value).toList.all (·.oneCell') = true) := hide rfl
      have hth : Hid (wr.there a0 0 (#[.int .i64 0, .int .i64 0, .string ⟨#[]⟩, .string ⟨#[]⟩, .int .i64 0, .slice none 0 0, .int .i64 0] : Array Value).size) := hide (there_of (sep_get HS.out 2 rfl : wr.heap[a0]? = some (Obj.cells #[.int .i64 0, .int .i64 0, .string ⟨#[]⟩, .string ⟨#[]⟩, .int .i64 0, .slice none 0 0, .int .i64 0] 35)) 0 7 (show 0 + 7 ≤ 7 by decide))
      have HSf := hide (sep_cellsAll HS.out 2 rfl (#[.int .i64 0, .int .i64 0, .string ⟨#[]⟩, .string ⟨#[]⟩, .int .i64 0, .slice none 0 0, .int .i64 0] : Array Value) rfl)
      have HBf := hide (below_cells (show w.heap.size ≤ a0 by rw [HA.out]; exact Nat.le_refl _) (#[.int .i64 0, .int .i64 0, .string ⟨#[]⟩, .string ⟨#[]⟩, .int .i64 0, .slice none 0 0, .int .i64 0] : Array Value).toList 0 wr HB.out)
      obtain ⟨wf, hwf⟩ : ∃ wf, wf = wr.setCells a0 0 (#[.int .i64 0, .int .i64 0, .string ⟨#[]⟩, .string ⟨#[]⟩, .int .i64 0, .slice none 0 0, .int .i64 0] : Array Value).toList := ⟨_, rfl⟩
      rw [← hwf] at HSf HBf
      have HWf := hide hwf.symm
      clear hwf
      go_wp2_with ((with_reducible refine wpList_storeL ?_ 35 (.tmp 2) (.tmp 133) ?_ a0 0 #[.int .i64 0, .int .i64 0, .string ⟨#[]⟩, .string ⟨#[]⟩, .int .i64 0, .slice none 0 0, .int .i64 0] ?_ ?_ hth.out ?_ ?_ HWf.out ?_); exact rfl; exact rfl; exact rfl; exact rfl; exact HNz.out; exact HOne.out)
      refine bodyPost_ret (v := .tuple #[.agg #[.int .i64 0, .int .i64 0, .string ⟨#[]⟩, .string ⟨#[]⟩, .int .i64 0, .slice none 0 0, .int .i64 0], .bool false]) (results_ct Tryd.results25 rfl rfl (run_agg (range_all (sep_get HSf.out 2 rfl : wf.heap[a0]? = some (Obj.cells #[.int .i64 0, .int .i64 0, .string ⟨#[]⟩, .string ⟨#[]⟩, .int .i64 0, .slice none 0 0, .int .i64 0] 35))) Tryd.underlying35 rfl HNz.out)) rfl ⟨⟨#[.int .i64 0, .int .i64 0, .string ⟨#[]⟩, .string ⟨#[]⟩, .int .i64 0, .slice none 0 0, .int .i64 0], false, rfl, rfl, rfl, ?_⟩, HBf.out⟩
      rw [HEv.out]
end Go.Proofs.YtmmepgincbngeaaDoor
