/-
  The program's copyDisk by a contract: the same disk, in memory of its own.
-/
import Derived.Test.YtbokjfjdjgopeaaGreatDoorImplDiskN
import Derived.Test.YtbokjfjdjgopeaaGreatDoorRgD
import Derived.Test.YtbokjfjdjgopeaaGreatDoorRgC
namespace Go.Proofs.YtbokjfjdjgopeaaGreatDoor
open Go.RowKit

/-- what the copy keeps: its argument's box, its answer's variable; nothing that was there is turned -/
structure CopyIn (wr : World) (a0 a1 : Nat) (vp vl : Value) (w : World) : Prop where
  box : wr.heap[a0]? = some (Obj.cells #[vp, vl] 42)
  res : wr.heap[a1]? = some (Obj.cells #[.slice none 0 0, .slice none 0 0] 42)
  low : Below a0 w wr

theorem copyIn_below {wr wr' : World} {a0 a1 : Nat} {vp vl : Value} {w : World} (h : CopyIn wr a0 a1 vp vl w) (hb : Below wr.heap.size wr wr') : CopyIn wr' a0 a1 vp vl w :=
  ⟨(hb.block _ (Array.getElem?_eq_some_iff.1 h.box).1).trans h.box, (hb.block _ (Array.getElem?_eq_some_iff.1 h.res).1).trans h.res, h.low.trans (hb.mono (Nat.le_of_lt (Array.getElem?_eq_some_iff.1 h.box).1))⟩

theorem copyIn_alloc {wr : World} {a0 a1 : Nat} {vp vl : Value} {w : World} (h : CopyIn wr a0 a1 vp vl w) (o : Obj) : CopyIn (wr.alloc o) a0 a1 vp vl w := copyIn_below h ((Below.refl _ _).alloc (Nat.le_refl _) _)

theorem copyIn_grown {wr wr' : World} {a0 a1 g : Nat} {vp vl : Value} {w : World} (h : CopyIn wr a0 a1 vp vl w) (hg : wr.grownBy wr' (some g)) (h0 : a0 < g) (h1 : a1 < g) : CopyIn wr' a0 a1 vp vl w :=
  ⟨(hg.block _ (Array.getElem?_eq_some_iff.1 h.box).1 (by intro e; injection e with e; omega)).trans h.box, (hg.block _ (Array.getElem?_eq_some_iff.1 h.res).1 (by intro e; injection e with e; omega)).trans h.res, h.low.grown hg (Nat.le_of_lt (Array.getElem?_eq_some_iff.1 h.box).1) (fun k hk => by injection hk with hk; omega)⟩

theorem strs_snoc (l : List ByteArray) (k : Nat) (h : k < l.length) : strs (l.take k) ++ [.string l[k]] = strs (l.take (k + 1)) := by
  rw [List.take_succ_eq_append_getElem h, strs, strs, List.map_append]; rfl

theorem puts_take (l : List (Int × ByteArray)) (k : Nat) (h : k < l.length) : puts (l.take k) ++ [.int .i64 l[k].1, .string l[k].2] = puts (l.take (k + 1)) := by
  rw [List.take_succ_eq_append_getElem h, puts, puts, List.flatMap_append]; rfl

theorem new_put (w : World) (q : Int) (t : ByteArray) : ∀ j u, [Value.int .i64 q, .string t][j]? = some u → (w.alloc (Obj.cells #[.int .i64 q, .string t] 126)).cell? ((⟨w.heap.size, 0, none⟩ : Addr).add j) = some u := fun j u hj => by
  rw [Addr.add_lit, Nat.zero_add, (cell_at (heap_alloc_new w _) j).1, ← hj]
  simp

theorem put_oneCell (q : Int) (t : ByteArray) : ∀ y ∈ [Value.int .i64 q, .string t], y.oneCell' = true := fun y hy => by
  simp only [List.mem_cons, List.not_mem_nil, or_false] at hy
  rcases hy with rfl | rfl <;> rfl

set_option maxHeartbeats 4000000 in
set_option maxRecDepth 100000 in
theorem implCopy_any (v : Value) (ps : List ByteArray) (ls : List (Int × ByteArray)) (hp : ps.length ≤ 1048576) (hl : ls.length ≤ 1048576) (hps : ∀ s ∈ ps, s.size ≤ 1048576) (hls : ∀ p ∈ ls, p.2.size ≤ 1048576) (w : World) (hd : DiskAt w v ps ls) :
    Calls Tryz.prog 63 #[v] w fun e w' => ∃ v', e = .returned v' ∧ DiskOwn w' w.heap.size v' ps ls ∧ Below w.heap.size w w' := by
  obtain ⟨i0, hi, hz0, hz1, hz2⟩ := info_parts Tryz.infoStrR
  obtain ⟨i1, hj, hy0, hy1, hy2⟩ := info_parts Tryz.infoPut
  obtain ⟨vp, vl, rfl, h1, h2⟩ := hd
  obtain ⟨x1, c1, rfl⟩ : ∃ a cap, vp = .slice a ps.length cap := by obtain ⟨-, a, cap, e, -⟩ := h1; exact ⟨a, cap, e⟩
  obtain ⟨x2, c2, rfl⟩ : ∃ a cap, vl = .slice a ls.length cap := by obtain ⟨-, a, cap, e, -⟩ := h2; exact ⟨a, cap, e⟩
  have H1 := hide h1
  have H2 := hide h2
  have HPs := hide hps
  have HLs := hide hls
  clear h1 h2 hps hls
  obtain ⟨w0, hw0⟩ : ∃ w0, w0 = (w.alloc (Obj.cells #[.slice x1 ps.length c1, .slice x2 ls.length c2] 42)).alloc (Obj.cells #[.slice none 0 0, .slice none 0 0] 42) := ⟨_, rfl⟩
  obtain ⟨q0, q1, hs0⟩ := two_allocs w (Obj.cells #[.slice x1 ps.length c1, .slice x2 ls.length c2] 42) (Obj.cells #[.slice none 0 0, .slice none 0 0] 42)
  rw [← hw0] at q0 q1 hs0
  have hb0 : Below w.heap.size w w0 := by rw [hw0]; exact ((Below.refl w.heap.size w).alloc (Nat.le_refl _) _).alloc (by simp) _
  go_enter Tryz.func63, Tryz.ntmps63
  go_wp2_with (at_make; rw [← hw0]; refine wpList_make_own _ rfl _ _ 22 rfl w0.heap.size 9 i0 (.string ⟨#[]⟩) 1 Tryz.underlying22 hi hz0 hz1 .i64 .i64 _ ps.length rfl rfl rfl (by rw [hz2]; omega) (by unfold maxLen; omega) (Nat.le_refl _) ?_)
  intro w1 hown1 hg1
  obtain ⟨a0, ha0⟩ : ∃ a, a = w.heap.size := ⟨_, rfl⟩
  obtain ⟨a1, ha1⟩ : ∃ a, a = a0 + 1 := ⟨_, rfl⟩
  obtain ⟨a2, ha2⟩ : ∃ a, a = a1 + 1 := ⟨_, rfl⟩
  rw [← hw0] at hg1
  rw [← ha0, ← ha1, ← ha2] at hown1 ⊢
  rw [← ha0] at q0 q1 hs0
  rw [← ha1] at q1
  have hC1 : CopyIn w1 a0 a1 (.slice x1 ps.length c1) (.slice x2 ls.length c2) w := ⟨(hg1.block a0 (by omega) (by simp)).trans q0, (hg1.block a1 (by omega) (by simp)).trans q1, by rw [ha0]; exact hb0.grown hg1 (by omega) (fun k hk => by cases hk)⟩
  have HA := hide (⟨ha0, ha1, by omega⟩ : a0 = w.heap.size ∧ a1 = a0 + 1 ∧ a2 = a0 + 2)
  have cb0 : w1.cell? ⟨a0, 0, none⟩ = some (.slice x1 ps.length c1) := (cell_at hC1.box 0).1
  have cb1 : w1.cell? ⟨a0, 1, none⟩ = some (.slice x2 ls.length c2) := (cell_at hC1.box 1).1
  have HC1 := hide hC1
  have HO1 := hide hown1
  clear hC1 hown1 hg1 ha0 ha1 ha2 hw0 hb0 q0 q1 hs0
  go_wp2_with fail
  go_loopg [3, 16] ps.length (fun q pv iv wr => ∃ k : Nat, k ≤ ps.length ∧ iv = .int .i64 (k : Int) ∧ q + k = ps.length ∧ pv = .slice (some ⟨a2, 0, none⟩) k ps.length ∧ Hid (CopyIn wr a0 a1 (.slice x1 ps.length c1) (.slice x2 ls.length c2) w) ∧ Hid (wr.ownsRow a2 9 1 (.slice (some ⟨a2, 0, none⟩) k ps.length) k (strs (ps.take k))))
  case atStart => exact ⟨0, Nat.zero_le _, rfl, rfl, rfl, HC1, HO1⟩
  case round =>
    obtain ⟨k, hk, rfl, hg, rfl, HC, HO⟩ := hrel
    have HG := hide hg
    clear hg cb0 cb1 HC1 HO1
    by_cases hlt : k < ps.length
    · rcases H1.out.2 with ⟨a, cap, e, h0 | ⟨b, off, e2, hbl, hc⟩⟩
      · omega
      · injection e with e1 e3 e4
        subst e1 e4
        subst e2
        obtain ⟨x, hx⟩ : ∃ x, x = ps[k] := ⟨_, rfl⟩
        have hba : b < a0 := by have := HA.out; omega
        have hcell : wr.cell? ⟨b, off + k, none⟩ = some (.string x) := by rw [HC.out.low.cell (by exact hba), hc k (by omega), strs_at ps k hlt, hx]
        have hxs : x.size ≤ 1048576 := by rw [hx]; exact HPs.out _ (List.getElem_mem hlt)
        have HCl := hide (clone_any x (by omega))
        have hi0 : (0 : Int) ≤ (k : Int) := by omega
        have hi1 : (k : Int) < (ps.length : Int) := by omega
        have HX := hide hx
        clear hc hx
        go_wp2_with fail
        refine (HCl.out _).mono ?_
        rintro e w2 ⟨rfl, hb2⟩
        have HC2 := hide (copyIn_alloc (copyIn_below HC.out hb2) (Obj.cells #[.string x] 9))
        have hown3 := (own_stays HO.out hb2).alloc (Obj.cells #[.string x] 9)
        have hnew : ∀ j u, [Value.string x][j]? = some u → (w2.alloc (Obj.cells #[.string x] 9)).cell? ((⟨w2.heap.size, 0, none⟩ : Addr).add j) = some u := fun j u hj => by
          obtain rfl : j = 0 := by have := (List.getElem?_eq_some_iff.1 hj).1; simp at this; omega
          rw [Addr.add_lit, ← hj]
          exact (cell_at (heap_alloc_new w2 _) 0).1
        clear hb2 hcell
        go_wp2_with (at_builtin; refine wpList_append_fits _ rfl _ _ 22 rfl a2 9 i0 1 Tryz.underlying22 hi hz1 a2 k ps.length _ rfl hown3 ⟨w2.heap.size, 0, none⟩ 1 1 [.string x] rfl rfl hnew (by simp [Value.oneCell']) (by omega) ?_)
        intro w4 hown4 hg4
        have HC4 := hide (copyIn_grown HC2.out hg4 (by have := HA.out; omega) (by have := HA.out; omega))
        have HO4 : Hid (w4.ownsRow a2 9 1 (.slice (some ⟨a2, 0, none⟩) (k + 1) ps.length) (k + 1) (strs (ps.take (k + 1)))) := hide (by rw [← strs_snoc ps k hlt, ← HX.out]; exact hown4)
        clear hown4 hg4 hown3 hnew
        go_wp2_with fail
        go_roundg (gk - 1)
        case measure => have := HG.out; omega
        case rel => exact ⟨k + 1, by omega, by go_num, by have := HG.out; omega, rfl, HC4, HO4⟩
    · obtain rfl : k = ps.length := by omega
      have HOp : Hid (wr.ownsRow a2 9 1 (.slice (some ⟨a2, 0, none⟩) ps.length ps.length) ps.length (strs ps)) := hide (by have := HO.out; rw [List.take_length] at this; exact this)
      have cb1 : wr.cell? ⟨a0, 1, none⟩ = some (.slice x2 ls.length c2) := (cell_at HC.out.box 1).1
      clear HO
      go_wp2_with (at_make; refine wpList_make_own _ rfl _ _ 40 rfl wr.heap.size 126 i1 (.agg #[.int .i64 0, .string ⟨#[]⟩]) 2 Tryz.underlying40 hj hy0 hy1 .i64 .i64 _ ls.length rfl rfl rfl (by rw [hy2]; omega) (by unfold maxLen; omega) (Nat.le_refl _) ?_)
      intro w5 hown5 hg5
      obtain ⟨a3, ha3⟩ : ∃ a, a = wr.heap.size := ⟨_, rfl⟩
      have hb5 : Below wr.heap.size wr w5 := (Below.refl _ _).grown hg5 (Nat.le_refl _) (fun k hk => by cases hk)
      have hlt2 : a2 < a3 := by rw [ha3]; exact (HOp.out.lt a2 rfl).2
      rw [← ha3] at hown5 ⊢
      have HC5 := hide (copyIn_below HC.out hb5)
      have HP5 := hide (own_stays HOp.out hb5)
      have HO5 := hide hown5
      have HL2 := hide hlt2
      have cb2 : w5.cell? ⟨a0, 1, none⟩ = some (.slice x2 ls.length c2) := (cell_at HC5.out.box 1).1
      clear hown5 hg5 hb5 ha3 HC HOp cb1 hlt2
      go_wp2_with fail
      go_loopg [6, 33] ls.length (fun q pv iv wq => ∃ k : Nat, k ≤ ls.length ∧ iv = .int .i64 (k : Int) ∧ q + k = ls.length ∧ pv = .slice (some ⟨a3, 0, none⟩) k ls.length ∧ Hid (CopyIn wq a0 a1 (.slice x1 ps.length c1) (.slice x2 ls.length c2) w) ∧ Hid (wq.ownsRow a2 9 1 (.slice (some ⟨a2, 0, none⟩) ps.length ps.length) ps.length (strs ps)) ∧ Hid (wq.ownsRow a3 126 2 (.slice (some ⟨a3, 0, none⟩) k ls.length) k (puts (ls.take k))))
      case atStart => exact ⟨0, Nat.zero_le _, rfl, rfl, rfl, HC5, HP5, HO5⟩
      case round =>
        obtain ⟨k, hk, rfl, hg, rfl, HC, HP, HO⟩ := hrel
        have HG := hide hg
        clear hg cb2 HC5 HP5 HO5
        by_cases hlt : k < ls.length
        · rcases H2.out.2 with ⟨a, cap, e, h0 | ⟨b, off, e2, hbl, hc⟩⟩
          · omega
          · injection e with e1 e3 e4
            subst e1 e4
            subst e2
            obtain ⟨q, t, hqt⟩ : ∃ q t, (q, t) = ls[k] := ⟨_, _, rfl⟩
            have hba : b < a0 := by have := HA.out; omega
            have hc0 : wr.cell? ⟨b, off + k * 2, none⟩ = some (.int .i64 q) := by rw [HC.out.low.cell (by exact hba), hc (k * 2) (by omega), (puts_at ls k hlt).1, ← hqt]
            have hc1 : wr.cell? ⟨b, off + k * 2 + 1, none⟩ = some (.string t) := by rw [HC.out.low.cell (by exact hba), Nat.add_assoc, hc (k * 2 + 1) (by omega), (puts_at ls k hlt).2, ← hqt]
            have hts : t.size ≤ 1048576 := by have := HLs.out _ (List.getElem_mem hlt); rw [← hqt] at this; exact this
            have HCl := hide (clone_any t (by omega))
            have hi0 : (0 : Int) ≤ (k : Int) := by omega
            have hi1 : (k : Int) < (ls.length : Int) := by omega
            have HQT := hide hqt
            obtain ⟨wa, hwa⟩ : ∃ wa, wa = wr.alloc (Obj.cells #[.int .i64 q, .string t] 126) := ⟨_, rfl⟩
            obtain ⟨ap, hap⟩ : ∃ ap, ap = wr.heap.size := ⟨_, rfl⟩
            have hva : wa.heap[ap]? = some (Obj.cells #[.int .i64 q, .string t] 126) := by rw [hwa, hap]; exact heap_alloc_new wr _
            have hba2 : Below wr.heap.size wr wa := by rw [hwa]; exact (Below.refl _ _).alloc (Nat.le_refl _) _
            have HVa := hide hva
            have HCa := hide (copyIn_below HC.out hba2)
            have HPa := hide (own_stays HP.out hba2)
            have HOa := hide (own_stays HO.out hba2)
            have cp0 : wa.cell? ⟨ap, 0, none⟩ = some (.int .i64 q) := (cell_at hva 0).1
            have cp1 : wa.cell? ⟨ap, 1, none⟩ = some (.string t) := (cell_at hva 1).1
            clear hc hqt hba2 hva
            go_wp2_with fail
            rw [← hwa, ← hap]
            clear hwa hap hc0 hc1
            go_region_law (first | (refine step_call1 _ ?_ 75 Tryz.f75 Tryz.func75 ?_ ?_ (.tmp 41) #[9] ?_ (.string t) ?_ _ (HCl.out _) ?_; exact rfl; decide; exact Option.some_ne_none _; exact rfl; exact rfl; rintro e w2 ⟨rfl, hb2⟩; refine ⟨_, rfl, ?_⟩; have hb3 : Below wa.heap.size wa w2 := (Below.refl _ _).drew.trans hb2; have cq0 : w2.cell? ⟨ap, 0, none⟩ = some (.int .i64 q) := (cell_at ((hb3.block _ (Array.getElem?_eq_some_iff.1 HVa.out).1).trans HVa.out) 0).1; have HC2 := hide (copyIn_alloc (copyIn_below HCa.out hb3) (Obj.cells #[.int .i64 q, .string t] 126)); have HP2 := hide ((own_stays HPa.out hb3).alloc (Obj.cells #[.int .i64 q, .string t] 126)); have HO2 := hide ((own_stays HOa.out hb3).alloc (Obj.cells #[.int .i64 q, .string t] 126))) | (refine step_append_fits _ ?_ (.tmp 37) (.tmp 44) 40 ?_ a3 126 i1 2 Tryz.underlying40 hj hy1 a3 k ls.length _ ?_ HO2.out ⟨w2.heap.size, 0, none⟩ 1 1 [.int .i64 q, .string t] ?_ ?_ (new_put w2 q t) ?_ ?_ ?_; exact rfl; exact rfl; exact rfl; exact rfl; exact rfl; exact put_oneCell q t; omega; intro w4 hown4 hg4))
            all_goals
              have HC4 := hide (copyIn_grown HC2.out hg4 (by have h1 := HA.out; have h2 := HL2.out; omega) (by have h1 := HA.out; have h2 := HL2.out; omega))
              have HP4 := hide (HP2.out.kept hg4 (Or.inr (by intro e; have e2 : a2 = a3 := Option.some.inj e; have h2 := HL2.out; omega)))
              have HO4 : Hid (w4.ownsRow a3 126 2 (.slice (some ⟨a3, 0, none⟩) (k + 1) ls.length) (k + 1) (puts (ls.take (k + 1)))) := hide (by rw [← puts_take ls k hlt, ← HQT.out]; exact hown4)
              clear hown4 hg4 HC2 HP2 HO2 hb2 hb3 cq0 cp0 cp1
              go_wp2_with fail
              go_roundg (gk - 1)
              case measure => have := HG.out; omega
              case rel => exact ⟨k + 1, by omega, by go_num, by have := HG.out; omega, rfl, HC4, HP4, HO4⟩
        · obtain rfl : k = ls.length := by omega
          have HOl : Hid (wr.ownsRow a3 126 2 (.slice (some ⟨a3, 0, none⟩) ls.length ls.length) ls.length (puts ls)) := hide (by have := HO.out; rw [List.take_length] at this; exact this)
          have cr0 : wr.cell? ⟨a1, 0, none⟩ = some (.slice none 0 0) := (cell_at HC.out.res 0).1
          have cr1 : wr.cell? ⟨a1, 1, none⟩ = some (.slice none 0 0) := (cell_at HC.out.res 1).1
          have fr0 := (cell_at HC.out.res 0).2
          have fr1 := (cell_at HC.out.res 1).2
          go_wp2_with fail
          have hA := HA.out
          have hL := HL2.out
          have hret := ret_disk (w := w) (B := a2) (u0 := .slice (some ⟨a2, 0, none⟩) ps.length ps.length) (u1 := .slice (some ⟨a3, 0, none⟩) ls.length ls.length) (ps := ps) (ls := ls) HC.out.res ⟨_, _, rfl, HP.out, own_down HOl.out (by omega)⟩ (by omega) (by omega) (by have := HC.out.low; rw [hA.1] at this; exact this)
          exact bodyPost_ret (v := .agg #[.slice (some ⟨a2, 0, none⟩) ps.length ps.length, .slice (some ⟨a3, 0, none⟩) ls.length ls.length]) (by simp [results, Tryz.results63, go_sem, hret.1, hret.2.1]) rfl ⟨_, rfl, hret.2.2.1, hret.2.2.2⟩
end Go.Proofs.YtbokjfjdjgopeaaGreatDoor
