/-
  Facts and contracts that the law's own text rests on, by their texts' names: WalkAll.
-/
import Derived.BigQuiet
import Derived.Deep.RegionHeld3
import Derived.Test.YtdbpbhemnnffeaaGreatDoorXw9
import Derived.Test.YtdbpbhemnnffeaaGreatDoorXw1
import Derived.Test.YtdbpbhemnnffeaaGreatDoorXw8
import Derived.Test.YtdbpbhemnnffeaaGreatDoorXw28
namespace Go.Proofs.YtdbpbhemnnffeaaGreatDoor
open Go.RowKit
theorem rdN_right (ps : List ByteArray) (ls : List (Int × ByteArray)) : Right (fun q => rdN (readD ps ls q)) := fun p h => by
  have : rdN (readD ps ls p) = ((rdN (readD ps ls p)).1, true) := by rw [← h]
  exact rdN_ok this
theorem inC : InC := fun l hl x v w h => l06In_any l hl x v w h
theorem walk_any (ps : List ByteArray) (ls : List (Int × ByteArray)) (hp : ps.length ≤ 1048576) (hl : ls.length ≤ 1048576) (hps : ∀ s ∈ ps, s.size ≤ 1048576) (hls : ∀ p ∈ ls, p.2.size ≤ 1048576) (v1 v2 : Value) (ga : Nat) (hdk : ∀ k, diskBlocks (.agg #[v1, v2]) k → k < ga) :
    ∀ (k : Nat) (p : Int) (deep : Nat) (low high : ByteArray) (has : Bool) (a : Al) (vp vg vd : Value) (W : World), deep + k = 8 → DiskAt W (.agg #[v1, v2]) ps ls → AlIs W ga a vp vg vd → (a.pages.length + cntK k ≤ 100000 ∧ a.pairs.length + 4 * cntK k ≤ 400000 ∧ a.depths.length + cntK k ≤ 100000) →
      Calls Tryz.prog 60 #[.agg #[v1, v2], .int .i64 p, .int .i64 (deep : Int), .string low, .string high, .bool has, .pointer (some ⟨ga, 0, none⟩)] W fun e W' => (∃ r, e = .returned r) ∧ WkPost W ga (walkS (fun q => rdN (readD ps ls q)) k p deep low high has a) vp vg vd W'
  | 0, p, deep, low, high, has, a, vp, vg, vd, W, hk, hd, hA, hb => by
    rw [walkS]
    exact walk_stop inC ps ls hp hl hps hls v1 v2 p deep low high has a ga vp vg vd W hd hA (by omega) (Or.inr (Or.inl (by omega)))
  | k + 1, p, deep, low, high, has, a, vp, vg, vd, W, hk, hd, hA, hb => by
    rw [walkS]
    have hc : cntK (k + 1) = 1 + 4 * cntK k := rfl
    rw [hc] at hb
    by_cases hs : (rdN (readD ps ls p)).2 = false ∨ p ∈ a.pages ∨ a.bad = true
    · rw [if_pos hs]
      exact walk_stop inC ps ls hp hl hps hls v1 v2 p deep low high has a ga vp vg vd W hd hA (by omega) (by rcases hs with h | h | h; exact Or.inl h; exact Or.inr (Or.inr (Or.inl h)); exact Or.inr (Or.inr (Or.inr h)))
    · rw [if_neg hs]
      have h1 : (rdN (readD ps ls p)).2 = true := by cases h : (rdN (readD ps ls p)).2; exact absurd (Or.inl h) hs; rfl
      have h2 : ¬ p ∈ a.pages := fun h => hs (Or.inr (Or.inl h))
      have h3 : a.bad = false := by cases h : a.bad; rfl; exact absurd (Or.inr (Or.inr h)) hs
      cases hlf : (rdN (readD ps ls p)).1.lf with
      | true =>
        rw [if_pos rfl]
        exact walk_leaf inC ps ls hp hl hps hls v1 v2 p deep low high has a ga vp vg vd W hd hdk hA (by omega) h1 (by omega) h2 h3 hlf _
      | false =>
        rw [if_neg (by decide)]
        refine walk_kids inC ps ls hp hl hps hls v1 v2 p deep low high has a ga vp vg vd W hd hdk hA (by omega) h1 (by omega) h2 h3 hlf _ (cntK k) ?_ ?_
        · intro q lo hi h b xp xg xd X hdX hAX hbX
          have := walk_any ps ls hp hl hps hls v1 v2 ga hdk k q (deep + 1) lo hi h b xp xg xd X (by omega) hdX hAX hbX
          have e : ((deep + 1 : Nat) : Int) = (deep : Int) + 1 := by omega
          rw [e] at this
          exact this
        · intro i hi
          have hok := rdN_right ps ls p h1
          obtain ⟨-, c2, -, -⟩ := cnt_yes (node_yes hok).1
          have c4 : (rdN (readD ps ls p)).1.ks.length ≤ 4 := c2
          obtain ⟨l1, l2, l3⟩ := loopS_len (fun q => rdN (readD ps ls q)) (rdN_right ps ls) k (rdN (readD ps ls p)).1 hlf deep low high has { a with pages := a.pages ++ [p] } i
          have hm : (i + 1) * cntK k ≤ 4 * cntK k := Nat.mul_le_mul_right _ (by omega)
          rw [Nat.succ_mul] at hm
          simp only [List.length_append, List.length_singleton] at l1 l2 l3
          exact ⟨by omega, by omega, by omega⟩
theorem cntK8 : cntK 8 = 21845 := by decide
set_option maxHeartbeats 4000000 in
set_option maxRecDepth 100000 in
theorem look_any (ps : List ByteArray) (ls : List (Int × ByteArray)) (hp : ps.length ≤ 1048576) (hl : ls.length ≤ 1048576) (hps : ∀ s ∈ ps, s.size ≤ 1048576) (hls : ∀ p ∈ ls, p.2.size ≤ 1048576) (v : Value) (root : Int) (w : World) (hd : DiskAt w v ps ls) (hdk : ∀ k, diskBlocks v k → k < w.heap.size) :
    Calls Tryz.prog 41 #[v, .int .i64 root] w fun e w' => ∃ ga vp vg vd, e = .returned (.pointer (some ⟨ga, 0, none⟩)) ∧ w.heap.size ≤ ga ∧ AlIs w' ga (seenS (fun q => rdN (readD ps ls q)) root) vp vg vd ∧ Below w.heap.size w w' := by
  obtain ⟨v1, v2, rfl, -, -⟩ := id hd
  obtain ⟨w0, hw0⟩ : ∃ w0, w0 = (w.alloc (.cells #[v1, v2] 45 (0, 0))).alloc (.cells #[.slice none 0 0, .slice none 0 0, .slice none 0 0, .bool false, .bool false] 100 (0, 0)) := ⟨_, rfl⟩
  obtain ⟨t1, t2, t3⟩ := two_allocs w (.cells #[v1, v2] 45 (0, 0)) (.cells #[.slice none 0 0, .slice none 0 0, .slice none 0 0, .bool false, .bool false] 100 (0, 0))
  rw [← hw0] at t1 t2 t3
  have hb0 : Below w.heap.size w w0 := by rw [hw0]; exact ((Below.refl _ _).alloc (Nat.le_refl _) _).alloc (by simp) _
  obtain ⟨ga, hga⟩ : ∃ g, g = w.heap.size + 1 := ⟨_, rfl⟩
  rw [← hga] at t2
  have hA0 : AlIs w0 ga Al.none (.slice none 0 0) (.slice none 0 0) (.slice none 0 0) := ⟨t2, World.ownsRow_nil _ _ _ _, World.ownsRow_nil _ _ _ _, World.ownsRow_nil _ _ _ _, fun k e => by cases e⟩
  have HA0 := hide hA0
  have HB0 := hide hb0
  have HG := hide hga
  by_cases hz : root = 0
  · have HF : Hid (seenS (fun q => rdN (readD ps ls q)) root = Al.none) := hide (by rw [seenS, if_pos hz])
    subst hz
    clear hA0 hb0 t1 t2 t3 hd hdk hp hl hps hls
    go_enter Tryz.func41, Tryz.ntmps41
    go_wp2_with fail
    rw [← hw0]
    go_ret
    rw [← hga]
    exact ⟨ga, _, _, _, rfl, by have := HG.out; omega, by rw [HF.out]; exact HA0.out, HB0.out⟩
  · have HF : Hid (seenS (fun q => rdN (readD ps ls q)) root = walkS (fun q => rdN (readD ps ls q)) 8 root 0 ⟨#[]⟩ ⟨#[]⟩ false Al.none) := hide (by rw [seenS, if_neg hz])
    have HW := hide (walk_any ps ls hp hl hps hls v1 v2 ga (fun k hk => by have := hdk k hk; omega) 8 root 0 ⟨#[]⟩ ⟨#[]⟩ false Al.none _ _ _ w0 (by omega) (disk_below hd hb0) hA0 (by rw [cntK8]; decide))
    have hzb : (root != 0) = true := by simp [hz]
    have p0 := (cell_at t1 0).1
    have p1 := (cell_at t1 1).1
    clear hA0 hb0 t1 t2 t3 hd hdk hp hl hps hls hz
    go_enter Tryz.func41, Tryz.ntmps41
    go_wp2_with fail
    rw [← hw0, ← hga]
    clear hw0 hga
    refine HW.out.mono ?_
    rintro e w1 ⟨⟨r, rfl⟩, vp, vg, vd, hal, hkp, -⟩
    have HAl := hide hal
    have HB1 : Hid (Below w.heap.size w w1) := hide (HB0.out.trans (keptC_below hkp (fun k hk => by have := (al_lt HA0.out k hk).1; have := HG.out; omega) HB0.out.size))
    clear hal hkp
    go_wp2_with fail
    go_ret
    exact ⟨ga, vp, vg, vd, rfl, by have := HG.out; omega, by rw [HF.out]; exact HAl.out, HB1.out⟩
def allO (r : List (ByteArray × ByteArray) × Bool) (w w' : World) (e : Ending) : Prop := ∃ v, e = .returned (.tuple #[v, .bool r.2]) ∧ w'.ownsRow w.heap.size 101 2 v r.1.length (prs r.1) ∧ Below w.heap.size w w'
set_option maxHeartbeats 4000000 in
set_option maxRecDepth 100000 in
theorem specAllPairs_any (ps : List ByteArray) (ls : List (Int × ByteArray)) (hp : ps.length ≤ 1048576) (hl : ls.length ≤ 1048576) (hps : ∀ s ∈ ps, s.size ≤ 1048576) (hls : ∀ p ∈ ls, p.2.size ≤ 1048576) (v : Value) (root : Int) (w : World) (hd : DiskAt w v ps ls) (hdk : ∀ k, diskBlocks v k → k < w.heap.size) :
    Calls Tryz.prog 20 #[v, .int .i64 root] w fun e w' => allO (allS (fun q => rdN (readD ps ls q)) root) w w' e := by
  obtain ⟨v1, v2, rfl, -, -⟩ := id hd
  obtain ⟨w0, hw0⟩ : ∃ w0, w0 = w.alloc (.cells #[v1, v2] 45 (0, 0)) := ⟨_, rfl⟩
  have hb0 : Below w.heap.size w w0 := by rw [hw0]; exact (Below.refl _ _).alloc (Nat.le_refl _) _
  have HB0 := hide hb0
  have HL := hide (look_any ps ls hp hl hps hls (.agg #[v1, v2]) root w0 (disk_below hd hb0) (fun k hk => Nat.lt_of_lt_of_le (hdk k hk) hb0.size))
  obtain ⟨R, hR⟩ : ∃ R, R = (fun q => rdN (readD ps ls q)) := ⟨_, rfl⟩
  rw [← hR] at HL ⊢
  clear hp hl hps hls hd hdk hb0 hR
  go_enter Tryz.func20, Tryz.ntmps20
  go_wp2_with fail
  rw [← hw0]
  clear hw0
  refine HL.out.mono ?_
  rintro e w1 ⟨ga, vp, vg, vd, rfl, hga, hal, hb1⟩
  have HB1 : Hid (Below w.heap.size w w1) := hide (HB0.out.trans (hb1.mono HB0.out.size))
  have HAl := hide hal
  have HG : Hid (w.heap.size ≤ ga) := hide (Nat.le_trans HB0.out.size hga)
  have q0 := (cell_at hal.1 0).1
  have q3 := (cell_at hal.1 3).1
  have HAs : Hid (allS R root = if (seenS R root).bad = true then ([], false) else ((seenS R root).pairs, true)) := hide rfl
  obtain ⟨bad, hbad⟩ : ∃ b, b = (seenS R root).bad := ⟨_, rfl⟩
  rw [← hbad] at q3
  have HBd := hide hbad
  clear hal hb1 hga hbad
  cases bad with
  | true =>
    go_wp2_with fail
    go_ret2
    rw [HAs.out, if_pos HBd.out.symm]
    have hown : (w1.alloc (Obj.cells #[] 101)).ownsRow w.heap.size 101 2 (.slice (some ⟨w1.heap.size, 0, none⟩) 0 0) 0 [] := by simpa using World.ownsRow_lit (base := w.heap.size) (e := 101) (size := 2) w1 #[] 0 HB1.out.size (by unfold maxLen; omega) (by simp)
    exact ⟨_, rfl, hown, HB1.out.alloc HB1.out.size _⟩
  | false =>
    go_wp2_with fail
    go_ret2
    rw [HAs.out, if_neg (by rw [← HBd.out]; decide)]
    exact ⟨vp, rfl, own_down HAl.out.2.1 (by have := HG.out; omega), HB1.out⟩
end Go.Proofs.YtdbpbhemnnffeaaGreatDoor
