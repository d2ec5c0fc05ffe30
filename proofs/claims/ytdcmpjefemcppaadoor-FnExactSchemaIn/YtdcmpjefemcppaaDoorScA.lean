/-
  Several texts in one. spec.PlaceOf by a contract. · Disks (pages and what is late), read only ('DiskAt') or in new memory ('DiskOwn'), and the laws' own helpers over them by contracts: szDisk, toDisk, eqDisk, markDisk, heldDisk. · Plain facts on disks, without any program: what is read of a page, when a disk is right, what is kept, what falls. · spec's functions over disks by contracts: ReadPage, DiskOk, SyncDisk, FallDisk, WritePage, DiskNew. · spec.GetKey, at every disk whose lists and texts are of at most 1048576: it tells getK of what the pages read. · Plain facts on disks, without any program: a new disk, a put that is taken, what falls. · The program's functions over disks by contracts: hasPage, DiskOk, ReadPage, DiskNew. · impl.GetKey, at every disk whose lists and texts are of at most 1048576: it tells getK of what the pages read.
-/
import Derived.Test.YtdcmpjefemcppaaDoorNodeSpec
import Derived.Test.YtdcmpjefemcppaaDoorNode
import Derived.WalkKit
import Derived.Test.YtdcmpjefemcppaaDoorVar
import Derived.Test.YtdcmpjefemcppaaDoorPlain23
import Derived.Test.YtdcmpjefemcppaaDoorNodeLawRead
import Derived.Test.YtdcmpjefemcppaaDoorClone
import Derived.Test.YtdcmpjefemcppaaDoorImplNode
namespace Go.Proofs.YtdcmpjefemcppaaDoor
open Go.RowKit

set_option maxHeartbeats 1000000 in
set_option maxRecDepth 100000 in
theorem specPlaceOf_any (v : Value) (lf : Bool) (ks vs : List ByteArray) (cs : List Int) (hk : ks.length ≤ 1048576) (key : ByteArray) (w : World) (hd : NodeAt w v lf ks vs cs) :
    Calls Tryd.prog 32 #[v, .string key] w fun e w' => e = .returned (.int .i64 (placeK ks key ks.length)) ∧ Below w.heap.size w w' := by
  obtain ⟨vk, vv, vc, rfl, h1, -, -⟩ := hd
  obtain ⟨xk, ck, rfl⟩ : ∃ a cap, vk = .slice a ks.length cap := by obtain ⟨-, a, cap, e, -⟩ := h1; exact ⟨a, cap, e⟩
  obtain ⟨w0, hw0⟩ : ∃ w0, w0 = w.alloc (Obj.cells #[.bool lf, .slice xk ks.length ck, vv, vc] 59) := ⟨_, rfl⟩
  have hb0 : Below w.heap.size w w0 := by rw [hw0]; exact (Below.refl w.heap.size w).alloc (Nat.le_refl _) _
  have hblk : w0.heap[w.heap.size]? = some (Obj.cells #[.bool lf, .slice xk ks.length ck, vv, vc] 59) := by rw [hw0]; exact heap_alloc_new w _
  have HB0 := hide hb0
  have HR := hide (row_below h1 hb0)
  have HP : Hid (∀ wx, Below w0.heap.size w0 wx → wx.cell? ⟨w.heap.size, 1, none⟩ = some (.slice xk ks.length ck)) := hide (fun wx hb => by
    have hq := (hb.block _ (Array.getElem?_eq_some_iff.1 hblk).1).trans hblk
    exact (cell_at hq 1).1)
  clear h1 hb0 hblk
  go_enter Tryd.func32, Tryd.ntmps32
  go_wp2_with fail
  rw [← hw0]
  clear hw0
  go_loopg [5, 6] ks.length (fun q av iv wr => ∃ i : Nat, i ≤ ks.length ∧ av = .int .i64 (placeK ks key i) ∧ iv = .int .i64 (i : Int) ∧ q + i = ks.length ∧ Hid (Below w0.heap.size w0 wr))
  case atStart => exact ⟨0, Nat.zero_le _, rfl, rfl, rfl, hide (Below.refl _ _)⟩
  case round =>
    obtain ⟨i, hi, rfl, rfl, hg, HB⟩ := hrel
    have HG := hide hg
    clear hg
    have p1 := HP.out wr HB.out
    by_cases hlt : i < ks.length
    · obtain ⟨-, a1, cp1, e1, h0 | ⟨bk, ok, e0, hbk, hck⟩⟩ := HR.out
      · omega
      injection e1 with e11 _ e12
      subst e11 e12
      subst e0
      obtain ⟨x, hx⟩ : ∃ x, x = ks.getD i ⟨#[]⟩ := ⟨_, rfl⟩
      have hxc : wr.cell? ⟨bk, ok + i, none⟩ = some (.string x) := by rw [HB.out.cell (by exact hbk), hck i (by omega), strs_at ks i hlt, hx]; simp [List.getD, hlt]
      have hi0 : (0 : Int) ≤ (i : Int) := by omega
      have hi1 : (i : Int) < (ks.length : Int) := by omega
      obtain ⟨le, hle⟩ : ∃ le, (Op.bytesLess x.toList key.toList || x.toList == key.toList) = le := ⟨_, rfl⟩
      have hK : placeK ks key (i + 1) = if le = true then (i : Int) else placeK ks key i := by rw [placeK, ← hx, hle]
      obtain ⟨z, hz⟩ : ∃ z, z = placeK ks key i := ⟨_, rfl⟩
      rw [← hz] at hK ⊢
      clear hck hx hz
      cases le with
      | true =>
        rw [if_pos rfl] at hK
        have HK := hide hK
        clear hK
        go_wp2_with fail
        try (go_quiet (fail); go_wp2_with fail)
        go_roundg (gk - 1)
        case measure => have := HG.out; omega
        case rel => exact ⟨i + 1, by omega, by rw [HK.out], by go_num, by have := HG.out; omega, by first | exact HB | exact hide (bel_n HB.out)⟩
      | false =>
        rw [if_neg (by decide)] at hK
        have HK := hide hK
        clear hK
        go_wp2_with fail
        try (go_quiet (fail); go_wp2_with fail)
        go_roundg (gk - 1)
        case measure => have := HG.out; omega
        case rel => exact ⟨i + 1, by omega, by rw [HK.out], by go_num, by have := HG.out; omega, by first | exact HB | exact hide (bel_n HB.out)⟩
    · obtain rfl : i = ks.length := by omega
      go_wp2_with fail
      go_ret
      exact ⟨rfl, HB0.out.trans (HB.out.mono HB0.out.size)⟩
end Go.Proofs.YtdcmpjefemcppaaDoor

namespace Go.Proofs.YtdcmpjefemcppaaDoor
open Go.RowKit

/-- a disk that reads so -/
def DiskAt (w : World) (v : Value) (ps : List ByteArray) (ls : List (Int × ByteArray)) : Prop :=
  ∃ vp vl, v = .agg #[vp, vl] ∧ RowAt w 1 vp ps.length (strs ps) ∧ RowAt w 2 vl ls.length (puts ls)

/-- a disk in memory of its own -/
def DiskOwn (w : World) (B : Nat) (v : Value) (ps : List ByteArray) (ls : List (Int × ByteArray)) : Prop :=
  ∃ vp vl, v = .agg #[vp, vl] ∧ w.ownsRow B 9 1 vp ps.length (strs ps) ∧ w.ownsRow B 69 2 vl ls.length (puts ls)

theorem disk_of_own {w : World} {B : Nat} {v : Value} {ps : List ByteArray} {ls : List (Int × ByteArray)} (h : DiskOwn w B v ps ls) : DiskAt w v ps ls := by
  obtain ⟨vp, vl, e, h1, h2⟩ := h
  exact ⟨vp, vl, e, row_of_own h1, row_of_own h2⟩

theorem disk_below {w w' : World} {v : Value} {ps : List ByteArray} {ls : List (Int × ByteArray)} (h : DiskAt w v ps ls) (hb : Below w.heap.size w w') : DiskAt w' v ps ls := by
  obtain ⟨vp, vl, e, h1, h2⟩ := h
  exact ⟨vp, vl, e, row_below h1 hb, row_below h2 hb⟩

theorem diskOwn_below {w w' : World} {B : Nat} {v : Value} {ps : List ByteArray} {ls : List (Int × ByteArray)} (h : DiskOwn w B v ps ls) (hb : Below w.heap.size w w') : DiskOwn w' B v ps ls := by
  obtain ⟨vp, vl, e, h1, h2⟩ := h
  exact ⟨vp, vl, e, own_stays h1 hb, own_stays h2 hb⟩

/-- the blocks of a disk's two rows -/
def diskBlocks (v : Value) (k : Nat) : Prop := ∃ vp vl, v = .agg #[vp, vl] ∧ (vp.ownBlock = some k ∨ vl.ownBlock = some k)

theorem disk_kept {w w' : World} {v : Value} {ps : List ByteArray} {ls : List (Int × ByteArray)} {S : Nat → Prop} (h : DiskAt w v ps ls) (hk : Kept w w' S) (hS : ∀ k, k < w.heap.size → diskBlocks v k → ¬ S k) : DiskAt w' v ps ls := by
  obtain ⟨vp, vl, rfl, h1, h2⟩ := h
  exact ⟨vp, vl, rfl, row_kept h1 hk (Or.inr fun k hlt e => hS k hlt ⟨vp, vl, rfl, Or.inl e⟩), row_kept h2 hk (Or.inr fun k hlt e => hS k hlt ⟨vp, vl, rfl, Or.inr e⟩)⟩

theorem diskOwn_kept {w w' : World} {B : Nat} {v : Value} {ps : List ByteArray} {ls : List (Int × ByteArray)} {S : Nat → Prop} (h : DiskOwn w B v ps ls) (hk : Kept w w' S) (hS : ∀ k, diskBlocks v k → ¬ S k) : DiskOwn w' B v ps ls := by
  obtain ⟨vp, vl, rfl, h1, h2⟩ := h
  exact ⟨vp, vl, rfl, own_kept h1 hk (fun k e => hS k ⟨vp, vl, rfl, Or.inl e⟩), own_kept h2 hk (fun k e => hS k ⟨vp, vl, rfl, Or.inr e⟩)⟩

theorem diskOwn_lt {w : World} {B : Nat} {v : Value} {ps : List ByteArray} {ls : List (Int × ByteArray)} (h : DiskOwn w B v ps ls) : ∀ k, diskBlocks v k → B ≤ k ∧ k < w.heap.size := by
  obtain ⟨vp, vl, rfl, h1, h2⟩ := h
  rintro k ⟨vp', vl', e, hk⟩
  have e2 : vp = vp' ∧ vl = vl' := by injection e with e; injection e with e; injection e with e1 e; injection e with e2; exact ⟨e1, e2⟩
  obtain ⟨rfl, rfl⟩ := e2
  rcases hk with hk | hk
  · exact h1.lt k hk
  · exact h2.lt k hk

set_option maxHeartbeats 400000 in
theorem szDisk_any (v : Value) (ps : List ByteArray) (ls : List (Int × ByteArray)) (hp : ps.length ≤ maxLen) (hps : ∀ s ∈ ps, s.size ≤ maxLen) (hl : ls.length ≤ maxLen) (hls : ∀ p ∈ ls, p.2.size ≤ maxLen) (left : Nat) (hleft : left ≤ 1048576) (w : World) (hd : DiskAt w v ps ls) :
    Calls Tryd.prog 4 #[v, .int .i64 (left : Int)] w fun e w' => e = .returned (.int .i64 (szOut left (bulkS ps + bulkP ls))) ∧ Below w.heap.size w w' := by
  obtain ⟨vp, vl, rfl, h1, h2⟩ := hd
  have hbB : ∀ o : Obj, Below w.heap.size w (w.alloc o) := fun o => (Below.refl w.heap.size w).alloc (Nat.le_refl _) _
  have HB := hide hbB
  have HC1 := hide (fun wx h => szStringS_any ps hp hps vp left hleft wx h)
  have H1 := hide h1
  have H2 := hide h2
  have HP := hide (⟨hl, hls⟩ : ls.length ≤ maxLen ∧ ∀ p ∈ ls, p.2.size ≤ maxLen)
  clear hp hps hl hls h1 h2 hbB
  by_cases hn : left < bulkS ps
  · have HO : Hid (szOut left (bulkS ps + bulkP ls) = -1) := hide (szOut_no (by omega))
    rw [szOut_no hn] at HC1
    go_enter Tryd.func4, Tryd.ntmps4
    go_wp2_with fail
    refine (HC1.out _ (row_below H1.out (HB.out _))).mono ?_
    rintro e w1 ⟨rfl, rfl⟩
    go_wp2_with fail
    go_ret
    rw [HO.out]
    exact ⟨rfl, HB.out _⟩
  · obtain ⟨m, hm⟩ : ∃ m, m = left - bulkS ps := ⟨_, rfl⟩
    rw [szOut_yes (by omega), ← hm] at HC1
    have hml : m ≤ 1048576 := by omega
    have HC2 := hide (fun wx h => szPutS_any ls HP.out.1 HP.out.2 vl m hml wx h)
    by_cases hn2 : m < bulkP ls
    · have HO : Hid (szOut left (bulkS ps + bulkP ls) = -1) := hide (szOut_no (by omega))
      rw [szOut_no hn2] at HC2
      clear hm hn hn2
      go_enter Tryd.func4, Tryd.ntmps4
      go_wp2_with fail
      refine (HC1.out _ (row_below H1.out (HB.out _))).mono ?_
      rintro e w1 ⟨rfl, rfl⟩
      go_wp2_with fail
      refine (HC2.out _ (row_below H2.out (HB.out _))).mono ?_
      rintro e w2 ⟨rfl, hb2⟩
      go_wp2_with fail
      go_ret
      rw [HO.out]
      exact ⟨rfl, (HB.out _).trans (hb2.mono (HB.out _).size)⟩
    · obtain ⟨r, hr⟩ : ∃ r, r = m - bulkP ls := ⟨_, rfl⟩
      rw [szOut_yes (by omega), ← hr] at HC2
      have hrl : r ≤ 1048576 := by omega
      have HO : Hid (szOut left (bulkS ps + bulkP ls) = (r : Int)) := hide (by rw [szOut_yes (by omega)]; congr 1; omega)
      clear hm hn hn2 hr
      go_enter Tryd.func4, Tryd.ntmps4
      go_wp2_with fail
      refine (HC1.out _ (row_below H1.out (HB.out _))).mono ?_
      rintro e w1 ⟨rfl, rfl⟩
      go_wp2_with fail
      refine (HC2.out _ (row_below H2.out (HB.out _))).mono ?_
      rintro e w2 ⟨rfl, hb2⟩
      go_wp2_with fail
      go_ret
      rw [HO.out]
      exact ⟨rfl, (HB.out _).trans (hb2.mono (HB.out _).size)⟩

set_option maxHeartbeats 1000000 in
theorem toDisk_any (v : Value) (ps : List ByteArray) (ls : List (Int × ByteArray)) (hp : ps.length ≤ 1048576) (hl : ls.length ≤ 1048576) (w : World) (hd : DiskAt w v ps ls) :
    Calls Tryd.prog 6 #[v] w fun e w' => ∃ v', e = .returned v' ∧ DiskOwn w' w.heap.size v' ps ls ∧ Below w.heap.size w w' := by
  obtain ⟨vp, vl, rfl, h1, h2⟩ := hd
  have HC1 := hide (fun wx h => toStringS_any ps hp vp wx h)
  have HC2 := hide (fun wx h => toPutS_any ls hl vl wx h)
  have H1 := hide h1
  have H2 := hide h2
  clear h1 h2 hp hl
  obtain ⟨w0, hw0⟩ : ∃ w0, w0 = ((w.alloc (Obj.cells #[vp, vl] 25)).alloc (Obj.cells #[.slice none 0 0, .slice none 0 0] 32)).alloc (Obj.cells #[.slice none 0 0, .slice none 0 0] 32) := ⟨_, rfl⟩
  have hb0 : Below w.heap.size w w0 := by rw [hw0]; exact (((Below.refl w.heap.size w).alloc (Nat.le_refl _) _).alloc (by simp) _).alloc (by simp; omega) _
  go_enter Tryd.func6, Tryd.ntmps6
  go_wp2_with fail
  rw [← hw0]
  refine (HC1.out _ (row_below H1.out hb0)).mono ?_
  rintro e w1 ⟨u1, rfl, hown1, hb1⟩
  obtain ⟨x1, c1, rfl⟩ := own_slice hown1
  obtain ⟨q0, q1, q2, hs0⟩ := three_allocs w (Obj.cells #[vp, vl] 25) (Obj.cells #[.slice none 0 0, .slice none 0 0] 32) (Obj.cells #[.slice none 0 0, .slice none 0 0] 32)
  rw [← hw0] at q0 q1 q2 hs0
  obtain ⟨a0, ha0⟩ : ∃ a, a = w.heap.size := ⟨_, rfl⟩
  rw [← ha0] at q0 q1 q2 hs0 ⊢
  obtain ⟨a1, ha1⟩ : ∃ a, a = a0 + 1 := ⟨_, rfl⟩
  obtain ⟨a2, ha2⟩ : ∃ a, a = a0 + 1 + 1 := ⟨_, rfl⟩
  rw [← ha2, ← ha1]
  rw [← ha1] at q1
  rw [← ha2] at q2
  have HW0 := hide hw0
  have HA := hide (⟨ha0, ha1, ha2, hs0⟩ : a0 = w.heap.size ∧ a1 = a0 + 1 ∧ a2 = a0 + 1 + 1 ∧ w0.heap.size = a0 + 3)
  have HB0 := hide hb0
  have r0 := (hb1.block a0 (by omega)).trans q0
  have r1 := (hb1.block a1 (by omega)).trans q1
  have r2 := (hb1.block a2 (by omega)).trans q2
  have hn20 : a2 ≠ a0 := by omega
  have hn21 : a2 ≠ a1 := by omega
  have hn10 : a1 ≠ a0 := by omega
  have HN := hide (⟨hn20, hn21, hn10⟩ : a2 ≠ a0 ∧ a2 ≠ a1 ∧ a1 ≠ a0)
  clear hw0 ha0 ha1 ha2 hs0 hb0 q0 q1 q2
  have s2 : (w1.setCell ⟨a2, 0, none⟩ (.slice x1 ps.length c1)).heap[a2]? = some (Obj.cells #[(.slice x1 ps.length c1), .slice none 0 0] 32) := heap_setCell_same w1 a2 0 _ _ _ r2
  have s0 : (w1.setCell ⟨a2, 0, none⟩ (.slice x1 ps.length c1)).heap[a0]? = some (Obj.cells #[vp, vl] 25) := (heap_setCell_other w1 ⟨a2, 0, none⟩ a0 (.slice x1 ps.length c1) (by exact fun e => hn20 e.symm)).trans r0
  have s1 : (w1.setCell ⟨a2, 0, none⟩ (.slice x1 ps.length c1)).heap[a1]? = some (Obj.cells #[.slice none 0 0, .slice none 0 0] 32) := (heap_setCell_other w1 ⟨a2, 0, none⟩ a1 (.slice x1 ps.length c1) (by exact fun e => hn21 e.symm)).trans r1
  have c20 : w1.cell? ⟨a2, 0, none⟩ = some (.slice none 0 0) := (cell_at r2 0).1
  have f20 := (cell_at r2 0).2
  have c01 : (w1.setCell ⟨a2, 0, none⟩ (.slice x1 ps.length c1)).cell? ⟨a0, 1, none⟩ = some vl := (cell_at s0 1).1
  have HB1 := hide hb1
  have HO1 := hide hown1
  have HR := hide (⟨s0, s1, s2⟩ : (w1.setCell ⟨a2, 0, none⟩ (.slice x1 ps.length c1)).heap[a0]? = some (Obj.cells #[vp, vl] 25) ∧ (w1.setCell ⟨a2, 0, none⟩ (.slice x1 ps.length c1)).heap[a1]? = some (Obj.cells #[.slice none 0 0, .slice none 0 0] 32) ∧ (w1.setCell ⟨a2, 0, none⟩ (.slice x1 ps.length c1)).heap[a2]? = some (Obj.cells #[(.slice x1 ps.length c1), .slice none 0 0] 32))
  clear hb1 hown1 r0 r1 r2 s0 s1 s2 hn20 hn21 hn10
  go_wp2_with fail
  have HB2 : Hid (Below w.heap.size w (w1.setCell ⟨a2, 0, none⟩ (.slice x1 ps.length c1))) := hide ((HB0.out.trans (HB1.out.mono HB0.out.size)).setCell (by have := HA.out; show _ ≤ a2; omega) _)
  refine (HC2.out _ (row_below H2.out HB2.out)).mono ?_
  rintro e w3 ⟨u2, rfl, hown2, hb3⟩
  obtain ⟨x2, c2, rfl⟩ := own_slice hown2
  have hsz : (w1.setCell ⟨a2, 0, none⟩ (.slice x1 ps.length c1)).heap.size = w1.heap.size := by simp
  have hlt2 : a2 < (w1.setCell ⟨a2, 0, none⟩ (.slice x1 ps.length c1)).heap.size := (Array.getElem?_eq_some_iff.1 HR.out.2.2).1
  have hlt1 : a1 < (w1.setCell ⟨a2, 0, none⟩ (.slice x1 ps.length c1)).heap.size := (Array.getElem?_eq_some_iff.1 HR.out.2.1).1
  have t1 := (hb3.block a1 hlt1).trans HR.out.2.1
  have t2 := (hb3.block a2 hlt2).trans HR.out.2.2
  have d21 : w3.cell? ⟨a2, 1, none⟩ = some (.slice none 0 0) := (cell_at t2 1).1
  have f21 := (cell_at t2 1).2
  have v2 : (w3.setCell ⟨a2, 1, none⟩ (.slice x2 ls.length c2)).heap[a2]? = some (Obj.cells #[.slice x1 ps.length c1, .slice x2 ls.length c2] 32) := heap_setCell_same w3 a2 1 _ _ _ t2
  have v1 : (w3.setCell ⟨a2, 1, none⟩ (.slice x2 ls.length c2)).heap[a1]? = some (Obj.cells #[.slice none 0 0, .slice none 0 0] 32) := (heap_setCell_other w3 ⟨a2, 1, none⟩ a1 _ (by exact fun e => HN.out.2.1 e.symm)).trans t1
  have e20 : (w3.setCell ⟨a2, 1, none⟩ (.slice x2 ls.length c2)).cell? ⟨a2, 0, none⟩ = some (.slice x1 ps.length c1) := (cell_at v2 0).1
  have e21 : (w3.setCell ⟨a2, 1, none⟩ (.slice x2 ls.length c2)).cell? ⟨a2, 1, none⟩ = some (.slice x2 ls.length c2) := (cell_at v2 1).1
  have e10 : (w3.setCell ⟨a2, 1, none⟩ (.slice x2 ls.length c2)).cell? ⟨a1, 0, none⟩ = some (.slice none 0 0) := (cell_at v1 0).1
  have e11 : (w3.setCell ⟨a2, 1, none⟩ (.slice x2 ls.length c2)).cell? ⟨a1, 1, none⟩ = some (.slice none 0 0) := (cell_at v1 1).1
  have g10 := (cell_at v1 0).2
  have g11 := (cell_at v1 1).2
  have HB3 := hide hb3
  have HO2 := hide hown2
  have HV := hide v1
  clear hb3 hown2 t1 t2 v1 v2 hlt1 hlt2 hsz
  go_wp2_with fail
  have y1 : ((w3.setCell ⟨a2, 1, none⟩ (.slice x2 ls.length c2)).setCell ⟨a1, 0, none⟩ (.slice x1 ps.length c1)).heap[a1]? = some (Obj.cells #[.slice x1 ps.length c1, .slice none 0 0] 32) := heap_setCell_same _ a1 0 _ _ _ HV.out
  have y2 : (((w3.setCell ⟨a2, 1, none⟩ (.slice x2 ls.length c2)).setCell ⟨a1, 0, none⟩ (.slice x1 ps.length c1)).setCell ⟨a1, 1, none⟩ (.slice x2 ls.length c2)).heap[a1]? = some (Obj.cells #[.slice x1 ps.length c1, .slice x2 ls.length c2] 32) := heap_setCell_same _ a1 1 _ _ _ y1
  have z0 := (cell_at y2 0).1
  have z1 := (cell_at y2 1).1
  have hA := HA.out
  have k1 : Kept w1 (w1.setCell ⟨a2, 0, none⟩ (.slice x1 ps.length c1)) (fun k => k = a1 ∨ k = a2) := kept_mono (kept_setCell _ _ _ _) (fun j _ h => Or.inr h)
  have k2 : Kept w3 (((w3.setCell ⟨a2, 1, none⟩ (.slice x2 ls.length c2)).setCell ⟨a1, 0, none⟩ (.slice x1 ps.length c1)).setCell ⟨a1, 1, none⟩ (.slice x2 ls.length c2)) (fun k => k = a1 ∨ k = a2) := kept_trans (kept_trans (kept_mono (kept_setCell _ _ _ _) (fun j _ h => Or.inr h)) (kept_setCell _ _ _ _) (fun j _ h => Or.inl h)) (kept_setCell _ _ _ _) (fun j _ h => Or.inl h)
  have k3 := kept_trans (kept_trans k1 (kept_of_all HB3.out (fun _ => False)) (fun j _ h => h.elim)) k2 (fun j _ h => h)
  refine bodyPost_ret (v := .agg #[.slice x1 ps.length c1, .slice x2 ls.length c2]) (by simp [results, Tryd.results6, go_sem, z0, z1]) rfl ⟨_, rfl, ⟨_, _, rfl, ?_, ?_⟩, ?_⟩
  · exact own_down (own_kept HO1.out k3 (fun k hk => by have := (HO1.out.lt k hk).1; omega)) (by omega)
  · refine own_down (own_kept HO2.out k2 (fun k hk => by have h1 := (HO2.out.lt k hk).1; have h2 := HB1.out.size; simp at h1; omega)) (by have h2 := HB1.out.size; simp; omega)
  · refine ((((HB2.out.trans (HB3.out.mono HB2.out.size)).setCell ?_ _).setCell ?_ _).setCell ?_ _)
    · show _ ≤ a2; omega
    · show _ ≤ a1; omega
    · show _ ≤ a1; omega

set_option maxHeartbeats 1000000 in
theorem eqDisk_any (v u : Value) (ps qs : List ByteArray) (ls ms : List (Int × ByteArray)) (hp : ps.length ≤ 9223372036854775807) (hq : qs.length ≤ 9223372036854775807) (hl : ls.length ≤ 9223372036854775807) (hm : ms.length ≤ 9223372036854775807) (w : World) (hd : DiskAt w v ps ls) (hu : DiskAt w u qs ms) :
    Calls Tryd.prog 9 #[v, u] w fun e w' => e = .returned (.bool (decide ((ps, ls) = (qs, ms)))) ∧ Below w.heap.size w w' := by
  obtain ⟨vp, vl, rfl, h1, h2⟩ := hd
  obtain ⟨up, ul, rfl, h3, h4⟩ := hu
  have HC1 := hide (fun wx h h' => eqStringS_row ps qs hp hq vp up wx h h')
  have HC2 := hide (fun wx h h' => eqPutS_row ls ms hl hm vl ul wx h h')
  have HR := hide (⟨h1, h2, h3, h4⟩ : RowAt w 1 vp ps.length (strs ps) ∧ RowAt w 2 vl ls.length (puts ls) ∧ RowAt w 1 up qs.length (strs qs) ∧ RowAt w 2 ul ms.length (puts ms))
  clear h1 h2 h3 h4 hp hq hl hm
  obtain ⟨w0, hw0⟩ : ∃ w0, w0 = (w.alloc (Obj.cells #[vp, vl] 32)).alloc (Obj.cells #[up, ul] 32) := ⟨_, rfl⟩
  have hb0 : Below w.heap.size w w0 := by rw [hw0]; exact ((Below.refl w.heap.size w).alloc (Nat.le_refl _) _).alloc (by simp) _
  obtain ⟨q0, q1, hs0⟩ := two_allocs w (Obj.cells #[vp, vl] 32) (Obj.cells #[up, ul] 32)
  rw [← hw0] at q0 q1 hs0
  have HB0 := hide hb0
  have HQ := hide (⟨q0, q1, hs0⟩ : w0.heap[w.heap.size]? = some (Obj.cells #[vp, vl] 32) ∧ w0.heap[w.heap.size + 1]? = some (Obj.cells #[up, ul] 32) ∧ w0.heap.size = w.heap.size + 2)
  clear hb0 q0 q1 hs0
  by_cases h1 : ps = qs
  · rw [decide_eq_true h1] at HC1
    go_enter Tryd.func9, Tryd.ntmps9
    go_wp2_with fail
    rw [← hw0]
    refine (HC1.out _ (row_below HR.out.1 HB0.out) (row_below HR.out.2.2.1 HB0.out)).mono ?_
    rintro e w1 ⟨rfl, hb1⟩
    have HB1 : Hid (Below w.heap.size w w1) := hide (HB0.out.trans (hb1.mono HB0.out.size))
    have c0 : w1.cell? ⟨w.heap.size, 1, none⟩ = some vl := (cell_at ((hb1.block _ (by rw [HQ.out.2.2]; omega)).trans HQ.out.1) 1).1
    have c1 : w1.cell? ⟨w.heap.size + 1, 1, none⟩ = some ul := (cell_at ((hb1.block _ (by rw [HQ.out.2.2]; omega)).trans HQ.out.2.1) 1).1
    have HW := hide hw0
    clear hb1 hw0
    by_cases h2 : ls = ms
    · rw [decide_eq_true h2] at HC2
      have HD : Hid (decide ((ps, ls) = (qs, ms)) = true) := hide (by rw [h1, h2]; simp)
      clear h1 h2
      go_wp2_with fail
      refine (HC2.out _ (row_below HR.out.2.1 HB1.out) (row_below HR.out.2.2.2 HB1.out)).mono ?_
      rintro e w2 ⟨rfl, hb2⟩
      go_wp2_with fail
      go_ret
      rw [HD.out]
      exact ⟨rfl, HB1.out.trans (hb2.mono HB1.out.size)⟩
    · rw [decide_eq_false h2] at HC2
      have HD : Hid (decide ((ps, ls) = (qs, ms)) = false) := hide (by simp [h2])
      clear h1 h2
      go_wp2_with fail
      refine (HC2.out _ (row_below HR.out.2.1 HB1.out) (row_below HR.out.2.2.2 HB1.out)).mono ?_
      rintro e w2 ⟨rfl, hb2⟩
      go_wp2_with fail
      go_ret
      rw [HD.out]
      exact ⟨rfl, HB1.out.trans (hb2.mono HB1.out.size)⟩
  · rw [decide_eq_false h1] at HC1
    have HD : Hid (decide ((ps, ls) = (qs, ms)) = false) := hide (by simp [h1])
    clear h1
    go_enter Tryd.func9, Tryd.ntmps9
    go_wp2_with fail
    rw [← hw0]
    refine (HC1.out _ (row_below HR.out.1 HB0.out) (row_below HR.out.2.2.1 HB0.out)).mono ?_
    rintro e w1 ⟨rfl, hb1⟩
    have HW := hide hw0
    clear hw0
    go_wp2_with fail
    go_ret
    rw [HD.out]
    exact ⟨rfl, HB0.out.trans (hb1.mono HB0.out.size)⟩

theorem Tryd.types_part : (9 : Nat) ≠ 69 := by decide

set_option maxHeartbeats 1000000 in
theorem markDisk_any (v : Value) (ps : List ByteArray) (ls : List (Int × ByteArray)) (B k0 : Nat) (hn : ps.length ≤ 1048576) (hm : ls.length ≤ 1048576) (hk0 : 0 < k0) (hk1 : k0 ≤ 1000000000) (w : World) (hd : DiskOwn w B v ps ls) :
    Calls Tryd.prog 10 #[v, .int .i64 (k0 : Int)] w fun e w' => e = .returned (.int .i64 ((k0 + ps.length + ls.length * 2 : Nat) : Int)) ∧ DiskOwn w' B v (marksS k0 ps.length) (marksP (k0 + ps.length) ls.length) ∧ Kept w w' (diskBlocks v) := by
  obtain ⟨vp, vl, rfl, h1, h2⟩ := hd
  have HC1 := hide (fun wx h => markStringS_row ps hn vp B k0 hk0 (by omega) wx h)
  have HC2 := hide (fun wx h => markPutS_row ls hm vl B (k0 + ps.length) (by omega) (by omega) wx h)
  have H1 := hide h1
  have H2 := hide h2
  have hb0 : ∀ o, Below w.heap.size w (w.alloc o) := fun o => (Below.refl w.heap.size w).alloc (Nat.le_refl _) _
  have HB0 := hide hb0
  obtain ⟨r, hr⟩ : ∃ r, r = k0 + ps.length := ⟨_, rfl⟩
  have hrl : r ≤ 1002000000 := by omega
  rw [← hr] at HC1 HC2 ⊢
  obtain ⟨z, hz⟩ : ∃ z, z = r + ls.length * 2 := ⟨_, rfl⟩
  rw [← hz] at HC2 ⊢
  have hzl : z ≤ 1010000000 := by omega
  clear h1 h2 hb0 hr hz hn hm hk0
  go_enter Tryd.func10, Tryd.ntmps10
  go_wp2_with fail
  refine (HC1.out _ (own_stays H1.out (HB0.out _))).mono ?_
  rintro e w1 ⟨rfl, hown1, hk⟩
  have hlt : ∀ k, vp.ownBlock = some k → k < w.heap.size := fun k h => (H1.out.lt k h).2
  have hlt2 : ∀ k, vl.ownBlock = some k → k < w.heap.size := fun k h => (H2.out.lt k h).2
  have c0 : w1.cell? ⟨w.heap.size, 1, none⟩ = some vl := (cell_at ((hk.2.2.2.2 w.heap.size (by simp) (fun e => by have := hlt _ e; omega)).trans (heap_alloc_new w _)) 1).1
  have HO2 := hide (own_kept (own_stays H2.out (HB0.out (Obj.cells #[vp, vl] 32))) hk (fun k h => one_type H2.out H1.out Tryd.types_part.symm k h))
  have HO1 := hide hown1
  have HK := hide (kept_trans (kept_of_all (HB0.out (Obj.cells #[vp, vl] 32)) (fun k => diskBlocks (.agg #[vp, vl]) k)) hk (fun j _ h => ⟨vp, vl, rfl, Or.inl h⟩))
  clear hk hown1 hlt hlt2
  go_wp2_with fail
  refine (HC2.out _ HO2.out).mono ?_
  rintro e w2 ⟨rfl, hown2, hk2⟩
  go_wp2_with fail
  go_ret
  refine ⟨rfl, ⟨vp, vl, rfl, ?_, ?_⟩, kept_trans HK.out hk2 (fun j _ h => ⟨vp, vl, rfl, Or.inr h⟩)⟩
  · rw [marksS_length]; exact own_kept HO1.out hk2 (fun k h => one_type HO1.out HO2.out Tryd.types_part k h)
  · rw [marksP_length]; exact hown2
end Go.Proofs.YtdcmpjefemcppaaDoor

namespace Go.Proofs.YtdcmpjefemcppaaDoor
open Go.RowKit

/-- among the first k puts the text of the last one to this page -/
def lateAt (ls : List (Int × ByteArray)) (page : Int) : Nat → Option ByteArray
  | 0 => none
  | k + 1 => match ls[k]? with
    | some p => if p.1 = page then some p.2 else lateAt ls page k
    | none => lateAt ls page k

theorem lateAt_hit {ls : List (Int × ByteArray)} {page : Int} {k : Nat} {t : ByteArray} (h : ls[k]? = some (page, t)) : lateAt ls page (k + 1) = some t := by
  rw [lateAt, h]; simp

theorem lateAt_miss {ls : List (Int × ByteArray)} {page q : Int} {k : Nat} {t : ByteArray} (h : ls[k]? = some (q, t)) (hne : q ≠ page) : lateAt ls page (k + 1) = lateAt ls page k := by
  rw [lateAt, h]; simp [hne]

/-- what is read of a page -/
def readD (ps : List ByteArray) (ls : List (Int × ByteArray)) (page : Int) : ByteArray :=
  if 0 ≤ page ∧ page < (ps.length : Int) then
    match lateAt ls page ls.length with
    | some t => t
    | none => ps.getD page.toNat ⟨#[]⟩
  else ⟨#[]⟩

theorem readD_out {ps : List ByteArray} {ls : List (Int × ByteArray)} {page : Int} (h : page < 0 ∨ (ps.length : Int) ≤ page) : readD ps ls page = ⟨#[]⟩ := if_neg (by omega)

theorem readD_late {ps : List ByteArray} {ls : List (Int × ByteArray)} {page : Int} {t : ByteArray} (h : 0 ≤ page ∧ page < (ps.length : Int)) (hl : lateAt ls page ls.length = some t) : readD ps ls page = t := by
  rw [readD, if_pos h, hl]

theorem readD_page {ps : List ByteArray} {ls : List (Int × ByteArray)} {page : Int} (h : 0 ≤ page ∧ page < (ps.length : Int)) (hl : lateAt ls page ls.length = none) : readD ps ls page = ps.getD page.toNat ⟨#[]⟩ := by
  rw [readD, if_pos h, hl]

/-- when a disk is right -/
def diskOkB (ps : List ByteArray) (ls : List (Int × ByteArray)) : Bool :=
  ps.all (fun s => decide (s.size ≤ 240)) && ls.all (fun p => decide (0 ≤ p.1 ∧ p.1 < (ps.length : Int) ∧ p.2.size ≤ 240)) && decide (4 ≤ ps.length ∧ ps.length ≤ 40 ∧ ls.length ≤ 200)

theorem diskOk_page {ps : List ByteArray} {ls : List (Int × ByteArray)} {k : Nat} (h : k < ps.length) (hb : 240 < ps[k].size) : diskOkB ps ls = false := by
  have : ps.all (fun s => decide (s.size ≤ 240)) = false := by
    rw [List.all_eq_false]
    exact ⟨ps[k], List.getElem_mem h, by simp; omega⟩
  rw [diskOkB, this]; rfl

theorem diskOk_late {ps : List ByteArray} {ls : List (Int × ByteArray)} {k : Nat} (h : k < ls.length) (hb : ¬ (0 ≤ ls[k].1 ∧ ls[k].1 < (ps.length : Int) ∧ ls[k].2.size ≤ 240)) : diskOkB ps ls = false := by
  have : ls.all (fun p => decide (0 ≤ p.1 ∧ p.1 < (ps.length : Int) ∧ p.2.size ≤ 240)) = false := by
    rw [List.all_eq_false]
    exact ⟨ls[k], List.getElem_mem h, by simpa using hb⟩
  rw [diskOkB, this]; simp

theorem diskOk_all {ps : List ByteArray} {ls : List (Int × ByteArray)} (h1 : ∀ i (h : i < ps.length), ps[i].size ≤ 240) (h2 : ∀ i (h : i < ls.length), 0 ≤ ls[i].1 ∧ ls[i].1 < (ps.length : Int) ∧ ls[i].2.size ≤ 240) : diskOkB ps ls = decide (4 ≤ ps.length ∧ ps.length ≤ 40 ∧ ls.length ≤ 200) := by
  have e1 : ps.all (fun s => decide (s.size ≤ 240)) = true := by
    rw [List.all_eq_true]
    intro s hs
    obtain ⟨i, hi, rfl⟩ := List.getElem_of_mem hs
    simpa using h1 i hi
  have e2 : ls.all (fun p => decide (0 ≤ p.1 ∧ p.1 < (ps.length : Int) ∧ p.2.size ≤ 240)) = true := by
    rw [List.all_eq_true]
    intro s hs
    obtain ⟨i, hi, rfl⟩ := List.getElem_of_mem hs
    simpa using h2 i hi
  rw [diskOkB, e1, e2]; rfl

theorem diskOk_yes {ps : List ByteArray} {ls : List (Int × ByteArray)} (h : diskOkB ps ls = true) : (∀ s ∈ ps, s.size ≤ 240) ∧ (∀ p ∈ ls, 0 ≤ p.1 ∧ p.1 < (ps.length : Int) ∧ p.2.size ≤ 240) ∧ 4 ≤ ps.length ∧ ps.length ≤ 40 ∧ ls.length ≤ 200 := by
  unfold diskOkB at h
  simp only [Bool.and_eq_true, List.all_eq_true, decide_eq_true_eq] at h
  obtain ⟨⟨h1, h2⟩, h3⟩ := h
  exact ⟨h1, h2, h3⟩

/-- a put is kept -/
def putD (ps : List ByteArray) (p : Int × ByteArray) : List ByteArray := if 0 ≤ p.1 ∧ p.1 < (ps.length : Int) then ps.set p.1.toNat p.2 else ps

/-- all that is late is kept, in order -/
def syncD (ps : List ByteArray) (ls : List (Int × ByteArray)) : List ByteArray := ls.foldl putD ps

theorem putD_length (ps : List ByteArray) (p : Int × ByteArray) : (putD ps p).length = ps.length := by
  unfold putD
  split
  · rw [List.length_set]
  · rfl

theorem syncD_length (ls : List (Int × ByteArray)) : ∀ ps : List ByteArray, (syncD ps ls).length = ps.length := by
  induction ls with
  | nil => intro ps; rfl
  | cons p ls ih => intro ps; rw [syncD, List.foldl_cons]; exact (ih _).trans (putD_length ps p)

theorem syncD_succ (ps : List ByteArray) (ls : List (Int × ByteArray)) (k : Nat) (h : k < ls.length) : syncD ps (ls.take (k + 1)) = putD (syncD ps (ls.take k)) ls[k] := by
  rw [List.take_succ_eq_append_getElem h, syncD, List.foldl_append]
  rfl

end Go.Proofs.YtdcmpjefemcppaaDoor

namespace Go.Proofs.YtdcmpjefemcppaaDoor
open Go.RowKit

theorem l01In_any (x a b : Int) (w : World) : Calls Tryd.prog 46 #[.int .i64 x, .int .i64 a, .int .i64 b] w fun e w' => e = .returned (.bool (decide (a ≤ x ∧ x ≤ b))) ∧ w = w' := by
  by_cases h : a ≤ x ∧ x ≤ b
  · rw [decide_eq_true h]; exact l01In_yes x a b w h.1 h.2
  · rw [decide_eq_false h]; exact l01In_no x a b w (by omega)

set_option maxHeartbeats 1000000 in
theorem specReadPage_any (v : Value) (ps : List ByteArray) (ls : List (Int × ByteArray)) (hp : ps.length ≤ 1048576) (hl : ls.length ≤ 1048576) (page : Int) (w : World) (hd : DiskAt w v ps ls) :
    Calls Tryd.prog 31 #[v, .int .i64 page] w fun e w' => e = .returned (.string (readD ps ls page)) ∧ Below w.heap.size w w' := by
  obtain ⟨vp, vl, rfl, h1, h2⟩ := hd
  obtain ⟨x1, c1, rfl⟩ : ∃ a cap, vp = .slice a ps.length cap := by obtain ⟨-, a, cap, e, -⟩ := h1; exact ⟨a, cap, e⟩
  obtain ⟨x2, c2, rfl⟩ : ∃ a cap, vl = .slice a ls.length cap := by obtain ⟨-, a, cap, e, -⟩ := h2; exact ⟨a, cap, e⟩
  have H1 := hide h1
  have H2 := hide h2
  clear h1 h2
  have HC := hide (l01In_any page 0 ((ps.length : Int) - 1))
  have hb0 : Below w.heap.size w (w.alloc (Obj.cells #[.slice x1 ps.length c1, .slice x2 ls.length c2] 32)) := (Below.refl w.heap.size w).alloc (Nat.le_refl _) _
  have HB0 := hide hb0
  clear hb0
  by_cases hin : 0 ≤ page ∧ page ≤ (ps.length : Int) - 1
  · rw [decide_eq_true hin] at HC
    go_enter Tryd.func31, Tryd.ntmps31
    go_wp2_with fail
    refine (HC.out _).mono ?_
    rintro e w1 ⟨rfl, rfl⟩
    go_wp2_with fail
    obtain ⟨w0, hw0⟩ : ∃ w0, w0 = w.alloc (Obj.cells #[.slice x1 ps.length c1, .slice x2 ls.length c2] 32) := ⟨_, rfl⟩
    rw [← hw0]
    rw [← hw0] at HB0
    have hblk : w0.heap[w.heap.size]? = some (Obj.cells #[.slice x1 ps.length c1, .slice x2 ls.length c2] 32) := by rw [hw0]; exact heap_alloc_new w _
    have cb0 : w0.cell? ⟨w.heap.size, 0, none⟩ = some (.slice x1 ps.length c1) := (cell_at hblk 0).1
    have cb1 : w0.cell? ⟨w.heap.size, 1, none⟩ = some (.slice x2 ls.length c2) := (cell_at hblk 1).1
    clear hw0 hblk
    go_loopg [5] ls.length (fun q iv wr => ∃ k : Nat, k ≤ ls.length ∧ iv = .int .i64 ((k : Int) - 1) ∧ q = k ∧ Hid (lateAt ls page ls.length = lateAt ls page k) ∧ w0 = wr)
    case atStart => exact ⟨ls.length, Nat.le_refl _, rfl, rfl, hide rfl, rfl⟩
    case round =>
      obtain ⟨k, hk, rfl, hgk, HL, rfl⟩ := hrel
      have HGk := hide hgk
      clear hgk
      by_cases hk0 : k = 0
      · subst hk0
        have HO : Hid (readD ps ls page = ps.getD page.toNat ⟨#[]⟩) := hide (readD_page (by omega) (by rw [HL.out]; rfl))
        obtain ⟨n, hn⟩ := Int.eq_ofNat_of_zero_le hin.1
        have hnl : n < ps.length := by omega
        obtain ⟨x, hx⟩ : ∃ x, x = ps.getD page.toNat ⟨#[]⟩ := ⟨_, rfl⟩
        rcases H1.out.2 with ⟨a, cap, e, h0 | ⟨b, off, e2, hbl, hc⟩⟩
        · omega
        · injection e with e1 e3 e4
          subst e1 e4
          subst e2
          have hcell : w0.cell? ⟨b, off + n, none⟩ = some (.string x) := by
            rw [HB0.out.cell (by exact hbl), hc n (by omega), strs_at ps n hnl, hx, hn]
            simp [List.getD, hnl]
          rw [← hx] at HO
          subst hn
          have hi0 : (0 : Int) ≤ (n : Int) := by omega
          have hi1 : (n : Int) < (ps.length : Int) := by omega
          clear hx hc
          go_wp2_with fail
          go_ret
          rw [HO.out]
          exact ⟨rfl, HB0.out⟩
      · obtain ⟨j, rfl⟩ : ∃ j, k = j + 1 := ⟨k - 1, by omega⟩
        have hjl : j < ls.length := by omega
        rcases H2.out.2 with ⟨a, cap, e, h0 | ⟨b, off, e2, hbl, hc⟩⟩
        · omega
        · injection e with e1 e3 e4
          subst e1 e4
          subst e2
          obtain ⟨q, t, hqt⟩ : ∃ q t, (q, t) = ls[j] := ⟨_, _, rfl⟩
          have hget : ls[j]? = some (q, t) := by rw [List.getElem?_eq_getElem hjl, hqt]
          have hc0 : w0.cell? ⟨b, off + j * 2, none⟩ = some (.int .i64 q) := by rw [HB0.out.cell (by exact hbl), hc (j * 2) (by omega), (puts_at ls j hjl).1, ← hqt]
          have hc1 : w0.cell? ⟨b, off + j * 2 + 1, none⟩ = some (.string t) := by rw [HB0.out.cell (by exact hbl), Nat.add_assoc, hc (j * 2 + 1) (by omega), (puts_at ls j hjl).2, ← hqt]
          have hi0 : (0 : Int) ≤ (j : Int) := by omega
          have hi1 : (j : Int) < (ls.length : Int) := by omega
          have hij : ((j + 1 : Nat) : Int) - 1 = (j : Int) := by omega
          rw [hij]
          have HGet := hide hget
          clear hc hqt hget hij
          by_cases hq : q = page
          · subst hq
            have HO : Hid (readD ps ls q = t) := hide (readD_late (by omega) (by rw [HL.out]; exact lateAt_hit HGet.out))
            go_wp2_with fail
            go_ret
            rw [HO.out]
            exact ⟨rfl, HB0.out⟩
          · have HL2 : Hid (lateAt ls page ls.length = lateAt ls page j) := hide (by rw [HL.out]; exact lateAt_miss HGet.out hq)
            go_wp2_with fail
            go_roundg j
            case measure => have := HGk.out; omega
            case rel => exact ⟨j, by omega, by go_num, rfl, HL2, rfl⟩
  · rw [decide_eq_false hin] at HC
    have HO : Hid (readD ps ls page = ⟨#[]⟩) := hide (readD_out (by omega))
    go_enter Tryd.func31, Tryd.ntmps31
    go_wp2_with fail
    refine (HC.out _).mono ?_
    rintro e w1 ⟨rfl, rfl⟩
    go_wp2_with fail
    go_ret
    rw [HO.out]
    exact ⟨rfl, HB0.out⟩

end Go.Proofs.YtdcmpjefemcppaaDoor

namespace Go.Proofs.YtdcmpjefemcppaaDoor
open Go.RowKit

theorem readD_smallG {ps : List ByteArray} {ls : List (Int × ByteArray)} {M : Nat} (hps : ∀ s ∈ ps, s.size ≤ M) (hls : ∀ p ∈ ls, p.2.size ≤ M) (page : Int) : (readD ps ls page).size ≤ M := by
  have hlate : ∀ k t, lateAt ls page k = some t → t.size ≤ M := fun k => by
    induction k with
    | zero => intro t h; simp [lateAt] at h
    | succ k ih =>
      intro t h
      rw [lateAt] at h
      split at h
      · next p hp =>
        split at h
        · injection h with h
          rw [← h]
          exact hls p (List.mem_of_getElem? hp)
        · exact ih t h
      · exact ih t h
  unfold readD
  split
  · split
    · next t h => exact hlate _ _ h
    · rw [List.getD_eq_getElem?_getD]
      cases h : ps[page.toNat]? with
      | none => exact Nat.zero_le _
      | some x => exact hps x (List.mem_of_getElem? h)
  · exact Nat.zero_le _

/-- from page p on, q levels (page 0: nothing) -/
noncomputable def getZ (D : Int → ByteArray) (key : ByteArray) (q : Nat) (p : Int) : Option ByteArray := if p = 0 then none else getL D key q p

theorem getL_no {D : Int → ByteArray} {key : ByteArray} {q : Nat} {p : Int} {n : Nd} {ok : Bool} (h : rdN (D p) = (n, ok)) (hb : ok = false ∨ placeK n.ks key n.ks.length < 0) : getL D key (q + 1) p = none := by
  rw [getL, h, if_pos hb]

theorem getL_leaf {D : Int → ByteArray} {key : ByteArray} {q : Nat} {p : Int} {n : Nd} {i : Nat} (h : rdN (D p) = (n, true)) (hl : n.lf = true) (hi : placeK n.ks key n.ks.length = (i : Int)) : getL D key (q + 1) p = if n.ks.getD i ⟨#[]⟩ = key then some (n.vs.getD i ⟨#[]⟩) else none := by
  rw [getL, h, if_neg (by rintro (h | h); cases h; rw [hi] at h; omega), if_pos hl]
  simp only [hi, Int.toNat_natCast]

theorem getL_kid {D : Int → ByteArray} {key : ByteArray} {q : Nat} {p : Int} {n : Nd} {i : Nat} (h : rdN (D p) = (n, true)) (hl : n.lf = false) (hi : placeK n.ks key n.ks.length = (i : Int)) : getL D key (q + 1) p = getL D key q (n.cs.getD i 0) := by
  rw [getL, h, if_neg (by rintro (h | h); cases h; rw [hi] at h; omega), if_neg (by rw [hl]; decide)]
  simp only [hi, Int.toNat_natCast]

/-- a kid of a right node is no page 0 -/
theorem kid_pos {n : Nd} (h : n.ok = true) {i : Nat} (hi : i < n.cs.length) : 2 ≤ n.cs.getD i 0 ∧ n.cs.getD i 0 ≤ 39 := by
  have := (node_yes h).2.2.2 i hi
  unfold kidB at this
  rw [Bool.and_eq_true, decide_eq_true_eq] at this
  exact this.1

theorem row_getS {w : World} {B n c : Nat} {a : Option Addr} {l : List ByteArray} (h : w.ownsRow B 9 1 (.slice a n c) n (strs l)) {i : Nat} (hi : i < l.length) (hn : n = l.length) : ∃ g, a = some ⟨g, 0, none⟩ ∧ w.cell? ⟨g, i, none⟩ = some (.string (l.getD i ⟨#[]⟩)) := by
  rcases h.2 with ⟨-, h0⟩ | ⟨g, c', cur, e, -⟩
  · omega
  · injection e with e1 _ e2
    subst e1 e2
    refine ⟨g, rfl, ?_⟩
    rw [h.cellAt i (by omega), strs_at l i hi]
    simp [List.getD, hi]

theorem row_getI {w : World} {B n c : Nat} {a : Option Addr} {l : List Int} (h : w.ownsRow B 3 1 (.slice a n c) n (ints l)) {i : Nat} (hi : i < l.length) (hn : n = l.length) : ∃ g, a = some ⟨g, 0, none⟩ ∧ w.cell? ⟨g, i, none⟩ = some (.int .i64 (l.getD i 0)) := by
  rcases h.2 with ⟨-, h0⟩ | ⟨g, c', cur, e, -⟩
  · omega
  · injection e with e1 _ e2
    subst e1 e2
    refine ⟨g, rfl, ?_⟩
    rw [h.cellAt i (by omega), ints, List.getElem?_map, List.getElem?_eq_getElem hi]
    simp [List.getD, hi]

/-- what one level tells -/
inductive Lvl (D : Int → ByteArray) (key : ByteArray) (n : Nd) (ok : Bool) (at_ : Int) (q : Nat) (p : Int) : Prop
  | no (h : (!ok || decide (at_ < 0)) = true) (e : getL D key (q + 1) p = none)
  | leaf (i : Nat) (h1 : ok = true) (h2 : n.lf = true) (h3 : at_ = (i : Int)) (h4 : i < n.ks.length) (h5 : i < n.vs.length) (e : getL D key (q + 1) p = if n.ks.getD i ⟨#[]⟩ = key then some (n.vs.getD i ⟨#[]⟩) else none)
  | kid (i : Nat) (h1 : ok = true) (h2 : n.lf = false) (h3 : at_ = (i : Int)) (h4 : i < n.cs.length) (h5 : n.cs.getD i 0 ≠ 0) (e : getL D key (q + 1) p = getL D key q (n.cs.getD i 0))

theorem lvl_of {D : Int → ByteArray} {key : ByteArray} {n : Nd} {ok : Bool} {p : Int} (h : ReadN (D p) n ok) (q : Nat) : Lvl D key n ok (placeK n.ks key n.ks.length) q p := by
  have hr := rdN_of h
  obtain ⟨hp1, hp2⟩ := placeK_range n.ks key n.ks.length
  cases ok with
  | false => exact .no rfl (getL_no hr (Or.inl rfl))
  | true =>
    have hok := rdN_ok hr
    obtain ⟨e1, e2⟩ := even_ok hok
    by_cases hneg : placeK n.ks key n.ks.length < 0
    · exact .no (by simp [hneg]) (getL_no hr (Or.inr hneg))
    · obtain ⟨i, hi⟩ : ∃ i : Nat, placeK n.ks key n.ks.length = (i : Int) := ⟨(placeK n.ks key n.ks.length).toNat, by omega⟩
      cases hl : n.lf with
      | true => exact .leaf i rfl hl hi (by omega) (by rw [(e1 hl).1]; omega) (getL_leaf hr hl hi)
      | false =>
        have hc : i < n.cs.length := by rw [(e2 hl).1]; omega
        exact .kid i rfl hl hi hc (by have := kid_pos hok hc; omega) (getL_kid hr hl hi)

set_option maxHeartbeats 4000000 in
set_option maxRecDepth 100000 in
theorem specGetKey_any (v : Value) (ps : List ByteArray) (ls : List (Int × ByteArray)) (hp : ps.length ≤ 1048576) (hl : ls.length ≤ 1048576) (hps : ∀ s ∈ ps, s.size ≤ 1048576) (hls : ∀ p ∈ ls, p.2.size ≤ 1048576) (root : Int) (key : ByteArray) (w : World) (hd : DiskAt w v ps ls) :
    Calls Tryd.prog 15 #[v, .int .i64 root, .string key] w fun e w' => e = .returned (getO (getK (readD ps ls) root key)) ∧ Below w.heap.size w w' := by
  have HRP := hide (fun p wx h => specReadPage_any v ps ls hp hl p wx h)
  have HRN := hide (fun p wx => specReadNode_any (readD ps ls p) (readD_smallG hps hls p) wx)
  have HD := hide hd
  obtain ⟨D, hD⟩ : ∃ D, D = readD ps ls := ⟨_, rfl⟩
  rw [← hD] at HRP HRN ⊢
  obtain ⟨vp, vl, rfl, -, -⟩ := hd
  obtain ⟨w0, hw0⟩ : ∃ w0, w0 = w.alloc (.cells #[vp, vl] 32 (0, 0)) := ⟨_, rfl⟩
  have HB0 : Hid (Below w.heap.size w w0) := hide (by rw [hw0]; exact (Below.refl w.heap.size w).alloc (Nat.le_refl _) _)
  have HV0 : Hid (w0.heap[w.heap.size]? = some (.cells #[vp, vl] 32 (0, 0))) := hide (by rw [hw0]; exact heap_alloc_new w _)
  obtain ⟨r, hr⟩ : ∃ r, r = getK D root key := ⟨_, rfl⟩
  rw [← hr]
  have HR : Hid (r = getZ D key 8 root) := hide hr
  clear hr hp hl hps hls hD
  go_enter Tryd.func15, Tryd.ntmps15
  go_wp2_with fail
  rw [← hw0]
  clear hw0
  go_loopg [8, 1] 8 (fun q dv rv wr => ∃ (k : Nat) (p : Int), q + k = 8 ∧ dv = .int .i64 (k : Int) ∧ rv = .int .i64 p ∧ Hid (r = getZ D key q p) ∧ Hid (Below w.heap.size w wr) ∧ Hid (wr.heap[w.heap.size]? = some (.cells #[vp, vl] 32 (0, 0))))
  case atStart => exact ⟨0, root, rfl, rfl, rfl, HR, HB0, HV0⟩
  case round =>
    obtain ⟨k, p, hq, rfl, rfl, HG, HB, HV⟩ := hrel
    have p0 := (cell_at HV.out 0).1
    have p1 := (cell_at HV.out 1).1
    cases gk with
    | zero =>
      have hk : k = 8 := by omega
      subst hk
      have HO : Hid (r = none) := hide (by rw [HG.out, getZ]; split <;> rfl)
      go_wp2_with fail
      go_ret2
      rw [HO.out]
      exact ⟨rfl, HB.out⟩
    | succ q =>
      have hk : (k : Int) < 8 := by omega
      by_cases hz : p = 0
      · have HO : Hid (r = none) := hide (by rw [HG.out, getZ, if_pos hz])
        subst hz
        go_wp2_with fail
        go_ret2
        rw [HO.out]
        exact ⟨rfl, HB.out⟩
      · rw [getZ, if_neg hz] at HG
        go_wp2_with fail
        refine (HRP.out p _ (disk_below HD.out HB.out)).mono ?_
        rintro e w1 ⟨rfl, hb1⟩
        have HB1 : Hid (Below w.heap.size w w1) := hide (HB.out.trans (hb1.mono HB.out.size))
        have HV1 := hide (stays HV.out hb1)
        clear hb1 p0 p1
        go_wp2_with fail
        refine (HRN.out p _).mono ?_
        rintro e w2 ⟨n, v2, ok, rfl, hrn, hno, hb2⟩
        have HB2 : Hid (Below w.heap.size w w2) := hide (HB1.out.trans (hb2.mono HB1.out.size))
        have HV2 := hide (stays HV1.out hb2)
        have HL := hide (lvl_of (key := key) hrn q)
        have HN := hide hno
        obtain ⟨a1, c1, a2, c2, a3, c3, rfl⟩ := nodeOwn_cells hno
        have HPl := hide (fun wx h => specPlaceOf_any (.agg #[.bool n.lf, .slice a1 n.ks.length c1, .slice a2 n.vs.length c2, .slice a3 n.cs.length c3]) n.lf n.ks n.vs n.cs (by have := (readN_len hrn).1; omega) key wx h)
        obtain ⟨at_, hat⟩ : ∃ at_, at_ = placeK n.ks key n.ks.length := ⟨_, rfl⟩
        rw [← hat] at HL HPl
        obtain ⟨lf, hlf⟩ : ∃ lf, lf = n.lf := ⟨_, rfl⟩
        have HLf := hide hlf
        rw [← hlf] at HPl HN ⊢
        obtain ⟨lk, hlk⟩ : ∃ lk, lk = n.ks.length := ⟨_, rfl⟩
        obtain ⟨lv, hlv⟩ : ∃ lv, lv = n.vs.length := ⟨_, rfl⟩
        obtain ⟨lc, hlc⟩ : ∃ lc, lc = n.cs.length := ⟨_, rfl⟩
        rw [← hlk, ← hlv, ← hlc] at HPl HN ⊢
        have HLn := hide (⟨hlk, hlv, hlc⟩ : _ ∧ _ ∧ _)
        obtain ⟨wa, hwa⟩ : ∃ wa, wa = w2.alloc (.cells #[.bool lf, .slice a1 lk c1, .slice a2 lv c2, .slice a3 lc c3] 59 (0, 0)) := ⟨_, rfl⟩
        have hba : Below w2.heap.size w2 wa := by rw [hwa]; exact (Below.refl _ _).alloc (Nat.le_refl _) _
        obtain ⟨g, hg⟩ : ∃ g, g = w2.heap.size := ⟨_, rfl⟩
        have HNa : Hid (wa.heap[g]? = some (.cells #[.bool lf, .slice a1 lk c1, .slice a2 lv c2, .slice a3 lc c3] 59 (0, 0))) := hide (by rw [hwa, hg]; exact heap_alloc_new w2 _)
        have HBa : Hid (Below w.heap.size w wa) := hide (HB2.out.trans (hba.mono HB2.out.size))
        have HVa := hide (stays HV2.out hba)
        have HOa := hide (nodeOwn_below HN.out hba)
        clear hrn hb2 hat hlf hba hlk hlv hlc hno
        go_wp2_with fail
        rw [← hwa, ← hg]
        clear hwa hg
        refine (HPl.out _ (node_of_own HOa.out)).mono ?_
        rintro e w3 ⟨rfl, hb3⟩
        have HB3 : Hid (Below w.heap.size w w3) := hide (HBa.out.trans (hb3.mono HBa.out.size))
        have HV3 := hide (stays HVa.out hb3)
        have HN3 := stays HNa.out hb3
        have n0 := (cell_at HN3 0).1
        have n1 := (cell_at HN3 1).1
        have n2 := (cell_at HN3 2).1
        have n3 := (cell_at HN3 3).1
        have HO3 := hide (nodeOwn_below HOa.out hb3)
        clear hb3 HN3
        rcases HL.out with ⟨h, e⟩ | ⟨i, h1, h2, h3, h4, h5, e⟩ | ⟨i, h1, h2, h3, h4, h5, e⟩
        · have HO : Hid (r = none) := hide (by rw [HG.out, e])
          clear e
          cases ok with
          | false =>
            go_wp2_with fail
            go_ret2
            rw [HO.out]
            exact ⟨rfl, HB3.out⟩
          | true =>
            have hneg : at_ < 0 := by simpa using h
            go_wp2_with fail
            go_ret2
            rw [HO.out]
            exact ⟨rfl, HB3.out⟩
        · have hl : lf = true := HLf.out.trans h2
          subst hl
          subst h1
          subst h3
          obtain ⟨vk', vv', vc', eq, o1, o2, -, -⟩ := HO3.out
          obtain ⟨-, rfl, rfl, rfl⟩ := agg4 eq
          obtain ⟨hlk, hlv, hlc⟩ := HLn.out
          rw [← hlk] at o1 h4
          rw [← hlv] at o2 h5
          obtain ⟨gk', rfl, hck⟩ := row_getS (i := i) o1 (by omega) hlk
          obtain ⟨gv, rfl, hcv⟩ := row_getS (i := i) o2 (by omega) hlv
          obtain ⟨x, hx⟩ : ∃ x, x = n.ks.getD i ⟨#[]⟩ := ⟨_, rfl⟩
          obtain ⟨y, hy⟩ : ∃ y, y = n.vs.getD i ⟨#[]⟩ := ⟨_, rfl⟩
          rw [← hx] at hck
          rw [← hy] at hcv
          have HG2 : Hid (r = if x = key then some y else none) := hide (by rw [HG.out, e, hx, hy])
          have hbq := ba_beq x key
          have hi0 : (0 : Int) ≤ (i : Int) := by omega
          have hi1 : (i : Int) < (lk : Int) := by omega
          have hi2 : (i : Int) < (lv : Int) := by omega
          have hi3 : ¬ ((i : Int) < 0) := by omega
          clear e hx hy o1 o2 eq h2 h4 h5 hlk hlv hlc
          by_cases hxk : x = key
          · rw [if_pos hxk] at HG2
            rw [decide_eq_true hxk] at hbq
            go_wp2_with fail
            go_ret2
            rw [HG2.out]
            exact ⟨rfl, HB3.out⟩
          · rw [if_neg hxk] at HG2
            rw [decide_eq_false hxk] at hbq
            go_wp2_with fail
            go_ret2
            rw [HG2.out]
            exact ⟨rfl, HB3.out⟩
        · have hl : lf = false := HLf.out.trans h2
          subst hl
          subst h1
          subst h3
          obtain ⟨vk', vv', vc', eq, -, -, o3, -⟩ := HO3.out
          obtain ⟨-, rfl, rfl, rfl⟩ := agg4 eq
          obtain ⟨hlk, hlv, hlc⟩ := HLn.out
          rw [← hlc] at o3 h4
          obtain ⟨gc, rfl, hcc⟩ := row_getI (i := i) o3 (by omega) hlc
          obtain ⟨c, hc⟩ : ∃ c, c = n.cs.getD i 0 := ⟨_, rfl⟩
          rw [← hc] at hcc e h5
          have HG2 : Hid (r = getZ D key q c) := hide (by rw [HG.out, e, getZ, if_neg h5])
          have hi0 : (0 : Int) ≤ (i : Int) := by omega
          have hi1 : (i : Int) < (lc : Int) := by omega
          have hi3 : ¬ ((i : Int) < 0) := by omega
          clear e hc o3 eq h2 h4 h5 hlk hlv hlc
          go_wp2_with fail
          go_roundg q
          case measure => omega
          case rel => exact ⟨k + 1, c, by omega, by go_num, rfl, HG2, HB3, HV3⟩
end Go.Proofs.YtdcmpjefemcppaaDoor

namespace Go.Proofs.YtdcmpjefemcppaaDoor
open Go.RowKit

/-- the pages of a new disk -/
def newP (n : Int) : List ByteArray := if 4 ≤ n ∧ n ≤ 40 then List.replicate n.toNat ⟨#[]⟩ else []

/-- whether a put is taken -/
def writeOk (ps : List ByteArray) (ls : List (Int × ByteArray)) (page : Int) (text : ByteArray) : Bool := diskOkB ps ls && decide (0 ≤ page ∧ page ≤ (ps.length : Int) - 1) && decide (text.size ≤ 240) && decide (ls.length ≠ 200)

/-- what is late behind it -/
def writeL (ps : List ByteArray) (ls : List (Int × ByteArray)) (page : Int) (text : ByteArray) : List (Int × ByteArray) := if writeOk ps ls page text = true then ls ++ [(page, text)] else ls

theorem writeL_le {ps : List ByteArray} {ls : List (Int × ByteArray)} {page : Int} {text : ByteArray} (h : ls.length ≤ 1048576) : (writeL ps ls page text).length ≤ 1048576 := by
  rw [writeL]
  split
  · next hw =>
    rw [writeOk] at hw
    simp only [Bool.and_eq_true] at hw
    have := (diskOk_yes hw.1.1.1).2.2.2.2
    simp
    omega
  · exact h

/-- the text that is kept of the one at the place k -/
def fallT (torn : Int) (k : Nat) (t : ByteArray) : ByteArray := if (k : Int) = torn then t.extract 0 (t.size / 2) else t

/-- the pages behind the first k of what was late -/
def fallK (left : List Bool) (torn : Int) (ps : List ByteArray) (ls : List (Int × ByteArray)) : Nat → List ByteArray
  | 0 => ps
  | k + 1 => match ls[k]? with
    | some p => if left.getD k false = true then putD (fallK left torn ps ls k) (p.1, fallT torn k p.2) else fallK left torn ps ls k
    | none => fallK left torn ps ls k

theorem fallK_length (left : List Bool) (torn : Int) (ps : List ByteArray) (ls : List (Int × ByteArray)) (k : Nat) : (fallK left torn ps ls k).length = ps.length := by
  induction k with
  | zero => rfl
  | succ k ih =>
    rw [fallK]
    split
    · split
      · rw [putD_length, ih]
      · exact ih
    · exact ih

theorem fallK_put {left : List Bool} {torn : Int} {ps : List ByteArray} {ls : List (Int × ByteArray)} {k : Nat} {q : Int} {t : ByteArray} (h : ls[k]? = some (q, t)) (hl : left.getD k false = true) : fallK left torn ps ls (k + 1) = putD (fallK left torn ps ls k) (q, fallT torn k t) := by
  rw [fallK, h]
  exact if_pos hl

theorem fallK_lost {left : List Bool} {torn : Int} {ps : List ByteArray} {ls : List (Int × ByteArray)} {k : Nat} (hl : left.getD k false = false) : fallK left torn ps ls (k + 1) = fallK left torn ps ls k := by
  rw [fallK]
  split
  · exact if_neg (by rw [hl]; decide)
  · rfl

/-- what falls: the pages, and what is late -/
def fallP (left : List Bool) (torn : Int) (ps : List ByteArray) (ls : List (Int × ByteArray)) : List ByteArray := if diskOkB ps ls = true then fallK left torn ps ls ls.length else ps
def fallL (ps : List ByteArray) (ls : List (Int × ByteArray)) : List (Int × ByteArray) := if diskOkB ps ls = true then [] else ls

end Go.Proofs.YtdcmpjefemcppaaDoor

namespace Go.Proofs.YtdcmpjefemcppaaDoor
open Go.RowKit

set_option maxHeartbeats 400000 in
theorem hasPage_any (a : Option Addr) (n cap : Nat) (vl : Value) (page : Int) (w : World) :
    Calls Tryd.prog 54 #[.agg #[.slice a n cap, vl], .int .i64 page] w fun e w' => e = .returned (.bool (decide (0 ≤ page ∧ page < (n : Int)))) ∧ Below w.heap.size w w' := by
  have HB : Hid (∀ o, Below w.heap.size w (w.alloc o)) := hide (fun o => (Below.refl w.heap.size w).alloc (Nat.le_refl _) _)
  by_cases h0 : 0 ≤ page
  · by_cases h1 : page < (n : Int)
    · rw [decide_eq_true (show 0 ≤ page ∧ page < (n : Int) from ⟨h0, h1⟩)]
      have h2 : decide (0 ≤ page) = true := decide_eq_true h0
      have h3 : decide (page < (n : Int)) = true := decide_eq_true h1
      go_enter Tryd.func54, Tryd.ntmps54
      go_wp2
      go_ret
      exact ⟨rfl, HB.out _⟩
    · rw [decide_eq_false (show ¬ (0 ≤ page ∧ page < (n : Int)) from fun h => h1 h.2)]
      have h2 : decide (0 ≤ page) = true := decide_eq_true h0
      have h3 : decide (page < (n : Int)) = false := decide_eq_false h1
      go_enter Tryd.func54, Tryd.ntmps54
      go_wp2
      go_ret
      exact ⟨rfl, HB.out _⟩
  · rw [decide_eq_false (show ¬ (0 ≤ page ∧ page < (n : Int)) from fun h => h0 h.1)]
    have h2 : decide (0 ≤ page) = false := decide_eq_false h0
    go_enter Tryd.func54, Tryd.ntmps54
    go_wp2
    go_ret
    exact ⟨rfl, HB.out _⟩

theorem Tryd.infoDiskI : (Tryd.prog.info? 32).map (fun i => (i.zero, i.size, i.bytes)) = some (some (.agg #[.slice none 0 0, .slice none 0 0]), 2, 48) := by kernel_rfl

set_option maxHeartbeats 2000000 in
set_option maxRecDepth 100000 in
theorem implReadPage_any (v : Value) (ps : List ByteArray) (ls : List (Int × ByteArray)) (_hp : ps.length ≤ 1048576) (hl : ls.length ≤ 1048576) (hps : ∀ s ∈ ps, s.size ≤ 1048576) (hls : ∀ p ∈ ls, p.2.size ≤ 1048576) (page : Int) (w : World) (hd : DiskAt w v ps ls) :
    Calls Tryd.prog 37 #[v, .int .i64 page] w fun e w' => e = .returned (.string (readD ps ls page)) ∧ Below w.heap.size w w' := by
  obtain ⟨vp, vl, rfl, h1, h2⟩ := hd
  obtain ⟨x1, c1, rfl⟩ : ∃ a cap, vp = .slice a ps.length cap := by obtain ⟨-, a, cap, e, -⟩ := h1; exact ⟨a, cap, e⟩
  obtain ⟨x2, c2, rfl⟩ : ∃ a cap, vl = .slice a ls.length cap := by obtain ⟨-, a, cap, e, -⟩ := h2; exact ⟨a, cap, e⟩
  have H1 := hide h1
  have H2 := hide h2
  have HPs := hide hps
  have HLs := hide hls
  clear h1 h2 hps hls
  have HC := hide (hasPage_any x1 ps.length c1 (.slice x2 ls.length c2) page)
  obtain ⟨w0, hw0⟩ : ∃ w0, w0 = w.alloc (Obj.cells #[.slice x1 ps.length c1, .slice x2 ls.length c2] 32) := ⟨_, rfl⟩
  have hb0 : Below w.heap.size w w0 := by rw [hw0]; exact (Below.refl w.heap.size w).alloc (Nat.le_refl _) _
  have hblk : w0.heap[w.heap.size]? = some (Obj.cells #[.slice x1 ps.length c1, .slice x2 ls.length c2] 32) := by rw [hw0]; exact heap_alloc_new w _
  have HB0 := hide hb0
  have HBk := hide hblk
  clear hb0 hblk
  by_cases hin : 0 ≤ page ∧ page < (ps.length : Int)
  · rw [decide_eq_true hin] at HC
    go_enter Tryd.func37, Tryd.ntmps37
    go_wp2_with fail
    rw [← hw0]
    clear hw0
    refine (HC.out _).mono ?_
    rintro e w1 ⟨rfl, hb1⟩
    have hblk1 : w1.heap[w.heap.size]? = some (Obj.cells #[.slice x1 ps.length c1, .slice x2 ls.length c2] 32) := (hb1.block _ (Array.getElem?_eq_some_iff.1 HBk.out).1).trans HBk.out
    have HB1 : Hid (Below w.heap.size w w1) := hide (HB0.out.trans (hb1.mono HB0.out.size))
    have cb0 : w1.cell? ⟨w.heap.size, 0, none⟩ = some (.slice x1 ps.length c1) := (cell_at hblk1 0).1
    have cb1 : w1.cell? ⟨w.heap.size, 1, none⟩ = some (.slice x2 ls.length c2) := (cell_at hblk1 1).1
    clear hb1 hblk1
    go_wp2_with fail
    go_loopg [5] ls.length (fun q iv wr => ∃ k : Nat, k ≤ ls.length ∧ iv = .int .i64 ((k : Int) - 1) ∧ q = k ∧ Hid (lateAt ls page ls.length = lateAt ls page k) ∧ w1 = wr)
    case atStart => exact ⟨ls.length, Nat.le_refl _, rfl, rfl, hide rfl, rfl⟩
    case round =>
      obtain ⟨k, hk, rfl, hgk, HL, rfl⟩ := hrel
      have HGk := hide hgk
      clear hgk
      by_cases hk0 : k = 0
      · subst hk0
        have HO : Hid (readD ps ls page = ps.getD page.toNat ⟨#[]⟩) := hide (readD_page (by omega) (by rw [HL.out]; rfl))
        obtain ⟨n, hn⟩ := Int.eq_ofNat_of_zero_le hin.1
        have hnl : n < ps.length := by omega
        obtain ⟨x, hx⟩ : ∃ x, x = ps.getD page.toNat ⟨#[]⟩ := ⟨_, rfl⟩
        rcases H1.out.2 with ⟨a, cap, e, h0 | ⟨b, off, e2, hbl, hc⟩⟩
        · omega
        · injection e with e1 e3 e4
          subst e1 e4
          subst e2
          have hxe : x = ps[n] := by rw [hx, hn]; simp [List.getD, hnl]
          have hcell : w1.cell? ⟨b, off + n, none⟩ = some (.string x) := by
            rw [HB1.out.cell (by exact hbl), hc n (by omega), strs_at ps n hnl, hxe]
          have hxs : x.size ≤ 1048576 := by rw [hxe]; exact HPs.out _ (List.getElem_mem hnl)
          have HCl := hide (clone_any x (by omega))
          rw [← hx] at HO
          subst hn
          have hi0 : (0 : Int) ≤ (n : Int) := by omega
          have hi1 : (n : Int) < (ps.length : Int) := by omega
          clear hx hc hxe
          go_wp2_with fail
          refine (HCl.out _).mono ?_
          rintro e w2 ⟨rfl, hb2⟩
          go_wp2_with fail
          go_ret
          rw [HO.out]
          exact ⟨rfl, HB1.out.trans (hb2.mono HB1.out.size)⟩
      · obtain ⟨j, rfl⟩ : ∃ j, k = j + 1 := ⟨k - 1, by omega⟩
        have hjl : j < ls.length := by omega
        rcases H2.out.2 with ⟨a, cap, e, h0 | ⟨b, off, e2, hbl, hc⟩⟩
        · omega
        · injection e with e1 e3 e4
          subst e1 e4
          subst e2
          obtain ⟨q, t, hqt⟩ : ∃ q t, (q, t) = ls[j] := ⟨_, _, rfl⟩
          have hget : ls[j]? = some (q, t) := by rw [List.getElem?_eq_getElem hjl, hqt]
          have hts : t.size ≤ 1048576 := by have := HLs.out _ (List.getElem_mem hjl); rw [← hqt] at this; exact this
          have hc0 : w1.cell? ⟨b, off + j * 2, none⟩ = some (.int .i64 q) := by rw [HB1.out.cell (by exact hbl), hc (j * 2) (by omega), (puts_at ls j hjl).1, ← hqt]
          have hc1 : w1.cell? ⟨b, off + j * 2 + 1, none⟩ = some (.string t) := by rw [HB1.out.cell (by exact hbl), Nat.add_assoc, hc (j * 2 + 1) (by omega), (puts_at ls j hjl).2, ← hqt]
          have hi0 : (0 : Int) ≤ (j : Int) := by omega
          have hi1 : (j : Int) < (ls.length : Int) := by omega
          have hij : ((j + 1 : Nat) : Int) - 1 = (j : Int) := by omega
          rw [hij]
          have HGet := hide hget
          clear hc hqt hget hij
          by_cases hq : q = page
          · subst hq
            have HO : Hid (readD ps ls q = t) := hide (readD_late (by omega) (by rw [HL.out]; exact lateAt_hit HGet.out))
            have HCl := hide (clone_any t (by omega))
            go_wp2_with fail
            refine (HCl.out _).mono ?_
            rintro e w2 ⟨rfl, hb2⟩
            go_wp2_with fail
            go_ret
            rw [HO.out]
            exact ⟨rfl, HB1.out.trans (hb2.mono HB1.out.size)⟩
          · have HL2 : Hid (lateAt ls page ls.length = lateAt ls page j) := hide (by rw [HL.out]; exact lateAt_miss HGet.out hq)
            go_wp2_with fail
            go_roundg j
            case measure => have := HGk.out; omega
            case rel => exact ⟨j, by omega, by go_num, rfl, HL2, rfl⟩
  · rw [decide_eq_false hin] at HC
    have HO : Hid (readD ps ls page = ⟨#[]⟩) := hide (readD_out (by omega))
    go_enter Tryd.func37, Tryd.ntmps37
    go_wp2_with fail
    rw [← hw0]
    refine (HC.out _).mono ?_
    rintro e w1 ⟨rfl, hb1⟩
    clear hw0
    go_wp2_with fail
    go_ret
    rw [HO.out]
    exact ⟨rfl, HB0.out.trans (hb1.mono HB0.out.size)⟩

theorem diskOk_count {ps : List ByteArray} {ls : List (Int × ByteArray)} (h : ¬ (4 ≤ ps.length ∧ ps.length ≤ 40 ∧ ls.length ≤ 200)) : diskOkB ps ls = false := by
  rw [diskOkB, decide_eq_false h]; simp

end Go.Proofs.YtdcmpjefemcppaaDoor

namespace Go.Proofs.YtdcmpjefemcppaaDoor
open Go.RowKit

set_option maxHeartbeats 4000000 in
set_option maxRecDepth 100000 in
theorem implGetKey_any (v : Value) (ps : List ByteArray) (ls : List (Int × ByteArray)) (hp : ps.length ≤ 1048576) (hl : ls.length ≤ 1048576) (hps : ∀ s ∈ ps, s.size ≤ 1048576) (hls : ∀ p ∈ ls, p.2.size ≤ 1048576) (root : Int) (key : ByteArray) (w : World) (hT : SumTab w) (hd : DiskAt w v ps ls) :
    Calls Tryd.prog 20 #[v, .int .i64 root, .string key] w fun e w' => e = .returned (getO (getK (readD ps ls) root key)) ∧ Below w.heap.size w w' := by
  have HRP := hide (fun p wx h => implReadPage_any v ps ls hp hl hps hls p wx h)
  have HRN := hide (fun p wx h => implReadNode_any (readD ps ls p) (readD_smallG hps hls p) wx h)
  have HD := hide hd
  have HT := hide hT
  obtain ⟨D, hD⟩ : ∃ D, D = readD ps ls := ⟨_, rfl⟩
  rw [← hD] at HRP HRN ⊢
  obtain ⟨vp, vl, rfl, -, -⟩ := hd
  obtain ⟨w0, hw0⟩ : ∃ w0, w0 = w.alloc (.cells #[vp, vl] 32 (0, 0)) := ⟨_, rfl⟩
  have HB0 : Hid (Below w.heap.size w w0) := hide (by rw [hw0]; exact (Below.refl w.heap.size w).alloc (Nat.le_refl _) _)
  have HV0 : Hid (w0.heap[w.heap.size]? = some (.cells #[vp, vl] 32 (0, 0))) := hide (by rw [hw0]; exact heap_alloc_new w _)
  obtain ⟨r, hr⟩ : ∃ r, r = getK D root key := ⟨_, rfl⟩
  rw [← hr]
  have HR0 : Hid (r = getK D root key) := hide hr
  clear hr
  by_cases hz : root = 0
  · have HO : Hid (r = none) := hide (by rw [HR0.out, getK, if_pos hz])
    subst hz
    go_enter Tryd.func20, Tryd.ntmps20
    go_wp2_with fail
    rw [← hw0]
    go_ret2
    rw [HO.out]
    exact ⟨rfl, HB0.out⟩
  have HR : Hid (r = getL D key 8 root) := hide (by rw [HR0.out, getK, if_neg hz])
  have hz0 : (root == 0) = false := by simp [hz]
  clear hz
  clear hp hl hps hls hD hT
  go_enter Tryd.func20, Tryd.ntmps20
  go_wp2_with fail
  rw [← hw0]
  clear hw0
  go_loopg [15, 8] 8 (fun q dv rv wr => ∃ (k : Nat) (p : Int), q + k = 8 ∧ dv = .int .i64 (k : Int) ∧ rv = .int .i64 p ∧ Hid (r = getL D key q p) ∧ Hid (Below w.heap.size w wr) ∧ Hid (wr.heap[w.heap.size]? = some (.cells #[vp, vl] 32 (0, 0))))
  case atStart => exact ⟨0, root, rfl, rfl, rfl, HR, HB0, HV0⟩
  case round =>
    obtain ⟨k, p, hq, rfl, rfl, HG, HB, HV⟩ := hrel
    have p0 := (cell_at HV.out 0).1
    have p1 := (cell_at HV.out 1).1
    cases gk with
    | zero =>
      have hk : k = 8 := by omega
      subst hk
      have HO : Hid (r = none) := hide (by rw [HG.out, getL])
      go_wp2_with fail
      go_ret2
      rw [HO.out]
      exact ⟨rfl, HB.out⟩
    | succ q =>
      have hk : (k : Int) < 8 := by omega
      go_wp2_with fail
      refine (HRP.out p _ (disk_below HD.out HB.out)).mono ?_
      rintro e w1 ⟨rfl, hb1⟩
      have HB1 : Hid (Below w.heap.size w w1) := hide (HB.out.trans (hb1.mono HB.out.size))
      have HV1 := hide (stays HV.out hb1)
      clear hb1 p0 p1
      go_wp2_with fail
      refine (HRN.out p _ (sumTab_below HT.out HB1.out)).mono ?_
      rintro e w2 ⟨n, v2, ok, rfl, hrn, hno, hb2⟩
      have HB2 : Hid (Below w.heap.size w w2) := hide (HB1.out.trans (hb2.mono HB1.out.size))
      have HV2 := hide (stays HV1.out hb2)
      have HL := hide (lvl_of (key := key) hrn q)
      have HN := hide hno
      obtain ⟨a1, c1, a2, c2, a3, c3, rfl⟩ := nodeOwn_cells hno
      have HPl := hide (fun wx h => implPlaceOf_any (.agg #[.bool n.lf, .slice a1 n.ks.length c1, .slice a2 n.vs.length c2, .slice a3 n.cs.length c3]) n.lf n.ks n.vs n.cs (by have := (readN_len hrn).1; omega) key wx h)
      obtain ⟨at_, hat⟩ : ∃ at_, at_ = placeK n.ks key n.ks.length := ⟨_, rfl⟩
      rw [← hat] at HL HPl
      obtain ⟨lf, hlf⟩ : ∃ lf, lf = n.lf := ⟨_, rfl⟩
      have HLf := hide hlf
      rw [← hlf] at HPl HN ⊢
      obtain ⟨lk, hlk⟩ : ∃ lk, lk = n.ks.length := ⟨_, rfl⟩
      obtain ⟨lv, hlv⟩ : ∃ lv, lv = n.vs.length := ⟨_, rfl⟩
      obtain ⟨lc, hlc⟩ : ∃ lc, lc = n.cs.length := ⟨_, rfl⟩
      rw [← hlk, ← hlv, ← hlc] at HPl HN ⊢
      have HLn := hide (⟨hlk, hlv, hlc⟩ : _ ∧ _ ∧ _)
      obtain ⟨wa, hwa⟩ : ∃ wa, wa = w2.alloc (.cells #[.bool lf, .slice a1 lk c1, .slice a2 lv c2, .slice a3 lc c3] 59 (0, 0)) := ⟨_, rfl⟩
      have hba : Below w2.heap.size w2 wa := by rw [hwa]; exact (Below.refl _ _).alloc (Nat.le_refl _) _
      obtain ⟨g, hg⟩ : ∃ g, g = w2.heap.size := ⟨_, rfl⟩
      have HNa : Hid (wa.heap[g]? = some (.cells #[.bool lf, .slice a1 lk c1, .slice a2 lv c2, .slice a3 lc c3] 59 (0, 0))) := hide (by rw [hwa, hg]; exact heap_alloc_new w2 _)
      have HBa : Hid (Below w.heap.size w wa) := hide (HB2.out.trans (hba.mono HB2.out.size))
      have HVa := hide (stays HV2.out hba)
      have HOa := hide (nodeOwn_below HN.out hba)
      clear hrn hb2 hat hlf hba hlk hlv hlc hno
      go_wp2_with fail
      rw [← hwa, ← hg]
      clear hwa hg
      refine (HPl.out _ (node_of_own HOa.out)).mono ?_
      rintro e w3 ⟨rfl, hb3⟩
      have HB3 : Hid (Below w.heap.size w w3) := hide (HBa.out.trans (hb3.mono HBa.out.size))
      have HV3 := hide (stays HVa.out hb3)
      have HN3 := stays HNa.out hb3
      have n0 := (cell_at HN3 0).1
      have n1 := (cell_at HN3 1).1
      have n2 := (cell_at HN3 2).1
      have n3 := (cell_at HN3 3).1
      have HO3 := hide (nodeOwn_below HOa.out hb3)
      clear hb3 HN3
      rcases HL.out with ⟨h, e⟩ | ⟨i, h1, h2, h3, h4, h5, e⟩ | ⟨i, h1, h2, h3, h4, h5, e⟩
      · have HO : Hid (r = none) := hide (by rw [HG.out, e])
        clear e
        cases ok with
        | false =>
          go_wp2_with fail
          go_ret2
          rw [HO.out]
          exact ⟨rfl, HB3.out⟩
        | true =>
          have hneg : at_ < 0 := by simpa using h
          go_wp2_with fail
          go_ret2
          rw [HO.out]
          exact ⟨rfl, HB3.out⟩
      · have hl : lf = true := HLf.out.trans h2
        subst hl
        subst h1
        subst h3
        obtain ⟨vk', vv', vc', eq, o1, o2, -, -⟩ := HO3.out
        obtain ⟨-, rfl, rfl, rfl⟩ := agg4 eq
        obtain ⟨hlk, hlv, hlc⟩ := HLn.out
        rw [← hlk] at o1 h4
        rw [← hlv] at o2 h5
        obtain ⟨gk', rfl, hck⟩ := row_getS (i := i) o1 (by omega) hlk
        obtain ⟨gv, rfl, hcv⟩ := row_getS (i := i) o2 (by omega) hlv
        obtain ⟨x, hx⟩ : ∃ x, x = n.ks.getD i ⟨#[]⟩ := ⟨_, rfl⟩
        obtain ⟨y, hy⟩ : ∃ y, y = n.vs.getD i ⟨#[]⟩ := ⟨_, rfl⟩
        rw [← hx] at hck
        rw [← hy] at hcv
        have HG2 : Hid (r = if x = key then some y else none) := hide (by rw [HG.out, e, hx, hy])
        have hbq := ba_beq x key
        have hi0 : (0 : Int) ≤ (i : Int) := by omega
        have hi1 : (i : Int) < (lk : Int) := by omega
        have hi2 : (i : Int) < (lv : Int) := by omega
        have hi3 : ¬ ((i : Int) < 0) := by omega
        clear e hx hy o1 o2 eq h2 h4 h5 hlk hlv hlc
        by_cases hxk : x = key
        · rw [if_pos hxk] at HG2
          rw [decide_eq_true hxk] at hbq
          go_wp2_with fail
          go_ret2
          rw [HG2.out]
          exact ⟨rfl, HB3.out⟩
        · rw [if_neg hxk] at HG2
          rw [decide_eq_false hxk] at hbq
          go_wp2_with fail
          go_ret2
          rw [HG2.out]
          exact ⟨rfl, HB3.out⟩
      · have hl : lf = false := HLf.out.trans h2
        subst hl
        subst h1
        subst h3
        obtain ⟨vk', vv', vc', eq, -, -, o3, -⟩ := HO3.out
        obtain ⟨-, rfl, rfl, rfl⟩ := agg4 eq
        obtain ⟨hlk, hlv, hlc⟩ := HLn.out
        rw [← hlc] at o3 h4
        obtain ⟨gc, rfl, hcc⟩ := row_getI (i := i) o3 (by omega) hlc
        obtain ⟨c, hc⟩ : ∃ c, c = n.cs.getD i 0 := ⟨_, rfl⟩
        rw [← hc] at hcc e h5
        have HG2 : Hid (r = getL D key q c) := hide (by rw [HG.out, e])
        have hi0 : (0 : Int) ≤ (i : Int) := by omega
        have hi1 : (i : Int) < (lc : Int) := by omega
        have hi3 : ¬ ((i : Int) < 0) := by omega
        clear e hc o3 eq h2 h4 h5 hlk hlv hlc
        go_wp2_with fail
        go_roundg q
        case measure => omega
        case rel => exact ⟨k + 1, c, by omega, by go_num, rfl, HG2, HB3, HV3⟩
end Go.Proofs.YtdcmpjefemcppaaDoor
