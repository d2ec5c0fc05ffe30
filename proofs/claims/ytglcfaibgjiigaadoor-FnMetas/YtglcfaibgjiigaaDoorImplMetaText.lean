/-
  The program's MetaText by a contract: the numbers of a meta in a row, then each in bytes, then sealed.
-/
import Derived.Test.YtglcfaibgjiigaaDoorImplMeta
import Derived.Test.YtglcfaibgjiigaaDoorPlain20
import Derived.Test.YtglcfaibgjiigaaDoorSeal
import Derived.Test.YtglcfaibgjiigaaDoorAppRow
import Derived.Lib.AppendStr
namespace Go.Proofs.YtglcfaibgjiigaaDoor
open Go.RowKit

theorem Tryd.intInfoT : (Tryd.prog.info? 3).map (fun i => (i.zero, i.size, i.bytes)) = some (some (.int .i64 0), 1, 8) := by kernel_rfl

theorem ints_oneT (l : List Int) : ∀ y ∈ ints l, y.oneCell' = true := fun y hy => by
  obtain ⟨p, _, rfl⟩ := List.mem_map.1 hy
  rfl

theorem lit_row (w : World) (n : Nat) (hn : n = w.heap.size) (l : List Int) (hl : l.length ≤ 100) : (w.alloc (Obj.cells (ints l).toArray 3)).ownsRow w.heap.size 3 1 (.slice (some ⟨n, 0, none⟩) l.length l.length) l.length (ints l) := by
  subst hn
  simpa using World.ownsRow_lit (base := w.heap.size) (e := 3) (size := 1) w (ints l).toArray l.length (Nat.le_refl _) (by unfold maxLen; omega) (by simp [ints])

theorem lit_cells (w : World) (n : Nat) (hn : n = w.heap.size) (l : List Int) : ∀ (j : Nat) (u : Value), (ints l)[j]? = some u → (w.alloc (Obj.cells (ints l).toArray 3)).cell? ((⟨n, 0, none⟩ : Addr).add j) = some u := by
  subst hn
  intro j u hj
  rw [Addr.add_lit, Nat.zero_add, (cell_at (heap_alloc_new w _) j).1]
  simpa using hj

theorem blk_typeT {w : World} {B e sz n g : Nat} {v : Value} {xs : List Value} {cs : Array Value} {t : TypeId} {p : Nat × Nat} (h : w.ownsRow B e sz v n xs) (hb : w.heap[g]? = some (.cells cs t p)) (hne : e ≠ t) : some g ≠ v.ownBlock := by
  intro h2
  rcases h.2 with ⟨rfl, -⟩ | ⟨g', cap, cur, rfl, -, hh, -⟩
  · cases h2
  · injection h2 with h2
    have h2 : g = g' := h2
    subst h2
    rw [hh] at hb
    injection hb with hb
    injection hb with _ he _
    exact hne he

set_option maxHeartbeats 8000000 in
set_option maxRecDepth 100000 in
theorem metaNumbers_any (v : Value) (m : Mt) (hok : m.ok = true) (w : World) (hd : MetaAt w v m) :
    Calls Tryd.prog 83 #[v] w fun e w' => ∃ v', e = .returned v' ∧ w'.ownsRow w.heap.size 3 1 v' m.nums.length (ints m.nums) ∧ Below w.heap.size w w' := by
  obtain ⟨i0, hi, hz0, hz1, hz2⟩ := info_parts Tryd.intInfoT
  obtain ⟨vf, rfl, hr⟩ := hd
  obtain ⟨pa, pc, rfl⟩ := frees_slice hr
  obtain ⟨L, hL⟩ : ∃ L, L = m.fs.length := ⟨_, rfl⟩
  rw [← hL] at hr ⊢
  obtain ⟨tx, htx⟩ : ∃ tx, tx = m.tx := ⟨_, rfl⟩
  obtain ⟨root, hro⟩ : ∃ tx, tx = m.root := ⟨_, rfl⟩
  obtain ⟨next, hne⟩ : ∃ tx, tx = m.next := ⟨_, rfl⟩
  rw [← htx, ← hro, ← hne]
  obtain ⟨w0, hw0⟩ : ∃ w0, w0 = w.alloc (Obj.cells #[.int .i64 tx, .int .i64 root, .int .i64 next, .slice pa L pc] 40) := ⟨_, rfl⟩
  have hb0 : Below w.heap.size w w0 := by rw [hw0]; exact (Below.refl w.heap.size w).alloc (Nat.le_refl _) _
  have HF := hide (frees_below hr hb0)
  have HB0 := hide hb0
  have HOk := hide hok
  have HL := hide hL
  have k6 : L ≤ 20 := by rw [hL]; exact (ok_parts hok).1.2.2.2.2.2
  have HStart : Hid ((w0.alloc (Obj.cells #[.int .i64 tx, .int .i64 root, .int .i64 next, .int .i64 (L : Int)] 3)).ownsRow w0.heap.size 3 1 (.slice (some ⟨w.heap.size + 1, 0, none⟩) 4 4) (m.pre 0).length (ints (m.pre 0))) := hide (by
    rw [pre_zero, ← htx, ← hro, ← hne, ← hL]
    exact lit_row w0 (w.heap.size + 1) (by rw [hw0]; simp) [tx, root, next, (L : Int)] (by simp))
  clear hr hb0 hok htx hro hne hL
  go_enter Tryd.func83, Tryd.ntmps83
  go_wp2_with fail
  rw [← hw0]
  clear hw0
  go_loopg [3, 19] L (fun q rv iv wr => ∃ k : Nat, k ≤ L ∧ iv = .int .i64 (k : Int) ∧ q + k = L ∧ wr.ownsRow w0.heap.size 3 1 rv (m.pre k).length (ints (m.pre k)) ∧ Hid (Below w0.heap.size w0 wr))
  case atStart => exact ⟨0, Nat.zero_le _, rfl, by omega, HStart.out, hide ((Below.refl _ _).alloc (Nat.le_refl _) _)⟩
  case round =>
    obtain ⟨k, hk, rfl, hg, hown, HB⟩ := hrel
    have HG := hide hg
    clear hg
    by_cases hlt : k < L
    · obtain ⟨ftx, ps, hf⟩ : ∃ ftx ps, m.fs[k]? = some (ftx, ps) := ⟨_, _, List.getElem?_eq_getElem (by rw [← HL.out]; exact hlt)⟩
      obtain ⟨b, off, x, c, rfl, hbl0, hc00, hc10, hrow⟩ := frees_at HF.out hf
      obtain ⟨n, hn⟩ : ∃ n, n = ps.length := ⟨_, rfl⟩
      rw [← hn] at hc10 hrow
      have hc0 := (HB.out.cell (by exact hbl0)).trans hc00
      have hc1 := (HB.out.cell (by exact hbl0)).trans hc10
      have q3 : n ≤ 40 := by rw [hn]; exact (nums_of HOk.out hf).2.2.1
      have HRow := hide hrow
      have HPn := hide (pre_next hf)
      rw [← hn] at HPn
      have HN := hide hn
      have hpl := pre_len HOk.out k
      obtain ⟨N, hN⟩ : ∃ N, N = (m.pre k).length := ⟨_, rfl⟩
      rw [← hN] at hpl hown
      have HNp := hide hN
      have hk0 : (0 : Int) ≤ (k : Int) := by omega
      have hk1 : (k : Int) < (L : Int) := by omega
      have hbs := HB.out.size
      clear hf hc00 hc10 hrow hn hN
      go_wp2_with (at_builtin; refine wpList_append_own _ rfl _ _ 25 rfl w0.heap.size 3 i0 (.int .i64 0) 1 8 Tryd.underlying25 hi hz0 hz1 hz2 rfl (by decide) _ _ _ rfl ((hown.alloc _).alloc _) ⟨wr.heap.size + 1, 0, none⟩ 2 2 [.int .i64 ftx, .int .i64 (n : Int)] rfl rfl ?c1 ?c2 ?c3 ?c4 ?c5 ?_)
      case c1 => exact lit_cells _ _ (by simp) [ftx, (n : Int)]
      case c2 => exact ints_oneT [ftx, (n : Int)]
      case c3 => unfold maxLen; omega
      case c4 => omega
      case c5 => simp; omega
      intro v' w3 hown' hgrow _
      have hb3 : Below w0.heap.size w0 w3 := (((HB.out.alloc hbs _).alloc (by simp; omega) _)).grown hgrow (by simp; omega) (fun k hk => (hown.lt k hk).1)
      have h1 : ((wr.alloc (Obj.cells #[.int .i64 ftx, .slice x n c] 110)).alloc (Obj.cells #[.int .i64 ftx, .int .i64 (n : Int)] 3)).heap[wr.heap.size]? = some (Obj.cells #[.int .i64 ftx, .slice x n c] 110) := (two_allocs wr _ _).1
      have hq3 : w3.heap[wr.heap.size]? = some (Obj.cells #[.int .i64 ftx, .slice x n c] 110) := (hgrow.block _ (Array.getElem?_eq_some_iff.1 h1).1 (blk_typeT ((hown.alloc _).alloc _) h1 Tryd.free_int.symm)).trans h1
      have f1 : w3.cell? ⟨wr.heap.size, 1, none⟩ = some (.slice x n c) := (cell_at hq3 1).1
      have hrow3 := row_below HRow.out hb3
      have hb3s := hb3.size
      clear hgrow hown h1 hq3 hc0 hc1
      go_wp2_with (at_builtin; refine wpList_append_row _ rfl _ _ 25 rfl w0.heap.size 3 i0 (.int .i64 0) 1 8 Tryd.underlying25 hi hz0 hz1 hz2 rfl (by decide) _ _ _ rfl hown' _ n (ints ps) rfl hrow3 (ints_oneT ps) ?d3 ?d4 hb3s ?_)
      case d3 => unfold maxLen; omega
      case d4 => omega
      intro x4 c4 w4 hown4 hgrow4
      have HB4 : Hid (Below w0.heap.size w0 w4) := hide (hb3.grown hgrow4 hb3s (fun k hk => (hown'.lt k hk).1))
      have hown5 : w4.ownsRow w0.heap.size 3 1 (.slice x4 (N + 2 + n) c4) (m.pre (k + 1)).length (ints (m.pre (k + 1))) := by
        have e1 : (m.pre (k + 1)).length = N + 2 + n := by rw [HPn.out, List.length_append, List.length_append, ← HNp.out, ← HN.out]; rfl
        have e2 : ints (m.pre (k + 1)) = ints (m.pre k) ++ .int .i64 ftx :: .int .i64 (n : Int) :: ints ps := by rw [HPn.out]; simp [ints]
        rw [e1, e2]
        exact hown4
      clear hown4 hgrow4 hown' hb3 hrow3 f1 hb3s hbs
      go_wp2_with fail
      go_roundg (gk - 1)
      case measure => have := HG.out; omega
      case rel => exact ⟨k + 1, by omega, by go_num, by have := HG.out; omega, hown5, HB4⟩
    · have HE : Hid (m.pre k = m.nums) := hide (by rw [← pre_end, ← HL.out, show k = L from by omega])
      rw [HE.out] at hown
      have HO := hide hown
      clear hown
      go_wp2_with fail
      go_ret
      exact ⟨_, rfl, own_down HO.out HB0.out.size, HB0.out.trans (HB.out.mono HB0.out.size)⟩

theorem Tryd.int_u8 : (3 : Nat) ≠ 5 := by decide

theorem cells_strT (l : List UInt8) (s : ByteArray) : Lib.byteCells l ++ Lib.strCells s = Lib.byteCells (l ++ s.data.toList) := by
  simp [Lib.byteCells, Lib.strCells]

theorem apartT {u v : Value} (h : ∀ k, u.ownBlock = some k → v.ownBlock ≠ some k) : v.ownBlock = none ∨ v.ownBlock ≠ u.ownBlock := by
  cases hv : v.ownBlock with
  | none => exact Or.inl rfl
  | some k => exact Or.inr (fun e => h k e.symm hv)

theorem numsL_take_succ {l : List Int} {k : Nat} {x : Int} (h : l[k]? = some x) : numsL (l.take (k + 1)) = numsL (l.take k) ++ vtext x.toNat := by
  obtain ⟨hk, e⟩ := List.getElem?_eq_some_iff.1 h
  rw [List.take_succ_eq_append_getElem hk, numsL_snoc, e]

set_option maxHeartbeats 8000000 in
set_option maxRecDepth 100000 in
theorem implMetaText_any (v : Value) (m : Mt) (hl : m.fs.length ≤ 1048576) (hs : ∀ f ∈ m.fs, f.2.length ≤ 1048576) (w : World) (hT : SumTab w) (hd : MetaAt w v m) :
    Calls Tryd.prog 23 #[v] w fun e w' => e = .returned (.tuple #[.string m.textO, .bool m.good]) ∧ Below w.heap.size w w' := by
  obtain ⟨i0, hi, hz0, hz1, hz2⟩ := info_parts Tryd.infoU8
  have HS := hide (fun wx h => implMetaOk_any v m hl hs wx h)
  have HNu := hide (fun hok wx h => metaNumbers_any v m hok wx h)
  have HD := hide hd
  have HT := hide hT
  obtain ⟨vf, rfl, hr⟩ := hd
  obtain ⟨tx, htx⟩ : ∃ tx, tx = m.tx := ⟨_, rfl⟩
  obtain ⟨root, hro⟩ : ∃ tx, tx = m.root := ⟨_, rfl⟩
  obtain ⟨next, hne⟩ : ∃ tx, tx = m.next := ⟨_, rfl⟩
  rw [← htx, ← hro, ← hne] at HS HD HNu ⊢
  have HVar := hide (meta_cells w tx root next vf 40)
  obtain ⟨w0, hw0⟩ : ∃ w0, w0 = w.alloc (Obj.cells #[.int .i64 tx, .int .i64 root, .int .i64 next, vf] 40) := ⟨_, rfl⟩
  rw [← hw0] at HVar
  have hb0 : Below w.heap.size w w0 := by rw [hw0]; exact (Below.refl w.heap.size w).alloc (Nat.le_refl _) _
  have HB0 := hide hb0
  clear hr hb0 hl hs hT htx hro hne
  cases hok : m.ok with
  | false =>
    rw [hok] at HS
    have HO := hide (good_no (Or.inl hok))
    clear hok
    go_enter Tryd.func23, Tryd.ntmps23
    go_wp2_with fail
    rw [← hw0]
    clear hw0
    refine (HS.out _ (meta_below HD.out HB0.out)).mono ?_
    rintro e w1 ⟨rfl, hb⟩
    go_wp2_with fail
    go_ret2
    rw [HO.out.1, HO.out.2]
    exact ⟨rfl, HB0.out.trans (hb.mono HB0.out.size)⟩
  | true =>
    rw [hok] at HS
    have HNu2 := hide (fun wx h => HNu.out hok wx h)
    have HOk := hide hok
    have hnl := nums_len hok
    have HIn := hide (nums_in hok)
    obtain ⟨N, hN⟩ : ∃ N, N = m.nums.length := ⟨_, rfl⟩
    rw [← hN] at HNu2 hnl
    have HN := hide hN
    clear HNu hok hN
    go_enter Tryd.func23, Tryd.ntmps23
    go_wp2_with fail
    rw [← hw0]
    clear hw0
    refine (HS.out _ (meta_below HD.out HB0.out)).mono ?_
    rintro e w1 ⟨rfl, hb⟩
    have HB1 := hide hb
    obtain ⟨w2, hw2⟩ : ∃ w2, w2 = w1.alloc (Obj.cells #[] 5) := ⟨_, rfl⟩
    have hb2 : Below w0.heap.size w0 w2 := by rw [hw2]; exact hb.alloc hb.size _
    have hown2 : w2.ownsRow w0.heap.size 5 1 (.slice (some ⟨w1.heap.size, 0, none⟩) 0 0) 0 (Lib.byteCells []) := by
      rw [hw2]
      exact own_down (by simpa [Lib.byteCells] using World.ownsRow_lit (base := w1.heap.size) (e := 5) (size := 1) w1 #[] 0 (Nat.le_refl _) (by unfold maxLen; omega) (by simp)) hb.size
    obtain ⟨p0, p1, p2, p3⟩ := HVar.out w2 hb2
    rw [hw2] at p0 p1 p2 p3
    obtain ⟨q0, q1, q2, q3⟩ := HVar.out w1 hb
    have HB2 := hide hb2
    have HO2 := hide hown2
    clear hb hb2 hown2
    go_wp2_with fail
    rw [← hw2]
    clear hw2 p0 p1 p2 p3 q0 q1 q2 q3
    refine (HNu2.out _ (meta_below HD.out (HB0.out.trans (HB2.out.mono HB0.out.size)))).mono ?_
    rintro e w3 ⟨vr, rfl, hownN, hb3⟩
    obtain ⟨ra, rc, rfl⟩ := own_slice hownN
    have HO3 := own_stays HO2.out hb3
    have HB3 : Hid (Below w0.heap.size w0 w3) := hide (HB2.out.trans (hb3.mono HB2.out.size))
    have HN3 := hide (own_down hownN HB2.out.size)
    clear hb3 hownN
    go_wp2_with fail
    go_loopg [4, 18] N (fun q ov iv wr => ∃ k : Nat, k ≤ N ∧ iv = .int .i64 (k : Int) ∧ q + k = N ∧ wr.ownsRow w0.heap.size 5 1 ov (numsL (m.nums.take k)).length (Lib.byteCells (numsL (m.nums.take k))) ∧ Hid (wr.ownsRow w0.heap.size 3 1 (.slice ra N rc) N (ints m.nums)) ∧ Hid (Below w0.heap.size w0 wr))
    case atStart => exact ⟨0, Nat.zero_le _, rfl, by omega, HO3, HN3, HB3⟩
    case round =>
      clear HO3 HN3 HB3
      obtain ⟨k, hk, rfl, hg, hown, HNr, HB⟩ := hrel
      have HG := hide hg
      clear hg
      have hsz : (numsL (m.nums.take k)).length ≤ 4220 := by have h1 := (numsL_size (m.nums.take k)).2; rw [List.length_take] at h1; omega
      by_cases hlt : k < N
      · obtain ⟨x, hx⟩ : ∃ x, m.nums[k]? = some x := ⟨_, List.getElem?_eq_getElem (by have := HN.out; omega)⟩
        obtain ⟨-, a1, cp1, e1, h0 | ⟨bp, op, e0, hbp, hcp⟩⟩ := row_of_own HNr.out
        · omega
        injection e1 with e11 _ e12
        subst e11 e12
        subst e0
        have hpc : wr.cell? ⟨bp, op + k, none⟩ = some (.int .i64 x) := by
          obtain ⟨ht, e⟩ := List.getElem?_eq_some_iff.1 hx
          rw [hcp k (by omega), ints_at m.nums k ht, e]
        have hxr := HIn.out x (List.mem_of_getElem? hx)
        have HV := hide (fun wx => implVarText_yes x hxr.1 (by omega) wx)
        have HK := hide (numsL_take_succ hx)
        have z := vtB_size x.toNat
        have z5 := (vtext_length x.toNat).2
        obtain ⟨t, ht⟩ : ∃ t : ByteArray, t = ⟨(vtext x.toNat).toArray⟩ := ⟨_, rfl⟩
        have HTl : Hid (t.data.toList = vtext x.toNat) := hide (by rw [ht])
        rw [← ht] at HV z
        have hts : t.size ≤ 5 := by omega
        have hk0 : (0 : Int) ≤ (k : Int) := by omega
        have hk1 : (k : Int) < (N : Int) := by omega
        clear hx hcp hxr z z5 ht
        go_wp2_with fail
        refine (HV.out _).mono ?_
        rintro e w4 ⟨rfl, hb4⟩
        have hown4 := own_stays hown hb4
        have HN4 := hide (own_stays HNr.out hb4)
        have hb4' := HB.out.trans (hb4.mono HB.out.size)
        have hs4 := hb4'.size
        clear hb4 hown hpc
        go_wp2_with (at_builtin; refine Lib.wpList_append_own_string _ rfl _ _ 22 9 rfl w0.heap.size 5 i0 Tryd.underlying22 Tryd.underlying9 hi hz0 hz1 hz2 _ _ _ rfl hown4 t rfl ?d1 ?d2 hs4 ?_)
        case d1 => unfold maxLen; omega
        case d2 => omega
        intro v5 w5 hown5 hgrow5 _
        have hown6 : w5.ownsRow w0.heap.size 5 1 v5 (numsL (m.nums.take (k + 1))).length (Lib.byteCells (numsL (m.nums.take (k + 1)))) := by
          have e1 : (numsL (m.nums.take (k + 1))).length = (numsL (m.nums.take k)).length + t.size := by rw [HK.out, List.length_append, ← HTl.out, ba_len]
          rw [e1, HK.out, ← HTl.out, ← cells_strT]
          exact hown5
        have HN6 : Hid (w5.ownsRow w0.heap.size 3 1 (.slice (some ⟨bp, op, none⟩) N rc) N (ints m.nums)) := hide (HN4.out.kept hgrow5 (apartT (fun k e => one_type hown4 HN4.out Tryd.int_u8.symm k e)))
        have HB6 : Hid (Below w0.heap.size w0 w5) := hide (hb4'.grown hgrow5 hs4 (fun k hk => (hown4.lt k hk).1))
        clear hown5 hgrow5 hown4 hb4' hs4
        go_wp2_with fail
        go_roundg (gk - 1)
        case measure => have := HG.out; omega
        case rel => exact ⟨k + 1, by omega, by go_num, by have := HG.out; omega, hown6, HN6, HB6⟩
      · have HE : Hid (m.nums.take k = m.nums) := hide (List.take_of_length_le (by have := HN.out; omega))
        rw [HE.out] at hown hsz
        have hcv := string_own (dst := 9) (src := 22) Tryd.underlying22 Tryd.underlying5 Tryd.underlying9 hown
        have HSe := hide (fun wx h => implSealed_yes (numsB m.nums) (by have := (nums_size HOk.out).1; omega) wx h)
        rw [text_seal] at HSe
        rw [numsB] at HSe
        have HGy := hide (fun h => good_yes (m := m) HOk.out h)
        have HGn := hide (fun h => good_no (m := m) (Or.inr h))
        obtain ⟨tt, htt⟩ : ∃ tt, tt = m.text := ⟨_, rfl⟩
        rw [← htt] at HSe HGy HGn
        have htl : tt.size ≤ 5000 := by rw [htt, text_size]; omega
        have HTr := hide (sumTab_below HT.out (HB0.out.trans (HB.out.mono HB0.out.size)))
        clear htt hown hsz
        go_wp2_with fail
        refine (HSe.out _ HTr.out).mono ?_
        rintro e wa ⟨rfl, hba⟩
        have HB3 := hide (HB.out.trans (hba.mono HB.out.size))
        clear hba hcv
        by_cases hbig : 240 < tt.size
        · have HO := hide (HGn.out hbig)
          have d1 : decide ((240 : Int) < (tt.size : Int)) = true := decide_eq_true (by omega)
          go_wp2_with fail
          go_ret2
          rw [HO.out.1, HO.out.2]
          exact ⟨rfl, HB0.out.trans (HB3.out.mono HB0.out.size)⟩
        · have HO := hide (HGy.out (by omega))
          have d1 : decide ((240 : Int) < (tt.size : Int)) = false := decide_eq_false (by omega)
          go_wp2_with fail
          go_ret2
          rw [HO.out.1, HO.out.2]
          exact ⟨rfl, HB0.out.trans (HB3.out.mono HB0.out.size)⟩
end Go.Proofs.YtglcfaibgjiigaaDoor
