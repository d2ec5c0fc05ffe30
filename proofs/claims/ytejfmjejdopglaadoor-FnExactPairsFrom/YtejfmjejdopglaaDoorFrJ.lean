/-
  Several texts in one. PairsFrom of the program and of the specification by contracts: of all pairs those between two keys. · laws.FnExactPairsFrom by contracts: it returns true at every disk, every root and every two keys.
-/
import Derived.Test.YtejfmjejdopglaaDoorAllJ
namespace Go.Proofs.YtejfmjejdopglaaDoor
open Go.RowKit

/-- between two keys -/
def inB (f t : ByteArray) (p : ByteArray × ByteArray) : Bool := !(Op.bytesLess p.1.toList f.toList) && Op.bytesLess p.1.toList t.toList

def fromP (f t : ByteArray) (l : List (ByteArray × ByteArray)) : List (ByteArray × ByteArray) := l.filter (inB f t)

theorem fromP_snoc (f t : ByteArray) (l : List (ByteArray × ByteArray)) (i : Nat) (h : i < l.length) : fromP f t (l.take (i + 1)) = fromP f t (l.take i) ++ (if inB f t l[i] = true then [l[i]] else []) := by
  rw [fromP, fromP, List.take_succ_eq_append_getElem h, List.filter_append]
  congr 1
  cases hb : inB f t l[i] <;> simp [hb]

theorem fromP_len (f t : ByteArray) (l : List (ByteArray × ByteArray)) : (fromP f t l).length ≤ l.length := List.length_filter_le _ _

set_option maxHeartbeats 4000000 in
set_option maxRecDepth 100000 in
theorem implPairsFrom_any (ps : List ByteArray) (ls : List (Int × ByteArray)) (hp : ps.length ≤ 1048576) (hl : ls.length ≤ 1048576) (hps : ∀ s ∈ ps, s.size ≤ 1048576) (hls : ∀ p ∈ ls, p.2.size ≤ 1048576) (ap al : Option Addr) (np nl cp cl : Nat) (root : Int) (f t : ByteArray) (w : World) (hT : SumTab w) (hd : DiskAt w (.agg #[.slice ap np cp, .slice al nl cl]) ps ls) :
    Calls Tryd.prog 18 #[.agg #[.slice ap np cp, .slice al nl cl], .int .i64 root, .string f, .string t] w fun e w' => ∃ v', e = .returned v' ∧ w'.ownsRow w.heap.size 80 2 v' (fromP f t (allI (fun q => rdN (readD ps ls q)) root).1).length (prs (fromP f t (allI (fun q => rdN (readD ps ls q)) root).1)) ∧ Below w.heap.size w w' := by
  obtain ⟨ip, hj, hy0, hy1, hy2⟩ := info_parts Tryd.infoPair
  have HAp := hide (fun wx ht h => implAllPairs_any ps ls hp hl hps hls ap al np nl cp cl root wx ht h)
  have hrl := all_len ps ls root
  obtain ⟨R, hR⟩ : ∃ R, R = allI (fun q => rdN (readD ps ls q)) root := ⟨_, rfl⟩
  rw [← hR] at HAp hrl ⊢
  obtain ⟨rl, fl⟩ := R
  have hrl : rl.length ≤ 100000 := hrl
  show Calls _ _ _ _ (fun e w' => ∃ v', e = .returned v' ∧ w'.ownsRow w.heap.size 80 2 v' (fromP f t rl).length (prs (fromP f t rl)) ∧ Below w.heap.size w w')
  obtain ⟨w0, hw0⟩ : ∃ w0, w0 = w.alloc (.cells #[.slice ap np cp, .slice al nl cl] 32 (0, 0)) := ⟨_, rfl⟩
  have HB0 : Hid (Below w.heap.size w w0) := hide (by rw [hw0]; exact (Below.refl _ _).alloc (Nat.le_refl _) _)
  have HD := hide hd
  have HT := hide hT
  clear hp hl hps hls hd hR hT
  go_enter Tryd.func18, Tryd.ntmps18
  go_wp2_with fail
  rw [← hw0]
  clear hw0
  refine (HAp.out w0 (sumTab_below HT.out HB0.out) (disk_below HD.out HB0.out)).mono ?_
  rintro e w1 ⟨u, rfl, hown, hb1⟩
  have hown : w1.ownsRow w0.heap.size 80 2 u rl.length (prs rl) := hown
  have HB1 : Hid (Below w.heap.size w w1) := hide (HB0.out.trans (hb1.mono HB0.out.size))
  obtain ⟨xr, cr, rfl⟩ := own_slice hown
  have HO := hide hown
  have HEm : Hid ((w1.alloc (Obj.cells #[] 80)).ownsRow w1.heap.size 80 2 (.slice (some ⟨w1.heap.size, 0, none⟩) 0 0) 0 (prs [])) := hide ⟨rfl, Or.inr ⟨w1.heap.size, 0, #[], rfl, Nat.le_refl _, heap_alloc_new w1 _, Nat.le_refl _, Nat.zero_le _, rfl, rfl⟩⟩
  have HBe : Hid (Below w1.heap.size w1 (w1.alloc (Obj.cells #[] 80))) := hide ((Below.refl _ _).alloc (Nat.le_refl _) _)
  clear hown hb1
  go_wp2_with fail
  go_loopg [11, 23] rl.length (fun q lv iv wr => ∃ (i : Nat) (Ln : List (ByteArray × ByteArray)) (b c : Nat), i ≤ rl.length ∧ q + i = rl.length ∧ iv = .int .i64 (i : Int) ∧ lv = .slice (some ⟨b, 0, none⟩) Ln.length c ∧ Hid (Ln = fromP f t (rl.take i)) ∧ Hid (wr.ownsRow w1.heap.size 80 2 (.slice (some ⟨b, 0, none⟩) Ln.length c) Ln.length (prs Ln)) ∧ Hid (Below w1.heap.size w1 wr))
  case atStart => exact ⟨0, [], w1.heap.size, 0, Nat.zero_le _, by omega, rfl, rfl, hide (by rw [List.take_zero]; rfl), HEm, HBe⟩
  case round =>
    obtain ⟨i, Ln, b, c, hi, hq, rfl, rfl, HLn, HOw, HBl⟩ := hrel
    have HQ := hide hq
    clear hq
    by_cases hlt : i < rl.length
    · obtain ⟨g, rfl⟩ : ∃ g, xr = some ⟨g, 0, none⟩ := by
        rcases HO.out.2 with ⟨e, h0⟩ | ⟨g, cc, cur, e, _⟩
        · omega
        · injection e with e1; exact ⟨g, e1⟩
      obtain ⟨k, y, hky⟩ : ∃ k y, (k, y) = rl[i] := ⟨_, _, rfl⟩
      have hoa := own_stays HO.out HBl.out
      have hc0 : wr.cell? ⟨g, i * 2, none⟩ = some (.string k) := by rw [hoa.cellAt (i * 2) (by omega), (prs_at rl i hlt).1, ← hky]
      have hc1 : wr.cell? ⟨g, i * 2 + 1, none⟩ = some (.string y) := by rw [hoa.cellAt (i * 2 + 1) (by omega), (prs_at rl i hlt).2, ← hky]
      have hgl : g < wr.heap.size := (hoa.lt g rfl).2
      have hca : ∀ o, (wr.alloc o).cell? ⟨g, i * 2, none⟩ = some (.string k) ∧ (wr.alloc o).cell? ⟨g, i * 2 + 1, none⟩ = some (.string y) := fun o => ⟨(((Below.refl _ _).alloc (Nat.le_refl _) o).cell (by exact hgl)).trans hc0, (((Below.refl _ _).alloc (Nat.le_refl _) o).cell (by exact hgl)).trans hc1⟩
      have HSn := hide (fromP_snoc f t rl i hlt)
      rw [← hky] at HSn
      have hll : Ln.length ≤ 100000 := by rw [HLn.out]; exact Nat.le_trans (fromP_len _ _ _) (by rw [List.length_take]; omega)
      have hi0 : (0 : Int) ≤ (i : Int) := by omega
      have hi1 : (i : Int) < (rl.length : Int) := by omega
      obtain ⟨l1, h1⟩ : ∃ l, Op.bytesLess k.toList f.toList = l := ⟨_, rfl⟩
      obtain ⟨l2, h2⟩ : ∃ l, Op.bytesLess k.toList t.toList = l := ⟨_, rfl⟩
      have HIn : Hid (inB f t (k, y) = (!l1 && l2)) := hide (by rw [inB, h1, h2])
      clear hoa hky
      cases l1 with
      | true =>
        have HNx : Hid (Ln = fromP f t (rl.take (i + 1))) := hide (by rw [HSn.out, HIn.out, ← HLn.out]; simp)
        have HBn := hide (HBl.out.alloc HBl.out.size (Obj.cells #[.string k, .string y] 80))
        have HOn := hide (HOw.out.alloc (Obj.cells #[.string k, .string y] 80))
        go_wp2_with fail
        go_roundg (gk - 1)
        case measure => have := HQ.out; omega
        case rel => exact ⟨i + 1, Ln, b, c, by omega, by have := HQ.out; omega, by go_num, rfl, HNx, HOn, HBn⟩
      | false =>
        cases l2 with
        | false =>
          have HNx : Hid (Ln = fromP f t (rl.take (i + 1))) := hide (by rw [HSn.out, HIn.out, ← HLn.out]; simp)
          have HBn := hide (HBl.out.alloc HBl.out.size (Obj.cells #[.string k, .string y] 80))
          have HOn := hide (HOw.out.alloc (Obj.cells #[.string k, .string y] 80))
          go_wp2_with fail
          go_roundg (gk - 1)
          case measure => have := HQ.out; omega
          case rel => exact ⟨i + 1, Ln, b, c, by omega, by have := HQ.out; omega, by go_num, rfl, HNx, HOn, HBn⟩
        | true =>
          have HNx : Hid (Ln ++ [(k, y)] = fromP f t (rl.take (i + 1))) := hide (by rw [HSn.out, HIn.out, ← HLn.out]; simp)
          go_wp2_with (at_builtin; (refine wpList_append_lies _ rfl _ _ 27 rfl w1.heap.size 80 ip (.agg #[.string ⟨#[]⟩, .string ⟨#[]⟩]) 2 32 Tryd.underlying27 hj hy0 hy1 hy2 rfl (by decide) _ Ln.length (prs Ln) rfl ((HOw.out.alloc _).alloc _) ⟨wr.heap.size + 1, 0, none⟩ 1 1 [.string k, .string y] rfl rfl (pair_cellsW _ _ (by simp) _ _ _) ?c1 (by decide) ?c3 ?c4 ?c5 _ rfl ?_))
          case c1 => intro u hu; simp at hu; rcases hu with rfl | rfl <;> rfl
          case c3 => unfold maxLen; omega
          case c4 => omega
          case c5 => have := HBl.out.size; simp; omega
          intro b6 d6 wB hownB hgB hbB hlB
          have HBB : Hid (Below w1.heap.size w1 wB) := hide (((HBl.out.alloc HBl.out.size _).alloc (by have := HBl.out.size; simp; omega) _).grown hgB (by have := HBl.out.size; simp; omega) (fun j hj => (HOw.out.lt j hj).1))
          have HOB : Hid (wB.ownsRow w1.heap.size 80 2 (.slice (some ⟨b6, 0, none⟩) (Ln ++ [(k, y)]).length d6) (Ln ++ [(k, y)]).length (prs (Ln ++ [(k, y)]))) := hide (by rw [← prs_snoc, List.length_append]; exact hownB)
          clear hownB hgB hbB hlB
          go_wp2_with fail
          go_roundg (gk - 1)
          case measure => have := HQ.out; omega
          case rel => exact ⟨i + 1, Ln ++ [(k, y)], b6, d6, by omega, by have := HQ.out; omega, by go_num, by simp, HNx, HOB, HBB⟩
    · obtain rfl : i = rl.length := by omega
      go_wp2_with fail
      go_ret
      have h := HOw.out
      have e := HLn.out
      rw [List.take_length] at e
      refine ⟨_, rfl, ?_, HB1.out.trans (HBl.out.mono HB1.out.size)⟩
      rw [← e]
      exact own_down h HB1.out.size

set_option maxHeartbeats 4000000 in
set_option maxRecDepth 100000 in
theorem specPairsFrom_any (ps : List ByteArray) (ls : List (Int × ByteArray)) (hp : ps.length ≤ 1048576) (hl : ls.length ≤ 1048576) (hps : ∀ s ∈ ps, s.size ≤ 1048576) (hls : ∀ p ∈ ls, p.2.size ≤ 1048576) (ap al : Option Addr) (np nl cp cl : Nat) (root : Int) (f t : ByteArray) (w : World) (hd : DiskAt w (.agg #[.slice ap np cp, .slice al nl cl]) ps ls) (hdk : ∀ k, diskBlocks (.agg #[.slice ap np cp, .slice al nl cl]) k → k < w.heap.size) :
    Calls Tryd.prog 17 #[.agg #[.slice ap np cp, .slice al nl cl], .int .i64 root, .string f, .string t] w fun e w' => ∃ v', e = .returned v' ∧ w'.ownsRow w.heap.size 80 2 v' (fromP f t (allI (fun q => rdN (readD ps ls q)) root).1).length (prs (fromP f t (allI (fun q => rdN (readD ps ls q)) root).1)) ∧ Below w.heap.size w w' := by
  obtain ⟨ip, hj, hy0, hy1, hy2⟩ := info_parts Tryd.infoPair
  have HAp := hide (fun wx h hk => specAllPairs_any ps ls hp hl hps hls (.agg #[.slice ap np cp, .slice al nl cl]) root wx h hk)
  rw [← both_all _ (rdN_right2 ps ls) root] at HAp
  have hrl := all_len ps ls root
  obtain ⟨R, hR⟩ : ∃ R, R = allI (fun q => rdN (readD ps ls q)) root := ⟨_, rfl⟩
  rw [← hR] at HAp hrl ⊢
  obtain ⟨rl, fl⟩ := R
  have hrl : rl.length ≤ 100000 := hrl
  show Calls _ _ _ _ (fun e w' => ∃ v', e = .returned v' ∧ w'.ownsRow w.heap.size 80 2 v' (fromP f t rl).length (prs (fromP f t rl)) ∧ Below w.heap.size w w')
  obtain ⟨w0, hw0⟩ : ∃ w0, w0 = w.alloc (.cells #[.slice ap np cp, .slice al nl cl] 32 (0, 0)) := ⟨_, rfl⟩
  have HB0 : Hid (Below w.heap.size w w0) := hide (by rw [hw0]; exact (Below.refl _ _).alloc (Nat.le_refl _) _)
  have HD := hide hd
  have HDk := hide hdk
  clear hp hl hps hls hd hR hdk
  go_enter Tryd.func17, Tryd.ntmps17
  go_wp2_with fail
  rw [← hw0]
  clear hw0
  refine (HAp.out w0 (disk_below HD.out HB0.out) (fun k hk => Nat.lt_of_lt_of_le (HDk.out k hk) HB0.out.size)).mono ?_
  rintro e w1 ⟨u, rfl, hown, hb1⟩
  have hown : w1.ownsRow w0.heap.size 80 2 u rl.length (prs rl) := hown
  have HB1 : Hid (Below w.heap.size w w1) := hide (HB0.out.trans (hb1.mono HB0.out.size))
  obtain ⟨xr, cr, rfl⟩ := own_slice hown
  have HO := hide hown
  have HEm : Hid ((w1.alloc (Obj.cells #[] 80)).ownsRow w1.heap.size 80 2 (.slice (some ⟨w1.heap.size, 0, none⟩) 0 0) 0 (prs [])) := hide ⟨rfl, Or.inr ⟨w1.heap.size, 0, #[], rfl, Nat.le_refl _, heap_alloc_new w1 _, Nat.le_refl _, Nat.zero_le _, rfl, rfl⟩⟩
  have HBe : Hid (Below w1.heap.size w1 (w1.alloc (Obj.cells #[] 80))) := hide ((Below.refl _ _).alloc (Nat.le_refl _) _)
  clear hown hb1
  go_wp2_with fail
  go_loopg [11, 12] rl.length (fun q lv iv wr => ∃ (i : Nat) (Ln : List (ByteArray × ByteArray)) (b c : Nat), i ≤ rl.length ∧ q + i = rl.length ∧ iv = .int .i64 (i : Int) ∧ lv = .slice (some ⟨b, 0, none⟩) Ln.length c ∧ Hid (Ln = fromP f t (rl.take i)) ∧ Hid (wr.ownsRow w1.heap.size 80 2 (.slice (some ⟨b, 0, none⟩) Ln.length c) Ln.length (prs Ln)) ∧ Hid (Below w1.heap.size w1 wr))
  case atStart => exact ⟨0, [], w1.heap.size, 0, Nat.zero_le _, by omega, rfl, rfl, hide (by rw [List.take_zero]; rfl), HEm, HBe⟩
  case round =>
    obtain ⟨i, Ln, b, c, hi, hq, rfl, rfl, HLn, HOw, HBl⟩ := hrel
    have HQ := hide hq
    clear hq
    by_cases hlt : i < rl.length
    · obtain ⟨g, rfl⟩ : ∃ g, xr = some ⟨g, 0, none⟩ := by
        rcases HO.out.2 with ⟨e, h0⟩ | ⟨g, cc, cur, e, _⟩
        · omega
        · injection e with e1; exact ⟨g, e1⟩
      obtain ⟨k, y, hky⟩ : ∃ k y, (k, y) = rl[i] := ⟨_, _, rfl⟩
      have hoa := own_stays HO.out HBl.out
      have hc0 : wr.cell? ⟨g, i * 2, none⟩ = some (.string k) := by rw [hoa.cellAt (i * 2) (by omega), (prs_at rl i hlt).1, ← hky]
      have hc1 : wr.cell? ⟨g, i * 2 + 1, none⟩ = some (.string y) := by rw [hoa.cellAt (i * 2 + 1) (by omega), (prs_at rl i hlt).2, ← hky]
      have hgl : g < wr.heap.size := (hoa.lt g rfl).2
      have hca : ∀ o, (wr.alloc o).cell? ⟨g, i * 2, none⟩ = some (.string k) ∧ (wr.alloc o).cell? ⟨g, i * 2 + 1, none⟩ = some (.string y) := fun o => ⟨(((Below.refl _ _).alloc (Nat.le_refl _) o).cell (by exact hgl)).trans hc0, (((Below.refl _ _).alloc (Nat.le_refl _) o).cell (by exact hgl)).trans hc1⟩
      have HSn := hide (fromP_snoc f t rl i hlt)
      rw [← hky] at HSn
      have hll : Ln.length ≤ 100000 := by rw [HLn.out]; exact Nat.le_trans (fromP_len _ _ _) (by rw [List.length_take]; omega)
      have hi0 : (0 : Int) ≤ (i : Int) := by omega
      have hi1 : (i : Int) < (rl.length : Int) := by omega
      obtain ⟨l1, h1⟩ : ∃ l, Op.bytesLess k.toList f.toList = l := ⟨_, rfl⟩
      obtain ⟨l2, h2⟩ : ∃ l, Op.bytesLess k.toList t.toList = l := ⟨_, rfl⟩
      have HIn : Hid (inB f t (k, y) = (!l1 && l2)) := hide (by rw [inB, h1, h2])
      clear hoa hky
      cases l1 with
      | true =>
        have HNx : Hid (Ln = fromP f t (rl.take (i + 1))) := hide (by rw [HSn.out, HIn.out, ← HLn.out]; simp)
        have HBn := hide (HBl.out.alloc HBl.out.size (Obj.cells #[.string k, .string y] 80))
        have HOn := hide (HOw.out.alloc (Obj.cells #[.string k, .string y] 80))
        go_wp2_with fail
        go_roundg (gk - 1)
        case measure => have := HQ.out; omega
        case rel => exact ⟨i + 1, Ln, b, c, by omega, by have := HQ.out; omega, by go_num, rfl, HNx, HOw, HBl⟩
      | false =>
        cases l2 with
        | false =>
          have HNx : Hid (Ln = fromP f t (rl.take (i + 1))) := hide (by rw [HSn.out, HIn.out, ← HLn.out]; simp)
          have HBn := hide (HBl.out.alloc HBl.out.size (Obj.cells #[.string k, .string y] 80))
          have HOn := hide (HOw.out.alloc (Obj.cells #[.string k, .string y] 80))
          go_wp2_with fail
          go_roundg (gk - 1)
          case measure => have := HQ.out; omega
          case rel => exact ⟨i + 1, Ln, b, c, by omega, by have := HQ.out; omega, by go_num, rfl, HNx, HOw, HBl⟩
        | true =>
          have HNx : Hid (Ln ++ [(k, y)] = fromP f t (rl.take (i + 1))) := hide (by rw [HSn.out, HIn.out, ← HLn.out]; simp)
          go_wp2_with (at_builtin; (refine wpList_append_lies _ rfl _ _ 27 rfl w1.heap.size 80 ip (.agg #[.string ⟨#[]⟩, .string ⟨#[]⟩]) 2 32 Tryd.underlying27 hj hy0 hy1 hy2 rfl (by decide) _ Ln.length (prs Ln) rfl (HOw.out.alloc _) ⟨wr.heap.size, 0, none⟩ 1 1 [.string k, .string y] rfl rfl (pair_cellsW _ _ (by simp) _ _ _) ?c1 (by decide) ?c3 ?c4 ?c5 _ rfl ?_))
          case c1 => intro u hu; simp at hu; rcases hu with rfl | rfl <;> rfl
          case c3 => unfold maxLen; omega
          case c4 => omega
          case c5 => have := HBl.out.size; simp; omega
          intro b6 d6 wB hownB hgB hbB hlB
          have HBB : Hid (Below w1.heap.size w1 wB) := hide ((HBl.out.alloc HBl.out.size _).grown hgB (by have := HBl.out.size; simp; omega) (fun j hj => (HOw.out.lt j hj).1))
          have HOB : Hid (wB.ownsRow w1.heap.size 80 2 (.slice (some ⟨b6, 0, none⟩) (Ln ++ [(k, y)]).length d6) (Ln ++ [(k, y)]).length (prs (Ln ++ [(k, y)]))) := hide (by rw [← prs_snoc, List.length_append]; exact hownB)
          clear hownB hgB hbB hlB
          go_wp2_with fail
          go_roundg (gk - 1)
          case measure => have := HQ.out; omega
          case rel => exact ⟨i + 1, Ln ++ [(k, y)], b6, d6, by omega, by have := HQ.out; omega, by go_num, by simp, HNx, HOB, HBB⟩
    · obtain rfl : i = rl.length := by omega
      go_wp2_with fail
      go_ret
      have h := HOw.out
      have e := HLn.out
      rw [List.take_length] at e
      refine ⟨_, rfl, ?_, HB1.out.trans (HBl.out.mono HB1.out.size)⟩
      rw [← e]
      exact own_down h HB1.out.size

end Go.Proofs.YtejfmjejdopglaaDoor

namespace Go.Proofs.YtejfmjejdopglaaDoor
open Go.RowKit

set_option maxHeartbeats 8000000 in
set_option maxRecDepth 100000 in
theorem lawPairsFrom (v : Value) (ps : List ByteArray) (ls : List (Int × ByteArray)) (bp : ps.length ≤ maxLen) (bq : ∀ s ∈ ps, s.size ≤ maxLen) (bl : ls.length ≤ maxLen) (bm : ∀ p ∈ ls, p.2.size ≤ maxLen) (root : Int) (f : ByteArray) (hfm : f.size ≤ maxLen) (t : ByteArray) (htm : t.size ≤ maxLen) (w : World) (hT : SumTab w) (hd : DiskAt w v ps ls) :
    Calls Tryd.prog 4 #[v, .int .i64 root, .string f, .string t] w fun e w' => e = .returned (.bool true) ∧ Below w.heap.size w w' := by
  have HSz := hide (fun wx h => szDisk_any v ps ls bp bq bl bm 1048576 (Nat.le_refl _) wx h)
  clear bp bq bl bm
  have HD := hide hd
  have HT := hide hT
  clear hT
  obtain ⟨vp, vl, rfl, -, -⟩ := hd
  obtain ⟨w0, hw0⟩ : ∃ w0, w0 = w.alloc (Obj.cells #[vp, vl] 25) := ⟨_, rfl⟩
  have HB_w0 : Hid (Below w.heap.size w w0) := hide (by rw [hw0]; exact (new_var w vp vl _).1)
  have Hbox_w0 : Hid (Held w0 w.heap.size (w.heap.size + 1) (IsVar w.heap.size vp vl 25)) := hide (by rw [hw0]; exact (new_var w vp vl _).2)
  unfold maxLen at hfm htm
  by_cases hfb : 1048576 < f.size
  · have dk : decide ((1048576 : Int) < (f.size : Int)) = true := decide_eq_true (by omega)
    go_enter Tryd.func4, Tryd.ntmps4
    go_wp2_with fail
    rw [← hw0]
    go_ret
    exact ⟨rfl, HB_w0.out⟩
  by_cases htb : 1048576 < t.size
  · have dk : decide ((1048576 : Int) < (t.size : Int)) = true := decide_eq_true (by omega)
    go_enter Tryd.func4, Tryd.ntmps4
    go_wp2_with fail
    rw [← hw0]
    go_ret
    exact ⟨rfl, HB_w0.out⟩
  have df : ¬ ((1048576 : Int) < (f.size : Int)) := by omega
  have dt : ¬ ((1048576 : Int) < (t.size : Int)) := by omega
  by_cases hbk : bulkS ps + bulkP ls ≤ 1048576
  · obtain ⟨h1, h2, h3, h4⟩ := bulk_inA hbk
    obtain ⟨r, hr⟩ : ∃ r : Nat, szOut 1048576 (bulkS ps + bulkP ls) = (r : Int) := ⟨_, szOut_yes hbk⟩
    rw [hr] at HSz
    have HTo := hide (fun wx h => toDisk_any (.agg #[vp, vl]) ps ls h1 h3 wx h)
    have HSp := hide (fun ap np cp al nl cl wx h hk => specPairsFrom_any ps ls h1 h3 h2 h4 ap al np nl cp cl root f t wx h hk)
    have HIm := hide (fun ap np cp al nl cl wx ht h => implPairsFrom_any ps ls h1 h3 h2 h4 ap al np nl cp cl root f t wx ht h)
    have hrl := Nat.le_trans (fromP_len f t (allI (fun q => rdN (readD ps ls q)) root).1) (all_len ps ls root)
    obtain ⟨rl, hR⟩ : ∃ rl, rl = fromP f t (allI (fun q => rdN (readD ps ls q)) root).1 := ⟨_, rfl⟩
    rw [← hR] at HSp HIm hrl
    have HEx := hide (fun u u' wx h h' => eqDisk_any u u' ps ps ls ls (by omega) (by omega) (by omega) (by omega) wx h h')
    have HEr := hide (fun u u' wx h h' => eqPairS_row rl rl (by omega) (by omega) u u' wx h h')
    rw [decide_eq_true rfl] at HEx HEr
    have HMx := hide (fun u B wx h => markDisk_any u ps ls B 1 h1 h3 (by omega) (by omega) wx h)
    have HMr := hide (fun u B wx h => markPairS_row rl (by omega) u B 1 (by omega) (by omega) wx h)
    have HHr := hide (fun u wx h => heldPairS_row rl.length (by omega) u 1 (by omega) (by omega) wx h)
    obtain ⟨kx, hkx⟩ : ∃ kx, kx = 1 + ps.length + ls.length * 2 := ⟨_, rfl⟩
    obtain ⟨kr, hkr⟩ : ∃ kr, kr = 1 + rl.length * 2 := ⟨_, rfl⟩
    rw [← hkx] at HMx
    rw [← hkr] at HMr HHr
    have hkxl : kx ≤ 4000000 := by omega
    have hkrl : kr ≤ 4000000 := by omega
    clear hR hbk h1 h2 h3 h4 hr hkx hkr
    go_enter Tryd.func4, Tryd.ntmps4
    go_wp2_with fail
    rw [← hw0]
    clear hw0
    refine (HSz.out _ (disk_below HD.out HB_w0.out)).mono ?_
    rintro e w1 ⟨rfl, hb⟩
    have Hbox_w1 := hide (held_below Hbox_w0.out hb)
    have HB_w1 : Hid (Below w.heap.size w w1) := hide (HB_w0.out.trans (hb.mono HB_w0.out.size))
    clear hb
    obtain ⟨ffb0, ffb1⟩ := held_cells Hbox_w1.out
    go_wp2_with fail
    clear ffb0 ffb1
    refine (HTo.out _ (disk_below HD.out HB_w1.out)).mono ?_
    rintro e w2 ⟨u2, rfl, hown2, hb⟩
    have Hbox_w2 := hide (held_below Hbox_w1.out hb)
    have HB_w2 : Hid (Below w.heap.size w w2) := hide (HB_w1.out.trans (hb.mono HB_w1.out.size))
    clear hb
    have HO2 := hide hown2
    obtain ⟨x2, c2, y2, d2, rfl⟩ := disk_form hown2
    clear hown2
    go_wp2_with fail
    refine (HSp.out _ _ _ _ _ _ _ (disk_of_own HO2.out) (fun k hk => (diskOwn_lt HO2.out k hk).2)).mono ?_
    rintro e w3 ⟨u3, rfl, hown, hb⟩
    have hown : w3.ownsRow w2.heap.size 80 2 u3 rl.length (prs rl) := hown
    have HZ3 : Hid (w2.heap.size ≤ w3.heap.size) := hide hb.size
    have Hbox_w3 := hide (held_below Hbox_w2.out hb)
    have HB_w3 : Hid (Below w.heap.size w w3) := hide (HB_w2.out.trans (hb.mono HB_w2.out.size))
    clear hb HO2
    have Hr3_w3 := hide (held_pr hown)
    obtain ⟨x3, c3, rfl⟩ := own_slice hown
    clear hown
    obtain ⟨ffb0, ffb1⟩ := held_cells Hbox_w3.out
    go_wp2_with fail
    clear ffb0 ffb1
    refine (HTo.out _ (disk_below HD.out HB_w3.out)).mono ?_
    rintro e w5 ⟨u5, rfl, hown, hb⟩
    have HZ5 : Hid (w3.heap.size ≤ w5.heap.size) := hide hb.size
    have Hbox_w5 := hide (held_below Hbox_w3.out hb)
    have Hr3_w5 := hide (held_below Hr3_w3.out hb)
    have HB_w5 : Hid (Below w.heap.size w w5) := hide (HB_w3.out.trans (hb.mono HB_w3.out.size))
    clear hb
    have Hd5_w5 := hide (held_disk hown)
    obtain ⟨x5, c5, y5, d5, rfl⟩ := disk_form hown
    clear hown
    obtain ⟨g5, hg⟩ : ∃ g, g = w5.heap.size := ⟨_, rfl⟩
    obtain ⟨w6, hnw⟩ : ∃ wx, wx = w5.alloc (Obj.cells #[.slice x5 ps.length c5, .slice y5 ls.length d5] 32) := ⟨_, rfl⟩
    have hnv := new_var w5 (.slice x5 ps.length c5) (.slice y5 ls.length d5) 32
    rw [← hnw, ← hg] at hnv
    have hbv : Below w5.heap.size w5 w6 := by rw [← hg]; exact hnv.1
    have Hg5_w6 := hide hnv.2
    have Hgt5 : Hid (w5.heap.size = g5) := hide hg.symm
    have Hbox_w6 := hide (held_below Hbox_w5.out hbv)
    have Hr3_w6 := hide (held_below Hr3_w5.out hbv)
    have Hd5_w6 := hide (held_below Hd5_w5.out hbv)
    have HB_w6 : Hid (Below w.heap.size w w6) := hide (HB_w5.out.trans (hbv.mono HB_w5.out.size))
    clear hnv hbv
    have HDx := hide (disk_of_own Hd5_w6.out.is.1)
    have HTx := hide (sumTab_below HT.out HB_w6.out)
    go_wp2_with fail
    rw [← hnw, ← hg]
    clear hnw hg
    refine (HIm.out _ _ _ _ _ _ _ HTx.out HDx.out).mono ?_
    rintro e w7 ⟨u7, rfl, hown, hb⟩
    have hown : w7.ownsRow w6.heap.size 80 2 u7 rl.length (prs rl) := hown
    have HZ7 : Hid (w6.heap.size ≤ w7.heap.size) := hide hb.size
    have Hbox_w7 := hide (held_below Hbox_w6.out hb)
    have Hr3_w7 := hide (held_below Hr3_w6.out hb)
    have Hd5_w7 := hide (held_below Hd5_w6.out hb)
    have Hg5_w7 := hide (held_below Hg5_w6.out hb)
    have HB_w7 : Hid (Below w.heap.size w w7) := hide (HB_w6.out.trans (hb.mono HB_w6.out.size))
    clear hb HDx HTx
    have Hr7_w7 := hide (held_pr hown)
    obtain ⟨x7, c7, rfl⟩ := own_slice hown
    clear hown
    go_wp2_with fail
    refine (HEr.out _ _ _ (row_of_own Hr7_w7.out.is.1) (row_of_own Hr3_w7.out.is.1)).mono ?_
    rintro e w9 ⟨rfl, hb⟩
    have Hbox_w9 := hide (held_below Hbox_w7.out hb)
    have Hr3_w9 := hide (held_below Hr3_w7.out hb)
    have Hd5_w9 := hide (held_below Hd5_w7.out hb)
    have Hg5_w9 := hide (held_below Hg5_w7.out hb)
    have Hr7_w9 := hide (held_below Hr7_w7.out hb)
    have HB_w9 : Hid (Below w.heap.size w w9) := hide (HB_w7.out.trans (hb.mono HB_w7.out.size))
    clear hb
    obtain ⟨ffb0, ffb1⟩ := held_cells Hbox_w9.out
    obtain ⟨ffx0, ffx1⟩ := held_cells Hg5_w9.out
    go_wp2_with fail
    have HSall : Hid (∀ wx, Below w9.heap.size w9 wx → wx.cell? ⟨w.heap.size, 0, none⟩ = some vp ∧ wx.cell? ⟨w.heap.size, 1, none⟩ = some vl ∧ wx.cell? ⟨g5, 0, none⟩ = some (.slice x5 ps.length c5) ∧ wx.cell? ⟨g5, 1, none⟩ = some (.slice y5 ls.length d5)) := hide (fun wx hb => by
      have h1 := (held_below Hbox_w9.out hb).is
      have h2 := (held_below Hg5_w9.out hb).is
      exact ⟨(cell_at h1 0).1, (cell_at h1 1).1, (cell_at h2 0).1, (cell_at h2 1).1⟩)
    have hS0 := HSall.out w9 (Below.refl _ _)
    clear ffb0 ffb1 ffx0 ffx1
    go_region_held3 (fun wx => wx.cell? ⟨w.heap.size, 0, none⟩ = some vp ∧ wx.cell? ⟨w.heap.size, 1, none⟩ = some vl ∧ wx.cell? ⟨g5, 0, none⟩ = some (.slice x5 ps.length c5) ∧ wx.cell? ⟨g5, 1, none⟩ = some (.slice y5 ls.length d5)) (first | exact hS0 | exact hS8 | exact hS9) (first | (go_at_call 10; refine (HTo.out _ ?_).mono ?_; exact disk_below HD.out HB_w9.out.drew; rintro e w10 ⟨u10, rfl, hown, hbA⟩; have hA8 : Below w9.heap.size w9 w10 := (Below.refl _ _).drew.trans hbA; have hS8 := HSall.out _ hA8) | (go_at_call 13; refine (HEx.out _ _ _ ?_ ?_).mono ?_; exact disk_below (disk_of_own Hd5_w9.out.is.1) hA8; exact disk_of_own hown; rintro e w11 ⟨rfl, hbC⟩; have hA9 : Below w9.heap.size w9 w11 := hA8.trans (hbC.mono hA8.size); have hS9 := HSall.out _ hA9))
    have hb := hA9
    have Hbox_w11 := hide (held_below Hbox_w9.out hb)
    have Hr3_w11 := hide (held_below Hr3_w9.out hb)
    have Hd5_w11 := hide (held_below Hd5_w9.out hb)
    have Hg5_w11 := hide (held_below Hg5_w9.out hb)
    have Hr7_w11 := hide (held_below Hr7_w9.out hb)
    have HB_w11 : Hid (Below w.heap.size w w11) := hide (HB_w9.out.trans (hb.mono HB_w9.out.size))
    clear hb hA8 hA9 hbA hbC hown hS0 hS8 hS9 HSall
    have HL : Hid (w.heap.size + 1 ≤ w2.heap.size ∧ w2.heap.size ≤ w3.heap.size ∧ w3.heap.size ≤ w5.heap.size ∧ w5.heap.size = g5 ∧ g5 + 1 ≤ w6.heap.size ∧ w6.heap.size ≤ w7.heap.size) := hide ⟨Hbox_w2.out.le, HZ3.out, HZ5.out, Hgt5.out, Hg5_w6.out.le, HZ7.out⟩
    obtain ⟨ffx0, ffx1⟩ := held_cells Hg5_w11.out
    go_wp2_with fail
    clear ffx0 ffx1
    have hin5 : ∀ k, diskBlocks (.agg #[.slice x5 ps.length c5, .slice y5 ls.length d5]) k → w3.heap.size ≤ k ∧ k < w5.heap.size := fun k h => ⟨(diskOwn_lt Hd5_w11.out.is.1 k h).1, Hd5_w11.out.is.2 k h⟩
    refine (HMx.out _ _ _ Hd5_w11.out.is.1).mono ?_
    rintro e w12 ⟨rfl, hownM, hk⟩
    have Hbox_w12 := hide (held_kept Hbox_w11.out hk (fun k h1 h2 h => by have h3 := hin5 k h; have h4 := HL.out; omega))
    have Hr3_w12 := hide (held_kept Hr3_w11.out hk (fun k h1 h2 h => by have h3 := hin5 k h; have h4 := HL.out; omega))
    have Hg5_w12 := hide (held_kept Hg5_w11.out hk (fun k h1 h2 h => by have h3 := hin5 k h; have h4 := HL.out; omega))
    have Hr7_w12 := hide (held_kept Hr7_w11.out hk (fun k h1 h2 h => by have h3 := hin5 k h; have h4 := HL.out; omega))
    have HB_w12 : Hid (Below w.heap.size w w12) := hide (HB_w11.out.trans (below_of_kept hk HB_w11.out.size (fun k h => by have h3 := hin5 k h; have h4 := HL.out; omega)))
    clear hk hownM hin5
    go_wp2_with fail
    refine (HEr.out _ _ _ (row_of_own Hr7_w12.out.is.1) (row_of_own Hr3_w12.out.is.1)).mono ?_
    rintro e w13 ⟨rfl, hb⟩
    have Hbox_w13 := hide (held_below Hbox_w12.out hb)
    have Hr3_w13 := hide (held_below Hr3_w12.out hb)
    have Hg5_w13 := hide (held_below Hg5_w12.out hb)
    have Hr7_w13 := hide (held_below Hr7_w12.out hb)
    have HB_w13 : Hid (Below w.heap.size w w13) := hide (HB_w12.out.trans (hb.mono HB_w12.out.size))
    clear hb
    go_wp2_with fail
    have hin6 : ∀ k, (Value.slice x7 rl.length c7).ownBlock = some k → w6.heap.size ≤ k ∧ k < w7.heap.size := fun k h => ⟨(Hr7_w13.out.is.1.lt k h).1, Hr7_w13.out.is.2 k h⟩
    refine (HMr.out _ _ _ Hr7_w13.out.is.1).mono ?_
    rintro e w14 ⟨rfl, hownM, hk⟩
    have HrM_w14 := hide (held_prA (l' := marksQ 1 rl.length) Hr7_w13.out (by rw [marksQ_length]; exact hownM) hk.2.2.2.1)
    have Hbox_w14 := hide (held_kept Hbox_w13.out hk (fun k h1 h2 h => by have h3 := hin6 k h; have h4 := HL.out; omega))
    have Hr3_w14 := hide (held_kept Hr3_w13.out hk (fun k h1 h2 h => by have h3 := hin6 k h; have h4 := HL.out; omega))
    have Hg5_w14 := hide (held_kept Hg5_w13.out hk (fun k h1 h2 h => by have h3 := hin6 k h; have h4 := HL.out; omega))
    have HB_w14 : Hid (Below w.heap.size w w14) := hide (HB_w13.out.trans (below_of_kept hk HB_w13.out.size (fun k h => by have h3 := hin6 k h; have h4 := HL.out; omega)))
    clear hk hownM hin6
    go_wp2_with fail
    have hrow : RowAt w14 2 (.slice x7 rl.length c7) rl.length (prs (marksQ 1 rl.length)) := by have h := row_of_own HrM_w14.out.is.1; rw [marksQ_length] at h; exact h
    refine (HHr.out _ _ hrow).mono ?_
    rintro e w15 ⟨rfl, hb⟩
    clear hrow
    have Hbox_w15 := hide (held_below Hbox_w14.out hb)
    have Hr3_w15 := hide (held_below Hr3_w14.out hb)
    have Hg5_w15 := hide (held_below Hg5_w14.out hb)
    have HrM_w15 := hide (held_below HrM_w14.out hb)
    have HB_w15 : Hid (Below w.heap.size w w15) := hide (HB_w14.out.trans (hb.mono HB_w14.out.size))
    clear hb
    obtain ⟨ffb0, ffb1⟩ := held_cells Hbox_w15.out
    go_wp2_with fail
    clear ffb0 ffb1
    refine (HTo.out _ (disk_below HD.out HB_w15.out)).mono ?_
    rintro e w16 ⟨u16, rfl, hown, hb⟩
    have Hbox_w16 := hide (held_below Hbox_w15.out hb)
    have Hr3_w16 := hide (held_below Hr3_w15.out hb)
    have Hg5_w16 := hide (held_below Hg5_w15.out hb)
    have HrM_w16 := hide (held_below HrM_w15.out hb)
    have HB_w16 : Hid (Below w.heap.size w w16) := hide (HB_w15.out.trans (hb.mono HB_w15.out.size))
    clear hb
    have HO16 := hide hown
    obtain ⟨x6, c6, y6, d6, rfl⟩ := disk_form hown
    clear hown
    go_wp2_with fail
    refine (HIm.out _ _ _ _ _ _ _ (sumTab_below HT.out HB_w16.out) (disk_of_own HO16.out)).mono ?_
    rintro e w17 ⟨u17, rfl, hown, hb⟩
    have hown : w17.ownsRow w16.heap.size 80 2 u17 rl.length (prs rl) := hown
    have Hbox_w17 := hide (held_below Hbox_w16.out hb)
    have Hr3_w17 := hide (held_below Hr3_w16.out hb)
    have Hg5_w17 := hide (held_below Hg5_w16.out hb)
    have HrM_w17 := hide (held_below HrM_w16.out hb)
    have HB_w17 : Hid (Below w.heap.size w w17) := hide (HB_w16.out.trans (hb.mono HB_w16.out.size))
    clear hb HO16
    have HOr := hide hown
    obtain ⟨x8, c8, rfl⟩ := own_slice hown
    clear hown
    go_wp2_with fail
    refine (HEr.out _ _ _ (row_of_own HOr.out) (row_of_own Hr3_w17.out.is.1)).mono ?_
    rintro e w19 ⟨rfl, hb⟩
    have Hbox_w19 := hide (held_below Hbox_w17.out hb)
    have Hr3_w19 := hide (held_below Hr3_w17.out hb)
    have Hg5_w19 := hide (held_below Hg5_w17.out hb)
    have HrM_w19 := hide (held_below HrM_w17.out hb)
    have HB_w19 : Hid (Below w.heap.size w w19) := hide (HB_w17.out.trans (hb.mono HB_w17.out.size))
    clear hb
    go_wp2_with fail
    have hrow : RowAt w19 2 (.slice x7 rl.length c7) rl.length (prs (marksQ 1 rl.length)) := by have h := row_of_own HrM_w19.out.is.1; rw [marksQ_length] at h; exact h
    refine (HHr.out _ _ hrow).mono ?_
    rintro e w20 ⟨rfl, hb⟩
    clear hrow
    have Hbox_w20 := hide (held_below Hbox_w19.out hb)
    have Hr3_w20 := hide (held_below Hr3_w19.out hb)
    have Hg5_w20 := hide (held_below Hg5_w19.out hb)
    have HrM_w20 := hide (held_below HrM_w19.out hb)
    have HB_w20 : Hid (Below w.heap.size w w20) := hide (HB_w19.out.trans (hb.mono HB_w19.out.size))
    clear hb
    go_wp2_with fail
    go_ret
    exact ⟨rfl, HB_w20.out⟩
  · rw [szOut_no (by omega)] at HSz
    go_enter Tryd.func4, Tryd.ntmps4
    go_wp2_with fail
    rw [← hw0]
    refine (HSz.out _ (disk_below HD.out HB_w0.out)).mono ?_
    rintro e w1 ⟨rfl, hb1⟩
    clear hw0
    go_wp2_with fail
    go_ret
    exact ⟨rfl, HB_w0.out.trans (hb1.mono HB_w0.out.size)⟩
end Go.Proofs.YtejfmjejdopglaaDoor
