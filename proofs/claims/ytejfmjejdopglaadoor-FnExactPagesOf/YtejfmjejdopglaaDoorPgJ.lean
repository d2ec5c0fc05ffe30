/-
  Several texts in one. Plain facts of sorted lists of numbers: a list has one sorted order; the step of a sort by insertion. No program. · spec.l07Sorted by a contract: a new row of the same numbers, in order. · spec.PagesOf by a contract: the pages that are met, in order; or none and false. · slices.Sort over a row of ints of our own, by the library's contract: the same numbers, in order, in the same memory. · impl.PagesOf over the walk of a tree (made by tools/pagesrange.py out of AllImpl and AllRange). · laws.FnExactPagesOf by contracts: it returns true at every disk and every root. · A disk that came in as an argument of a law, opened: what its reading gives.
-/
import Derived.WalkKit
import Derived.Test.YtejfmjejdopglaaDoorRdJ
import Derived.Test.YtejfmjejdopglaaDoorIntRow
import Derived.BigQuiet
import Derived.Test.YtejfmjejdopglaaDoorAllJ
import Derived.Test.YtejfmjejdopglaaDoorShelfSort
import Derived.Test.YtejfmjejdopglaaDoorRangeSep
import Derived.Sort.OwnSortedInts
import Derived.Maps.OwnIn
import Derived.Test.YtejfmjejdopglaaDoorDiskN
import Derived.Lib.SmallJoins
import Derived.Deep.Strs
import Derived.Deep.SlicePairs
import Derived.ChangeOld
namespace Go.Proofs.YtejfmjejdopglaaDoor

def Srt (l : List Int) : Prop := l.Pairwise (fun x y => x ≤ y)

theorem srt_one {l m : List Int} (h : l.Perm m) (hl : Srt l) (hm : Srt m) : l = m :=
  h.eq_of_pairwise (fun _ _ _ _ h1 h2 => Int.le_antisymm h1 h2) hl hm

/-- the sort by insertion, in the midst of its inner loop: what lies up to i is in order, but what is at k may be too great a place up -/
structure InsI (l0 l : List Int) (i k : Nat) : Prop where
  perm : l.Perm l0
  ki : k ≤ i
  il : i < l.length
  ord : ∀ a b, a < b → b ≤ i → b ≠ k → l.getD a 0 ≤ l.getD b 0

theorem srt_of {l : List Int} (h : ∀ a b, a < b → b < l.length → l.getD a 0 ≤ l.getD b 0) : Srt l := by
  rw [Srt, List.pairwise_iff_getElem]
  intro i j hi hj hij
  have := h i j hij hj
  simpa [List.getD_eq_getElem?_getD, hi, hj] using this

/-- the list with its k-th and the one ahead of it exchanged -/
def xch (l : List Int) (k : Nat) : List Int := (l.set k (l.getD (k - 1) 0)).set (k - 1) (l.getD k 0)

theorem xch_length (l : List Int) (k : Nat) : (xch l k).length = l.length := by simp [xch]

theorem xch_perm (l : List Int) (k : Nat) (h : k < l.length) : (xch l k).Perm l := by
  have h1 : k - 1 < l.length := by omega
  have := List.set_set_perm (i := k) (j := k - 1) h h1
  simpa [xch, List.getD_eq_getElem?_getD, h, h1] using this

theorem xch_at (l : List Int) (k a : Nat) (hk : 0 < k) (h : k < l.length) : (xch l k).getD a 0 = if a = k then l.getD (k - 1) 0 else if a = k - 1 then l.getD k 0 else l.getD a 0 := by
  have h1 : k - 1 < l.length := by omega
  simp only [xch, List.getD_eq_getElem?_getD, List.getElem?_set, List.length_set]
  by_cases e1 : a = k
  · subst e1
    have : ¬ a - 1 = a := by omega
    simp [this, h]
  · by_cases e2 : a = k - 1
    · subst e2; simp [h1, e1]
    · have g1 : ¬ k - 1 = a := fun e => e2 e.symm
      have g2 : ¬ k = a := fun e => e1 e.symm
      simp [g1, g2, e1, e2]

theorem InsI.step {l0 l : List Int} {i k : Nat} (h : InsI l0 l i k) (hk : 0 < k) (hgt : l.getD k 0 < l.getD (k - 1) 0) : InsI l0 (xch l k) i (k - 1) where
  perm := (xch_perm l k (Nat.lt_of_le_of_lt h.ki h.il)).trans h.perm
  ki := by have := h.ki; omega
  il := by rw [xch_length]; exact h.il
  ord a b hab hb hbk := by
    have hkl := Nat.lt_of_le_of_lt h.ki h.il
    rw [xch_at l k a hk hkl, xch_at l k b hk hkl]
    by_cases b1 : b = k
    · subst b1
      rw [if_pos rfl, if_neg (by omega)]
      by_cases a1 : a = b - 1
      · rw [if_pos a1]; omega
      · rw [if_neg a1]; exact h.ord a (b - 1) (by omega) (by omega) (by omega)
    · rw [if_neg b1, if_neg hbk]
      by_cases a1 : a = k
      · rw [if_pos a1]; exact h.ord (k - 1) b (by omega) hb b1
      · rw [if_neg a1]
        by_cases a2 : a = k - 1
        · rw [if_pos a2]; have := h.ord k b (by omega) hb b1; exact this
        · rw [if_neg a2]; exact h.ord a b hab hb b1

theorem InsI.fin {l0 l : List Int} {i k : Nat} (h : InsI l0 l i k) (hd : k = 0 ∨ ¬ (l.getD k 0 < l.getD (k - 1) 0)) : ∀ a b, a < b → b ≤ i → l.getD a 0 ≤ l.getD b 0 := by
  intro a b hab hb
  by_cases b1 : b = k
  · subst b1
    rcases hd with hd | hd
    · omega
    · by_cases a1 : a = b - 1
      · rw [a1]; omega
      · have := h.ord a (b - 1) (by omega) (by omega) (by omega); omega
  · exact h.ord a b hab hb b1
end Go.Proofs.YtejfmjejdopglaaDoor

namespace Go.Proofs.YtejfmjejdopglaaDoor
open Go.RowKit

theorem at_getD {l : List Int} {k : Nat} (h : k < l.length) : (ints l)[k]? = some (.int .i64 (l.getD k 0)) := by rw [ints_at l k h]; simp [List.getD_eq_getElem?_getD, h]

set_option maxHeartbeats 2000000 in
set_option maxRecDepth 100000 in
theorem l07Sorted_any (l : List Int) (hl : l.length ≤ 1048576) (v : Value) (w : World) (hr : RowAt w 1 v l.length (ints l)) :
    Calls Tryd.prog 49 #[v] w fun e w' => ∃ v' m, e = .returned v' ∧ w'.ownsRow w.heap.size 3 1 v' m.length (ints m) ∧ m.Perm l ∧ Srt m ∧ Below w.heap.size w w' := by
  obtain ⟨i0, hi, hz0, hz1, hz2⟩ := info_parts Tryd.infoIntR
  obtain ⟨w0, hw0⟩ : ∃ w0, w0 = w.alloc (Obj.cells #[] 3) := ⟨_, rfl⟩
  have hb0 : Below w.heap.size w w0 := by rw [hw0]; exact (Below.refl _ _).alloc (Nat.le_refl _) _
  have hown0 : w0.ownsRow w.heap.size 3 1 (.slice (some ⟨w.heap.size, 0, none⟩) 0 0) 0 (ints []) := by rw [hw0]; exact ⟨rfl, Or.inr ⟨_, 0, #[], rfl, Nat.le_refl _, heap_alloc_new w _, Nat.le_refl _, Nat.zero_le _, rfl, rfl⟩⟩
  have HRow := hide (row_below hr hb0)
  clear hr
  go_enter Tryd.func49, Tryd.ntmps49
  go_wp2_with (at_builtin; rw [← hw0]; refine wpList_append_row _ rfl _ _ 41 rfl w.heap.size 3 i0 (.int .i64 0) 1 8 Tryd.underlying41 hi hz0 hz1 hz2 rfl (by decide) _ _ _ rfl hown0 _ _ _ rfl HRow.out (ints_one _) ?_ ?_ ?_ ?_)
  · unfold maxLen; omega
  · omega
  · exact hb0.size
  intro y c w1 hown1 hg1
  rw [← hw0] at hg1
  have HB1 : Hid (Below w.heap.size w w1) := hide (hb0.grown hg1 hb0.size (fun k hk => by cases hk; exact Nat.le_refl _))
  have HO1 : Hid (w1.ownsRow w.heap.size 3 1 (.slice y l.length c) l.length (ints l)) := hide hown1
  clear hown1 hg1 hw0 HRow hown0 hb0
  go_wp2_with fail
  go_loopg [4] l.length (fun q iv wr => ∃ (i : Nat) (m : List Int), 1 ≤ i ∧ i ≤ l.length + 1 ∧ q + i = l.length + 1 ∧ iv = .int .i64 (i : Int) ∧ Hid (wr.ownsRow w.heap.size 3 1 (.slice y l.length c) l.length (ints m)) ∧ Hid (m.Perm l ∧ ∀ a b, a < b → b < i → b < m.length → m.getD a 0 ≤ m.getD b 0) ∧ Hid (Below w.heap.size w wr))
  case atStart => exact ⟨1, l, Nat.le_refl _, by omega, rfl, rfl, HO1, hide ⟨List.Perm.refl _, fun a b h1 h2 h3 => by omega⟩, HB1⟩
  case round =>
    obtain ⟨i, m, hi1, hi2, hq, rfl, HOw, HM, HB⟩ := hrel
    have HQ := hide hq
    clear hq
    by_cases hlt : i < l.length
    · obtain ⟨g, rfl⟩ : ∃ g, y = some ⟨g, 0, none⟩ := by
        rcases HOw.out.2 with ⟨e, h0⟩ | ⟨g, cc, cur, e, _⟩
        · omega
        · injection e with e1; exact ⟨g, e1⟩
      have hi0 : (0 : Int) ≤ (i : Int) := by omega
      have hil : (i : Int) < (l.length : Int) := by omega
      obtain ⟨go, hgo⟩ : ∃ go, go = gk := ⟨_, rfl⟩
      rw [← hgo] at HQ
      have HI0 : Hid (InsI l m i i) := hide ⟨HM.out.1, Nat.le_refl _, by rw [HM.out.1.length_eq]; exact hlt, fun a b h1 h2 h3 => HM.out.2 a b h1 (by omega) (by rw [HM.out.1.length_eq]; omega)⟩
      clear HM HO1 HB1
      go_wp2_with fail
      go_loopg [5] i (fun q kv wr => ∃ (k : Nat) (m2 : List Int), k ≤ i ∧ q = k ∧ kv = .int .i64 (k : Int) ∧ Hid (wr.ownsRow w.heap.size 3 1 (.slice (some ⟨g, 0, none⟩) l.length c) l.length (ints m2)) ∧ Hid (InsI l m2 i k) ∧ Hid (Below w.heap.size w wr))
      case atStart => exact ⟨i, m, Nat.le_refl _, rfl, rfl, HOw, HI0, HB⟩
      case round =>
        clear HOw HI0 HB
        obtain ⟨k, m2, hk, hqk, rfl, HOw, HI, HB⟩ := hrel
        have HK := hide hqk
        clear hqk
        have hml : m2.length = l.length := HI.out.perm.length_eq
        have HML := hide hml
        have HFin : (k = 0 ∨ ¬ (m2.getD k 0 < m2.getD (k - 1) 0)) → Hid (m2.Perm l ∧ ∀ a b, a < b → b < i + 1 → b < m2.length → m2.getD a 0 ≤ m2.getD b 0) := fun hd => hide ⟨HI.out.perm, fun a b h1 h2 _ => HI.out.fin hd a b h1 (by omega)⟩
        clear hml
        rcases Nat.eq_zero_or_pos k with rfl | hkp
        · have HF := HFin (Or.inl rfl)
          clear HFin
          go_wp2_with fail
          go_quiet (fail)
          go_wp2_with fail
          go_roundg (go - 1)
          case measure => have := HQ.out; omega
          case rel => exact ⟨i + 1, m2, by omega, by omega, by have := HQ.out; omega, by go_num, HOw, HF, hide (below_drewN HB.out _)⟩
        · obtain ⟨j, rfl⟩ : ∃ j, k = j + 1 := ⟨k - 1, by omega⟩
          obtain ⟨x, hx⟩ : ∃ x, x = m2.getD (j + 1) 0 := ⟨_, rfl⟩
          obtain ⟨z, hz⟩ : ∃ z, z = m2.getD j 0 := ⟨_, rfl⟩
          have ho := HOw.out
          have c1 : wr.cell? ⟨g, j + 1, none⟩ = some (.int .i64 x) := by rw [ho.cellAt (j + 1) (by omega), at_getD (by rw [HML.out]; omega), hx]
          have c0 : wr.cell? ⟨g, j, none⟩ = some (.int .i64 z) := by rw [ho.cellAt j (by omega), at_getD (by rw [HML.out]; omega), hz]
          have hj0 : (0 : Int) ≤ (j : Int) := by omega
          have hj1 : (j : Int) + 1 < (l.length : Int) := by omega
          have hj2 : (j : Int) < (l.length : Int) := by omega
          have HX : Hid ((m2.set (j + 1) z).set j x = xch m2 (j + 1)) := hide (by rw [xch, hx, hz]; rfl)
          have HZ := hide hz
          have HSt : x < z → Hid (InsI l ((m2.set (j + 1) z).set j x) i j) := fun h => hide (by rw [HX.out]; exact HI.out.step hkp (by rw [← hx]; exact hz ▸ h))
          have HNo : ¬ (x < z) → Hid (m2.Perm l ∧ ∀ a b, a < b → b < i + 1 → b < m2.length → m2.getD a 0 ≤ m2.getD b 0) := fun h => HFin (Or.inr (by rw [← hx]; exact hz ▸ h))
          clear ho HFin hx hz
          by_cases hgt : x < z
          · have HS := HSt hgt
            clear HSt HNo
            go_wp2_with fail
            go_quiet (fail)
            obtain ⟨wq, hwq⟩ : ∃ wq, wq = wr.drewN nq := ⟨_, rfl⟩
            have HOq : Hid (wq.ownsRow w.heap.size 3 1 (.slice (some ⟨g, 0, none⟩) l.length c) l.length (ints m2)) := hide (by rw [hwq]; exact HOw.out)
            have HBq : Hid (Below w.heap.size w wq) := hide (by rw [hwq]; exact below_drewN HB.out _)
            have d1 : wq.cell? ⟨g, j + 1, none⟩ = some (.int .i64 x) := by rw [hwq]; exact c1
            have d0 : wq.cell? ⟨g, j, none⟩ = some (.int .i64 z) := by rw [hwq]; exact c0
            have ho := HOq.out
            rw [← hwq]
            clear hwq c1 c0
            have f1 : wq.frozen? ⟨g, j + 1, none⟩ = false := ho.frozenAt (j + 1)
            have HO2 := hide ((ho.stored (j + 1) (.int .i64 z)).1)
            rw [ints_set] at HO2
            have c2 : (wq.setCell ⟨g, j + 1, none⟩ (.int .i64 z)).cell? ⟨g, j, none⟩ = some (.int .i64 z) := by
              rw [HO2.out.cellAt j (by omega), at_getD (by rw [List.length_set, HML.out]; omega)]
              simp [List.getD_eq_getElem?_getD, HZ.out]
            have f2 : (wq.setCell ⟨g, j + 1, none⟩ (.int .i64 z)).frozen? ⟨g, j, none⟩ = false := HO2.out.frozenAt j
            have HO3 := hide ((HO2.out.stored j (.int .i64 x)).1)
            rw [ints_set] at HO3
            have HB3 : Hid (Below w.heap.size w ((wq.setCell ⟨g, j + 1, none⟩ (.int .i64 z)).setCell ⟨g, j, none⟩ (.int .i64 x))) := hide ((HBq.out.setCell (HOq.out.lt g rfl).1 _).setCell (HOq.out.lt g rfl).1 _)
            clear ho
            go_wp2_with fail
            go_roundg (gk - 1)
            case measure => have := HK.out; omega
            case rel => exact ⟨j, _, by omega, by have := HK.out; omega, by go_num, HO3, HS, HB3⟩
          · have HN := HNo hgt
            clear HSt HNo
            go_wp2_with fail
            go_quiet (fail)
            go_wp2_with fail
            go_roundg (go - 1)
            case measure => have := HQ.out; omega
            case rel => exact ⟨i + 1, m2, by omega, by omega, by have := HQ.out; omega, by go_num, HOw, HN, hide (below_drewN HB.out _)⟩
    · have HS : Hid (Srt m) := hide (srt_of fun a b h1 h2 => HM.out.2 a b h1 (by have := HM.out.1.length_eq; omega) h2)
      go_wp2_with fail
      go_ret
      exact ⟨_, m, rfl, by rw [HM.out.1.length_eq]; exact HOw.out, HM.out.1, HS.out, HB.out⟩
end Go.Proofs.YtejfmjejdopglaaDoor

namespace Go.Proofs.YtejfmjejdopglaaDoor
open Go.RowKit

def pagesI (R : Int → Nd × Bool) (root : Int) : List Int × Bool := if (seenI R root).2 = true then (pagesV (seenI R root).1, true) else ([], false)

def pagesS (R : Int → Nd × Bool) (root : Int) : List Int × Bool := if (seenS R root).bad = true then ([], false) else ((seenS R root).pages, true)

theorem both_pages (R : Int → Nd × Bool) (hR : Right R) (root : Int) : pagesI R root = pagesS R root := by
  obtain ⟨h1, h2⟩ := both_seen R hR root
  unfold pagesI pagesS
  cases hs : (seenI R root).2 with
  | true => rw [h1, hs, (h2 hs).1]; rfl
  | false => rw [h1, hs]; rfl

theorem pages_len (ps : List ByteArray) (ls : List (Int × ByteArray)) (root : Int) : (pagesI (fun q => rdN (readD ps ls q)) root).1.length ≤ 22000 := by
  unfold pagesI
  split
  · show (pagesV _).length ≤ _
    rw [pagesV, List.length_map]
    unfold seenI
    split
    · exact Nat.zero_le _
    · exact Nat.le_trans (down_cnt _ (fun p hp => (ok_cnt (rdN_right2 ps ls p hp)).2.2) 8 root [] []) cntK8A
  · exact Nat.zero_le _

/-- the pages, in order, in memory of our own -/
def pgsO (r : List Int × Bool) (w w' : World) (e : Ending) : Prop := ∃ v m, e = .returned (.tuple #[v, .bool r.2]) ∧ w'.ownsRow w.heap.size 3 1 v m.length (ints m) ∧ m.Perm r.1 ∧ Srt m ∧ Below w.heap.size w w'

set_option maxHeartbeats 4000000 in
set_option maxRecDepth 100000 in
theorem specPagesOf_any (ps : List ByteArray) (ls : List (Int × ByteArray)) (hp : ps.length ≤ 1048576) (hl : ls.length ≤ 1048576) (hps : ∀ s ∈ ps, s.size ≤ 1048576) (hls : ∀ p ∈ ls, p.2.size ≤ 1048576) (v : Value) (root : Int) (w : World) (hd : DiskAt w v ps ls) (hdk : ∀ k, diskBlocks v k → k < w.heap.size) :
    Calls Tryd.prog 19 #[v, .int .i64 root] w fun e w' => pgsO (pagesS (fun q => rdN (readD ps ls q)) root) w w' e := by
  obtain ⟨v1, v2, rfl, -, -⟩ := id hd
  obtain ⟨w0, hw0⟩ : ∃ w0, w0 = w.alloc (.cells #[v1, v2] 32 (0, 0)) := ⟨_, rfl⟩
  have hb0 : Below w.heap.size w w0 := by rw [hw0]; exact (Below.refl _ _).alloc (Nat.le_refl _) _
  have HB0 := hide hb0
  have HL := hide (look_any ps ls hp hl hps hls (.agg #[v1, v2]) root w0 (disk_below hd hb0) (fun k hk => Nat.lt_of_lt_of_le (hdk k hk) hb0.size))
  have HPl := hide (pages_len ps ls root)
  rw [both_pages _ (rdN_right2 ps ls) root] at HPl
  obtain ⟨R, hR⟩ : ∃ R, R = (fun q => rdN (readD ps ls q)) := ⟨_, rfl⟩
  rw [← hR] at HL HPl ⊢
  clear hp hl hps hls hd hdk hb0 hR
  go_enter Tryd.func19, Tryd.ntmps19
  go_wp2_with fail
  rw [← hw0]
  clear hw0
  refine HL.out.mono ?_
  rintro e w1 ⟨ga, vp, vg, vd, rfl, hga, hal, hb1⟩
  have HB1 : Hid (Below w.heap.size w w1) := hide (HB0.out.trans (hb1.mono HB0.out.size))
  have HAl := hide hal
  have q1 := (cell_at hal.1 1).1
  have q3 := (cell_at hal.1 3).1
  have HAs : Hid (pagesS R root = if (seenS R root).bad = true then ([], false) else ((seenS R root).pages, true)) := hide rfl
  obtain ⟨bad, hbad⟩ : ∃ b, b = (seenS R root).bad := ⟨_, rfl⟩
  rw [← hbad] at q3
  have HBd := hide hbad
  clear hal hb1 hga hbad
  cases bad with
  | true =>
    go_wp2_with fail
    go_ret2
    rw [HAs.out, if_pos HBd.out.symm]
    have hown : (w1.alloc (Obj.cells #[] 3)).ownsRow w.heap.size 3 1 (.slice (some ⟨w1.heap.size, 0, none⟩) 0 0) 0 [] := by simpa using World.ownsRow_lit (base := w.heap.size) (e := 3) (size := 1) w1 #[] 0 HB1.out.size (by unfold maxLen; omega) (by simp)
    exact ⟨_, [], rfl, hown, List.Perm.refl _, List.Pairwise.nil, HB1.out.alloc HB1.out.size _⟩
  | false =>
    have HE : Hid (pagesS R root = ((seenS R root).pages, true)) := hide (by rw [HAs.out, if_neg (by rw [← HBd.out]; decide)])
    have HSo := hide (l07Sorted_any (seenS R root).pages (by have h := HPl.out; rw [HE.out] at h; exact Nat.le_trans h (by decide)) vg w1 (row_of_own HAl.out.2.2.1))
    go_wp2_with fail
    refine HSo.out.mono ?_
    rintro e w2 ⟨u, m, rfl, hown, hpm, hsm, hb2⟩
    have HP := hide hpm
    have HS := hide hsm
    have HO := hide hown
    have HB2 := hide hb2
    clear hown hpm hsm hb2
    go_wp2_with fail
    go_ret2
    rw [HE.out]
    exact ⟨u, m, rfl, own_down HO.out HB1.out.size, HP.out, HS.out, HB1.out.trans (HB2.out.mono HB1.out.size)⟩
end Go.Proofs.YtejfmjejdopglaaDoor

namespace Go.Proofs.YtejfmjejdopglaaDoor
open Go.RowKit

theorem srt_merge (l : List Int) : Srt (l.mergeSort fun x y => decide (x ≤ y)) := by
  have h := List.pairwise_mergeSort (le := fun x y : Int => decide (x ≤ y)) (fun a b c h1 h2 => by simp at h1 h2 ⊢; omega) (fun a b => by simp; omega) l
  exact h.imp (fun h => by simpa using h)

theorem sort_own (l : List Int) (hl : l.length ≤ 1048576) (B : Nat) (v : Value) (w : World) (h : w.ownsRow B 3 1 v l.length (ints l)) :
    Calls Tryd.prog 50 #[v] w fun e w' => e = .returned (.tuple #[]) ∧ ∃ m, m.Perm l ∧ Srt m ∧ w'.ownsRow B 3 1 v m.length (ints m) ∧ KeptC (fun k => v.ownBlock = some k) w w' := by
  rcases h.2 with ⟨rfl, h0⟩ | ⟨g, c, cur, rfl, hg, hb, h1, h2, h3, h4⟩
  · obtain rfl : l = [] := List.eq_nil_of_length_eq_zero h0
    refine (Tryd.slices_Sort_int_none none 0 w).mono ?_
    rintro e w' ⟨he, rfl⟩
    exact ⟨he, [], List.Perm.refl _, List.Pairwise.nil, h, keptC_refl _ _⟩
  · have hH := holds_of_blockI hb (ss := l) (by have := h4; rw [Nat.mul_one] at this; exact this)
    refine (Tryd.slices_Sort_int g 0 c l w hH (Array.getElem?_eq_some_iff.1 hb).1 (by omega)).mono ?_
    rintro e w' ⟨he, n, os, rfl⟩
    refine ⟨he, l.mergeSort fun x y => decide (x ≤ y), List.mergeSort_perm _ _, srt_merge l, ?_, ?_⟩
    · rw [List.length_mergeSort]
      exact ownsRow_sortedI (by simp) hg hb h1 h2 h3
    · have gb := grownBy_sortedI (w := w) (g := g) (n := n) (os := os) (l.mergeSort fun x y => decide (x ≤ y)).toArray
      exact ⟨gb.os, gb.tape, gb.output, gb.size, fun k hk hn => gb.block k hk (fun e => hn e.symm)⟩
end Go.Proofs.YtejfmjejdopglaaDoor

namespace Go.Proofs.YtejfmjejdopglaaDoor.pagesOf
open Go.RowKit Go.Shelf

attribute [local go_sem] Oper.semAt_some

theorem pages_done (R : Int → Nd × Bool) (root : Int) {xs : List Ev} (h : ∀ x ∈ xs, x.ok = true) (hx : xs.map Ev.plain = comes R root) : pagesI R root = (pagesV (xs.map Ev.vis), true) ∧ (seenI R root).1 = xs.map Ev.vis ∧ (seenI R root).2 = true := by
  obtain ⟨-, h1, h2⟩ := all_done R root h hx
  exact ⟨by rw [pagesI, if_pos h2, h1], h1, h2⟩

theorem pages_stop (R : Int → Nd × Bool) (root : Int) {pre : List Ev} {x : Ev} (hx : x.ok = false) {t : List (Option Vis)} (ht : (pre ++ [x]).map Ev.plain ++ t = comes R root) : pagesI R root = ([], false) ∧ (seenI R root).2 = false := by
  obtain ⟨-, h2⟩ := all_stop R root hx ht
  exact ⟨by rw [pagesI, if_neg (by rw [h2]; decide)], h2⟩

/-- the two results' variables and the list's -/
def APs (w W : World) (vr : Value) (L : List Int) : Prop :=
  (∃ v, W.heap[w.heap.size + 1]? = some (.cells #[v] 41 (0, 0))) ∧ W.heap[w.heap.size + 2]? = some (.cells #[.bool false] 4 (0, 0)) ∧ W.heap[w.heap.size + 4]? = some (.cells #[vr] 41 (0, 0)) ∧ W.ownsRow w.heap.size 3 1 vr L.length (ints L)

def APC (w : World) (vr : Value) (k : Nat) : Prop := k = w.heap.size + 1 ∨ k = w.heap.size + 2 ∨ k = w.heap.size + 4 ∨ vr.ownBlock = some k

def API (w : World) (pre : List Ev) (C : Nat → Prop) (W : World) : Prop := (∀ x ∈ pre, x.ok = true) ∧ ∃ vr, (∀ k, APC w vr k → C k) ∧ (∀ k, C k → w.heap.size ≤ k ∧ k < W.heap.size) ∧ APs w W vr (pagesV (pre.map Ev.vis))

def APX (w : World) (c : Code) (pre : List Ev) (C : Nat → Prop) (W : World) : Prop :=
  c = .ret ∧ (∃ pr x, pre = pr ++ [x] ∧ x.ok = false) ∧ ∃ v, W.heap[w.heap.size + 1]? = some (.cells #[v] 41 (0, 0)) ∧ W.heap[w.heap.size + 2]? = some (.cells #[.bool false] 4 (0, 0)) ∧ W.ownsRow w.heap.size 3 1 v 0 [] ∧ (∀ k, (k = w.heap.size + 1 ∨ k = w.heap.size + 2 ∨ v.ownBlock = some k) → C k)

theorem apc_lt {w W : World} {vr : Value} {L : List Int} (h : APs w W vr L) : ∀ k, APC w vr k → w.heap.size ≤ k ∧ k < W.heap.size := by
  obtain ⟨⟨v, h1⟩, h2, h3, h4⟩ := h
  rintro k (rfl | rfl | rfl | hk)
  · exact ⟨by omega, (Array.getElem?_eq_some_iff.1 h1).1⟩
  · exact ⟨by omega, (Array.getElem?_eq_some_iff.1 h2).1⟩
  · exact ⟨by omega, (Array.getElem?_eq_some_iff.1 h3).1⟩
  · exact h4.lt k hk

theorem aps_kept {w A B : World} {vr : Value} {L : List Int} (h : APs w A vr L) (hk : KeptC (fun k => ¬ APC w vr k) A B) : APs w B vr L := by
  have hlt := apc_lt h
  obtain ⟨⟨v, h1⟩, h2, h3, h4⟩ := h
  have key : ∀ k, APC w vr k → B.heap[k]? = A.heap[k]? := fun k hc => hk.2.2.2.2 k (hlt k hc).2 (fun hn => hn hc)
  exact ⟨⟨v, (key _ (Or.inl rfl)).trans h1⟩, (key _ (Or.inr (Or.inl rfl))).trans h2, (key _ (Or.inr (Or.inr (Or.inl rfl)))).trans h3, own_kept h4 hk (fun k e hn => hn (Or.inr (Or.inr (Or.inr e))))⟩

theorem api_kept {w : World} (pre : List Ev) (C : Nat → Prop) (A B : World) (h : API w pre C A) (hk : KeptC (fun k => ¬ C k) A B) : API w pre C B := by
  obtain ⟨h1, vr, hc, hn, h2⟩ := h
  exact ⟨h1, vr, hc, fun k h => ⟨(hn k h).1, Nat.lt_of_lt_of_le (hn k h).2 hk.2.2.2.1⟩, aps_kept h2 (keptC_mono hk (fun j _ h hx => h (hc j hx)))⟩

theorem api_lt {w : World} (pre : List Ev) (C : Nat → Prop) (A : World) (h : API w pre C A) : ∀ k, C k → w.heap.size ≤ k ∧ k < A.heap.size := by
  obtain ⟨h1, vr, hc, hn, h2⟩ := h
  exact hn

theorem apx_kept {w : World} (c : Code) (pre : List Ev) (C : Nat → Prop) (A B : World) (h : APX w c pre C A) (hk : KeptC (fun k => ¬ C k) A B) : APX w c pre C B := by
  obtain ⟨h0, h1, v, h2, h3, h4, h5⟩ := h
  have key : ∀ k, (k = w.heap.size + 1 ∨ k = w.heap.size + 2 ∨ v.ownBlock = some k) → k < A.heap.size → B.heap[k]? = A.heap[k]? := fun k hc hlt => hk.2.2.2.2 k hlt (fun hn => hn (h5 k hc))
  exact ⟨h0, h1, v, (key _ (Or.inl rfl) (Array.getElem?_eq_some_iff.1 h2).1).trans h2, (key _ (Or.inr (Or.inl rfl)) (Array.getElem?_eq_some_iff.1 h3).1).trans h3, own_kept h4 hk (fun k e hn => hn (h5 k (Or.inr (Or.inr e)))), h5⟩

/-- the frame of a round's body -/
def apFrame (w : World) (ap al : Option Addr) (np nl cp cl : Nat) (root : Int) (gv : Nat) (x : Ev) : Act :=
  ⟨#[.agg #[.slice ap np cp, .slice al nl cl], .int .i64 root, .pointer (some ⟨w.heap.size, 0, none⟩), undef, .pointer (some ⟨w.heap.size + 1, 0, none⟩), .pointer (some ⟨w.heap.size + 1 + 1, 0, none⟩), .pointer (some ⟨w.heap.size + 1 + 1 + 1 + 1, 0, none⟩), .pointer (some ⟨gv, 0, none⟩), .bool x.ok, .slice (some ⟨w.heap.size + 1 + 1 + 1, 0, none⟩) 0 0, .agg #[.slice ap np cp, .slice al nl cl], .int .i64 root, .func (.func 66) #[] #[.pointer (some ⟨w.heap.size + 1 + 1 + 1 + 1 + 1 + 1, 0, none⟩), .pointer (some ⟨w.heap.size + 1 + 1 + 1 + 1 + 1, 0, none⟩)], x.val, .bool x.ok, undef, undef, undef, undef, undef, undef, undef, undef, undef, undef, undef], []⟩

/-- behind the assignment: the visit lies in its variable -/
def APAx (w : World) (ap al : Option Addr) (np nl cp cl : Nat) (root : Int) (x : Ev) (a : Act) (C : Nat → Prop) (W : World) : Prop :=
  ∃ gv cs, x.val = .agg cs ∧ C gv ∧ gv < W.heap.size ∧ W.heap[gv]? = some (.cells cs 78 (0, 0)) ∧ a = apFrame w ap al np nl cp cl root gv x

theorem apax_kept {w : World} {ap al : Option Addr} {np nl cp cl : Nat} {root : Int} (x : Ev) (a : Act) (C : Nat → Prop) (A B : World) (h : APAx w ap al np nl cp cl root x a C A) (hk : KeptC (fun k => ¬ C k) A B) : APAx w ap al np nl cp cl root x a C B := by
  obtain ⟨gv, cs, h1, h2, h3, h4, h5⟩ := h
  exact ⟨gv, cs, h1, h2, Nat.lt_of_lt_of_le h3 hk.2.2.2.1, (hk.2.2.2.2 gv h3 (fun hn => hn h2)).trans h4, h5⟩

theorem api_wide {w W : World} {pre : List Ev} {C : Nat → Prop} (h : API w pre C W) (o : Obj) : API w pre (fun k => C k ∨ k = W.heap.size) (W.alloc o) := by
  have h2 := api_kept pre C W (W.alloc o) h (keptC_alloc _ W o)
  obtain ⟨h1, vr, hc, hn, h3⟩ := h2
  have hs : w.heap.size ≤ W.heap.size := by
    obtain ⟨-, vr, -, -, h4⟩ := h
    have := (apc_lt h4 (w.heap.size + 1) (Or.inl rfl)).2
    omega
  refine ⟨h1, vr, fun k h => Or.inl (hc k h), fun k h => ?_, h3⟩
  rcases h with h | rfl
  · exact hn k h
  · exact ⟨hs, by simp⟩

theorem ap_stop {w W : World} {pre : List Ev} {x : Ev} {C : Nat → Prop} {v1 : Value} (hok : x.ok = false) (hc1 : C (w.heap.size + 1)) (hc2 : C (w.heap.size + 2)) (h1 : W.heap[w.heap.size + 1]? = some (.cells #[v1] 41 (0, 0))) (h2 : W.heap[w.heap.size + 2]? = some (.cells #[.bool false] 4 (0, 0))) :
    ∃ C', KeptC C W (((W.setCell ⟨w.heap.size + 1, 0, none⟩ (.slice (some ⟨W.heap.size, 0, none⟩) 0 0)).setCell ⟨w.heap.size + 1 + 1, 0, none⟩ (.bool false)).alloc (Obj.cells #[] 3)) ∧ (∀ k, C' k → C k ∨ W.heap.size ≤ k) ∧
      APX w .ret (pre ++ [x]) C' (((W.setCell ⟨w.heap.size + 1, 0, none⟩ (.slice (some ⟨W.heap.size, 0, none⟩) 0 0)).setCell ⟨w.heap.size + 1 + 1, 0, none⟩ (.bool false)).alloc (Obj.cells #[] 3)) := by
  have g1 : w.heap.size + 1 < W.heap.size := (Array.getElem?_eq_some_iff.1 h1).1
  have g2 : w.heap.size + 2 < W.heap.size := (Array.getElem?_eq_some_iff.1 h2).1
  obtain ⟨X, hX⟩ : ∃ X, X = (W.setCell ⟨w.heap.size + 1, 0, none⟩ (.slice (some ⟨W.heap.size, 0, none⟩) 0 0)).setCell ⟨w.heap.size + 1 + 1, 0, none⟩ (.bool false) := ⟨_, rfl⟩
  rw [← hX]
  have hs : X.heap.size = W.heap.size := by rw [hX]; simp
  have k1 : KeptC C W X := by
    rw [hX]
    exact keptC_trans (keptC_setCell W 0 _ hc1) (keptC_setCell (C := C) _ 0 _ hc2) (fun j h => Or.inl h)
  have e1 : X.heap[w.heap.size + 1]? = some (.cells #[.slice (some ⟨W.heap.size, 0, none⟩) 0 0] 41 (0, 0)) := by
    rw [hX]
    exact (Below.heap_setCell _ _ _ _ (by simp)).trans (heap_setCell_same _ _ 0 _ _ _ h1)
  have e2 : X.heap[w.heap.size + 2]? = some (.cells #[.bool false] 4 (0, 0)) := by
    rw [hX]
    exact heap_setCell_same _ _ 0 _ _ _ ((Below.heap_setCell _ _ _ _ (by simp)).trans h2)
  refine ⟨fun k => C k ∨ k = W.heap.size, keptC_trans k1 (keptC_alloc (fun _ => False) X _) (fun j h => h.elim), fun k h => by rcases h with h | h; exact Or.inl h; exact Or.inr (by omega), rfl, ⟨pre, x, rfl, hok⟩, _, ?_, ?_, ⟨rfl, Or.inr ⟨W.heap.size, 0, #[], rfl, by omega, ?_, Nat.le_refl _, Nat.zero_le _, rfl, rfl⟩⟩, ?_⟩
  · exact (Below.heap_alloc X _ _ (by omega)).trans e1
  · exact (Below.heap_alloc X _ _ (by omega)).trans e2
  · have := heap_alloc_new X (Obj.cells #[] 3)
    rw [hs] at this
    exact this
  · rintro k (rfl | rfl | e)
    · exact Or.inl hc1
    · exact Or.inl hc2
    · injection e with e
      exact Or.inr (by have e : W.heap.size = k := e; omega)

/-- between two values of a page -/
def APL (w W : World) (C : Nat → Prop) (gv : Nat) (cs : Array Value) (L : List Int) (wr : World) : Prop :=
  KeptC C W wr ∧ wr.heap[gv]? = some (.cells cs 78 (0, 0)) ∧ ∃ (C1 : Nat → Prop) (vr : Value), (∀ k, C1 k → C k ∨ W.heap.size ≤ k) ∧ (∀ k, APC w vr k → C1 k) ∧ (∀ k, C1 k → w.heap.size ≤ k ∧ k < wr.heap.size) ∧ APs w wr vr L

/-- a page goes behind the others -/
theorem ap_push {w W wd wB : World} {C : Nat → Prop} {gv b d lr : Nat} {cs : Array Value} {L : List Int} {vr : Value} {xk : Int} {o : Obj} {C1 : Nat → Prop} {v1 : Value} (hlr : lr = L.length) (hk : KeptC C W wd) (hgv : wd.heap[gv]? = some (.cells cs 78 (0, 0))) (hsub : ∀ k, C1 k → C k ∨ W.heap.size ≤ k) (hap : ∀ k, APC w vr k → C1 k) (hbd : ∀ k, C1 k → w.heap.size ≤ k ∧ k < wd.heap.size)
    (h1 : wd.heap[w.heap.size + 1]? = some (.cells #[v1] 41 (0, 0))) (h2 : wd.heap[w.heap.size + 2]? = some (.cells #[.bool false] 4 (0, 0))) (h4 : wd.heap[w.heap.size + 4]? = some (.cells #[vr] 41 (0, 0))) (h5 : wd.ownsRow w.heap.size 3 1 vr L.length (ints L))
    (hgB : (wd.alloc o).grownBy wB vr.ownBlock) (hownB : wB.ownsRow w.heap.size 3 1 (.slice (some ⟨b, 0, none⟩) (lr + 1) d) (lr + 1) (ints L ++ [.int .i64 xk])) (hbB : vr.ownBlock = some b ∨ b = wd.heap.size + 1) :
    (KeptC C W wB ∧ wB.heap[gv]? = some (.cells cs 78 (0, 0)) ∧ wB.heap[w.heap.size + 4]? = some (.cells #[vr] 41 (0, 0))) ∧
    APL w W C gv cs (L ++ [xk]) (wB.setCell ⟨w.heap.size + 4, 0, none⟩ (.slice (some ⟨b, 0, none⟩) (lr + 1) d)) := by
  have hb1 : Below wd.heap.size wd (wd.alloc o) := (Below.refl _ _).alloc (Nat.le_refl _) _
  have K1 : KeptC (fun k => vr.ownBlock = some k) wd wB := ⟨hgB.os.trans hb1.os, hgB.tape.trans hb1.tape, hgB.output.trans hb1.output, Nat.le_trans hb1.size hgB.size, fun j hj hn => (hgB.block j (Nat.lt_of_lt_of_le hj hb1.size) (fun e => hn e.symm)).trans (hb1.block j hj)⟩
  have far : ∀ {g : Nat} {cc : Array Value} {T : Nat}, wd.heap[g]? = some (.cells cc T (0, 0)) → (3 : Nat) ≠ T → wB.heap[g]? = some (.cells cc T (0, 0)) := fun {g cc T} h hne => (K1.2.2.2.2 g (Array.getElem?_eq_some_iff.1 h).1 (fun e => hne (typ_one (own_typ h5 e) ⟨_, _, h⟩))).trans h
  have e1 := far h1 (by decide)
  have e2 := far h2 (by decide)
  have e4 := far h4 (by decide)
  have eg := far hgv (by decide)
  have k1 : KeptC C W wB := keptC_trans hk K1 (fun j e => hsub j (hap j (Or.inr (Or.inr (Or.inr e)))))
  have hne : gv ≠ w.heap.size + 4 := fun e => by
    rw [e, h4] at hgv
    injection hgv with hgv
    injection hgv with _ ht _
    exact absurd ht (by decide)
  refine ⟨⟨k1, eg, e4⟩, ?_⟩
  obtain ⟨X, hX⟩ : ∃ X, X = wB.setCell ⟨w.heap.size + 4, 0, none⟩ (.slice (some ⟨b, 0, none⟩) (lr + 1) d) := ⟨_, rfl⟩
  rw [← hX]
  have k2 : KeptC (fun k => k = w.heap.size + 4) wB X := by rw [hX]; exact keptC_setCell (C := fun k => k = w.heap.size + 4) wB 0 _ rfl
  have hs : X.heap.size = wB.heap.size := by rw [hX]; simp
  have f4 : X.heap[w.heap.size + 4]? = some (.cells #[.slice (some ⟨b, 0, none⟩) (lr + 1) d] 41 (0, 0)) := by rw [hX]; exact heap_setCell_same _ _ 0 _ _ _ e4
  have fx : ∀ {g : Nat} {ob : Obj}, wB.heap[g]? = some ob → g ≠ w.heap.size + 4 → X.heap[g]? = some ob := fun h hn => (k2.2.2.2.2 _ (Array.getElem?_eq_some_iff.1 h).1 hn).trans h
  have hbl := hownB.lt b rfl
  refine ⟨keptC_trans k1 k2 (fun j e => by rw [e]; exact hsub _ (hap _ (Or.inr (Or.inr (Or.inl rfl))))), fx eg hne, fun k => C1 k ∨ k = b, .slice (some ⟨b, 0, none⟩) (lr + 1) d, fun k h => ?_, fun k h => ?_, fun k h => ?_, ⟨v1, fx e1 (by omega)⟩, fx e2 (by omega), f4, ?_⟩
  · rcases h with h | rfl
    · exact hsub k h
    · rcases hbB with hbB | hbB
      · exact hsub k (hap k (Or.inr (Or.inr (Or.inr hbB))))
      · exact Or.inr (by have := hk.2.2.2.1; omega)
  · rcases h with h | h | h | h
    · exact Or.inl (hap k (Or.inl h))
    · exact Or.inl (hap k (Or.inr (Or.inl h)))
    · exact Or.inl (hap k (Or.inr (Or.inr (Or.inl h))))
    · injection h with h
      exact Or.inr (by have h : b = k := h; omega)
  · rcases h with h | rfl
    · have := hbd k h
      have h3 := K1.2.2.2.1
      exact ⟨this.1, by omega⟩
    · exact ⟨hbl.1, by omega⟩
  · have hl : (L ++ [xk]).length = lr + 1 := by rw [hlr]; simp
    have hp : ints (L ++ [xk]) = ints L ++ [.int .i64 xk] := by simp [ints]
    rw [hl, hp]
    refine own_kept hownB k2 (fun j e h => ?_)
    exact absurd (typ_one (own_typ hownB e) (by rw [h]; exact ⟨_, _, e4⟩)) (by decide)

set_option maxHeartbeats 4000000 in
set_option maxRecDepth 100000 in
theorem implPagesOf_any (ps : List ByteArray) (ls : List (Int × ByteArray)) (hp : ps.length ≤ 1048576) (hl : ls.length ≤ 1048576) (hps : ∀ s ∈ ps, s.size ≤ 1048576) (hls : ∀ p ∈ ls, p.2.size ≤ 1048576) (ap al : Option Addr) (np nl cp cl : Nat) (root : Int) (w : World) (hT : SumTab w) (hd : DiskAt w (.agg #[.slice ap np cp, .slice al nl cl]) ps ls) :
    Calls Tryd.prog 20 #[.agg #[.slice ap np cp, .slice al nl cl], .int .i64 root] w fun e w' => pgsO (pagesI (fun q => rdN (readD ps ls q)) root) w w' e := by
  have hmf : ∀ (fn : Fn) (first cap : Array Value) (w : World), (Instr.makeFunc fn first cap).run Tryd.prog w = .ok (.func fn first cap) w := fun _ _ _ _ => rfl
  obtain ⟨Wc, hWc⟩ : ∃ Wc, Wc = ((((((w.alloc (.cells #[.slice ap np cp, .slice al nl cl] 32 (0, 0))).alloc (.cells #[.slice none 0 0] 41 (0, 0))).alloc (.cells #[.bool false] 4 (0, 0))).alloc (.cells #[] 3 (0, 0))).alloc (.cells #[.slice (some ⟨w.heap.size + 1 + 1 + 1, 0, none⟩) 0 0] 41 (0, 0))).alloc (.cells #[.slice ap np cp, .slice al nl cl] 32 (0, 0))).alloc (.cells #[.int .i64 root] 3 (0, 0)) := ⟨_, rfl⟩
  have hlow : Below w.heap.size w Wc := by
    rw [hWc]
    refine Below.alloc (Below.alloc (Below.alloc (Below.alloc (Below.alloc (Below.alloc (Below.alloc (Below.refl _ _) ?_ _) ?_ _) ?_ _) ?_ _) ?_ _) ?_ _) ?_ _ <;> simp <;> omega
  have b1 : Wc.heap[w.heap.size + 1]? = some (.cells #[.slice none 0 0] 41 (0, 0)) := by rw [hWc]; simp only [alloc_get, World.size_alloc]; simp
  have b2 : Wc.heap[w.heap.size + 2]? = some (.cells #[.bool false] 4 (0, 0)) := by rw [hWc]; simp only [alloc_get, World.size_alloc]; simp
  have b3 : Wc.heap[w.heap.size + 3]? = some (.cells #[] 3 (0, 0)) := by rw [hWc]; simp only [alloc_get, World.size_alloc]; simp
  have b4 : Wc.heap[w.heap.size + 4]? = some (.cells #[.slice (some ⟨w.heap.size + 3, 0, none⟩) 0 0] 41 (0, 0)) := by rw [hWc]; simp only [alloc_get, World.size_alloc]; simp
  have b5 : Wc.heap[w.heap.size + 5]? = some (.cells #[.slice ap np cp, .slice al nl cl] 32 (0, 0)) := by rw [hWc]; simp only [alloc_get, World.size_alloc]; simp
  have b6 : Wc.heap[w.heap.size + 6]? = some (.cells #[.int .i64 root] 3 (0, 0)) := by rw [hWc]; simp only [alloc_get, World.size_alloc]; simp
  have hsz : Wc.heap.size = w.heap.size + 7 := by rw [hWc]; simp
  have hseq := fun n => nodesOf_seq n root (w.heap.size + 6) (w.heap.size + 5) hp hl hps hls hT hd hlow b6 b5
  have hP0 : APs w Wc (.slice (some ⟨w.heap.size + 3, 0, none⟩) 0 0) [] := ⟨⟨_, b1⟩, b2, b4, ⟨rfl, Or.inr ⟨w.heap.size + 3, 0, #[], rfl, by omega, b3, Nat.le_refl _, Nat.zero_le _, rfl, rfl⟩⟩⟩
  have hI0 : API w [] (APC w (.slice (some ⟨w.heap.size + 3, 0, none⟩) 0 0)) Wc := ⟨fun x h => (by cases h), _, fun _ h => h, apc_lt hP0, hP0⟩
  refine (callsIn_wide (n := 3)).1 ?_
  refine callsIn_of_wp_marks Tryd.func20 rfl trivial ?_ rfl
  simp only [Tryd.ntmps20, List.size_toArray, List.length_cons, List.length_nil, Nat.reduceAdd, Nat.reduceSub, Array.replicate_succ, Array.replicate_zero, List.push_toArray, List.append_toArray, List.nil_append, List.cons_append]
  gi_wp2_with (refine ⟨trivial, ?_⟩; gi_at_call 42; refine (callsIn_wide.2 (nodesOf_any (.slice ap np cp) (.slice al nl cl) root _)).mono ?_; rintro e w1 ⟨rfl, rfl⟩)
  rw [← hWc]
  refine wpIn_rangeFunc_sep2 rfl rfl (gf := 66) (lb := #[.pointer (some ⟨w.heap.size + 6, 0, none⟩), .pointer (some ⟨w.heap.size + 5, 0, none⟩)]) rfl trivial (enters_of Tryd.func66 (by kernel_rfl) rfl) (hseq _) hlow.size (fun k h => by rcases h with h | h <;> omega) (fun x C C' A B h1 h2 h3 => lies_kept h1 h2 h3) (fun _ => rfl) (API w) (APX w) api_kept apx_kept api_lt (APC w (.slice (some ⟨w.heap.size + 3, 0, none⟩) 0 0)) hI0 (fun k h e => ?apart) (APAx w ap al np nl cp cl root) apax_kept ?assign ?body ?done ?stop
  case apart =>
    rcases h with h | h | h | h
    · omega
    · omega
    · omega
    · injection h with h
      have h : w.heap.size + 3 = k := h
      omega
  case done =>
    rintro D xs C W hD hnD0 hS ⟨hok, vr, hsub, hin, ⟨v1, h1⟩, h2, h4, h5⟩ hlowW hdef
    have hnD : ¬ APC w vr D := fun h => hnD0 (hsub D h)
    clear hnD0 hsub hin
    have HA := hide (pages_done _ root hok hS).1
    obtain ⟨xr, yr, rfl⟩ := own_slice h5
    obtain ⟨lr, hlr⟩ : ∃ lr, lr = (pagesV (xs.map Ev.vis)).length := ⟨_, rfl⟩
    have HLr := hide hlr
    rw [← hlr] at h4 h5 hnD
    have c4 : W.cell? ⟨w.heap.size + 1 + 1 + 1 + 1, 0, none⟩ = some (.slice xr lr yr) := (cell_at h4 0).1
    have c1 : W.cell? ⟨w.heap.size + 1, 0, none⟩ = some v1 := (cell_at h1 0).1
    have c2 : W.cell? ⟨w.heap.size + 1 + 1, 0, none⟩ = some (.bool false) := (cell_at h2 0).1
    have f1 : W.frozen? ⟨w.heap.size + 1, 0, none⟩ = false := (cell_at h1 0).2
    have f2 : W.frozen? ⟨w.heap.size + 1 + 1, 0, none⟩ = false := (cell_at h2 0).2
    have H1 := hide h1
    have H2 := hide h2
    have H5 := hide h5
    have hll := pages_len ps ls root
    rw [(pages_done _ root hok hS).1] at hll
    have HSo := hide (sort_own (pagesV (xs.map Ev.vis)) (Nat.le_trans hll (by decide)) w.heap.size (.slice xr lr yr) W (by rw [hlr] at h5 ⊢; exact h5))
    have HLo := hide (hlow.trans hlowW)
    have HDe := hide hdef
    have H4 := hide h4
    clear h1 h2 h4 h5 hll c1 c2 f1 f2 hlowW hdef hlr b1 b2 b3 b4 b5 b6 hseq hI0 hP0 hS hok hp hl hps hls hT hd hlow
    gi_wp2_with (refine ⟨trivial, ?_⟩; gi_at_call 50; refine (callsIn_wide.2 HSo.out).mono ?_)
    rintro e Ws ⟨rfl, mm, hpm, hsm, hown, hkS⟩
    have far : ∀ {g : Nat} {cc : Array Value} {T : Nat}, W.heap[g]? = some (.cells cc T (0, 0)) → (3 : Nat) ≠ T → Ws.heap[g]? = some (.cells cc T (0, 0)) := fun {g cc T} h hne => (hkS.2.2.2.2 g (Array.getElem?_eq_some_iff.1 h).1 (fun e => hne (typ_one (own_typ H5.out e) ⟨_, _, h⟩))).trans h
    have S1 := hide (far H1.out (by decide))
    have S2 := hide (far H2.out (by decide))
    have S4 := far H4.out (by decide)
    have S5 := hide hown
    have SDe : Hid (Ws.heap[D]? = some (.deferred (some []))) := hide ((hkS.2.2.2.2 D (Array.getElem?_eq_some_iff.1 HDe.out).1 (fun e => hnD (Or.inr (Or.inr (Or.inr e))))).trans HDe.out)
    have SLo := hide (HLo.out.trans (keptC_below hkS (fun k h => (H5.out.lt k h).1) HLo.out.size))
    have c4 : Ws.cell? ⟨w.heap.size + 1 + 1 + 1 + 1, 0, none⟩ = some (.slice xr lr yr) := (cell_at S4 0).1
    have c1 : Ws.cell? ⟨w.heap.size + 1, 0, none⟩ = some v1 := (cell_at S1.out 0).1
    have c2 : Ws.cell? ⟨w.heap.size + 1 + 1, 0, none⟩ = some (.bool false) := (cell_at S2.out 0).1
    have f1 : Ws.frozen? ⟨w.heap.size + 1, 0, none⟩ = false := (cell_at S1.out 0).2
    have f2 : Ws.frozen? ⟨w.heap.size + 1 + 1, 0, none⟩ = false := (cell_at S2.out 0).2
    have HPm := hide hpm
    have HSm := hide hsm
    clear far S4 hown hkS hpm hsm
    gi_wp2_with fail
    obtain ⟨W3, hW3⟩ : ∃ W3, W3 = (Ws.setCell ⟨w.heap.size + 1, 0, none⟩ (.slice xr lr yr)).setCell ⟨w.heap.size + 1 + 1, 0, none⟩ (.bool true) := ⟨_, rfl⟩
    rw [← hW3]
    have hn1 : D ≠ w.heap.size + 1 := fun e => hnD (Or.inl e)
    have hn2 : D ≠ w.heap.size + 1 + 1 := fun e => hnD (Or.inr (Or.inl e))
    have k3 : KeptC (fun k => k = w.heap.size + 1 ∨ k = w.heap.size + 1 + 1) Ws W3 := by
      rw [hW3]
      exact keptC_trans (keptC_setCell Ws 0 _ (Or.inl rfl)) (keptC_setCell (C := fun k => k = w.heap.size + 1 ∨ k = w.heap.size + 1 + 1) _ 0 _ (Or.inr rfl)) (fun j h => Or.inl h)
    have hD3 : W3.heap[D]? = some (.deferred (some [])) := (k3.2.2.2.2 D (Array.getElem?_eq_some_iff.1 SDe.out).1 (fun e => by rcases e with e | e; exact hn1 e; exact hn2 e)).trans SDe.out
    have g1 : W3.heap[w.heap.size + 1]? = some (.cells #[.slice xr lr yr] 41 (0, 0)) := by
      rw [hW3]
      exact (Below.heap_setCell _ _ _ _ (by simp)).trans (heap_setCell_same _ _ 0 _ _ _ S1.out)
    have g2 : W3.heap[w.heap.size + 1 + 1]? = some (.cells #[.bool true] 4 (0, 0)) := by
      rw [hW3]
      exact heap_setCell_same _ _ 0 _ _ _ ((Below.heap_setCell _ _ _ _ (by simp)).trans S2.out)
    refine ⟨by simp, .inl ⟨_, _, rfl, run_takeDeferred hD3, ?_⟩⟩
    obtain ⟨W4, hW4⟩ : ∃ W4, W4 = W3.putObj D (.deferred none) := ⟨_, rfl⟩
    rw [← hW4]
    have k4 : KeptC (fun k => k = D) W3 W4 := by rw [hW4]; exact keptC_putObj W3 _ rfl
    have e1 := (cell_at ((k4.2.2.2.2 _ (Array.getElem?_eq_some_iff.1 g1).1 (fun e => hn1 e.symm)).trans g1) 0).1
    have e2 := (cell_at ((k4.2.2.2.2 _ (Array.getElem?_eq_some_iff.1 g2).1 (fun e => hn2 e.symm)).trans g2) 0).1
    refine ⟨.tuple #[.slice xr lr yr, .bool true], ?_, ?_⟩
    · simp [results, e1, e2, go_sem]
    · rw [HA.out]
      refine ⟨_, mm, rfl, ?_, HPm.out, HSm.out, ?_⟩
      · have := own_kept (own_kept S5.out k3 (fun j e hx => ?_)) k4 (fun j e hx => hnD (by rw [← hx]; exact Or.inr (Or.inr (Or.inr e))))
        · exact this
        · rcases hx with hx | hx
          · subst hx; exact absurd (typ_one (own_typ S5.out e) ⟨_, _, S1.out⟩) (by decide)
          · subst hx; exact absurd (typ_one (own_typ S5.out e) ⟨_, _, S2.out⟩) (by decide)
      · have z1 : w.heap.size ≤ Ws.heap.size := SLo.out.size
        exact (SLo.out.trans (keptC_below k3 (fun k h => by rcases h with h | h <;> omega) z1)).trans (keptC_below k4 (fun k h => by rw [h]; omega) (Nat.le_trans z1 k3.2.2.2.1))
  case stop =>
    rintro D c pre C W hD hnD ⟨t, ht⟩ ⟨rfl, ⟨pr, x, rfl, hx⟩, v, h1, h2, h5, hC⟩ hlowW hdef
    have HA := hide (pages_stop _ root hx ht).1
    obtain ⟨xr, yr, rfl⟩ := own_slice h5
    have hn1 : D ≠ w.heap.size + 1 := fun e => hnD (hC D (Or.inl e))
    have hn2 : D ≠ w.heap.size + 1 + 1 := fun e => hnD (hC D (Or.inr (Or.inl e)))
    have hn5 : ∀ j, (Value.slice xr 0 yr).ownBlock = some j → j ≠ D := fun j e h => hnD (by rw [← h]; exact hC j (Or.inr (Or.inr e)))
    have H1 := hide h1
    have H2 := hide h2
    have H5 := hide h5
    have HLo := hide (hlow.trans hlowW)
    have HDe := hide hdef
    clear h1 h2 h5 hlowW hdef b1 b2 b3 b4 b5 b6 hseq hI0 hP0 ht hx hC hp hl hps hls hT hd hlow
    gi_wp2_with fail
    refine ⟨by simp, .inl ⟨_, _, rfl, run_takeDeferred HDe.out, ?_⟩⟩
    obtain ⟨W4, hW4⟩ : ∃ W4, W4 = W.putObj D (.deferred none) := ⟨_, rfl⟩
    rw [← hW4]
    have k4 : KeptC (fun k => k = D) W W4 := by rw [hW4]; exact keptC_putObj W _ rfl
    have e1 := (cell_at ((k4.2.2.2.2 _ (Array.getElem?_eq_some_iff.1 H1.out).1 (fun e => hn1 e.symm)).trans H1.out) 0).1
    have e2 : W4.cell? ⟨w.heap.size + 1 + 1, 0, none⟩ = _ := (cell_at ((k4.2.2.2.2 _ (Array.getElem?_eq_some_iff.1 H2.out).1 (fun e => hn2 e.symm)).trans H2.out) 0).1
    refine ⟨.tuple #[.slice xr 0 yr, .bool false], ?_, ?_⟩
    · simp [results, e1, e2, go_sem]
    · rw [HA.out]
      exact ⟨_, [], rfl, own_kept H5.out k4 (fun j e h => hn5 j e h), List.Perm.refl _, List.Pairwise.nil, HLo.out.trans (keptC_below k4 (fun k h => by rw [h]; have := hsz; omega) HLo.out.size)⟩
  case assign =>
    intro l m pre x C W K hI hLi hK
    have hw2 := fun o => api_wide hI o
    have HI2 := hide hw2
    have HK := hide hK
    have HLt : Hid (∀ o, KeptC C W (W.alloc o)) := hide (fun o => keptC_alloc C W o)
    clear b1 b2 b3 b4 b5 b6 hseq hI0 hP0 hw2 hK hI hp hl hps hls hT hd hlow hsz hWc
    simp only [encs]
    cases hok : x.ok with
    | false =>
      have hv := hLi.1 hok
      clear hLi
      have HV := hide hv
      have HOk := hide hok
      rw [hv, badVal]
      clear hv hok
      gi_wp2_with fail
      refine HK.out _ (fun k => C k ∨ k = W.heap.size) _ (HLt.out _) (fun k h => by rcases h with h | h; exact Or.inl h; exact Or.inr (by omega)) (HI2.out _) ⟨W.heap.size, _, by rw [HV.out, badVal], Or.inr rfl, by simp, heap_alloc_new W _, ?_⟩
      rw [apFrame, HV.out, HOk.out, badVal]
    | true =>
      obtain ⟨vk, vv, vc, vw, hv, hno, -, hwy⟩ := hLi.2 hok
      obtain ⟨a1, c1, a2, c2, a3, c3, e⟩ := nodeOwn_cells hno
      obtain ⟨-, rfl, rfl, rfl⟩ := agg4 e
      obtain ⟨a4, c4, rfl⟩ : ∃ a4 c4, vw = .slice a4 x.vis.way.length c4 := by obtain ⟨X, -, h, -⟩ := hwy; exact own_slice h
      clear hLi hno hwy e
      have HV := hide hv
      have HOk := hide hok
      rw [hv]
      clear hv hok
      gi_wp2_with fail
      refine HK.out _ (fun k => C k ∨ k = W.heap.size) _ (HLt.out _) (fun k h => by rcases h with h | h; exact Or.inl h; exact Or.inr (by omega)) (HI2.out _) ⟨W.heap.size, _, HV.out, Or.inr rfl, by simp, heap_alloc_new W _, ?_⟩
      rw [apFrame, HV.out, HOk.out]
  case body =>
    intro l m pre x a' C W hSp hI hAx hLi
    obtain ⟨gv, cs, hv, hCg, hgl, hgv, rfl⟩ := hAx
    obtain ⟨hpre, vr, hc, hn, ⟨v1, h1⟩, h2, h4, h5⟩ := hI
    clear b1 b2 b3 b4 b5 b6 hseq hI0 hP0 hlow hsz hWc
    cases hok : x.ok with
    | false =>
      have hvb := hLi.1 hok
      have q1 : W.cell? ⟨w.heap.size + 1, 0, none⟩ = some v1 := (cell_at h1 0).1
      have q2 : W.cell? ⟨w.heap.size + 1 + 1, 0, none⟩ = some (.bool false) := (cell_at h2 0).1
      have z1 : W.frozen? ⟨w.heap.size + 1, 0, none⟩ = false := (cell_at h1 0).2
      have z2 : W.frozen? ⟨w.heap.size + 1 + 1, 0, none⟩ = false := (cell_at h2 0).2
      have g1 : w.heap.size + 1 < W.heap.size := (Array.getElem?_eq_some_iff.1 h1).1
      have g2 : w.heap.size + 2 < W.heap.size := (Array.getElem?_eq_some_iff.1 h2).1
      have HS := hide (⟨hpre, hc, hn, h1, h2, hSp, hok, hvb⟩ : _ ∧ _ ∧ _ ∧ _ ∧ _ ∧ _ ∧ _ ∧ _)
      rw [apFrame, hok]
      clear hpre hc hn h1 h2 h4 h5 hSp hLi hvb hv hgv hgl hCg hp hl hps hls hT hd hok
      gi_wp2_with fail
      obtain ⟨-, hc, -, h1, h2, -, hok, -⟩ := HS.out
      exact ap_stop hok (hc _ (Or.inl rfl)) (hc _ (Or.inr (Or.inl rfl))) h1 h2
    | true =>
      obtain ⟨vk, vv, vc, vw, hv2, hno, -, -⟩ := hLi.2 hok
      obtain ⟨a1, c1, a2, c2, a3, c3, e⟩ := nodeOwn_cells hno
      obtain ⟨-, rfl, rfl, rfl⟩ := agg4 e
      obtain ⟨t, ht⟩ := hSp
      rw [hv] at hv2
      injection hv2 with hv2
      subst hv2
      have hcnt := comes_cnt _ (fun p hp => (ok_cnt (rdN_right2 ps ls p hp)).2.2) root ht
      obtain ⟨L0, hL0⟩ : ∃ L0, L0 = pagesV (pre.map Ev.vis) := ⟨_, rfl⟩
      have hpl : L0.length ≤ 22001 := by
        rw [hL0, pagesV, List.length_map, List.length_map]
        rw [List.length_append] at hcnt
        omega
      have HEnd : Hid (pagesV ((pre ++ [x]).map Ev.vis) = L0 ++ [x.vis.page]) := hide (by rw [hL0, List.map_append]; simp [pagesV])
      have HPre : Hid (∀ y ∈ pre ++ [x], y.ok = true) := hide (fun y hy => by rcases List.mem_append.1 hy with h | h; exact hpre y h; rw [List.mem_singleton.1 h]; exact hok)
      rw [← hL0] at h5
      obtain ⟨xr, yr, rfl⟩ := own_slice h5
      obtain ⟨lr, hlr⟩ : ∃ lr, lr = L0.length := ⟨_, rfl⟩
      rw [← hlr] at h4 hc hpl
      have h5' : W.ownsRow w.heap.size 3 1 (.slice xr lr yr) L0.length (ints L0) := by rw [hlr]; exact h5
      have h5l : W.ownsRow w.heap.size 3 1 (.slice xr lr yr) lr (ints L0) := by rw [hlr]; exact h5
      have q0 : W.cell? ⟨gv, 0, none⟩ = some (.int .i64 x.vis.page) := (cell_at hgv 0).1
      have q4 : W.cell? ⟨w.heap.size + 1 + 1 + 1 + 1, 0, none⟩ = some (.slice xr lr yr) := (cell_at h4 0).1
      obtain ⟨pg, hpg⟩ : ∃ pg, pg = x.vis.page := ⟨_, rfl⟩
      have HAll := hide (⟨hlr, hgv, hc, hn, h1, h2, h4, h5'⟩ : _ ∧ _ ∧ _ ∧ _ ∧ _ ∧ _ ∧ _ ∧ _)
      have HOl := hide h5l
      have HSz : Hid (w.heap.size ≤ W.heap.size) := hide (by have := (Array.getElem?_eq_some_iff.1 h1).1; omega)
      rw [← hpg] at HEnd q0
      have HPg := hide hpg
      obtain ⟨i0, hi, hz0, hz1, hz2⟩ := info_parts Tryd.infoIntR
      rw [apFrame, hok]
      clear hno hgv hv hCg hgl hpre hc hn h1 h2 h4 h5 h5' h5l hLi ht hcnt e hL0 hok hp hl hps hls hT hd hlr hpg
      gi_wp2_with (refine wpListIn_append_own_at _ rfl _ _ 41 rfl w.heap.size 3 i0 (.int .i64 0) 1 8 Tryd.underlying41 hi hz0 hz1 hz2 rfl (by decide) _ lr (ints L0) rfl (HOl.out.alloc _) ⟨W.heap.size, 0, none⟩ 1 1 [.int .i64 pg] rfl rfl (one_newW W _ rfl _ _) ?c1 ?c2 ?c3 ?c4 ?_)
      · intro u hu; simp at hu; subst hu; rfl
      · unfold maxLen; omega
      · omega
      · have := HSz.out; simp; omega
      intro v6 wB hownB hgB hnil hatB
      clear hnil
      obtain ⟨x6, d6, rfl⟩ := own_slice hownB
      obtain ⟨b6, rfl⟩ : ∃ b, x6 = some ⟨b, 0, none⟩ := by
        rcases hownB.2 with ⟨e, h0⟩ | ⟨g, cc, cur, e, _⟩
        · omega
        · injection e with e1; exact ⟨g, e1⟩
      have hb6 : (Value.slice xr lr yr).ownBlock = some b6 ∨ b6 = W.heap.size + 1 := by
        rcases hatB with h | h
        · exact Or.inl h.symm
        · exact Or.inr (by have := Option.some.inj h; simpa using this)
      obtain ⟨⟨kB, gB, fB⟩, hNew⟩ := ap_push (C1 := C) HAll.out.1 (keptC_refl C W) HAll.out.2.1 (fun k h => Or.inl h) HAll.out.2.2.1 HAll.out.2.2.2.1 HAll.out.2.2.2.2.1 HAll.out.2.2.2.2.2.1 HAll.out.2.2.2.2.2.2.1 HAll.out.2.2.2.2.2.2.2 hgB hownB hb6
      have HNew := hide hNew
      have cB : wB.cell? ⟨w.heap.size + 1 + 1 + 1 + 1, 0, none⟩ = some (.slice xr lr yr) := (cell_at fB 0).1
      have zB : wB.frozen? ⟨w.heap.size + 1 + 1 + 1 + 1, 0, none⟩ = false := (cell_at fB 0).2
      clear hownB hgB hatB hb6 kB gB fB hNew
      gi_wp2_with fail
      obtain ⟨hk, -, C1, vr, hsub, hap, hbd, haps⟩ := HNew.out
      refine ⟨C1, hk, hsub, HPre.out, vr, hap, hbd, ?_⟩
      rw [HEnd.out]
      exact haps
end Go.Proofs.YtejfmjejdopglaaDoor.pagesOf

namespace Go.Proofs.YtejfmjejdopglaaDoor.pagesOf
open Go.RowKit

/-- in order -/
def srtP (r : List Int × Bool) : List Int × Bool := (r.1.mergeSort fun x y => decide (x ≤ y), r.2)

theorem srtP_len (ps : List ByteArray) (ls : List (Int × ByteArray)) (root : Int) : (srtP (pagesI (fun q => rdN (readD ps ls q)) root)).1.length ≤ 100000 := by
  show (List.mergeSort _ _).length ≤ _
  rw [List.length_mergeSort]
  exact Nat.le_trans (pages_len ps ls root) (by decide)

def pgsE (r : List Int × Bool) (w w' : World) (e : Ending) : Prop := ∃ v, e = .returned (.tuple #[v, .bool r.2]) ∧ w'.ownsRow w.heap.size 3 1 v r.1.length (ints r.1) ∧ Below w.heap.size w w'

theorem pgsO_E {r : List Int × Bool} {w w' : World} {e : Ending} (h : pgsO r w w' e) : pgsE (srtP r) w w' e := by
  obtain ⟨v, m, h1, h2, h3, h4, h5⟩ := h
  have e1 : m = (srtP r).1 := srt_one (h3.trans (List.mergeSort_perm _ _).symm) h4 (srt_merge _)
  rw [e1] at h2
  exact ⟨v, h1, h2, h5⟩

/-- a row of pages of our own that lies in B .. U - 1 -/
def IsPr (B U : Nat) (v : Value) (l : List Int) (w : World) : Prop := w.ownsRow B 3 1 v l.length (ints l) ∧ ∀ j, v.ownBlock = some j → j < U

theorem pr_loc {w w' : World} {B U : Nat} {v : Value} {l : List Int} (h : IsPr B U v l w) (hk : ∀ k, B ≤ k → k < U → w'.heap[k]? = w.heap[k]?) : IsPr B U v l w' := by
  refine ⟨⟨h.1.1, ?_⟩, h.2⟩
  have hu := h.2
  rcases h.1.2 with ⟨rfl, hn⟩ | ⟨g, cap, cur, rfl, hg, hh, rest⟩
  · exact Or.inl ⟨rfl, hn⟩
  · exact Or.inr ⟨g, cap, cur, rfl, hg, (hk g hg (hu g rfl)).trans hh, rest⟩

theorem held_pr {w : World} {B : Nat} {v : Value} {l : List Int} (h : w.ownsRow B 3 1 v l.length (ints l)) : Held w B w.heap.size (IsPr B w.heap.size v l) :=
  ⟨fun _ _ _ _ hk hp => pr_loc hp hk, Nat.le_refl _, h, fun k hk => (h.lt k hk).2⟩

theorem held_prA {w : World} {B U : Nat} {v : Value} {l l' : List Int} {w' : World} (h : Held w B U (IsPr B U v l)) (hd : w'.ownsRow B 3 1 v l'.length (ints l')) (hs : w.heap.size ≤ w'.heap.size) : Held w' B U (IsPr B U v l') :=
  ⟨fun _ _ _ _ hk hp => pr_loc hp hk, Nat.le_trans h.le hs, hd, h.is.2⟩

set_option maxHeartbeats 8000000 in
set_option maxRecDepth 100000 in
theorem lawPagesOf (v : Value) (ps : List ByteArray) (ls : List (Int × ByteArray)) (bp : ps.length ≤ maxLen) (bq : ∀ s ∈ ps, s.size ≤ maxLen) (bl : ls.length ≤ maxLen) (bm : ∀ p ∈ ls, p.2.size ≤ maxLen) (root : Int) (w : World) (hT : SumTab w) (hd : DiskAt w v ps ls) :
    Calls Tryd.prog 5 #[v, .int .i64 root] w fun e w' => e = .returned (.bool true) ∧ Below w.heap.size w w' := by
  have HSz := hide (fun wx h => szDisk_any v ps ls bp bq bl bm 1048576 (Nat.le_refl _) wx h)
  clear bp bq bl bm
  have HD := hide hd
  have HT := hide hT
  clear hT
  obtain ⟨vp, vl, rfl, -, -⟩ := hd
  obtain ⟨w0, hw0⟩ : ∃ w0, w0 = w.alloc (Obj.cells #[vp, vl] 25) := ⟨_, rfl⟩
  have HB_w0 : Hid (Below w.heap.size w w0) := hide (by rw [hw0]; exact (new_var w vp vl _).1)
  have Hbox_w0 : Hid (Held w0 w.heap.size (w.heap.size + 1) (IsVar w.heap.size vp vl 25)) := hide (by rw [hw0]; exact (new_var w vp vl _).2)
  by_cases hbk : bulkS ps + bulkP ls ≤ 1048576
  · obtain ⟨h1, h2, h3, h4⟩ := bulk_inA hbk
    obtain ⟨r, hr⟩ : ∃ r : Nat, szOut 1048576 (bulkS ps + bulkP ls) = (r : Int) := ⟨_, szOut_yes hbk⟩
    rw [hr] at HSz
    have HTo := hide (fun wx h => toDisk_any (.agg #[vp, vl]) ps ls h1 h3 wx h)
    have HSp := hide (fun u wx h hk => (specPagesOf_any ps ls h1 h3 h2 h4 u root wx h hk).mono fun e w' h => pgsO_E h)
    have HIm := hide (fun ap np cp al nl cl wx ht h => (implPagesOf_any ps ls h1 h3 h2 h4 ap al np nl cp cl root wx ht h).mono fun e w' h => pgsO_E h)
    rw [← both_pages _ (rdN_right2 ps ls) root] at HSp
    have hrl := srtP_len ps ls root
    obtain ⟨R, hR⟩ : ∃ R, R = srtP (pagesI (fun q => rdN (readD ps ls q)) root) := ⟨_, rfl⟩
    rw [← hR] at HSp HIm hrl
    obtain ⟨rl, fl⟩ := R
    have hrl : rl.length ≤ 100000 := hrl
    have HEx := hide (fun u u' wx h h' => eqDisk_any u u' ps ps ls ls (by omega) (by omega) (by omega) (by omega) wx h h')
    have HEr := hide (fun u u' wx h h' => eqIntS_row rl rl (by omega) (by omega) u u' wx h h')
    rw [decide_eq_true rfl] at HEx HEr
    have HMx := hide (fun u B wx h => markDisk_any u ps ls B 1 h1 h3 (by omega) (by omega) wx h)
    have HMr := hide (fun u B wx h => markIntS_row rl (by omega) u B 1 (by omega) wx h)
    have HHr := hide (fun u wx h => heldIntS_row rl.length (by omega) u 1 (by omega) wx h)
    obtain ⟨kx, hkx⟩ : ∃ kx, kx = 1 + ps.length + ls.length * 2 := ⟨_, rfl⟩
    obtain ⟨kr, hkr⟩ : ∃ kr, kr = 1 + rl.length := ⟨_, rfl⟩
    rw [← hkx] at HMx
    rw [← hkr] at HMr HHr
    have hkxl : kx ≤ 4000000 := by omega
    have hkrl : kr ≤ 4000000 := by omega
    clear hR hbk h1 h2 h3 h4 hr hkx hkr
    go_enter Tryd.func5, Tryd.ntmps5
    go_wp2_with fail
    rw [← hw0]
    clear hw0
    refine (HSz.out _ (disk_below HD.out HB_w0.out)).mono ?_
    rintro e w1 ⟨rfl, hb⟩
    have Hbox_w1 := hide (held_below Hbox_w0.out hb)
    have HB_w1 : Hid (Below w.heap.size w w1) := hide (HB_w0.out.trans (hb.mono HB_w0.out.size))
    clear hb
    obtain ⟨ffb0, ffb1⟩ := held_cells Hbox_w1.out
    go_wp2_with fail
    clear ffb0 ffb1
    refine (HTo.out _ (disk_below HD.out HB_w1.out)).mono ?_
    rintro e w2 ⟨u2, rfl, hown2, hb⟩
    have Hbox_w2 := hide (held_below Hbox_w1.out hb)
    have HB_w2 : Hid (Below w.heap.size w w2) := hide (HB_w1.out.trans (hb.mono HB_w1.out.size))
    clear hb
    have HO2 := hide hown2
    clear hown2
    go_wp2_with fail
    refine (HSp.out u2 _ (disk_of_own HO2.out) (fun k hk => (diskOwn_lt HO2.out k hk).2)).mono ?_
    rintro e w3 ⟨u3, rfl, hown, hb⟩
    have hown : w3.ownsRow w2.heap.size 3 1 u3 rl.length (ints rl) := hown
    have HZ3 : Hid (w2.heap.size ≤ w3.heap.size) := hide hb.size
    have Hbox_w3 := hide (held_below Hbox_w2.out hb)
    have HB_w3 : Hid (Below w.heap.size w w3) := hide (HB_w2.out.trans (hb.mono HB_w2.out.size))
    clear hb HO2
    have Hr3_w3 := hide (held_pr hown)
    obtain ⟨x3, c3, rfl⟩ := own_slice hown
    clear hown
    obtain ⟨ffb0, ffb1⟩ := held_cells Hbox_w3.out
    go_wp2_with fail
    clear ffb0 ffb1
    refine (HTo.out _ (disk_below HD.out HB_w3.out)).mono ?_
    rintro e w5 ⟨u5, rfl, hown, hb⟩
    have HZ5 : Hid (w3.heap.size ≤ w5.heap.size) := hide hb.size
    have Hbox_w5 := hide (held_below Hbox_w3.out hb)
    have Hr3_w5 := hide (held_below Hr3_w3.out hb)
    have HB_w5 : Hid (Below w.heap.size w w5) := hide (HB_w3.out.trans (hb.mono HB_w3.out.size))
    clear hb
    have Hd5_w5 := hide (held_disk hown)
    obtain ⟨x5, c5, y5, d5, rfl⟩ := disk_form hown
    clear hown
    obtain ⟨g5, hg⟩ : ∃ g, g = w5.heap.size := ⟨_, rfl⟩
    obtain ⟨w6, hnw⟩ : ∃ wx, wx = w5.alloc (Obj.cells #[.slice x5 ps.length c5, .slice y5 ls.length d5] 32) := ⟨_, rfl⟩
    have hnv := new_var w5 (.slice x5 ps.length c5) (.slice y5 ls.length d5) 32
    rw [← hnw, ← hg] at hnv
    have hbv : Below w5.heap.size w5 w6 := by rw [← hg]; exact hnv.1
    have Hg5_w6 := hide hnv.2
    have Hgt5 : Hid (w5.heap.size = g5) := hide hg.symm
    have Hbox_w6 := hide (held_below Hbox_w5.out hbv)
    have Hr3_w6 := hide (held_below Hr3_w5.out hbv)
    have Hd5_w6 := hide (held_below Hd5_w5.out hbv)
    have HB_w6 : Hid (Below w.heap.size w w6) := hide (HB_w5.out.trans (hbv.mono HB_w5.out.size))
    clear hnv hbv
    have HDx := hide (disk_of_own Hd5_w6.out.is.1)
    have HTx := hide (sumTab_below HT.out HB_w6.out)
    go_wp2_with fail
    rw [← hnw, ← hg]
    clear hnw hg
    refine (HIm.out _ _ _ _ _ _ _ HTx.out HDx.out).mono ?_
    rintro e w7 ⟨u7, rfl, hown, hb⟩
    have hown : w7.ownsRow w6.heap.size 3 1 u7 rl.length (ints rl) := hown
    have HZ7 : Hid (w6.heap.size ≤ w7.heap.size) := hide hb.size
    have Hbox_w7 := hide (held_below Hbox_w6.out hb)
    have Hr3_w7 := hide (held_below Hr3_w6.out hb)
    have Hd5_w7 := hide (held_below Hd5_w6.out hb)
    have Hg5_w7 := hide (held_below Hg5_w6.out hb)
    have HB_w7 : Hid (Below w.heap.size w w7) := hide (HB_w6.out.trans (hb.mono HB_w6.out.size))
    clear hb HDx HTx
    have Hr7_w7 := hide (held_pr hown)
    obtain ⟨x7, c7, rfl⟩ := own_slice hown
    clear hown
    go_wp2_with fail
    refine (HEr.out _ _ _ (row_of_own Hr7_w7.out.is.1) (row_of_own Hr3_w7.out.is.1)).mono ?_
    rintro e w9 ⟨rfl, hb⟩
    have Hbox_w9 := hide (held_below Hbox_w7.out hb)
    have Hr3_w9 := hide (held_below Hr3_w7.out hb)
    have Hd5_w9 := hide (held_below Hd5_w7.out hb)
    have Hg5_w9 := hide (held_below Hg5_w7.out hb)
    have Hr7_w9 := hide (held_below Hr7_w7.out hb)
    have HB_w9 : Hid (Below w.heap.size w w9) := hide (HB_w7.out.trans (hb.mono HB_w7.out.size))
    clear hb
    obtain ⟨ffb0, ffb1⟩ := held_cells Hbox_w9.out
    obtain ⟨ffx0, ffx1⟩ := held_cells Hg5_w9.out
    go_wp2_with fail
    have HSall : Hid (∀ wx, Below w9.heap.size w9 wx → wx.cell? ⟨w.heap.size, 0, none⟩ = some vp ∧ wx.cell? ⟨w.heap.size, 1, none⟩ = some vl ∧ wx.cell? ⟨g5, 0, none⟩ = some (.slice x5 ps.length c5) ∧ wx.cell? ⟨g5, 1, none⟩ = some (.slice y5 ls.length d5)) := hide (fun wx hb => by
      have h1 := (held_below Hbox_w9.out hb).is
      have h2 := (held_below Hg5_w9.out hb).is
      exact ⟨(cell_at h1 0).1, (cell_at h1 1).1, (cell_at h2 0).1, (cell_at h2 1).1⟩)
    have hS0 := HSall.out w9 (Below.refl _ _)
    clear ffb0 ffb1 ffx0 ffx1
    go_region_held3 (fun wx => wx.cell? ⟨w.heap.size, 0, none⟩ = some vp ∧ wx.cell? ⟨w.heap.size, 1, none⟩ = some vl ∧ wx.cell? ⟨g5, 0, none⟩ = some (.slice x5 ps.length c5) ∧ wx.cell? ⟨g5, 1, none⟩ = some (.slice y5 ls.length d5)) (first | exact hS0 | exact hS8 | exact hS9) (first | (go_at_call 10; refine (HTo.out _ ?_).mono ?_; exact disk_below HD.out HB_w9.out.drew; rintro e w10 ⟨u10, rfl, hown, hbA⟩; have hA8 : Below w9.heap.size w9 w10 := (Below.refl _ _).drew.trans hbA; have hS8 := HSall.out _ hA8) | (go_at_call 13; refine (HEx.out _ _ _ ?_ ?_).mono ?_; exact disk_below (disk_of_own Hd5_w9.out.is.1) hA8; exact disk_of_own hown; rintro e w11 ⟨rfl, hbC⟩; have hA9 : Below w9.heap.size w9 w11 := hA8.trans (hbC.mono hA8.size); have hS9 := HSall.out _ hA9))
    have hb := hA9
    have Hbox_w11 := hide (held_below Hbox_w9.out hb)
    have Hr3_w11 := hide (held_below Hr3_w9.out hb)
    have Hd5_w11 := hide (held_below Hd5_w9.out hb)
    have Hg5_w11 := hide (held_below Hg5_w9.out hb)
    have Hr7_w11 := hide (held_below Hr7_w9.out hb)
    have HB_w11 : Hid (Below w.heap.size w w11) := hide (HB_w9.out.trans (hb.mono HB_w9.out.size))
    clear hb hA8 hA9 hbA hbC hown hS0 hS8 hS9 HSall
    have HL : Hid (w.heap.size + 1 ≤ w2.heap.size ∧ w2.heap.size ≤ w3.heap.size ∧ w3.heap.size ≤ w5.heap.size ∧ w5.heap.size = g5 ∧ g5 + 1 ≤ w6.heap.size ∧ w6.heap.size ≤ w7.heap.size) := hide ⟨Hbox_w2.out.le, HZ3.out, HZ5.out, Hgt5.out, Hg5_w6.out.le, HZ7.out⟩
    obtain ⟨ffx0, ffx1⟩ := held_cells Hg5_w11.out
    go_wp2_with fail
    clear ffx0 ffx1
    have hin5 : ∀ k, diskBlocks (.agg #[.slice x5 ps.length c5, .slice y5 ls.length d5]) k → w3.heap.size ≤ k ∧ k < w5.heap.size := fun k h => ⟨(diskOwn_lt Hd5_w11.out.is.1 k h).1, Hd5_w11.out.is.2 k h⟩
    refine (HMx.out _ _ _ Hd5_w11.out.is.1).mono ?_
    rintro e w12 ⟨rfl, hownM, hk⟩
    have Hbox_w12 := hide (held_kept Hbox_w11.out hk (fun k h1 h2 h => by have h3 := hin5 k h; have h4 := HL.out; omega))
    have Hr3_w12 := hide (held_kept Hr3_w11.out hk (fun k h1 h2 h => by have h3 := hin5 k h; have h4 := HL.out; omega))
    have Hg5_w12 := hide (held_kept Hg5_w11.out hk (fun k h1 h2 h => by have h3 := hin5 k h; have h4 := HL.out; omega))
    have Hr7_w12 := hide (held_kept Hr7_w11.out hk (fun k h1 h2 h => by have h3 := hin5 k h; have h4 := HL.out; omega))
    have HB_w12 : Hid (Below w.heap.size w w12) := hide (HB_w11.out.trans (below_of_kept hk HB_w11.out.size (fun k h => by have h3 := hin5 k h; have h4 := HL.out; omega)))
    clear hk hownM hin5
    go_wp2_with fail
    refine (HEr.out _ _ _ (row_of_own Hr7_w12.out.is.1) (row_of_own Hr3_w12.out.is.1)).mono ?_
    rintro e w13 ⟨rfl, hb⟩
    have Hbox_w13 := hide (held_below Hbox_w12.out hb)
    have Hr3_w13 := hide (held_below Hr3_w12.out hb)
    have Hg5_w13 := hide (held_below Hg5_w12.out hb)
    have Hr7_w13 := hide (held_below Hr7_w12.out hb)
    have HB_w13 : Hid (Below w.heap.size w w13) := hide (HB_w12.out.trans (hb.mono HB_w12.out.size))
    clear hb
    go_wp2_with fail
    have hin6 : ∀ k, (Value.slice x7 rl.length c7).ownBlock = some k → w6.heap.size ≤ k ∧ k < w7.heap.size := fun k h => ⟨(Hr7_w13.out.is.1.lt k h).1, Hr7_w13.out.is.2 k h⟩
    refine (HMr.out _ _ _ Hr7_w13.out.is.1).mono ?_
    rintro e w14 ⟨rfl, hownM, hk⟩
    have HrM_w14 := hide (held_prA (l' := marksI 1 rl.length) Hr7_w13.out (by rw [marksI_length]; exact hownM) hk.2.2.2.1)
    have Hbox_w14 := hide (held_kept Hbox_w13.out hk (fun k h1 h2 h => by have h3 := hin6 k h; have h4 := HL.out; omega))
    have Hr3_w14 := hide (held_kept Hr3_w13.out hk (fun k h1 h2 h => by have h3 := hin6 k h; have h4 := HL.out; omega))
    have Hg5_w14 := hide (held_kept Hg5_w13.out hk (fun k h1 h2 h => by have h3 := hin6 k h; have h4 := HL.out; omega))
    have HB_w14 : Hid (Below w.heap.size w w14) := hide (HB_w13.out.trans (below_of_kept hk HB_w13.out.size (fun k h => by have h3 := hin6 k h; have h4 := HL.out; omega)))
    clear hk hownM hin6
    go_wp2_with fail
    have hrow : RowAt w14 1 (.slice x7 rl.length c7) rl.length (ints (marksI 1 rl.length)) := by have h := row_of_own HrM_w14.out.is.1; rw [marksI_length] at h; exact h
    refine (HHr.out _ _ hrow).mono ?_
    rintro e w15 ⟨rfl, hb⟩
    clear hrow
    have Hbox_w15 := hide (held_below Hbox_w14.out hb)
    have Hr3_w15 := hide (held_below Hr3_w14.out hb)
    have Hg5_w15 := hide (held_below Hg5_w14.out hb)
    have HrM_w15 := hide (held_below HrM_w14.out hb)
    have HB_w15 : Hid (Below w.heap.size w w15) := hide (HB_w14.out.trans (hb.mono HB_w14.out.size))
    clear hb
    obtain ⟨ffb0, ffb1⟩ := held_cells Hbox_w15.out
    go_wp2_with fail
    clear ffb0 ffb1
    refine (HTo.out _ (disk_below HD.out HB_w15.out)).mono ?_
    rintro e w16 ⟨u16, rfl, hown, hb⟩
    have Hbox_w16 := hide (held_below Hbox_w15.out hb)
    have Hr3_w16 := hide (held_below Hr3_w15.out hb)
    have Hg5_w16 := hide (held_below Hg5_w15.out hb)
    have HrM_w16 := hide (held_below HrM_w15.out hb)
    have HB_w16 : Hid (Below w.heap.size w w16) := hide (HB_w15.out.trans (hb.mono HB_w15.out.size))
    clear hb
    have HO16 := hide hown
    obtain ⟨x6, c6, y6, d6, rfl⟩ := disk_form hown
    clear hown
    go_wp2_with fail
    refine (HIm.out _ _ _ _ _ _ _ (sumTab_below HT.out HB_w16.out) (disk_of_own HO16.out)).mono ?_
    rintro e w17 ⟨u17, rfl, hown, hb⟩
    have hown : w17.ownsRow w16.heap.size 3 1 u17 rl.length (ints rl) := hown
    have Hbox_w17 := hide (held_below Hbox_w16.out hb)
    have Hr3_w17 := hide (held_below Hr3_w16.out hb)
    have Hg5_w17 := hide (held_below Hg5_w16.out hb)
    have HrM_w17 := hide (held_below HrM_w16.out hb)
    have HB_w17 : Hid (Below w.heap.size w w17) := hide (HB_w16.out.trans (hb.mono HB_w16.out.size))
    clear hb HO16
    have HOr := hide hown
    obtain ⟨x8, c8, rfl⟩ := own_slice hown
    clear hown
    go_wp2_with fail
    refine (HEr.out _ _ _ (row_of_own HOr.out) (row_of_own Hr3_w17.out.is.1)).mono ?_
    rintro e w19 ⟨rfl, hb⟩
    have Hbox_w19 := hide (held_below Hbox_w17.out hb)
    have Hr3_w19 := hide (held_below Hr3_w17.out hb)
    have Hg5_w19 := hide (held_below Hg5_w17.out hb)
    have HrM_w19 := hide (held_below HrM_w17.out hb)
    have HB_w19 : Hid (Below w.heap.size w w19) := hide (HB_w17.out.trans (hb.mono HB_w17.out.size))
    clear hb
    go_wp2_with fail
    have hrow : RowAt w19 1 (.slice x7 rl.length c7) rl.length (ints (marksI 1 rl.length)) := by have h := row_of_own HrM_w19.out.is.1; rw [marksI_length] at h; exact h
    refine (HHr.out _ _ hrow).mono ?_
    rintro e w20 ⟨rfl, hb⟩
    clear hrow
    have Hbox_w20 := hide (held_below Hbox_w19.out hb)
    have Hr3_w20 := hide (held_below Hr3_w19.out hb)
    have Hg5_w20 := hide (held_below Hg5_w19.out hb)
    have HrM_w20 := hide (held_below HrM_w19.out hb)
    have HB_w20 : Hid (Below w.heap.size w w20) := hide (HB_w19.out.trans (hb.mono HB_w19.out.size))
    clear hb
    go_wp2_with fail
    go_ret
    exact ⟨rfl, HB_w20.out⟩
  · rw [szOut_no (by omega)] at HSz
    go_enter Tryd.func5, Tryd.ntmps5
    go_wp2_with fail
    rw [← hw0]
    refine (HSz.out _ (disk_below HD.out HB_w0.out)).mono ?_
    rintro e w1 ⟨rfl, hb1⟩
    clear hw0
    go_wp2_with fail
    go_ret
    exact ⟨rfl, HB_w0.out.trans (hb1.mono HB_w0.out.size)⟩
end Go.Proofs.YtejfmjejdopglaaDoor.pagesOf

namespace Go.Proofs.YtejfmjejdopglaaDoor
open Go.RowKit Go.ChangeShapes Go.WideShapes Go.Deep

theorem row_strs {H : Type} {enc : TypeId × Value → H} {W : World} {base : Nat} {spare : Nat → Bool} {held : Bool} {fuel : Nat} {v : Value} {x : DataW H × List MemPlace}
    (h : DataW.trod enc Tryd.prog W base spare held fuel 22 [v] = some x) : ∃ ps : List ByteArray, RowAt W 1 v ps.length (strs ps) ∧ ps.length ≤ maxLen ∧ ∀ s ∈ ps, s.size ≤ maxLen := by
  rcases open_strs Tryd.underlying22 Tryd.underlying9 (by kernel_rfl) h with ⟨hcs, -⟩ | ⟨a, len, cap, m, Sx, hcs, -, hl, hm, hmm, -, hx⟩
  · injection hcs with hcs
    subst hcs
    exact ⟨[], ⟨rfl, none, 0, rfl, Or.inl rfl⟩, by unfold maxLen; simp, fun s hs => by cases hs⟩
  · injection hcs with hcs
    subst hcs
    have hlm : len ≤ m := by rw [hmm]; split <;> omega
    refine ⟨(List.range len).map Sx, ?_, by simp; omega, fun s hs => ?_⟩
    · rw [List.length_map, List.length_range]
      refine ⟨by rw [strs_length]; simp, some a, cap, rfl, ?_⟩
      by_cases h0 : len = 0
      · exact Or.inl h0
      · obtain ⟨b, off, spot⟩ := a
        have hc := (hx 0 (by omega)).1
        obtain rfl : spot = none := by simpa [Addr.add] using World.cell?_spot hc
        refine Or.inr ⟨b, off, rfl, World.block_lt_of_cell? W _ (by simpa [Addr.add] using hc : W.cell? ⟨b, off, none⟩ = _), fun j hj => ?_⟩
        have hj' : j < len := by omega
        have := (hx j (by omega)).1
        rw [Addr.add_lit] at this
        rw [this, strs_at _ j (by simpa using hj')]
        simp
    · obtain ⟨i, hi, rfl⟩ := List.mem_map.1 hs
      exact (hx i (by have := List.mem_range.1 hi; omega)).2

theorem row_puts {H : Type} {enc : TypeId × Value → H} {W : World} {base : Nat} {spare : Nat → Bool} {held : Bool} {fuel : Nat} {v : Value} {x : DataW H × List MemPlace}
    (h : DataW.trod enc Tryd.prog W base spare held fuel 23 [v] = some x) : ∃ ls : List (Int × ByteArray), RowAt W 2 v ls.length (puts ls) ∧ ls.length ≤ maxLen ∧ ∀ p ∈ ls, p.2.size ≤ maxLen := by
  rcases open_slice_pairs Tryd.underlying23 Tryd.underlying97 (by kernel_rfl) rfl rfl (by kernel_rfl) (by kernel_rfl) h with ⟨hcs, -⟩ | ⟨a, len, cap, m, n, V0, V1, D0, D1, P0, P1, hcs, -, hl, hm, hmm, -, hx⟩
  · injection hcs with hcs
    subst hcs
    exact ⟨[], ⟨rfl, none, 0, rfl, Or.inl rfl⟩, by unfold maxLen; simp, fun s hs => by cases hs⟩
  · injection hcs with hcs
    subst hcs
    have hlm : len ≤ m := by rw [hmm]; split <;> omega
    have each : ∀ i, i < m → ∃ q : Int × ByteArray, V0 i = .int .i64 q.1 ∧ V1 i = .string q.2 ∧ q.2.size ≤ maxLen := fun i hi => by
      obtain ⟨h1, h2, h3, h4⟩ := hx i hi
      obtain ⟨k, e1, e2, -⟩ := DataW.trod_int Tryd.underlying3 h3
      obtain ⟨s, g1, g2, g3⟩ := DataW.trod_string Tryd.underlying9 h4
      exact ⟨(k, s), by simpa using e1, by simpa using g1, g3⟩
    obtain ⟨q, hq⟩ := choose_lt each
    refine ⟨(List.range len).map q, ?_, by simp; omega, fun s hs => ?_⟩
    · rw [List.length_map, List.length_range]
      refine ⟨by rw [puts_length]; simp, some a, cap, rfl, ?_⟩
      by_cases h0 : len = 0
      · exact Or.inl h0
      · obtain ⟨b, off, spot⟩ := a
        have hc := (hx 0 (by omega)).1
        obtain rfl : spot = none := by simpa [Addr.add] using World.cell?_spot hc
        refine Or.inr ⟨b, off, rfl, World.block_lt_of_cell? W _ (by simpa [Addr.add] using hc : W.cell? ⟨b, off, none⟩ = _), fun j hj => ?_⟩
        have hi : j / 2 < len := by omega
        obtain ⟨h1, h2, -, -⟩ := hx (j / 2) (by omega)
        rw [Addr.add_lit] at h1 h2
        have hp := puts_at ((List.range len).map q) (j / 2) (by simpa using hi)
        rcases Nat.mod_two_eq_zero_or_one j with e | e
        · rw [show j = j / 2 * 2 from by omega, hp.1, h1, (hq (j / 2) (by omega)).1]
          simp
        · rw [show j = j / 2 * 2 + 1 from by omega, hp.2, h2, (hq (j / 2) (by omega)).2.1]
          simp
    · obtain ⟨i, hi, rfl⟩ := List.mem_map.1 hs
      exact (hq i (by have := List.mem_range.1 hi; omega)).2.2

set_option maxRecDepth 100000 in
theorem open_disk {H : Type} {enc : TypeId × Value → H} {W : World} {r : Reach} {b0 base : Nat} {spare : Nat → Bool} {held : Bool} {v : Value} {d : DataW H} {p : List MemPlace}
    (hv : Value.okWide Tryd.prog W r b0 25 v) (h : DataW.Trod enc Tryd.prog W base spare held 25 v d p) :
    ∃ ps ls, DiskAt W v ps ls ∧ ps.length ≤ maxLen ∧ (∀ s ∈ ps, s.size ≤ maxLen) ∧ ls.length ≤ maxLen ∧ ∀ p ∈ ls, p.2.size ≤ maxLen := by
  obtain ⟨v0, v1, y0, y1, n, rfl, -, -, h0, h1⟩ := Joins.open_agg2 Tryd.underlying25 (by kernel_rfl) (by kernel_rfl) hv h
  obtain ⟨ps, hp1, hp2, hp3⟩ := row_strs h0
  obtain ⟨ls, hl1, hl2, hl3⟩ := row_puts h1
  exact ⟨ps, ls, ⟨v0, v1, rfl, hp1, hl1⟩, hp2, hp3, hl2, hl3⟩
end Go.Proofs.YtejfmjejdopglaaDoor
