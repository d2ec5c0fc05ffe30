/-
  The specification's ReadMeta by a contract.
-/
import Derived.Test.YtplkioelbdemjaaGreatDoorOpF
import Derived.Test.YtplkioelbdemjaaGreatDoorOpG
import Derived.Test.YtplkioelbdemjaaGreatDoorMetaSpecText
import Derived.Test.YtplkioelbdemjaaGreatDoorCur
import Derived.Test.YtplkioelbdemjaaGreatDoorOpC
import Derived.Deep.RegionLaw
import Derived.Deep.AppendLies
namespace Go.Proofs.YtplkioelbdemjaaGreatDoor
open Go.RowKit

theorem grM_trans {a b c : World} {g : Nat} (h : a.grownBy b (some g)) (k : b.grownBy c (some g)) : a.grownBy c (some g) :=
  ⟨k.os.trans h.os, k.tape.trans h.tape, k.output.trans h.output, Nat.le_trans h.size k.size, fun j hj hne => (k.block j (Nat.lt_of_lt_of_le hj h.size) hne).trans (h.block j hj hne)⟩

theorem grM_low {a b c : World} {g gn : Nat} (h : a.grownBy b (some g)) (k : Below gn b c) (hle : a.heap.size ≤ gn) : a.grownBy c (some g) :=
  ⟨k.os.trans h.os, k.tape.trans h.tape, k.output.trans h.output, Nat.le_trans h.size k.size, fun j hj hne => by
    rw [k.block j (by omega)]
    exact h.block j hj hne⟩

theorem grM_refl (a : World) (g : Nat) : a.grownBy a (some g) := ⟨rfl, rfl, rfl, Nat.le_refl _, fun _ _ _ => rfl⟩

theorem grM_dr {a b : World} {g : Nat} (h : a.grownBy b (some g)) : a.grownBy b.drew (some g) := grM_trans h ⟨rfl, rfl, rfl, Nat.le_refl _, fun _ _ _ => rfl⟩

theorem mgr_root {w : World} {gm : Nat} {tx root next : Int} {vf : Value} {l : List (Int × Value)} {fs : List (Int × List Int)} (h : MGr w gm tx root next vf l fs) (x : Int) : MGr (w.setCell ⟨gm, 1, none⟩ (.int .i64 x)) gm tx x next vf l fs :=
  ⟨heap_setCell_same w gm 1 _ _ _ h.1, ownF_grown h.2 (grown_setM w gm 1 _) (fun b hb e => by injection e with e; have := (ownF_lt h.2 b hb).1; omega)⟩

theorem mgr_next {w : World} {gm : Nat} {tx root next : Int} {vf : Value} {l : List (Int × Value)} {fs : List (Int × List Int)} (h : MGr w gm tx root next vf l fs) (x : Int) : MGr (w.setCell ⟨gm, 2, none⟩ (.int .i64 x)) gm tx root x vf l fs :=
  ⟨heap_setCell_same w gm 2 _ _ _ h.1, ownF_grown h.2 (grown_setM w gm 2 _) (fun b hb e => by injection e with e; have := (ownF_lt h.2 b hb).1; omega)⟩

/-- a store into block gm, which lies behind a -/
theorem grM_set {a b : World} {g gm j : Nat} {u : Value} (h : a.grownBy b (some g)) (hle : a.heap.size ≤ gm) : a.grownBy (b.setCell ⟨gm, j, none⟩ u) (some g) :=
  ⟨h.os, h.tape, h.output, by simpa using h.size, fun k hk hne => (heap_setCell_other b ⟨gm, j, none⟩ k u (fun e => by have e : k = gm := e; omega)).trans (h.block k hk hne)⟩

theorem curT_set {w : World} {g p gm j : Nat} {s : ByteArray} {bad : Bool} {u : Value} (h : CurT w g s p bad) (hne : g ≠ gm) : CurT (w.setCell ⟨gm, j, none⟩ u) g s p bad := blk_other h hne

theorem l04Var_num (g : Nat) (t : ByteArray) (ht : t.size ≤ 1048576) (p : Nat) (bad : Bool) (w : World) (hc : CurT w g t p bad) :
    Calls Tryz.prog 58 #[.pointer (some ⟨g, 0, none⟩)] w fun e w' => ∃ (x q : Nat) (bad' : Bool), e = .returned (.int .i64 (x : Int)) ∧ CurT w' g t q bad' ∧ w.grownBy w' (some g) ∧ NumOut t bad p x q bad' := by
  cases bad with
  | true => exact (l04Var_bad g t ht p true (Or.inl rfl) w hc).mono (fun e w' ⟨h1, h2, h3⟩ => ⟨0, p, true, h1, h2, h3, Or.inr ⟨rfl, rfl, rfl, Or.inl rfl⟩⟩)
  | false =>
    cases hr : rdV t p with
    | none => exact (l04Var_bad g t ht p false (Or.inr hr) w hc).mono (fun e w' ⟨h1, h2, h3⟩ => ⟨0, p, true, h1, h2, h3, Or.inr ⟨rfl, rfl, rfl, Or.inr hr⟩⟩)
    | some o =>
      obtain ⟨x, q⟩ := o
      exact (l04Var_good g t ht p x q hr w hc).mono (fun e w' ⟨h1, h2, h3⟩ => ⟨x, q, false, h1, h2, h3, Or.inl ⟨rfl, rfl, hr⟩⟩)

theorem noM_empty : NoM ⟨#[]⟩ := fun m hg e => by
  have h := (nums_size (good_ok hg)).2
  rw [← e] at h
  exact absurd h (by decide)

/-- where the reading ended: there is none, or it is m -/
def REnd (s : ByteArray) (bad : Bool) (p : Nat) (m : Mt) : Prop := NoM s ∨ (bad = false ∧ Got s p m.nums ∧ ∀ m' : Mt, m'.good = true → s = numsB m'.nums → m' = m)

theorem rd_true {t s : ByteArray} {bad : Bool} {p : Nat} {m : Mt} (hE : REnd s bad p m) (hF : ∀ m', IsM t m' → m'.good = true ∧ s = numsB m'.nums) (h1 : m.good = true) (h2 : m.textO = t) : ReadM t m true := by
  have hm : IsM t m := isM_of_text.2 ⟨h1, h2⟩
  refine Or.inl ⟨rfl, hm, fun m' hm' => ?_⟩
  obtain ⟨g1, g2⟩ := hF m' hm'
  rcases hE with hE | hE
  · exact absurd g2 (hE m' g1)
  · exact hE.2.2 m' g1 g2

theorem rd_false {t s : ByteArray} {bad : Bool} {p : Nat} {m : Mt} (hE : REnd s bad p m) (hF : ∀ m', IsM t m' → m'.good = true ∧ s = numsB m'.nums) (h : bad = true ∨ m.good = false ∨ m.textO ≠ t) : ReadM t Mt.none false := by
  refine Or.inr ⟨rfl, rfl, fun m' hm' => ?_⟩
  obtain ⟨g1, g2⟩ := hF m' hm'
  rcases hE with hE | ⟨e1, e2, e3⟩
  · exact hE m' g1 g2
  · have := e3 m' g1 g2
    subst this
    rcases h with h | h | h
    · rw [e1] at h; cases h
    · rw [g1] at h; cases h
    · exact h (isM_of_text.1 hm').2

theorem text_un (t : ByteArray) : ∃ s ok, unOut t = .tuple #[.string s, .bool ok] ∧ s.size ≤ t.size ∧ (ok = false → NoM s) ∧ (∀ m', IsM t m' → m'.good = true ∧ s = numsB m'.nums) ∧ (ok = true → isSealed t.data.toList = true ∧ s = t.extract 0 (t.size - 4)) := by
  cases hsl : isSealed t.data.toList with
  | false =>
    refine ⟨⟨#[]⟩, false, by rw [unOut, hsl]; rfl, by show 0 ≤ _; omega, fun _ => noM_empty, fun m' h => absurd h (isM_unsealed hsl m'), (fun h => by cases h)⟩
  | true =>
    refine ⟨t.extract 0 (t.size - 4), true, by rw [unOut, hsl]; rfl, by rw [ByteArray.size_extract]; omega, (fun h => by cases h), fun m' h => (isM_sealed hsl m').1 h, fun _ => ⟨rfl, rfl⟩⟩

theorem zero_own (w : World) (B : Nat) : MetaOwn w B (.agg #[.int .i64 0, .int .i64 0, .int .i64 0, .slice none 0 0]) Mt.none :=
  ⟨.slice none 0 0, [], rfl, own_none _ _ _ _, rfl, fun i p f h => by simp [Mt.none] at h, fun i j p q b h => by simp [Mt.none] at h⟩

theorem Tryz.freeInfo : (Tryz.prog.info? 92).map (fun i => (i.zero, i.size, i.bytes)) = some (some (.agg #[.int .i64 0, .slice none 0 0]), 2, 32) := by kernel_rfl

theorem free_cells (w : World) (n : Nat) (hn : n = w.heap.size) (x : Int) (u : Value) : ∀ (j : Nat) (y : Value), [Value.int .i64 x, u][j]? = some y → (w.alloc (.cells #[.int .i64 x, u] 92 (0, 0))).cell? ((⟨n, 0, none⟩ : Addr).add j) = some y := by
  subst hn
  intro j y hj
  rw [Addr.add_lit, Nat.zero_add, (cell_at (heap_alloc_new w _) j).1]
  simpa using hj

theorem one_newM (w : World) (n : Nat) (hn : n = w.heap.size) (x : Value) (T : TypeId) : ∀ (j : Nat) (u : Value), [x][j]? = some u → (w.alloc (Obj.cells #[x] T)).cell? ((⟨n, 0, none⟩ : Addr).add j) = some u := by
  subst hn
  intro j u hj
  obtain rfl : j = 0 := by have := (List.getElem?_eq_some_iff.1 hj).1; simp at this; omega
  rw [Addr.add_lit, ← hj]
  exact (cell_at (heap_alloc_new w _) 0).1

/-- what ReadMeta answers -/
def RmPost (w : World) (t : ByteArray) (e : Ending) (w' : World) : Prop := ∃ m v ok, e = .returned (.tuple #[v, .bool ok]) ∧ ReadM t m ok ∧ MetaOwn w' w.heap.size v m ∧ Below w.heap.size w w'

set_option maxHeartbeats 16000000 in
set_option maxRecDepth 100000 in
theorem specReadMeta_any (t : ByteArray) (ht : t.size ≤ 1048576) (w : World) :
    Calls Tryz.prog 38 #[.string t] w fun e w' => RmPost w t e w' := by
  obtain ⟨i0, hi, hz0, hz1, hz2⟩ := info_parts Tryz.intInfo
  obtain ⟨i1, hi1, hy0, hy1, hy2⟩ := info_parts Tryz.freeInfo
  obtain ⟨s, ok, hun, hsz, hno, hfn, -⟩ := text_un t
  have HUn := hide (fun wx => specUnsealed_any t ht wx)
  rw [hun] at HUn
  have HFn := hide hfn
  have HNum := hide (fun g wx p bad h => l04Var_num g s (by omega) p bad wx h)
  have HStart : Hid (Rh s (!ok) 0 []) := hide (rh_start s (!ok) (fun h => hno (by simpa using h)))
  clear hun hno hfn hsz
  obtain ⟨wa, hwa⟩ : ∃ wa, wa = w.alloc (.cells #[.int .i64 0, .int .i64 0, .int .i64 0, .slice none 0 0] 32 (0, 0)) := ⟨_, rfl⟩
  have hba : Below w.heap.size w wa := by rw [hwa]; exact (Below.refl _ _).alloc (Nat.le_refl _) _
  have hra : wa.heap[w.heap.size]? = some (.cells #[.int .i64 0, .int .i64 0, .int .i64 0, .slice none 0 0] 32 (0, 0)) := by rw [hwa]; exact heap_alloc_new w _
  have HBa := hide hba
  have HRa0 := hide hra
  clear hba hra
  go_enter Tryz.func38, Tryz.ntmps38
  go_wp2_with fail
  rw [← hwa]
  clear hwa
  refine (HUn.out _).mono ?_
  rintro e w1 ⟨rfl, hb1⟩
  have HB1 : Hid (Below w.heap.size w w1) := hide (HBa.out.trans (hb1.mono HBa.out.size))
  have HR1 := hide ((hb1.block _ (Array.getElem?_eq_some_iff.1 HRa0.out).1).trans HRa0.out)
  obtain ⟨wb, hwb⟩ : ∃ wb, wb = w1.alloc (.cells #[.string s, .int .i64 0, .bool (!ok)] 89 (0, 0)) := ⟨_, rfl⟩
  have hbb : Below w1.heap.size w1 wb := by rw [hwb]; exact (Below.refl _ _).alloc (Nat.le_refl _) _
  obtain ⟨g, hgd⟩ : ∃ g, g = w1.heap.size := ⟨_, rfl⟩
  have HCb : Hid (CurT wb g s 0 (!ok)) := hide (by rw [hwb, hgd]; exact heap_alloc_new w1 _)
  have HBb : Hid (Below w.heap.size w wb) := hide (HB1.out.trans (hbb.mono HB1.out.size))
  have HRa := hide ((hbb.block _ (Array.getElem?_eq_some_iff.1 HR1.out).1).trans HR1.out)
  have HWb : Hid (w.heap.size < g ∧ g < wb.heap.size) := hide ⟨by rw [hgd]; exact (Array.getElem?_eq_some_iff.1 HR1.out).1, curT_lt HCb.out⟩
  have HGd := hide hgd
  clear hb1 hbb HR1 HRa0 HBa
  go_wp2_with fail
  rw [← HGd.out]
  try rw [← hwb]
  clear hwb hgd
  obtain ⟨b0, hb0⟩ : ∃ b0, b0 = !ok := ⟨_, rfl⟩
  rw [← hb0] at HCb HStart
  clear hb0
  refine (HNum.out g _ 0 b0 HCb.out).mono ?_
  rintro e w2 ⟨x2, q2, bad2, rfl, hc2, hg2, ho2⟩
  have HR2 : Hid (Rh s bad2 q2 [(x2 : Int)]) := hide (rh_step HStart.out (by simp) ho2)
  have HG2 : Hid (wb.grownBy w2 (some g)) := hide hg2
  obtain ⟨tx, htx⟩ : ∃ tx : Int, tx = (x2 : Int) := ⟨_, rfl⟩
  rw [← htx] at HR2 ⊢
  obtain ⟨gm, hgm⟩ : ∃ gm, gm = w2.heap.size := ⟨_, rfl⟩
  obtain ⟨w3, hw3⟩ : ∃ w3, w3 = w2.alloc (.cells #[.int .i64 tx, .int .i64 0, .int .i64 0, .slice none 0 0] 32 (0, 0)) := ⟨_, rfl⟩
  have hb3 : Below w2.heap.size w2 w3 := by rw [hw3]; exact (Below.refl _ _).alloc (Nat.le_refl _) _
  have HM3 : Hid (MGr w3 gm tx 0 0 (.slice none 0 0) [] []) := hide (by rw [hw3, hgm]; exact mgr_new w2 tx 0 0)
  have HC3 : Hid (CurT w3 g s q2 bad2) := hide ((hb3.block g (curT_lt hc2)).trans hc2)
  have HG3 : Hid (wb.grownBy w3 (some g)) := hide (grM_trans HG2.out (grown_of_below hb3 _))
  have HLg : Hid (wb.heap.size ≤ gm) := hide (by rw [hgm]; exact HG2.out.size)
  have HLt : Hid (g < gm) := hide (by have h1 := HWb.out; have h2 := HLg.out; omega)
  have HGm := hide hgm
  clear hc2 hg2 ho2 hb3 htx HCb HStart
  go_wp2_with fail
  rw [← HGm.out]
  try rw [← hw3]
  clear hw3 hgm
  refine (HNum.out g _ q2 bad2 HC3.out).mono ?_
  rintro e w4 ⟨x4, q4, bad4, rfl, hc4, hg4, ho4⟩
  have HR4 : Hid (Rh s bad4 q4 [tx, (x4 : Int)]) := hide (rh_step HR2.out (by simp) ho4)
  obtain ⟨root, hro⟩ : ∃ root : Int, root = (x4 : Int) := ⟨_, rfl⟩
  rw [← hro] at HR4 ⊢
  have HM4 := hide (mgr_grown HM3.out hg4 HLt.out)
  have HM5 := hide (mgr_root HM4.out root)
  have HG5 : Hid (wb.grownBy (w4.setCell ⟨gm, 1, none⟩ (.int .i64 root)) (some g)) := hide (grM_set (grM_trans HG3.out hg4) HLg.out)
  have HC5 : Hid (CurT (w4.setCell ⟨gm, 1, none⟩ (.int .i64 root)) g s q4 bad4) := hide (curT_set hc4 (by have := HLt.out; omega))
  have c1 := (cell_at HM4.out.1 1).1
  have f1 := (cell_at HM4.out.1 1).2
  obtain ⟨w5, hw5⟩ : ∃ w5, w5 = w4.setCell ⟨gm, 1, none⟩ (.int .i64 root) := ⟨_, rfl⟩
  rw [← hw5] at HM5 HG5 HC5
  clear hc4 hg4 ho4 hro HM3 HC3 HG3 HR2 HM4
  go_wp2_with fail
  rw [← hw5]
  clear hw5 c1 f1
  refine (HNum.out g _ q4 bad4 HC5.out).mono ?_
  rintro e w6 ⟨x6, q6, bad6, rfl, hc6, hg6, ho6⟩
  have HR6 : Hid (Rh s bad6 q6 [tx, root, (x6 : Int)]) := hide (rh_step HR4.out (by simp) ho6)
  obtain ⟨next, hne⟩ : ∃ next : Int, next = (x6 : Int) := ⟨_, rfl⟩
  rw [← hne] at HR6 ⊢
  have HM6 := hide (mgr_grown HM5.out hg6 HLt.out)
  have HM7 := hide (mgr_next HM6.out next)
  have HG7 : Hid (wb.grownBy (w6.setCell ⟨gm, 2, none⟩ (.int .i64 next)) (some g)) := hide (grM_set (grM_trans HG5.out hg6) HLg.out)
  have HC7 : Hid (CurT (w6.setCell ⟨gm, 2, none⟩ (.int .i64 next)) g s q6 bad6) := hide (curT_set hc6 (by have := HLt.out; omega))
  have c1 := (cell_at HM6.out.1 2).1
  have f1 := (cell_at HM6.out.1 2).2
  obtain ⟨w7, hw7⟩ : ∃ w7, w7 = w6.setCell ⟨gm, 2, none⟩ (.int .i64 next) := ⟨_, rfl⟩
  rw [← hw7] at HM7 HG7 HC7
  clear hc6 hg6 ho6 hne HM5 HC5 HG5 HR4 HM6
  go_wp2_with fail
  rw [← hw7]
  clear hw7 c1 f1
  refine (HNum.out g _ q6 bad6 HC7.out).mono ?_
  rintro e w8 ⟨cnt, q8, bad8, rfl, hc8, hg8, ho8⟩
  have HRo0 : Hid (Ro s bad8 q8 tx root next cnt []) := hide (ro_step (rh_step HR6.out (by simp) ho8))
  have HM8 := hide (mgr_grown HM7.out hg8 HLt.out)
  have HC8 := hide hc8
  have HG8 : Hid (wb.grownBy w8 (some g)) := hide (grM_trans HG7.out hg8)
  have HNumg := hide (fun wx p bad h => HNum.out g wx p bad h)
  clear hc8 hg8 ho8 HM7 HC7 HG7 HR6 HNum
  have HNum := HNumg
  clear HNumg
  go_wp2_with fail
  go_loopg [9] 31 (fun q iv wr => ∃ (i p : Nat) (bad : Bool) (vf : Value) (l : List (Int × Value)) (fs : List (Int × List Int)), i ≤ 30 ∧ iv = .int .i64 (i : Int) ∧ q + i = 31 ∧ Hid (fs.length = i) ∧ Hid (∀ f ∈ fs, f.2.length ≤ 50) ∧ Hid (Ro s bad p tx root next cnt fs) ∧ Hid (CurT wr g s p bad) ∧ Hid (MGr wr gm tx root next vf l fs) ∧ Hid (wb.grownBy wr (some g)))
  case atStart => exact ⟨0, _, _, _, [], [], Nat.zero_le _, rfl, rfl, hide rfl, hide (fun f hf => by cases hf), HRo0, HC8, HM8, HG8⟩
  case round =>
    clear HRo0 HC8 HM8 HG8
    obtain ⟨i, p, bad, vf, l, fs, hil, rfl, hg, HFl, HPl, HRo, HCu, HMg, HGr⟩ := hrel
    have HG := hide hg
    clear hg
    obtain ⟨gq, hgq⟩ : ∃ gq, gq = gk := ⟨_, rfl⟩
    have HGQ := hide hgq
    clear hgq
    have cb : wr.cell? ⟨g, 2, none⟩ = some (.bool bad) := (cell_at HCu.out 2).1
    by_cases e1 : i < cnt
    · have d1 : decide ((i : Int) < (cnt : Int)) = true := decide_eq_true (by omega)
      by_cases e2 : i < 30
      · have d2 : decide ((i : Int) < 30) = true := decide_eq_true (by omega)
        cases bad with
        | true =>
          have HExit : Hid (cnt ≤ i ∨ 30 ≤ i ∨ true = true) := hide (Or.inr (Or.inr rfl))
          have HE : Hid (REnd s true p ⟨tx, root, next, fs⟩) := hide (ro_out HRo.out (by have h1 := HFl.out; have h2 := HExit.out; rw [h1]; exact h2))
          obtain ⟨aF, cF, hvf⟩ := own_slice HMg.out.2.1
          subst hvf
          have HTx := hide (fun wx h => specMetaText_any (.agg #[.int .i64 tx, .int .i64 root, .int .i64 next, .slice aF fs.length cF]) ⟨tx, root, next, fs⟩ (by have := HFl.out; show fs.length ≤ _; omega) (fun f hf => by have := HPl.out f hf; omega) wx h)
          have HMo := hide (mgr_own (m := ⟨tx, root, next, fs⟩) HMg.out)
          obtain ⟨FL, hFL⟩ : ∃ FL, FL = fs.length := ⟨_, rfl⟩
          obtain ⟨tt, htt⟩ : ∃ tt, tt = Mt.textO ⟨tx, root, next, fs⟩ := ⟨_, rfl⟩
          obtain ⟨gd, hgd⟩ : ∃ gd, gd = Mt.good ⟨tx, root, next, fs⟩ := ⟨_, rfl⟩
          rw [← hFL] at HMg HTx HMo
          rw [← htt, ← hgd] at HTx
          have HTt := hide (⟨htt, hgd⟩ : _ ∧ _)
          have m0 := (cell_at HMg.out.1 0).1
          have m1 := (cell_at HMg.out.1 1).1
          have m2 := (cell_at HMg.out.1 2).1
          have m3 := (cell_at HMg.out.1 3).1
          clear hFL htt hgd
          go_wp2_with fail
          refine (HTx.out _ (meta_of_own HMo.out)).mono ?_
          rintro e w9 ⟨rfl, hb9⟩
          have HM9 := hide (metaOwn_below HMo.out hb9)
          have HC9 : Hid (CurT w9 g s p true) := hide ((hb9.block g (curT_lt HCu.out)).trans HCu.out)
          have HG9 : Hid (wb.grownBy w9 (some g)) := hide (grM_trans HGr.out (grown_of_below hb9 _))
          have mq := (hb9.block gm (mgr_lt HMg.out)).trans HMg.out.1
          have m0 := (cell_at mq 0).1
          have m1 := (cell_at mq 1).1
          have m2 := (cell_at mq 2).1
          have m3 := (cell_at mq 3).1
          have cb : w9.cell? ⟨g, 2, none⟩ = some (.bool true) := (cell_at HC9.out 2).1
          have ra : w9.heap[w.heap.size]? = some (.cells #[.int .i64 0, .int .i64 0, .int .i64 0, .slice none 0 0] 32 (0, 0)) := (HG9.out.block _ (by have := HWb.out; omega) (fun e => by injection e with e; have := HWb.out; omega)).trans HRa.out
          have a0 := (cell_at ra 0).1
          have a1 := (cell_at ra 1).1
          have a2 := (cell_at ra 2).1
          have a3 := (cell_at ra 3).1
          have z0 := (cell_at ra 0).2
          have z1 := (cell_at ra 1).2
          have z2 := (cell_at ra 2).2
          have z3 := (cell_at ra 3).2
          have HRA := hide ra
          have HB9 : Hid (Below w.heap.size w w9) := hide (HBb.out.grown HG9.out (by have := HWb.out; omega) (fun k e => by injection e with e; have := HWb.out; omega))
          clear hb9 mq ra
          have HRd : Hid (ReadM t Mt.none false) := hide (rd_false HE.out HFn.out (Or.inl rfl))
          go_wp2_with fail
          try (go_region; go_wp2_with fail)
          have hrt := ret_meta (m := ⟨0, 0, 0, []⟩) (vf := .slice none 0 0) HRA.out (zero_own w9 (w.heap.size + 1)) (by omega)
          have t0 := (cell_at hrt.1 0).1
          have t1 := (cell_at hrt.1 1).1
          have t2 := (cell_at hrt.1 2).1
          have t3 := (cell_at hrt.1 3).1
          dsimp only at t0 t1 t2 t3
          refine bodyPost_ret (v := .tuple #[.agg #[.int .i64 0, .int .i64 0, .int .i64 0, .slice none 0 0], .bool false]) (by simp [results, Tryz.results38, go_sem, t0, t1, t2, t3]) rfl ⟨Mt.none, _, false, rfl, HRd.out, metaOwn_down hrt.2.1 (by omega), HB9.out.trans (hrt.2.2.mono (by have := HB9.out.size; omega))⟩
        | false =>
          go_wp2_with fail
          refine (HNum.out _ p false HCu.out).mono ?_
          rintro e w5 ⟨x5, q5, bad5, rfl, hc5, hg5, ho5⟩
          have HRf : Hid (Rf s bad5 q5 tx root next cnt fs (x5 : Int)) := hide (rf_step HRo.out (by have := HFl.out; omega) ho5)
          have HM5 := hide (mgr_grown HMg.out hg5 HLt.out)
          have HG5 : Hid (wb.grownBy w5 (some g)) := hide (grM_trans HGr.out hg5)
          obtain ⟨ftx, hftx⟩ : ∃ ftx : Int, ftx = (x5 : Int) := ⟨_, rfl⟩
          rw [← hftx] at HRf ⊢
          obtain ⟨w6, hw6⟩ : ∃ w6, w6 = w5.alloc (.cells #[.int .i64 ftx, .slice none 0 0] 92 (0, 0)) := ⟨_, rfl⟩
          have hb6 : Below w5.heap.size w5 w6 := by rw [hw6]; exact (Below.refl _ _).alloc (Nat.le_refl _) _
          have HF6 : Hid (FGr w6 gm w5.heap.size ftx (.slice none 0 0) [] vf l) := hide (by rw [hw6]; exact fgr_new HM5.out ftx)
          have HM6 := hide (mgr_below HM5.out hb6)
          have HC6 : Hid (CurT w6 g s q5 bad5) := hide ((hb6.block g (curT_lt hc5)).trans hc5)
          have HG6 : Hid (wb.grownBy w6 (some g)) := hide (grM_trans HG5.out (grown_of_below hb6 _))
          obtain ⟨gf, hgf⟩ : ∃ gf, gf = w5.heap.size := ⟨_, rfl⟩
          rw [← hgf] at HF6
          have HGf := hide hgf
          clear hc5 hg5 ho5 hb6 hftx cb d1 d2
          go_wp2_with fail
          rw [← HGf.out]
          try rw [← hw6]
          clear hw6 hgf
          refine (HNum.out _ q5 bad5 HC6.out).mono ?_
          rintro e w7 ⟨k, q7, bad7, rfl, hc7, hg7, ho7⟩
          have HRi0 : Hid (Ri s bad7 q7 tx root next cnt fs ftx k []) := hide (ri_step0 HRf.out ho7).1
          have HM7 := hide (mgr_grown HM6.out hg7 HLt.out)
          have HF7 := hide (fgr_grown HF6.out hg7 HLt.out)
          have HCu7 := hide hc7
          have HGr7 : Hid (wb.grownBy w7 (some g)) := hide (grM_trans HG6.out hg7)
          clear hc7 hg7 ho7 HM6 HF6 HC6 HG6 HM5 HG5 HRf HGf
          go_wp2_with fail
          clear HCu HMg HGr HRo
          go_loopg [12] 51 (fun q jv wi => ∃ (j p : Nat) (bad : Bool) (vp : Value) (ps : List Int), j ≤ 50 ∧ jv = .int .i64 (j : Int) ∧ q + j = 51 ∧ Hid (ps.length = j) ∧ Hid (Ri s bad p tx root next cnt fs ftx k ps) ∧ Hid (CurT wi g s p bad) ∧ Hid (MGr wi gm tx root next vf l fs) ∧ Hid (FGr wi gm gf ftx vp ps vf l) ∧ Hid (wb.grownBy wi (some g)))
          case atStart => exact ⟨0, _, _, _, [], Nat.zero_le _, rfl, rfl, hide rfl, HRi0, HCu7, HM7, HF7, HGr7⟩
          case round =>
            obtain ⟨j, p, bad, vp, ps, hj, rfl, hg3, HPs, HRi, HCu, HMg, HFg, HGr⟩ := hrel
            have HG3 := hide hg3
            clear hg3
            have cb : wr.cell? ⟨g, 2, none⟩ = some (.bool bad) := (cell_at HCu.out 2).1
            by_cases e1 : j < k
            · have d1 : decide ((j : Int) < (k : Int)) = true := decide_eq_true (by omega)
              by_cases e2 : j < 50
              · have d2 : decide ((j : Int) < 50) = true := decide_eq_true (by omega)
                cases bad with
                | true =>
                  have HExit : Hid (k ≤ j ∨ 50 ≤ j ∨ true = true) := hide (Or.inr (Or.inr rfl))
                  have HRo2 : Hid (Ro s true p tx root next cnt (fs ++ [(ftx, ps)])) := hide (ri_out HRi.out (by have h1 := HPs.out; have h2 := HExit.out; rw [h1]; exact h2))
                  have f0 := (cell_at HFg.out.1 0).1
                  have f1 := (cell_at HFg.out.1 1).1
                  have m3 := (cell_at HMg.out.1 3).1
                  have hsz := mgr_lt HMg.out
                  have hownF := HMg.out.2.1
                  have hfl : fs.length ≤ 30 := by have := HFl.out; omega
                  obtain ⟨aP, cP, hvp⟩ := own_slice HFg.out.2.1
                  subst hvp
                  obtain ⟨aF, cF, hvf⟩ := own_slice hownF
                  subst hvf
                  go_wp2_with (at_builtin; (refine wpList_append_own _ rfl _ _ 30 rfl (gm + 1) 92 i1 (.agg #[.int .i64 0, .slice none 0 0]) 2 32 Tryz.underlying30 hi1 hy0 hy1 hy2 rfl (by decide) _ _ _ rfl (hownF.alloc _) ⟨wr.heap.size, 0, none⟩ 1 1 [.int .i64 ftx, .slice aP ps.length cP] rfl rfl (free_cells _ _ rfl _ _) ?c2 ?c3 ?c4 ?c5 ?_))
                  case c2 => first | exact ⟨rfl, rfl⟩ | (intro u hu; simp at hu; rcases hu with rfl | rfl <;> rfl)
                  case c3 => unfold maxLen; omega
                  case c4 => omega
                  case c5 => first | omega | (simp; omega)
                  intro v6 w6 hown6 hgrow6 _
                  obtain ⟨a6, c6, hv6⟩ := own_slice hown6
                  subst hv6
                  have hst := free_step HMg.out HFg.out hown6 hgrow6
                  have cc := hst.2.2.1
                  have cf := hst.2.2.2
                  have HM6 := hide hst.1
                  have HG6 : Hid (wb.grownBy (w6.setCell ⟨gm, 3, none⟩ (.slice a6 (fs.length + 1) c6)) (some g)) := hide (grM_low HGr.out hst.2.1 (by have := HLg.out; omega))
                  have HC6 : Hid (CurT (w6.setCell ⟨gm, 3, none⟩ (.slice a6 (fs.length + 1) c6)) g s p true) := hide ((hst.2.1.block g (by have := HLt.out; omega)).trans HCu.out)
                  have HPl2 : Hid (∀ f ∈ fs ++ [(ftx, ps)], f.2.length ≤ 50) := hide (fun f hf => by
                    rcases List.mem_append.1 hf with hf | hf
                    · exact HPl.out f hf
                    · rw [List.mem_singleton] at hf
                      subst hf
                      have := HPs.out
                      show ps.length ≤ 50
                      omega)
                  clear hst hown6 hgrow6 hownF hsz f0 f1 m3
                  go_wp2_with fail
                  go_roundg (gq - 1)
                  case measure => have h1 := HGQ.out; have h2 := HG.out; omega
                  case rel => exact ⟨i + 1, p, true, _, _, fs ++ [(ftx, ps)], by omega, by go_num, by have h1 := HGQ.out; have h2 := HG.out; omega, hide (by rw [List.length_append, HFl.out]; rfl), HPl2, HRo2, HC6, HM6, HG6⟩
                | false =>
                  have f1 := (cell_at HFg.out.1 1).1
                  obtain ⟨aP, cP, hvp⟩ := own_slice HFg.out.2.1
                  subst hvp
                  have hjl : j ≤ 50 := by omega
                  go_wp2_with fail
                  go_region_law (first | (refine step_call1 _ ?_ 58 Tryz.f58 Tryz.func58 ?_ ?_ (.tmp 75) #[87] ?_ (.pointer (some ⟨g, 0, none⟩)) ?_ _ (HNum.out _ p false ?_) ?_; exact rfl; decide; exact Option.some_ne_none _; exact rfl; exact rfl; exact HCu.out; rintro e w2 ⟨x2, q2, bad2, rfl, hc2, hg2, ho2⟩; refine ⟨_, rfl, ?_⟩; have HM2 := hide (mgr_grown (show MGr wr.drew gm _ _ _ _ _ _ from HMg.out) hg2 HLt.out); have HF2 := hide (fgr_grown (show FGr wr.drew gm gf _ _ _ _ _ from HFg.out) hg2 HLt.out); have HC2 := hide hc2; have HG2 : Hid (wb.grownBy w2 (some g)) := hide (grM_trans (grM_dr HGr.out) hg2); have HO2 := hide ho2; have cl2 : w2.cell? ⟨gf, 1, none⟩ = some (.slice aP ps.length cP) := (cell_at HF2.out.1 1).1; have cm2 := fun o => (cell_at (fgr_below HF2.out ((Below.refl _ _).alloc (Nat.le_refl _) o)).1 1).1; clear hc2 hg2 ho2) | (refine step_append_lies _ ?_ (.tmp 74) (.tmp 77) 34 ?_ (gm + 1) 3 i0 (.int .i64 0) 1 8 Tryz.underlying34 hi hz0 hz1 hz2 ?_ ?_ (.slice aP ps.length cP) ps.length (ints ps) ?_ ((HF2.out.2.1).alloc _) ⟨w2.heap.size, 0, none⟩ 1 1 [.int .i64 (x2 : Int)] ?_ ?_ (one_newM w2 _ rfl _ _) ?_ ?_ ?_ ?_ ?_ _ rfl ?_; exact rfl; exact rfl; exact rfl; decide; exact rfl; exact rfl; exact rfl; (intro u hu; simp at hu; subst hu; rfl); decide; (have := HPs.out; unfold maxLen; omega); (have := HPs.out; omega); (have := mgr_lt HM2.out; simp; omega); intro b4 d4 w4 hown4 hg4 hb4 hl4; have HS4 := hide (page_step HM2.out HF2.out hown4 hg4 hb4); have cc4 := HS4.out.2.2.2.1; have cf4 := HS4.out.2.2.2.2; clear hown4 hg4 hb4 hl4))
                  all_goals
                    have HG4 : Hid (wb.grownBy (w4.setCell ⟨gf, 1, none⟩ (.slice (some ⟨b4, 0, none⟩) (ps.length + 1) d4)) (some g)) := hide (grM_low HG2.out HS4.out.2.2.1 (by have := HLg.out; omega))
                    have HC4 : Hid (CurT (w4.setCell ⟨gf, 1, none⟩ (.slice (some ⟨b4, 0, none⟩) (ps.length + 1) d4)) g s q2 bad2) := hide ((HS4.out.2.2.1.block g (by have := HLt.out; omega)).trans HC2.out)
                    have HR4 : Hid (Ri s bad2 q2 tx root next cnt fs ftx k (ps ++ [(x2 : Int)])) := hide (ri_step HRi.out (by have := HPs.out; omega) HO2.out)
                    have HM4 := hide HS4.out.1
                    have HF4 := hide HS4.out.2.1
                    clear cc4 cf4 cl2 cm2 f1
                    go_wp2_with fail
                    go_roundg (gk - 1)
                    case measure => have := HG3.out; omega
                    case rel => exact ⟨j + 1, q2, bad2, _, ps ++ [(x2 : Int)], by omega, by go_num, by have := HG3.out; omega, hide (by rw [List.length_append, HPs.out]; rfl), HR4, HC4, HM4, HF4, HG4⟩
              · have d2 : decide ((j : Int) < 50) = false := decide_eq_false (by omega)
                have HExit : Hid (k ≤ j ∨ 50 ≤ j ∨ bad = true) := hide (Or.inr (Or.inl (by omega)))
                have HRo2 : Hid (Ro s bad p tx root next cnt (fs ++ [(ftx, ps)])) := hide (ri_out HRi.out (by have h1 := HPs.out; have h2 := HExit.out; rw [h1]; exact h2))
                have f0 := (cell_at HFg.out.1 0).1
                have f1 := (cell_at HFg.out.1 1).1
                have m3 := (cell_at HMg.out.1 3).1
                have hsz := mgr_lt HMg.out
                have hownF := HMg.out.2.1
                have hfl : fs.length ≤ 30 := by have := HFl.out; omega
                obtain ⟨aP, cP, hvp⟩ := own_slice HFg.out.2.1
                subst hvp
                obtain ⟨aF, cF, hvf⟩ := own_slice hownF
                subst hvf
                go_wp2_with (at_builtin; (refine wpList_append_own _ rfl _ _ 30 rfl (gm + 1) 92 i1 (.agg #[.int .i64 0, .slice none 0 0]) 2 32 Tryz.underlying30 hi1 hy0 hy1 hy2 rfl (by decide) _ _ _ rfl (hownF.alloc _) ⟨wr.heap.size, 0, none⟩ 1 1 [.int .i64 ftx, .slice aP ps.length cP] rfl rfl (free_cells _ _ rfl _ _) ?c2 ?c3 ?c4 ?c5 ?_))
                case c2 => first | exact ⟨rfl, rfl⟩ | (intro u hu; simp at hu; rcases hu with rfl | rfl <;> rfl)
                case c3 => unfold maxLen; omega
                case c4 => omega
                case c5 => first | omega | (simp; omega)
                intro v6 w6 hown6 hgrow6 _
                obtain ⟨a6, c6, hv6⟩ := own_slice hown6
                subst hv6
                have hst := free_step HMg.out HFg.out hown6 hgrow6
                have cc := hst.2.2.1
                have cf := hst.2.2.2
                have HM6 := hide hst.1
                have HG6 : Hid (wb.grownBy (w6.setCell ⟨gm, 3, none⟩ (.slice a6 (fs.length + 1) c6)) (some g)) := hide (grM_low HGr.out hst.2.1 (by have := HLg.out; omega))
                have HC6 : Hid (CurT (w6.setCell ⟨gm, 3, none⟩ (.slice a6 (fs.length + 1) c6)) g s p bad) := hide ((hst.2.1.block g (by have := HLt.out; omega)).trans HCu.out)
                have HPl2 : Hid (∀ f ∈ fs ++ [(ftx, ps)], f.2.length ≤ 50) := hide (fun f hf => by
                  rcases List.mem_append.1 hf with hf | hf
                  · exact HPl.out f hf
                  · rw [List.mem_singleton] at hf
                    subst hf
                    have := HPs.out
                    show ps.length ≤ 50
                    omega)
                clear hst hown6 hgrow6 hownF hsz f0 f1 m3
                go_wp2_with fail
                go_roundg (gq - 1)
                case measure => have h1 := HGQ.out; have h2 := HG.out; omega
                case rel => exact ⟨i + 1, p, bad, _, _, fs ++ [(ftx, ps)], by omega, by go_num, by have h1 := HGQ.out; have h2 := HG.out; omega, hide (by rw [List.length_append, HFl.out]; rfl), HPl2, HRo2, HC6, HM6, HG6⟩
            · have d1 : decide ((j : Int) < (k : Int)) = false := decide_eq_false (by omega)
              have HExit : Hid (k ≤ j ∨ 50 ≤ j ∨ bad = true) := hide (Or.inl (by omega))
              have HRo2 : Hid (Ro s bad p tx root next cnt (fs ++ [(ftx, ps)])) := hide (ri_out HRi.out (by have h1 := HPs.out; have h2 := HExit.out; rw [h1]; exact h2))
              have f0 := (cell_at HFg.out.1 0).1
              have f1 := (cell_at HFg.out.1 1).1
              have m3 := (cell_at HMg.out.1 3).1
              have hsz := mgr_lt HMg.out
              have hownF := HMg.out.2.1
              have hfl : fs.length ≤ 30 := by have := HFl.out; omega
              obtain ⟨aP, cP, hvp⟩ := own_slice HFg.out.2.1
              subst hvp
              obtain ⟨aF, cF, hvf⟩ := own_slice hownF
              subst hvf
              go_wp2_with (at_builtin; (refine wpList_append_own _ rfl _ _ 30 rfl (gm + 1) 92 i1 (.agg #[.int .i64 0, .slice none 0 0]) 2 32 Tryz.underlying30 hi1 hy0 hy1 hy2 rfl (by decide) _ _ _ rfl (hownF.alloc _) ⟨wr.heap.size, 0, none⟩ 1 1 [.int .i64 ftx, .slice aP ps.length cP] rfl rfl (free_cells _ _ rfl _ _) ?c2 ?c3 ?c4 ?c5 ?_))
              case c2 => first | exact ⟨rfl, rfl⟩ | (intro u hu; simp at hu; rcases hu with rfl | rfl <;> rfl)
              case c3 => unfold maxLen; omega
              case c4 => omega
              case c5 => first | omega | (simp; omega)
              intro v6 w6 hown6 hgrow6 _
              obtain ⟨a6, c6, hv6⟩ := own_slice hown6
              subst hv6
              have hst := free_step HMg.out HFg.out hown6 hgrow6
              have cc := hst.2.2.1
              have cf := hst.2.2.2
              have HM6 := hide hst.1
              have HG6 : Hid (wb.grownBy (w6.setCell ⟨gm, 3, none⟩ (.slice a6 (fs.length + 1) c6)) (some g)) := hide (grM_low HGr.out hst.2.1 (by have := HLg.out; omega))
              have HC6 : Hid (CurT (w6.setCell ⟨gm, 3, none⟩ (.slice a6 (fs.length + 1) c6)) g s p bad) := hide ((hst.2.1.block g (by have := HLt.out; omega)).trans HCu.out)
              have HPl2 : Hid (∀ f ∈ fs ++ [(ftx, ps)], f.2.length ≤ 50) := hide (fun f hf => by
                rcases List.mem_append.1 hf with hf | hf
                · exact HPl.out f hf
                · rw [List.mem_singleton] at hf
                  subst hf
                  have := HPs.out
                  show ps.length ≤ 50
                  omega)
              clear hst hown6 hgrow6 hownF hsz f0 f1 m3
              go_wp2_with fail
              go_roundg (gq - 1)
              case measure => have h1 := HGQ.out; have h2 := HG.out; omega
              case rel => exact ⟨i + 1, p, bad, _, _, fs ++ [(ftx, ps)], by omega, by go_num, by have h1 := HGQ.out; have h2 := HG.out; omega, hide (by rw [List.length_append, HFl.out]; rfl), HPl2, HRo2, HC6, HM6, HG6⟩
      · have d2 : decide ((i : Int) < 30) = false := decide_eq_false (by omega)
        have HExit : Hid (cnt ≤ i ∨ 30 ≤ i ∨ bad = true) := hide (Or.inr (Or.inl (by omega)))
        have HE : Hid (REnd s bad p ⟨tx, root, next, fs⟩) := hide (ro_out HRo.out (by have h1 := HFl.out; have h2 := HExit.out; rw [h1]; exact h2))
        obtain ⟨aF, cF, hvf⟩ := own_slice HMg.out.2.1
        subst hvf
        have HTx := hide (fun wx h => specMetaText_any (.agg #[.int .i64 tx, .int .i64 root, .int .i64 next, .slice aF fs.length cF]) ⟨tx, root, next, fs⟩ (by have := HFl.out; show fs.length ≤ _; omega) (fun f hf => by have := HPl.out f hf; omega) wx h)
        have HMo := hide (mgr_own (m := ⟨tx, root, next, fs⟩) HMg.out)
        obtain ⟨FL, hFL⟩ : ∃ FL, FL = fs.length := ⟨_, rfl⟩
        obtain ⟨tt, htt⟩ : ∃ tt, tt = Mt.textO ⟨tx, root, next, fs⟩ := ⟨_, rfl⟩
        obtain ⟨gd, hgd⟩ : ∃ gd, gd = Mt.good ⟨tx, root, next, fs⟩ := ⟨_, rfl⟩
        rw [← hFL] at HMg HTx HMo
        rw [← htt, ← hgd] at HTx
        have HTt := hide (⟨htt, hgd⟩ : _ ∧ _)
        have m0 := (cell_at HMg.out.1 0).1
        have m1 := (cell_at HMg.out.1 1).1
        have m2 := (cell_at HMg.out.1 2).1
        have m3 := (cell_at HMg.out.1 3).1
        clear hFL htt hgd
        go_wp2_with fail
        refine (HTx.out _ (meta_of_own HMo.out)).mono ?_
        rintro e w9 ⟨rfl, hb9⟩
        have HM9 := hide (metaOwn_below HMo.out hb9)
        have HC9 : Hid (CurT w9 g s p bad) := hide ((hb9.block g (curT_lt HCu.out)).trans HCu.out)
        have HG9 : Hid (wb.grownBy w9 (some g)) := hide (grM_trans HGr.out (grown_of_below hb9 _))
        have mq := (hb9.block gm (mgr_lt HMg.out)).trans HMg.out.1
        have m0 := (cell_at mq 0).1
        have m1 := (cell_at mq 1).1
        have m2 := (cell_at mq 2).1
        have m3 := (cell_at mq 3).1
        have cb : w9.cell? ⟨g, 2, none⟩ = some (.bool bad) := (cell_at HC9.out 2).1
        have ra : w9.heap[w.heap.size]? = some (.cells #[.int .i64 0, .int .i64 0, .int .i64 0, .slice none 0 0] 32 (0, 0)) := (HG9.out.block _ (by have := HWb.out; omega) (fun e => by injection e with e; have := HWb.out; omega)).trans HRa.out
        have a0 := (cell_at ra 0).1
        have a1 := (cell_at ra 1).1
        have a2 := (cell_at ra 2).1
        have a3 := (cell_at ra 3).1
        have z0 := (cell_at ra 0).2
        have z1 := (cell_at ra 1).2
        have z2 := (cell_at ra 2).2
        have z3 := (cell_at ra 3).2
        have HRA := hide ra
        have HB9 : Hid (Below w.heap.size w w9) := hide (HBb.out.grown HG9.out (by have := HWb.out; omega) (fun k e => by injection e with e; have := HWb.out; omega))
        clear hb9 mq ra
        cases bad with
        | true =>
          have HRd : Hid (ReadM t Mt.none false) := hide (rd_false HE.out HFn.out (Or.inl rfl))
          go_wp2_with fail
          try (go_region; go_wp2_with fail)
          have hrt := ret_meta (m := ⟨0, 0, 0, []⟩) (vf := .slice none 0 0) HRA.out (zero_own w9 (w.heap.size + 1)) (by omega)
          have t0 := (cell_at hrt.1 0).1
          have t1 := (cell_at hrt.1 1).1
          have t2 := (cell_at hrt.1 2).1
          have t3 := (cell_at hrt.1 3).1
          dsimp only at t0 t1 t2 t3
          refine bodyPost_ret (v := .tuple #[.agg #[.int .i64 0, .int .i64 0, .int .i64 0, .slice none 0 0], .bool false]) (by simp [results, Tryz.results38, go_sem, t0, t1, t2, t3]) rfl ⟨Mt.none, _, false, rfl, HRd.out, metaOwn_down hrt.2.1 (by omega), HB9.out.trans (hrt.2.2.mono (by have := HB9.out.size; omega))⟩
        | false =>
          cases gd with
          | false =>
            have HRd : Hid (ReadM t Mt.none false) := hide (rd_false HE.out HFn.out (Or.inr (Or.inl HTt.out.2.symm)))
            go_wp2_with fail
            try (go_region; go_wp2_with fail)
            have hrt := ret_meta (m := ⟨0, 0, 0, []⟩) (vf := .slice none 0 0) HRA.out (zero_own w9 (w.heap.size + 1)) (by omega)
            have t0 := (cell_at hrt.1 0).1
            have t1 := (cell_at hrt.1 1).1
            have t2 := (cell_at hrt.1 2).1
            have t3 := (cell_at hrt.1 3).1
            dsimp only at t0 t1 t2 t3
            refine bodyPost_ret (v := .tuple #[.agg #[.int .i64 0, .int .i64 0, .int .i64 0, .slice none 0 0], .bool false]) (by simp [results, Tryz.results38, go_sem, t0, t1, t2, t3]) rfl ⟨Mt.none, _, false, rfl, HRd.out, metaOwn_down hrt.2.1 (by omega), HB9.out.trans (hrt.2.2.mono (by have := HB9.out.size; omega))⟩
          | true =>
            have hbq := ba_beq tt t
            by_cases hEq : tt = t
            · rw [decide_eq_true hEq] at hbq
              have HRd : Hid (ReadM t ⟨tx, root, next, fs⟩ true) := hide (rd_true HE.out HFn.out HTt.out.2.symm (HTt.out.1.symm.trans hEq))
              clear hEq
              go_wp2_with fail
              try (go_region; go_wp2_with fail)
              have hrt := ret_meta (m := ⟨tx, root, next, fs⟩) HRA.out (metaOwn_down HM9.out (show w.heap.size + 1 ≤ gm + 1 by have := HWb.out; have := HLg.out; omega)) (by omega)
              have t0 := (cell_at hrt.1 0).1
              have t1 := (cell_at hrt.1 1).1
              have t2 := (cell_at hrt.1 2).1
              have t3 := (cell_at hrt.1 3).1
              dsimp only at t0 t1 t2 t3
              refine bodyPost_ret (v := .tuple #[.agg #[.int .i64 tx, .int .i64 root, .int .i64 next, .slice aF FL cF], .bool true]) (by simp [results, Tryz.results38, go_sem, t0, t1, t2, t3]) rfl ⟨⟨tx, root, next, fs⟩, _, true, rfl, HRd.out, metaOwn_down hrt.2.1 (by omega), HB9.out.trans (hrt.2.2.mono (by have := HB9.out.size; omega))⟩
            · rw [decide_eq_false hEq] at hbq
              have HRd : Hid (ReadM t Mt.none false) := hide (rd_false HE.out HFn.out (Or.inr (Or.inr (fun e => hEq (HTt.out.1.trans e)))))
              clear hEq
              go_wp2_with fail
              try (go_region; go_wp2_with fail)
              have hrt := ret_meta (m := ⟨0, 0, 0, []⟩) (vf := .slice none 0 0) HRA.out (zero_own w9 (w.heap.size + 1)) (by omega)
              have t0 := (cell_at hrt.1 0).1
              have t1 := (cell_at hrt.1 1).1
              have t2 := (cell_at hrt.1 2).1
              have t3 := (cell_at hrt.1 3).1
              dsimp only at t0 t1 t2 t3
              refine bodyPost_ret (v := .tuple #[.agg #[.int .i64 0, .int .i64 0, .int .i64 0, .slice none 0 0], .bool false]) (by simp [results, Tryz.results38, go_sem, t0, t1, t2, t3]) rfl ⟨Mt.none, _, false, rfl, HRd.out, metaOwn_down hrt.2.1 (by omega), HB9.out.trans (hrt.2.2.mono (by have := HB9.out.size; omega))⟩
    · have d1 : decide ((i : Int) < (cnt : Int)) = false := decide_eq_false (by omega)
      have HExit : Hid (cnt ≤ i ∨ 30 ≤ i ∨ bad = true) := hide (Or.inl (by omega))
      have HE : Hid (REnd s bad p ⟨tx, root, next, fs⟩) := hide (ro_out HRo.out (by have h1 := HFl.out; have h2 := HExit.out; rw [h1]; exact h2))
      obtain ⟨aF, cF, hvf⟩ := own_slice HMg.out.2.1
      subst hvf
      have HTx := hide (fun wx h => specMetaText_any (.agg #[.int .i64 tx, .int .i64 root, .int .i64 next, .slice aF fs.length cF]) ⟨tx, root, next, fs⟩ (by have := HFl.out; show fs.length ≤ _; omega) (fun f hf => by have := HPl.out f hf; omega) wx h)
      have HMo := hide (mgr_own (m := ⟨tx, root, next, fs⟩) HMg.out)
      obtain ⟨FL, hFL⟩ : ∃ FL, FL = fs.length := ⟨_, rfl⟩
      obtain ⟨tt, htt⟩ : ∃ tt, tt = Mt.textO ⟨tx, root, next, fs⟩ := ⟨_, rfl⟩
      obtain ⟨gd, hgd⟩ : ∃ gd, gd = Mt.good ⟨tx, root, next, fs⟩ := ⟨_, rfl⟩
      rw [← hFL] at HMg HTx HMo
      rw [← htt, ← hgd] at HTx
      have HTt := hide (⟨htt, hgd⟩ : _ ∧ _)
      have m0 := (cell_at HMg.out.1 0).1
      have m1 := (cell_at HMg.out.1 1).1
      have m2 := (cell_at HMg.out.1 2).1
      have m3 := (cell_at HMg.out.1 3).1
      clear hFL htt hgd
      go_wp2_with fail
      refine (HTx.out _ (meta_of_own HMo.out)).mono ?_
      rintro e w9 ⟨rfl, hb9⟩
      have HM9 := hide (metaOwn_below HMo.out hb9)
      have HC9 : Hid (CurT w9 g s p bad) := hide ((hb9.block g (curT_lt HCu.out)).trans HCu.out)
      have HG9 : Hid (wb.grownBy w9 (some g)) := hide (grM_trans HGr.out (grown_of_below hb9 _))
      have mq := (hb9.block gm (mgr_lt HMg.out)).trans HMg.out.1
      have m0 := (cell_at mq 0).1
      have m1 := (cell_at mq 1).1
      have m2 := (cell_at mq 2).1
      have m3 := (cell_at mq 3).1
      have cb : w9.cell? ⟨g, 2, none⟩ = some (.bool bad) := (cell_at HC9.out 2).1
      have ra : w9.heap[w.heap.size]? = some (.cells #[.int .i64 0, .int .i64 0, .int .i64 0, .slice none 0 0] 32 (0, 0)) := (HG9.out.block _ (by have := HWb.out; omega) (fun e => by injection e with e; have := HWb.out; omega)).trans HRa.out
      have a0 := (cell_at ra 0).1
      have a1 := (cell_at ra 1).1
      have a2 := (cell_at ra 2).1
      have a3 := (cell_at ra 3).1
      have z0 := (cell_at ra 0).2
      have z1 := (cell_at ra 1).2
      have z2 := (cell_at ra 2).2
      have z3 := (cell_at ra 3).2
      have HRA := hide ra
      have HB9 : Hid (Below w.heap.size w w9) := hide (HBb.out.grown HG9.out (by have := HWb.out; omega) (fun k e => by injection e with e; have := HWb.out; omega))
      clear hb9 mq ra
      cases bad with
      | true =>
        have HRd : Hid (ReadM t Mt.none false) := hide (rd_false HE.out HFn.out (Or.inl rfl))
        go_wp2_with fail
        try (go_region; go_wp2_with fail)
        have hrt := ret_meta (m := ⟨0, 0, 0, []⟩) (vf := .slice none 0 0) HRA.out (zero_own w9 (w.heap.size + 1)) (by omega)
        have t0 := (cell_at hrt.1 0).1
        have t1 := (cell_at hrt.1 1).1
        have t2 := (cell_at hrt.1 2).1
        have t3 := (cell_at hrt.1 3).1
        dsimp only at t0 t1 t2 t3
        refine bodyPost_ret (v := .tuple #[.agg #[.int .i64 0, .int .i64 0, .int .i64 0, .slice none 0 0], .bool false]) (by simp [results, Tryz.results38, go_sem, t0, t1, t2, t3]) rfl ⟨Mt.none, _, false, rfl, HRd.out, metaOwn_down hrt.2.1 (by omega), HB9.out.trans (hrt.2.2.mono (by have := HB9.out.size; omega))⟩
      | false =>
        cases gd with
        | false =>
          have HRd : Hid (ReadM t Mt.none false) := hide (rd_false HE.out HFn.out (Or.inr (Or.inl HTt.out.2.symm)))
          go_wp2_with fail
          try (go_region; go_wp2_with fail)
          have hrt := ret_meta (m := ⟨0, 0, 0, []⟩) (vf := .slice none 0 0) HRA.out (zero_own w9 (w.heap.size + 1)) (by omega)
          have t0 := (cell_at hrt.1 0).1
          have t1 := (cell_at hrt.1 1).1
          have t2 := (cell_at hrt.1 2).1
          have t3 := (cell_at hrt.1 3).1
          dsimp only at t0 t1 t2 t3
          refine bodyPost_ret (v := .tuple #[.agg #[.int .i64 0, .int .i64 0, .int .i64 0, .slice none 0 0], .bool false]) (by simp [results, Tryz.results38, go_sem, t0, t1, t2, t3]) rfl ⟨Mt.none, _, false, rfl, HRd.out, metaOwn_down hrt.2.1 (by omega), HB9.out.trans (hrt.2.2.mono (by have := HB9.out.size; omega))⟩
        | true =>
          have hbq := ba_beq tt t
          by_cases hEq : tt = t
          · rw [decide_eq_true hEq] at hbq
            have HRd : Hid (ReadM t ⟨tx, root, next, fs⟩ true) := hide (rd_true HE.out HFn.out HTt.out.2.symm (HTt.out.1.symm.trans hEq))
            clear hEq
            go_wp2_with fail
            try (go_region; go_wp2_with fail)
            have hrt := ret_meta (m := ⟨tx, root, next, fs⟩) HRA.out (metaOwn_down HM9.out (show w.heap.size + 1 ≤ gm + 1 by have := HWb.out; have := HLg.out; omega)) (by omega)
            have t0 := (cell_at hrt.1 0).1
            have t1 := (cell_at hrt.1 1).1
            have t2 := (cell_at hrt.1 2).1
            have t3 := (cell_at hrt.1 3).1
            dsimp only at t0 t1 t2 t3
            refine bodyPost_ret (v := .tuple #[.agg #[.int .i64 tx, .int .i64 root, .int .i64 next, .slice aF FL cF], .bool true]) (by simp [results, Tryz.results38, go_sem, t0, t1, t2, t3]) rfl ⟨⟨tx, root, next, fs⟩, _, true, rfl, HRd.out, metaOwn_down hrt.2.1 (by omega), HB9.out.trans (hrt.2.2.mono (by have := HB9.out.size; omega))⟩
          · rw [decide_eq_false hEq] at hbq
            have HRd : Hid (ReadM t Mt.none false) := hide (rd_false HE.out HFn.out (Or.inr (Or.inr (fun e => hEq (HTt.out.1.trans e)))))
            clear hEq
            go_wp2_with fail
            try (go_region; go_wp2_with fail)
            have hrt := ret_meta (m := ⟨0, 0, 0, []⟩) (vf := .slice none 0 0) HRA.out (zero_own w9 (w.heap.size + 1)) (by omega)
            have t0 := (cell_at hrt.1 0).1
            have t1 := (cell_at hrt.1 1).1
            have t2 := (cell_at hrt.1 2).1
            have t3 := (cell_at hrt.1 3).1
            dsimp only at t0 t1 t2 t3
            refine bodyPost_ret (v := .tuple #[.agg #[.int .i64 0, .int .i64 0, .int .i64 0, .slice none 0 0], .bool false]) (by simp [results, Tryz.results38, go_sem, t0, t1, t2, t3]) rfl ⟨Mt.none, _, false, rfl, HRd.out, metaOwn_down hrt.2.1 (by omega), HB9.out.trans (hrt.2.2.mono (by have := HB9.out.size; omega))⟩
end Go.Proofs.YtplkioelbdemjaaGreatDoor
