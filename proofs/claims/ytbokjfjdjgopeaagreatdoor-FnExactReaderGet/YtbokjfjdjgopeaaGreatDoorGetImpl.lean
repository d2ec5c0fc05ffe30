/-
  impl.GetKey, at every disk whose lists and texts are of at most 1048576: it tells getK of what the pages read.
-/
import Derived.Test.YtbokjfjdjgopeaaGreatDoorRgI
import Derived.Test.YtbokjfjdjgopeaaGreatDoorImplNode
import Derived.Test.YtbokjfjdjgopeaaGreatDoorImplDiskN
namespace Go.Proofs.YtbokjfjdjgopeaaGreatDoor
open Go.RowKit

set_option maxHeartbeats 4000000 in
set_option maxRecDepth 100000 in
theorem implGetKey_any (v : Value) (ps : List ByteArray) (ls : List (Int × ByteArray)) (hp : ps.length ≤ 1048576) (hl : ls.length ≤ 1048576) (hps : ∀ s ∈ ps, s.size ≤ 1048576) (hls : ∀ p ∈ ls, p.2.size ≤ 1048576) (root : Int) (key : ByteArray) (w : World) (hT : SumTab w) (hd : DiskAt w v ps ls) :
    Calls Tryz.prog 21 #[v, .int .i64 root, .string key] w fun e w' => e = .returned (getO (getK (readD ps ls) root key)) ∧ Below w.heap.size w w' := by
  have HRP := hide (fun p wx h => implReadPage_any v ps ls hp hl hps hls p wx h)
  have HRN := hide (fun p wx h => implReadNode_any (readD ps ls p) (readD_smallG hps hls p) wx h)
  have HD := hide hd
  have HT := hide hT
  obtain ⟨D, hD⟩ : ∃ D, D = readD ps ls := ⟨_, rfl⟩
  rw [← hD] at HRP HRN ⊢
  obtain ⟨vp, vl, rfl, -, -⟩ := hd
  obtain ⟨w0, hw0⟩ : ∃ w0, w0 = w.alloc (.cells #[vp, vl] 42 (0, 0)) := ⟨_, rfl⟩
  have HB0 : Hid (Below w.heap.size w w0) := hide (by rw [hw0]; exact (Below.refl w.heap.size w).alloc (Nat.le_refl _) _)
  have HV0 : Hid (w0.heap[w.heap.size]? = some (.cells #[vp, vl] 42 (0, 0))) := hide (by rw [hw0]; exact heap_alloc_new w _)
  obtain ⟨r, hr⟩ : ∃ r, r = getK D root key := ⟨_, rfl⟩
  rw [← hr]
  have HR0 : Hid (r = getK D root key) := hide hr
  clear hr
  by_cases hz : root = 0
  · have HO : Hid (r = none) := hide (by rw [HR0.out, getK, if_pos hz])
    subst hz
    go_enter Tryz.func21, Tryz.ntmps21
    go_wp2_with fail
    rw [← hw0]
    go_ret2
    rw [HO.out]
    exact ⟨rfl, HB0.out⟩
  have HR : Hid (r = getL D key 8 root) := hide (by rw [HR0.out, getK, if_neg hz])
  have hz0 : (root == 0) = false := by simp [hz]
  clear hz
  clear hp hl hps hls hD hT
  go_enter Tryz.func21, Tryz.ntmps21
  go_wp2_with fail
  rw [← hw0]
  clear hw0
  go_loopg [15, 8] 8 (fun q dv rv wr => ∃ (k : Nat) (p : Int), q + k = 8 ∧ dv = .int .i64 (k : Int) ∧ rv = .int .i64 p ∧ Hid (r = getL D key q p) ∧ Hid (Below w.heap.size w wr) ∧ Hid (wr.heap[w.heap.size]? = some (.cells #[vp, vl] 42 (0, 0))))
  case atStart => exact ⟨0, root, rfl, rfl, rfl, HR, HB0, HV0⟩
  case round =>
    obtain ⟨k, p, hq, rfl, rfl, HG, HB, HV⟩ := hrel
    have p0 := (cell_at HV.out 0).1
    have p1 := (cell_at HV.out 1).1
    cases gk with
    | zero =>
      have hk : k = 8 := by omega
      subst hk
      have HO : Hid (r = none) := hide (by rw [HG.out, getL])
      go_wp2_with fail
      go_ret2
      rw [HO.out]
      exact ⟨rfl, HB.out⟩
    | succ q =>
      have hk : (k : Int) < 8 := by omega
      go_wp2_with fail
      refine (HRP.out p _ (disk_below HD.out HB.out)).mono ?_
      rintro e w1 ⟨rfl, hb1⟩
      have HB1 : Hid (Below w.heap.size w w1) := hide (HB.out.trans (hb1.mono HB.out.size))
      have HV1 := hide (stays HV.out hb1)
      clear hb1 p0 p1
      go_wp2_with fail
      refine (HRN.out p _ (sumTab_below HT.out HB1.out)).mono ?_
      rintro e w2 ⟨n, v2, ok, rfl, hrn, hno, hb2⟩
      have HB2 : Hid (Below w.heap.size w w2) := hide (HB1.out.trans (hb2.mono HB1.out.size))
      have HV2 := hide (stays HV1.out hb2)
      have HL := hide (lvl_of (key := key) hrn q)
      have HN := hide hno
      obtain ⟨a1, c1, a2, c2, a3, c3, rfl⟩ := nodeOwn_cells hno
      have HPl := hide (fun wx h => implPlaceOf_any (.agg #[.bool n.lf, .slice a1 n.ks.length c1, .slice a2 n.vs.length c2, .slice a3 n.cs.length c3]) n.lf n.ks n.vs n.cs (by have := (readN_len hrn).1; omega) key wx h)
      obtain ⟨at_, hat⟩ : ∃ at_, at_ = placeK n.ks key n.ks.length := ⟨_, rfl⟩
      rw [← hat] at HL HPl
      obtain ⟨lf, hlf⟩ : ∃ lf, lf = n.lf := ⟨_, rfl⟩
      have HLf := hide hlf
      rw [← hlf] at HPl HN ⊢
      obtain ⟨lk, hlk⟩ : ∃ lk, lk = n.ks.length := ⟨_, rfl⟩
      obtain ⟨lv, hlv⟩ : ∃ lv, lv = n.vs.length := ⟨_, rfl⟩
      obtain ⟨lc, hlc⟩ : ∃ lc, lc = n.cs.length := ⟨_, rfl⟩
      rw [← hlk, ← hlv, ← hlc] at HPl HN ⊢
      have HLn := hide (⟨hlk, hlv, hlc⟩ : _ ∧ _ ∧ _)
      obtain ⟨wa, hwa⟩ : ∃ wa, wa = w2.alloc (.cells #[.bool lf, .slice a1 lk c1, .slice a2 lv c2, .slice a3 lc c3] 94 (0, 0)) := ⟨_, rfl⟩
      have hba : Below w2.heap.size w2 wa := by rw [hwa]; exact (Below.refl _ _).alloc (Nat.le_refl _) _
      obtain ⟨g, hg⟩ : ∃ g, g = w2.heap.size := ⟨_, rfl⟩
      have HNa : Hid (wa.heap[g]? = some (.cells #[.bool lf, .slice a1 lk c1, .slice a2 lv c2, .slice a3 lc c3] 94 (0, 0))) := hide (by rw [hwa, hg]; exact heap_alloc_new w2 _)
      have HBa : Hid (Below w.heap.size w wa) := hide (HB2.out.trans (hba.mono HB2.out.size))
      have HVa := hide (stays HV2.out hba)
      have HOa := hide (nodeOwn_below HN.out hba)
      clear hrn hb2 hat hlf hba hlk hlv hlc hno
      go_wp2_with fail
      rw [← hwa, ← hg]
      clear hwa hg
      refine (HPl.out _ (node_of_own HOa.out)).mono ?_
      rintro e w3 ⟨rfl, hb3⟩
      have HB3 : Hid (Below w.heap.size w w3) := hide (HBa.out.trans (hb3.mono HBa.out.size))
      have HV3 := hide (stays HVa.out hb3)
      have HN3 := stays HNa.out hb3
      have n0 := (cell_at HN3 0).1
      have n1 := (cell_at HN3 1).1
      have n2 := (cell_at HN3 2).1
      have n3 := (cell_at HN3 3).1
      have HO3 := hide (nodeOwn_below HOa.out hb3)
      clear hb3 HN3
      rcases HL.out with ⟨h, e⟩ | ⟨i, h1, h2, h3, h4, h5, e⟩ | ⟨i, h1, h2, h3, h4, h5, e⟩
      · have HO : Hid (r = none) := hide (by rw [HG.out, e])
        clear e
        cases ok with
        | false =>
          go_wp2_with fail
          go_ret2
          rw [HO.out]
          exact ⟨rfl, HB3.out⟩
        | true =>
          have hneg : at_ < 0 := by simpa using h
          go_wp2_with fail
          go_ret2
          rw [HO.out]
          exact ⟨rfl, HB3.out⟩
      · have hl : lf = true := HLf.out.trans h2
        subst hl
        subst h1
        subst h3
        obtain ⟨vk', vv', vc', eq, o1, o2, -, -⟩ := HO3.out
        obtain ⟨-, rfl, rfl, rfl⟩ := agg4 eq
        obtain ⟨hlk, hlv, hlc⟩ := HLn.out
        rw [← hlk] at o1 h4
        rw [← hlv] at o2 h5
        obtain ⟨gk', rfl, hck⟩ := row_getS (i := i) o1 (by omega) hlk
        obtain ⟨gv, rfl, hcv⟩ := row_getS (i := i) o2 (by omega) hlv
        obtain ⟨x, hx⟩ : ∃ x, x = n.ks.getD i ⟨#[]⟩ := ⟨_, rfl⟩
        obtain ⟨y, hy⟩ : ∃ y, y = n.vs.getD i ⟨#[]⟩ := ⟨_, rfl⟩
        rw [← hx] at hck
        rw [← hy] at hcv
        have HG2 : Hid (r = if x = key then some y else none) := hide (by rw [HG.out, e, hx, hy])
        have hbq := ba_beq x key
        have hi0 : (0 : Int) ≤ (i : Int) := by omega
        have hi1 : (i : Int) < (lk : Int) := by omega
        have hi2 : (i : Int) < (lv : Int) := by omega
        have hi3 : ¬ ((i : Int) < 0) := by omega
        clear e hx hy o1 o2 eq h2 h4 h5 hlk hlv hlc
        by_cases hxk : x = key
        · rw [if_pos hxk] at HG2
          rw [decide_eq_true hxk] at hbq
          go_wp2_with fail
          go_ret2
          rw [HG2.out]
          exact ⟨rfl, HB3.out⟩
        · rw [if_neg hxk] at HG2
          rw [decide_eq_false hxk] at hbq
          go_wp2_with fail
          go_ret2
          rw [HG2.out]
          exact ⟨rfl, HB3.out⟩
      · have hl : lf = false := HLf.out.trans h2
        subst hl
        subst h1
        subst h3
        obtain ⟨vk', vv', vc', eq, -, -, o3, -⟩ := HO3.out
        obtain ⟨-, rfl, rfl, rfl⟩ := agg4 eq
        obtain ⟨hlk, hlv, hlc⟩ := HLn.out
        rw [← hlc] at o3 h4
        obtain ⟨gc, rfl, hcc⟩ := row_getI (i := i) o3 (by omega) hlc
        obtain ⟨c, hc⟩ : ∃ c, c = n.cs.getD i 0 := ⟨_, rfl⟩
        rw [← hc] at hcc e h5
        have HG2 : Hid (r = getL D key q c) := hide (by rw [HG.out, e])
        have hi0 : (0 : Int) ≤ (i : Int) := by omega
        have hi1 : (i : Int) < (lc : Int) := by omega
        have hi3 : ¬ ((i : Int) < 0) := by omega
        clear e hc o3 eq h2 h4 h5 hlk hlv hlc
        go_wp2_with fail
        go_roundg q
        case measure => omega
        case rel => exact ⟨k + 1, c, by omega, by go_num, rfl, HG2, HB3, HV3⟩
end Go.Proofs.YtbokjfjdjgopeaaGreatDoor
