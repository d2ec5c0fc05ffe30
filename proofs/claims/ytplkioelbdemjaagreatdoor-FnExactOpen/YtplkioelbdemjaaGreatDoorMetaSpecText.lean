/-
  The specification's MetaText by a contract.
-/
import Derived.Test.YtplkioelbdemjaaGreatDoorMetaSpec
import Derived.Test.YtplkioelbdemjaaGreatDoorOpG
import Derived.Test.YtplkioelbdemjaaGreatDoorSumS
namespace Go.Proofs.YtplkioelbdemjaaGreatDoor
open Go.RowKit

/-- a number in bytes -/
def vtI (n : Int) : ByteArray := ⟨(vtext n.toNat).toArray⟩

theorem vtI_size (n : Int) : (vtI n).size ≤ 5 := by rw [vtI, vtB_size]; exact (vtext_length _).2

theorem var_any (n : Int) (h0 : 0 ≤ n) (h1 : n ≤ 100000) (w : World) : Calls Tryz.prog 71 #[.int .i64 n] w fun e w' => e = .returned (.string (vtI n)) ∧ Below w.heap.size w w' := l01Var_any n h0 (by omega) w

theorem numsB_four (a b c d : Int) : numsB [a, b, c, d] = vtI a ++ vtI b ++ vtI c ++ vtI d := by
  apply ByteArray.ext
  simp [numsB, numsL, vtI, ByteArray.data_append]

theorem numsB_two (l : List Int) (a b : Int) : numsB (l ++ [a, b]) = numsB l ++ vtI a ++ vtI b := by
  apply ByteArray.ext
  simp [numsB, numsL, vtI, ByteArray.data_append]

theorem numsB_one (l : List Int) (a : Int) : numsB (l ++ [a]) = numsB l ++ vtI a := numsB_snoc l a

set_option maxHeartbeats 16000000 in
set_option maxRecDepth 100000 in
theorem specMetaText_any (v : Value) (m : Mt) (hl : m.fs.length ≤ 1048576) (hs : ∀ f ∈ m.fs, f.2.length ≤ 1048576) (w : World) (hd : MetaAt w v m) :
    Calls Tryz.prog 59 #[v] w fun e w' => e = .returned (.tuple #[.string m.textO, .bool m.good]) ∧ Below w.heap.size w w' := by
  have HS := hide (fun wx h => specMetaOk_any v m hl hs wx h)
  have HD := hide hd
  obtain ⟨vf, rfl, hr⟩ := hd
  obtain ⟨pa, pc, rfl⟩ := frees_slice hr
  obtain ⟨L, hL⟩ : ∃ L, L = m.fs.length := ⟨_, rfl⟩
  rw [← hL] at hr HS HD ⊢
  obtain ⟨tx, htx⟩ : ∃ tx, tx = m.tx := ⟨_, rfl⟩
  obtain ⟨root, hro⟩ : ∃ tx, tx = m.root := ⟨_, rfl⟩
  obtain ⟨next, hne⟩ : ∃ tx, tx = m.next := ⟨_, rfl⟩
  rw [← htx, ← hro, ← hne] at HS HD ⊢
  have HVar := hide (meta_var w tx root next (.slice pa L pc) 32)
  obtain ⟨w0, hw0⟩ : ∃ w0, w0 = w.alloc (Obj.cells #[.int .i64 tx, .int .i64 root, .int .i64 next, .slice pa L pc] 32) := ⟨_, rfl⟩
  rw [← hw0] at HVar
  have hb0 : Below w.heap.size w w0 := by rw [hw0]; exact (Below.refl w.heap.size w).alloc (Nat.le_refl _) _
  have HF := hide (frees_below hr hb0)
  have HB0 := hide hb0
  clear hr hb0 hl hs
  cases hok : m.ok with
  | false =>
    rw [hok] at HS
    have HO := hide (good_no (Or.inl hok))
    clear hok htx hro hne hL
    go_enter Tryz.func59, Tryz.ntmps59
    go_wp2_with fail
    rw [← hw0]
    clear hw0
    refine (HS.out _ (meta_below HD.out HB0.out)).mono ?_
    rintro e w1 ⟨rfl, hb⟩
    go_wp2_with fail
    go_ret2
    rw [HO.out.1, HO.out.2]
    exact ⟨rfl, HB0.out.trans (hb.mono HB0.out.size)⟩
  | true =>
    rw [hok] at HS
    obtain ⟨⟨k1, k2, k3, k4, k5, k6⟩, -⟩ := ok_parts hok
    rw [← htx] at k1 k2
    rw [← hne] at k3 k4 k5
    rw [← hro] at k5
    rw [← hL] at k6
    have HV0 := hide (fun wx => var_any tx k1 k2 wx)
    have HV1 := hide (fun wx => var_any root (by omega) (by omega) wx)
    have HV2 := hide (fun wx => var_any next (by omega) (by omega) wx)
    have HV3 := hide (fun wx => var_any (L : Int) (by omega) (by omega) wx)
    have HP0 : Hid (numsB (m.pre 0) = vtI tx ++ vtI root ++ vtI next ++ vtI (L : Int)) := hide (by rw [pre_zero, numsB_four, htx, hro, hne, hL])
    have HOk := hide hok
    have HL := hide hL
    have z0 := vtI_size tx
    have z1 := vtI_size root
    have z2 := vtI_size next
    have z3 := vtI_size (L : Int)
    obtain ⟨t0, ht0⟩ : ∃ t, t = vtI tx := ⟨_, rfl⟩
    obtain ⟨t1, ht1⟩ : ∃ t, t = vtI root := ⟨_, rfl⟩
    obtain ⟨t2, ht2⟩ : ∃ t, t = vtI next := ⟨_, rfl⟩
    obtain ⟨t3, ht3⟩ : ∃ t, t = vtI (L : Int) := ⟨_, rfl⟩
    rw [← ht0] at HV0 z0
    rw [← ht1] at HV1 z1
    rw [← ht2] at HV2 z2
    rw [← ht3] at HV3 z3
    rw [← ht0, ← ht1, ← ht2, ← ht3] at HP0
    clear hok htx hro hne hL ht0 ht1 ht2 ht3 k5
    go_enter Tryz.func59, Tryz.ntmps59
    go_wp2_with fail
    rw [← hw0]
    clear hw0
    refine (HS.out _ (meta_below HD.out HB0.out)).mono ?_
    rintro e w1 ⟨rfl, hb⟩
    have HB1 := hide hb
    have HSB : Hid (∀ wx, Below w1.heap.size w1 wx → wx.cell? ⟨w.heap.size, 0, none⟩ = some (.int .i64 tx) ∧ wx.cell? ⟨w.heap.size, 1, none⟩ = some (.int .i64 root) ∧ wx.cell? ⟨w.heap.size, 2, none⟩ = some (.int .i64 next) ∧ wx.cell? ⟨w.heap.size, 3, none⟩ = some (.slice pa L pc)) := hide (fun wx h => HVar.out wx (HB1.out.trans (h.mono HB1.out.size)))
    have hS0 := HSB.out w1 (Below.refl _ _)
    clear hb
    go_wp2_with fail
    go_region_held3 (fun wx => wx.cell? ⟨w.heap.size, 0, none⟩ = some (.int .i64 tx) ∧ wx.cell? ⟨w.heap.size, 1, none⟩ = some (.int .i64 root) ∧ wx.cell? ⟨w.heap.size, 2, none⟩ = some (.int .i64 next) ∧ wx.cell? ⟨w.heap.size, 3, none⟩ = some (.slice pa L pc)) (first | exact hS0 | exact hSa | exact hSb | exact hSc | exact hSd)
      (first
        | (go_at_call 71; (with_reducible refine (HV0.out _).mono ?_); rintro e wa ⟨rfl, hba⟩; have hAa : Below w1.heap.size w1 wa := (Below.refl _ _).drew.trans hba; have hSa := HSB.out _ hAa)
        | (go_at_call 71; (with_reducible refine (HV1.out _).mono ?_); rintro e wb ⟨rfl, hbb⟩; have hAb : Below w1.heap.size w1 wb := hAa.trans (hbb.mono hAa.size); have hSb := HSB.out _ hAb; have ha1 : ∀ wx : World, (Op.stringOp .add t0 t1).run Tryz.prog wx = .ok (.string (t0 ++ t1)) wx := fun wx => run_string_add_sum wx _ _ (by omega))
        | (go_at_call 71; (with_reducible refine (HV2.out _).mono ?_); rintro e wc ⟨rfl, hbc⟩; have hAc : Below w1.heap.size w1 wc := hAb.trans (hbc.mono hAb.size); have hSc := HSB.out _ hAc; have ha2 : ∀ wx : World, (Op.stringOp .add (t0 ++ t1) t2).run Tryz.prog wx = .ok (.string (t0 ++ t1 ++ t2)) wx := fun wx => run_string_add_sum wx _ _ (by rw [ByteArray.size_append]; omega))
        | (go_at_call 71; (with_reducible refine (HV3.out _).mono ?_); rintro e wd ⟨rfl, hbd⟩; have hAd : Below w1.heap.size w1 wd := hAc.trans (hbd.mono hAc.size); have hSd := HSB.out _ hAd; have ha3 : ∀ wx : World, (Op.stringOp .add (t0 ++ t1 ++ t2) t3).run Tryz.prog wx = .ok (.string (t0 ++ t1 ++ t2 ++ t3)) wx := fun wx => run_string_add_sum wx _ _ (by rw [ByteArray.size_append, ByteArray.size_append]; omega)))
    have HBd : Hid (Below w0.heap.size w0 wd) := hide (HB1.out.trans (hAd.mono HB1.out.size))
    clear hba hAa hSa hbb hAb hSb hbc hAc hSc hbd hAd hSd hS0 ha1 ha2 ha3
    go_wp2_with fail
    go_loopg [4, 5] L (fun q sv iv wr => ∃ k : Nat, k ≤ L ∧ sv = .string (numsB (m.pre k)) ∧ iv = .int .i64 (k : Int) ∧ q + k = L ∧ Hid (Below w0.heap.size w0 wr))
    case atStart => exact ⟨0, Nat.zero_le _, by rw [HP0.out], rfl, by omega, HBd⟩
    case round =>
      clear HBd HP0 HV0 HV1 HV2 HV3 z0 z1 z2 z3 HSB HB1
      obtain ⟨k, hk, rfl, rfl, hg, HB⟩ := hrel
      have HG := hide hg
      clear hg
      obtain ⟨gq, hgq⟩ : ∃ gq, gq = gk := ⟨_, rfl⟩
      have HGQ := hide hgq
      clear hgq
      by_cases hlt : k < L
      · obtain ⟨ftx, ps, hf⟩ : ∃ ftx ps, m.fs[k]? = some (ftx, ps) := ⟨_, _, List.getElem?_eq_getElem (by rw [← HL.out]; exact hlt)⟩
        obtain ⟨b, off, x, c, rfl, hbl0, hc00, hc10, hrow⟩ := frees_at HF.out hf
        obtain ⟨n, hn⟩ : ∃ n, n = ps.length := ⟨_, rfl⟩
        rw [← hn] at hc10 hrow
        obtain ⟨q1, q2, q3, q4⟩ := nums_of HOk.out hf
        rw [← hn] at q3
        have HCl : Hid (∀ wx, Below w0.heap.size w0 wx → wx.cell? ⟨w.heap.size, 3, none⟩ = some (.slice (some ⟨b, off, none⟩) L pc) ∧ wx.cell? ⟨b, off + k * 2, none⟩ = some (.int .i64 ftx) ∧ wx.cell? ⟨b, off + k * 2 + 1, none⟩ = some (.slice x n c)) := hide (fun wx h => ⟨(HVar.out wx h).2.2.2, (h.cell (by exact hbl0)).trans hc00, (h.cell (by exact hbl0)).trans hc10⟩)
        have HRow := hide hrow
        have HPn := hide (pre_next hf)
        rw [← hn] at HPn
        have HN := hide hn
        have HQ4 := hide q4
        have hsz : (numsB (m.pre k)).size ≤ 4220 := numsB_small (n := 844) (pre_len HOk.out k)
        have HPl := hide (pre_len HOk.out (k + 1))
        have HVa := hide (fun wx => var_any ftx q1 q2 wx)
        have HVb := hide (fun wx => var_any (n : Int) (by omega) (by omega) wx)
        have z0 := vtI_size ftx
        have z1 := vtI_size (n : Int)
        have HK := hide (numsB_two (m.pre k) ftx (n : Int))
        obtain ⟨s, hs⟩ : ∃ s, s = numsB (m.pre k) := ⟨_, rfl⟩
        obtain ⟨t0, ht0⟩ : ∃ t, t = vtI ftx := ⟨_, rfl⟩
        obtain ⟨t1, ht1⟩ : ∃ t, t = vtI (n : Int) := ⟨_, rfl⟩
        rw [← hs] at hsz HK ⊢
        rw [← ht0] at HVa z0 HK
        rw [← ht1] at HVb z1 HK
        have hS0 := HCl.out wr HB.out
        have hk0 : (0 : Int) ≤ (k : Int) := by omega
        have hk1 : (k : Int) < (L : Int) := by omega
        obtain ⟨pq, hpq⟩ : ∃ pq, pq = m.pre k ++ [ftx, (n : Int)] := ⟨_, rfl⟩
        rw [← hpq] at HK HPn
        clear hf hc00 hc10 hrow hn q4 hs ht0 ht1 hpq
        go_wp2_with fail
        go_region_held3 (fun wx => wx.cell? ⟨w.heap.size, 3, none⟩ = some (.slice (some ⟨b, off, none⟩) L pc) ∧ wx.cell? ⟨b, off + k * 2, none⟩ = some (.int .i64 ftx) ∧ wx.cell? ⟨b, off + k * 2 + 1, none⟩ = some (.slice x n c)) (first | exact hS0 | exact hSa | exact hSb)
          (first
            | (go_at_call 71; (with_reducible refine (HVa.out _).mono ?_); rintro e wa ⟨rfl, hba⟩; have hAa : Below wr.heap.size wr wa := (Below.refl _ _).drew.trans hba; have hSa := HCl.out _ (HB.out.trans (hAa.mono HB.out.size)); have ha1 : ∀ wx : World, (Op.stringOp .add s t0).run Tryz.prog wx = .ok (.string (s ++ t0)) wx := fun wx => run_string_add_sum wx _ _ (by omega))
            | (go_at_call 71; (with_reducible refine (HVb.out _).mono ?_); rintro e wb ⟨rfl, hbb⟩; have hAb : Below wr.heap.size wr wb := hAa.trans (hbb.mono hAa.size); have hSb := HCl.out _ (HB.out.trans (hAb.mono HB.out.size)); have ha2 : ∀ wx : World, (Op.stringOp .add (s ++ t0) t1).run Tryz.prog wx = .ok (.string (s ++ t0 ++ t1)) wx := fun wx => run_string_add_sum wx _ _ (by rw [ByteArray.size_append]; omega)))
        have HBb : Hid (Below w0.heap.size w0 wb) := hide (HB.out.trans (hAb.mono HB.out.size))
        clear hba hAa hSa hbb hAb hSb hS0 ha1 ha2
        go_wp2_with fail
        go_loopg [4, 6] n (fun q sv jv wi => ∃ j : Nat, j ≤ n ∧ sv = .string (numsB (pq ++ ps.take j)) ∧ jv = .int .i64 (j : Int) ∧ q + j = n ∧ Hid (Below w0.heap.size w0 wi))
        case atStart => exact ⟨0, Nat.zero_le _, by rw [List.take_zero, List.append_nil, HK.out], rfl, by omega, HBb⟩
        case round =>
          clear HBb HB
          obtain ⟨j, hj, rfl, rfl, hg2, HB2⟩ := hrel
          have HG2 := hide hg2
          clear hg2
          obtain ⟨p3, hc0, hc1⟩ := HCl.out wr HB2.out
          by_cases hjn : j < n
          · obtain ⟨p, hp⟩ : ∃ p, ps[j]? = some p := ⟨_, List.getElem?_eq_getElem (by have := HN.out; omega)⟩
            obtain ⟨-, a1, cp1, e1, h0 | ⟨bp, op, e0, hbp, hcp⟩⟩ := HRow.out
            · omega
            injection e1 with e11 _ e12
            subst e11 e12
            subst e0
            have hpc : wr.cell? ⟨bp, op + j, none⟩ = some (.int .i64 p) := by
              obtain ⟨ht, e⟩ := List.getElem?_eq_some_iff.1 hp
              rw [HB2.out.cell (by exact hbp), hcp j (by omega), ints_at ps j ht, e]
            have hpr := HQ4.out p (List.mem_of_getElem? hp)
            have HV := hide (fun wx => var_any p hpr.1 hpr.2 wx)
            have HK2 : Hid (numsB (pq ++ ps.take (j + 1)) = numsB (pq ++ ps.take j) ++ vtI p) := hide (by
              obtain ⟨ht, e⟩ := List.getElem?_eq_some_iff.1 hp
              rw [List.take_succ_eq_append_getElem ht, e, ← List.append_assoc, numsB_one])
            have hsz2 : (numsB (pq ++ ps.take j)).size ≤ 4220 := numsB_small (n := 844) (by
              have h1 := HPl.out
              rw [HPn.out, List.length_append] at h1
              rw [List.length_append, List.length_take]
              omega)
            have z2 := vtI_size p
            obtain ⟨s2, hs2⟩ : ∃ s, s = numsB (pq ++ ps.take j) := ⟨_, rfl⟩
            obtain ⟨t2, ht2⟩ : ∃ t, t = vtI p := ⟨_, rfl⟩
            rw [← hs2] at hsz2 HK2 ⊢
            rw [← ht2] at HV z2 HK2
            have ha : ∀ wx : World, (Op.stringOp .add s2 t2).run Tryz.prog wx = .ok (.string (s2 ++ t2)) wx := fun wx => run_string_add_sum wx _ _ (by omega)
            have hss : ¬ 9223372036854775807 < s2.size + t2.size := by omega
            have hj0 : (0 : Int) ≤ (j : Int) := by omega
            have hj1 : (j : Int) < (n : Int) := by omega
            clear hp hcp hpr hs2 ht2
            go_wp2_with fail
            refine (HV.out _).mono ?_
            rintro e wa ⟨rfl, hba⟩
            have HB3 := hide (HB2.out.trans (hba.mono HB2.out.size))
            clear hba hpc p3 hc0 hc1
            go_wp2_with fail
            go_roundg (gk - 1)
            case measure => have := HG2.out; omega
            case rel => exact ⟨j + 1, by omega, by rw [HK2.out], by go_num, by have := HG2.out; omega, HB3⟩
          · have HE : Hid (numsB (pq ++ ps.take j) = numsB (m.pre (k + 1))) := hide (by rw [HPn.out, List.take_of_length_le (by have := HN.out; omega)])
            rw [HE.out]
            go_wp2_with fail
            go_roundg (gq - 1)
            case measure => have h1 := HGQ.out; have h2 := HG.out; omega
            case rel => exact ⟨k + 1, by omega, rfl, by go_num, by have h1 := HGQ.out; have h2 := HG.out; omega, HB2⟩
      · have HE : Hid (numsB (m.pre k) = numsB m.nums) := hide (by rw [← pre_end, ← HL.out, show k = L from by omega])
        rw [HE.out]
        obtain ⟨p0, p1, p2, p3⟩ := HVar.out wr HB.out
        have HSe := hide (fun wx => specSealed_yes (numsB m.nums) (by have := (nums_size HOk.out).1; omega) wx)
        rw [text_seal] at HSe
        have HGy := hide (fun h => good_yes (m := m) HOk.out h)
        have HGn := hide (fun h => good_no (m := m) (Or.inr h))
        obtain ⟨tt, htt⟩ : ∃ tt, tt = m.text := ⟨_, rfl⟩
        rw [← htt] at HSe HGy HGn
        have htl : tt.size ≤ 5000 := by rw [htt, text_size]; have h1 := (nums_size HOk.out).1; rw [numsB_size] at h1; omega
        clear htt
        go_wp2_with fail
        refine (HSe.out _).mono ?_
        rintro e wa ⟨rfl, hba⟩
        have HB3 := hide (HB.out.trans (hba.mono HB.out.size))
        clear hba p0 p1 p2 p3
        by_cases hbig : 240 < tt.size
        · have HO := hide (HGn.out hbig)
          have d1 : decide ((240 : Int) < (tt.size : Int)) = true := decide_eq_true (by omega)
          go_wp2_with fail
          go_ret2
          rw [HO.out.1, HO.out.2]
          exact ⟨rfl, HB0.out.trans (HB3.out.mono HB0.out.size)⟩
        · have HO := hide (HGy.out (by omega))
          have d1 : decide ((240 : Int) < (tt.size : Int)) = false := decide_eq_false (by omega)
          go_wp2_with fail
          go_ret2
          rw [HO.out.1, HO.out.2]
          exact ⟨rfl, HB0.out.trans (HB3.out.mono HB0.out.size)⟩
end Go.Proofs.YtplkioelbdemjaaGreatDoor
