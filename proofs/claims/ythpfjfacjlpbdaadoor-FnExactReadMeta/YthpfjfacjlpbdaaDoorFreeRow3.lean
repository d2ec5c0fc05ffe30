/-
  Rows of frees marked and held by contracts: markFreeS, heldFreeS, markMeta, heldMeta.
-/
import Derived.Test.YthpfjfacjlpbdaaDoorMetaGrow
namespace Go.Proofs.YthpfjfacjlpbdaaDoor
open Go.RowKit

/-- the mark of the i-th free's number -/
def kAt (k0 : Nat) (fs : List (Int × List Int)) (i : Nat) : Nat := k0 + i + sumF fs i

def marksF (k0 : Nat) (fs : List (Int × List Int)) : List (Int × List Int) := (List.range fs.length).map fun i => (((kAt k0 fs i : Nat) : Int), marksI (kAt k0 fs i + 1) (fs.getD i (0, [])).2.length)

theorem marksF_length (k0 : Nat) (fs : List (Int × List Int)) : (marksF k0 fs).length = fs.length := by simp [marksF]

theorem marksF_at {k0 : Nat} {fs : List (Int × List Int)} {k : Nat} {tx : Int} {ps : List Int} (h : fs[k]? = some (tx, ps)) : (marksF k0 fs)[k]? = some (((kAt k0 fs k : Nat) : Int), marksI (kAt k0 fs k + 1) ps.length) := by
  have hk : k < fs.length := (List.getElem?_eq_some_iff.1 h).1
  simp [marksF, hk]
  have : fs[k] = (tx, ps) := by have := List.getElem?_eq_getElem hk; rw [h] at this; exact (Option.some.inj this).symm
  rw [this]

theorem kAt_next {k0 : Nat} {fs : List (Int × List Int)} {k : Nat} {tx : Int} {ps : List Int} (h : fs[k]? = some (tx, ps)) : kAt k0 fs (k + 1) = kAt k0 fs k + 1 + ps.length := by
  unfold kAt
  rw [sumF_succ fs k h]
  omega

theorem kAt_le (k0 : Nat) (fs : List (Int × List Int)) (k : Nat) (hk : k ≤ fs.length) : kAt k0 fs k ≤ k0 + bulkF fs := by
  unfold kAt bulkF
  have := sumF_mono fs k
  omega

theorem ownF_setTx {w : World} {B g n cap k : Nat} {m : List (Int × Value)} {fs : List (Int × List Int)} {tx x : Int} {ps : List Int} {p : Int × Value} (h : OwnF w B (.slice (some ⟨g, 0, none⟩) n cap) m fs) (hn : n = fs.length) (hf : fs[k]? = some (tx, ps)) (hp : m[k]? = some p) :
    OwnF (w.setCell ⟨g, k * 2, none⟩ (.int .i64 x)) B (.slice (some ⟨g, 0, none⟩) n cap) (m.set k (x, p.2)) (fs.set k (x, ps)) := by
  subst hn
  have hkf : k < fs.length := (List.getElem?_eq_some_iff.1 hf).1
  have hkm : k < m.length := (List.getElem?_eq_some_iff.1 hp).1
  have kp : Kept w (w.setCell ⟨g, k * 2, none⟩ (.int .i64 x)) (fun b => b = g) := kept_setCell _ _ _ _
  refine ⟨?_, ?_⟩
  · have h1 := (h.1.stored (k * 2) (.int .i64 x)).1
    rw [frs_set0 m k x p hp] at h1
    rw [List.length_set]
    exact h1
  · have hto : OwnTo (w.setCell ⟨g, k * 2, none⟩ (.int .i64 x)) B m fs fs.length := ownTo_kept h.2 kp (fun i q b hi hq hb e => by
      subst e
      exact one_type h.1 (h.2.2.1 i q _ hi hq (List.getElem?_eq_getElem hi)).2 Tryd.free_int b rfl hb)
    refine ⟨by rw [List.length_set, List.length_set]; exact hto.1, fun i q f hi hq hf' => ?_, fun i j q r b hi hj hq hr h1 h2 => ?_⟩
    · rw [List.length_set] at hi
      by_cases e : k = i
      · subst e
        rw [List.getElem?_set_self hkm] at hq
        rw [List.getElem?_set_self hkf] at hf'
        injection hq with hq
        injection hf' with hf'
        subst hq hf'
        exact ⟨rfl, (hto.2.1 k p _ hi hp hf).2⟩
      · rw [List.getElem?_set_ne e] at hq hf'
        exact hto.2.1 i q f hi hq hf'
    · rw [List.length_set] at hi hj
      have back : ∀ (i : Nat) (q : Int × Value), (m.set k (x, p.2))[i]? = some q → ∃ q' : Int × Value, m[i]? = some q' ∧ q'.2 = q.2 := fun i q h => by
        by_cases e : k = i
        · subst e
          rw [List.getElem?_set_self hkm] at h
          injection h with h
          exact ⟨p, hp, by rw [← h]⟩
        · rw [List.getElem?_set_ne e] at h
          exact ⟨q, h, rfl⟩
      obtain ⟨q', a1, a2⟩ := back i q hq
      obtain ⟨r', b1, b2⟩ := back j r hr
      exact hto.2.2 i j q' r' b hi hj a1 b1 (by rw [a2]; exact h1) (by rw [b2]; exact h2)

theorem ownF_setPg {w w' : World} {B k : Nat} {v : Value} {m : List (Int × Value)} {fs : List (Int × List Int)} {x : Int} {ps qs : List Int} {p : Int × Value} (h : OwnF w B v m fs) (hf : fs[k]? = some (x, ps)) (hp : m[k]? = some p)
    (hown : w'.ownsRow B 3 1 p.2 ps.length (ints qs)) (hq : qs.length = ps.length) (hk : Kept w w' (fun b => p.2.ownBlock = some b)) : OwnF w' B v m (fs.set k (x, qs)) := by
  have hkf : k < fs.length := (List.getElem?_eq_some_iff.1 hf).1
  have hpr := h.2.2.1 k p _ hkf hp hf
  refine ⟨?_, by rw [List.length_set]; exact h.2.1, fun i q f hi hq' hf' => ?_, fun i j q r b hi hj => ?_⟩
  · rw [List.length_set]
    exact own_kept h.1 hk (fun b hb e => one_type h.1 hpr.2 Tryd.free_int b hb e)
  · rw [List.length_set] at hi
    by_cases e : k = i
    · subst e
      rw [hp] at hq'
      rw [List.getElem?_set_self hkf] at hf'
      injection hq' with hq'
      injection hf' with hf'
      subst hq' hf'
      exact ⟨hpr.1, by rw [hq]; exact hown⟩
    · rw [List.getElem?_set_ne e] at hf'
      obtain ⟨g1, g2⟩ := h.2.2.1 i q f hi hq' hf'
      exact ⟨g1, own_kept g2 hk (fun b hb e' => e (h.2.2.2 k i p q b hkf hi hp hq' e' hb))⟩
  · rw [List.length_set] at hi hj
    exact h.2.2.2 i j q r b hi hj

theorem freeBlocks_same {v : Value} {m m' : List (Int × Value)} (h : m'.map Prod.snd = m.map Prod.snd) (b : Nat) : freeBlocks v m' b → freeBlocks v m b := by
  rintro (hb | ⟨i, p, hp, hb⟩)
  · exact Or.inl hb
  · have h1 : (m'.map Prod.snd)[i]? = some p.2 := by rw [List.getElem?_map, hp]; rfl
    rw [h, List.getElem?_map] at h1
    obtain ⟨q, h2, h3⟩ := Option.map_eq_some_iff.1 h1
    exact Or.inr ⟨i, q, h2, by rw [h3]; exact hb⟩

set_option maxHeartbeats 4000000 in
set_option maxRecDepth 100000 in
theorem markFreeS_any (fs : List (Int × List Int)) (hl : fs.length ≤ 1000) (hs : ∀ f ∈ fs, f.2.length ≤ 1000) (v : Value) (B k0 : Nat) (hk0 : k0 ≤ 1000) (hbk : bulkF fs ≤ 1000000) (m : List (Int × Value)) (w : World) (ha : OwnF w B v m fs) :
    Calls Tryd.prog 63 #[v, .int .i64 (k0 : Int)] w fun e w' => e = .returned (.int .i64 ((kAt k0 fs fs.length : Nat) : Int)) ∧ ∃ m', m'.map Prod.snd = m.map Prod.snd ∧ OwnF w' B v m' (marksF k0 fs) ∧ Kept w w' (freeBlocks v m) := by
  obtain ⟨a, cap, rfl⟩ := own_slice ha.1
  have HA := hide ha
  have HS := hide hs
  have HKl := hide (fun k hk => kAt_le k0 fs k hk)
  obtain ⟨L, hL⟩ : ∃ L, L = fs.length := ⟨_, rfl⟩
  rw [← hL] at HA HKl hl ⊢
  have HL := hide hL
  clear ha hs hL
  go_enter Tryd.func63, Tryd.ntmps63
  go_wp2
  go_loopg [1, 5] L (fun q kv iv wr => ∃ (k K : Nat) (m' : List (Int × Value)) (gs : List (Int × List Int)), k ≤ L ∧ K ≤ 1001000 ∧ kv = .int .i64 (K : Int) ∧ iv = .int .i64 (k : Int) ∧ q + k = L ∧ Hid (K = kAt k0 fs k) ∧ Hid (m'.map Prod.snd = m.map Prod.snd) ∧ Hid (OwnF wr B (.slice a L cap) m' gs) ∧ Hid (gs.length = L ∧ (∀ j, j < k → gs[j]? = (marksF k0 fs)[j]?) ∧ ∀ j, k ≤ j → gs[j]? = fs[j]?) ∧ Hid (Kept w wr (freeBlocks (.slice a L cap) m)))
  case atStart => exact ⟨0, k0, m, fs, Nat.zero_le _, by omega, rfl, rfl, by omega, hide (by simp [kAt, sumF_zero]), hide rfl, HA, hide ⟨HL.out.symm, fun j h => by omega, fun j _ => rfl⟩, hide (kept_refl _ _)⟩
  case round =>
    obtain ⟨k, K, m', gs, hk, hKl, rfl, rfl, hg, HK, HMm, HOwn, HGs, HKp⟩ := hrel
    have HG := hide hg
    clear hg
    by_cases hlt : k < L
    · obtain ⟨tx, ps, hf⟩ : ∃ tx ps, fs[k]? = some (tx, ps) := ⟨_, _, List.getElem?_eq_getElem (by rw [← HL.out]; exact hlt)⟩
      have hgk : gs[k]? = some (tx, ps) := by rw [HGs.out.2.2 k (Nat.le_refl _)]; exact hf
      have hkg : k < gs.length := (List.getElem?_eq_some_iff.1 hgk).1
      obtain ⟨p, hp⟩ : ∃ p, m'[k]? = some p := ⟨_, List.getElem?_eq_getElem (by rw [HOwn.out.2.1]; exact hkg)⟩
      have hpo := HOwn.out.2.2.1 k p _ hkg hp hgk
      obtain ⟨g, rfl⟩ : ∃ g, a = some ⟨g, 0, none⟩ := by
        rcases HOwn.out.1.2 with ⟨e, h0⟩ | ⟨g, c, cur, e, _⟩
        · have := HGs.out.1; omega
        · injection e with e1; exact ⟨g, e1⟩
      have HO1 := hide (ownF_setTx (x := (K : Int)) HOwn.out HGs.out.1.symm hgk hp)
      have hO := HOwn.out.1
      rw [HGs.out.1] at hO
      have hps : ps.length ≤ 1000 := HS.out _ (List.mem_of_getElem? hf)
      have hkm : k < m'.length := (List.getElem?_eq_some_iff.1 hp).1
      have hp1 : (m'.set k ((K : Int), p.2))[k]? = some ((K : Int), p.2) := List.getElem?_set_self hkm
      have hg1 : (gs.set k ((K : Int), ps))[k]? = some ((K : Int), ps) := List.getElem?_set_self hkg
      have hro := (HO1.out.2.2.1 k _ _ (by rw [List.length_set]; exact hkg) hp1 hg1).2
      have HC := hide (markIntS_row ps (by omega) p.2 B (K + 1) (by omega) _ hro)
      have c0 : wr.cell? ⟨g, k * 2, none⟩ = some (.int .i64 p.1) := by rw [hO.cellAt (k * 2) (by omega), (frs_at m' k p hp).1]
      have c1 : wr.cell? ⟨g, k * 2 + 1, none⟩ = some p.2 := by rw [hO.cellAt (k * 2 + 1) (by omega), (frs_at m' k p hp).2]
      have f0 : wr.frozen? ⟨g, k * 2, none⟩ = false := hO.frozenAt _
      obtain ⟨px, pv⟩ := p
      dsimp only at hpo hro HC c0 c1 hp1 HO1
      obtain ⟨ap, cp, rfl⟩ := own_slice hpo.2
      rw [show ((K + 1 : Nat) : Int) = (K : Int) + 1 from by omega] at HC
      obtain ⟨PL, hPL⟩ : ∃ PL, PL = ps.length := ⟨_, rfl⟩
      have HPL := hide hPL
      have HF := hide (⟨hf, hgk, hp, hp1, hg1⟩ : _ ∧ _ ∧ _ ∧ _ ∧ _)
      have HLm := hide (⟨hkm, hkg⟩ : _ ∧ _)
      have HKn := hide (kAt_next (k0 := k0) hf)
      have HMt := hide (marksF_at (k0 := k0) hf)
      have HKb := hide (HKl.out (k + 1) (by omega))
      rw [← hPL] at HC c1 hps
      have hi0 : (0 : Int) ≤ (k : Int) := by omega
      have hi1 : (k : Int) < (L : Int) := by omega
      clear hf hgk hp hpo hp1 hg1 hro hkm hkg hPL hO
      go_wp2_with fail
      refine HC.out.mono ?_
      rintro e w3 ⟨rfl, hown3, hk3⟩
      have HO3 : Hid (OwnF w3 B (.slice (some ⟨g, 0, none⟩) L cap) (m'.set k ((K : Int), .slice ap ps.length cp)) ((gs.set k ((K : Int), ps)).set k ((K : Int), marksI (K + 1) ps.length))) := hide (ownF_setPg HO1.out HF.out.2.2.2.2 HF.out.2.2.2.1 (by rw [← HPL.out]; exact hown3) (by rw [marksI_length]) (by rw [← HPL.out]; exact hk3))
      have HM3 : Hid ((m'.set k ((K : Int), .slice ap ps.length cp)).map Prod.snd = m.map Prod.snd) := hide (by
        rw [← HMm.out, List.map_set]
        apply List.ext_getElem?
        intro i
        by_cases e : k = i
        · subst e
          rw [List.getElem?_set_self (by rw [List.length_map]; exact HLm.out.1), List.getElem?_map, HF.out.2.2.1]
          rfl
        · rw [List.getElem?_set_ne e])
      have HG3 : Hid (((gs.set k ((K : Int), ps)).set k ((K : Int), marksI (K + 1) ps.length)).length = L ∧ (∀ j, j < k + 1 → ((gs.set k ((K : Int), ps)).set k ((K : Int), marksI (K + 1) ps.length))[j]? = (marksF k0 fs)[j]?) ∧ ∀ j, k + 1 ≤ j → ((gs.set k ((K : Int), ps)).set k ((K : Int), marksI (K + 1) ps.length))[j]? = fs[j]?) := hide (by
        refine ⟨by rw [List.length_set, List.length_set]; exact HGs.out.1, fun j hj => ?_, fun j hj => ?_⟩
        · by_cases e : k = j
          · subst e
            rw [List.getElem?_set_self (by rw [List.length_set]; exact HLm.out.2), HMt.out, HK.out]
          · rw [List.getElem?_set_ne e, List.getElem?_set_ne e]
            exact HGs.out.2.1 j (by omega)
        · rw [List.getElem?_set_ne (by omega), List.getElem?_set_ne (by omega)]
          exact HGs.out.2.2 j (by omega))
      have HK3 : Hid (Kept w w3 (freeBlocks (.slice (some ⟨g, 0, none⟩) L cap) m)) := hide (kept_trans (kept_trans HKp.out (kept_setCell wr g (k * 2) _) (fun j _ h => Or.inl (by rw [h]; rfl))) hk3 (fun j _ h => freeBlocks_same HMm.out j (Or.inr ⟨k, _, HF.out.2.2.1, by rw [← HPL.out]; exact h⟩)))
      have HKe : Hid (K + 1 + PL = kAt k0 fs (k + 1)) := hide (by have h1 := HKn.out; have h2 := HK.out; have h3 := HPL.out; omega)
      have hK2 : K + 1 + PL ≤ 1001000 := by have h1 := HKe.out; have h2 := HKb.out; omega
      clear hown3 hk3 c0 c1 f0
      go_wp2_with fail
      go_roundg (gk - 1)
      case measure => have := HG.out; omega
      case rel => exact ⟨k + 1, K + 1 + PL, _, _, by omega, hK2, by go_num, by go_num, by have := HG.out; omega, HKe, HM3, HO3, HG3, HK3⟩
    · have HE : Hid (K = kAt k0 fs L) := hide (by rw [HK.out, show k = L from by omega])
      have HGe : Hid (gs = marksF k0 fs) := hide (by
        apply List.ext_getElem?
        intro j
        by_cases e : j < k
        · exact HGs.out.2.1 j e
        · rw [List.getElem?_eq_none (by have := HGs.out.1; omega), List.getElem?_eq_none (by rw [marksF_length, ← HL.out]; omega)])
      go_wp2_with fail
      go_ret
      exact ⟨by rw [HE.out]; rfl, m', HMm.out, by rw [← HGe.out]; exact HOwn.out, HKp.out⟩

set_option maxHeartbeats 4000000 in
set_option maxRecDepth 100000 in
theorem heldFreeS_any (fs : List (Int × List Int)) (hl : fs.length ≤ 1000) (hs : ∀ f ∈ fs, f.2.length ≤ 1000) (v : Value) (k0 : Nat) (hk0 : k0 ≤ 1000) (hbk : bulkF fs ≤ 1000000) (w : World) (ha : FreesAt w v (marksF k0 fs)) :
    Calls Tryd.prog 64 #[v, .int .i64 (k0 : Int)] w fun e w' => e = .returned (.int .i64 ((kAt k0 fs fs.length : Nat) : Int)) ∧ Below w.heap.size w w' := by
  obtain ⟨a, cap, rfl⟩ := frees_slice ha
  rw [marksF_length] at ha ⊢
  have HA := hide ha
  have HS := hide hs
  have HKl := hide (fun k hk => kAt_le k0 fs k hk)
  obtain ⟨L, hL⟩ : ∃ L, L = fs.length := ⟨_, rfl⟩
  rw [← hL] at HA HKl hl ⊢
  have HL := hide hL
  clear ha hs hL
  go_enter Tryd.func64, Tryd.ntmps64
  go_wp2
  go_loopg [1, 5] L (fun q kv iv wr => ∃ (k K : Nat), k ≤ L ∧ K ≤ 1001000 ∧ kv = .int .i64 (K : Int) ∧ iv = .int .i64 (k : Int) ∧ q + k = L ∧ Hid (K = kAt k0 fs k) ∧ Below w.heap.size w wr)
  case atStart => exact ⟨0, k0, Nat.zero_le _, by omega, rfl, rfl, by omega, hide (by simp [kAt, sumF_zero]), Below.refl _ _⟩
  case round =>
    obtain ⟨k, K, hk, hKl, rfl, rfl, hg, HK, hb⟩ := hrel
    have HG := hide hg
    clear hg
    by_cases hlt : k < L
    · obtain ⟨tx, ps, hf⟩ : ∃ tx ps, fs[k]? = some (tx, ps) := ⟨_, _, List.getElem?_eq_getElem (by rw [← HL.out]; exact hlt)⟩
      have hm := marksF_at (k0 := k0) hf
      rw [← HK.out] at hm
      obtain ⟨b, off, x, c, rfl, hbl, hc0, hc1, hrow⟩ := frees_at (frees_below HA.out hb) hm
      rw [marksI_length] at hc1 hrow
      have hps : ps.length ≤ 1000 := HS.out _ (List.mem_of_getElem? hf)
      have HC := hide (heldIntS_row ps.length (by omega) (.slice x ps.length c) (K + 1) (by omega) wr hrow)
      rw [show ((K + 1 : Nat) : Int) = (K : Int) + 1 from by omega] at HC
      have HKn := hide (kAt_next (k0 := k0) hf)
      have HKb := hide (HKl.out (k + 1) (by omega))
      obtain ⟨PL, hPL⟩ : ∃ PL, PL = ps.length := ⟨_, rfl⟩
      rw [← hPL] at HC hc1 hps HKn
      have hi0 : (0 : Int) ≤ (k : Int) := by omega
      have hi1 : (k : Int) < (L : Int) := by omega
      have dn : ((K : Int) != (K : Int)) = false := by simp
      clear hf hm hrow hPL
      go_wp2_with fail
      refine HC.out.mono ?_
      rintro e w3 ⟨rfl, hb3⟩
      have hb4 : Below w.heap.size w w3 := hb.trans (hb3.mono hb.size)
      have HKe : Hid (K + 1 + PL = kAt k0 fs (k + 1)) := hide (by have h1 := HKn.out; have h2 := HK.out; omega)
      have hK2 : K + 1 + PL ≤ 1001000 := by have h1 := HKe.out; have h2 := HKb.out; omega
      have dneg : decide (((K + 1 + PL : Nat) : Int) < 0) = false := decide_eq_false (by omega)
      clear hb3
      go_wp2_with fail
      go_roundg (gk - 1)
      case measure => have := HG.out; omega
      case rel => exact ⟨k + 1, K + 1 + PL, by omega, hK2, by go_num, by go_num, by have := HG.out; omega, HKe, hb4⟩
    · have HE : Hid (K = kAt k0 fs L) := hide (by rw [HK.out, show k = L from by omega])
      go_wp2_with fail
      go_ret
      exact ⟨by rw [HE.out]; rfl, hb⟩

set_option maxHeartbeats 1000000 in
theorem markMeta_any (tx root next : Int) (vf : Value) (l : List (Int × Value)) (fs : List (Int × List Int)) (hl : fs.length ≤ 1000) (hs : ∀ f ∈ fs, f.2.length ≤ 1000) (hbk : bulkF fs ≤ 1000000) (B : Nat) (w : World) (ha : OwnF w B vf l fs) :
    Calls Tryd.prog 30 #[.agg #[.int .i64 tx, .int .i64 root, .int .i64 next, vf], .int .i64 1] w fun e w' => e = .returned (.int .i64 ((kAt 1 fs fs.length : Nat) : Int)) ∧ ∃ l', l'.map Prod.snd = l.map Prod.snd ∧ OwnF w' B vf l' (marksF 1 fs) ∧ Kept w w' (freeBlocks vf l) := by
  obtain ⟨w0, hw0⟩ : ∃ w0, w0 = w.alloc (.cells #[.int .i64 tx, .int .i64 root, .int .i64 next, vf] 26 (0, 0)) := ⟨_, rfl⟩
  have hb0 : Below w.heap.size w w0 := by rw [hw0]; exact (Below.refl _ _).alloc (Nat.le_refl _) _
  have HC := hide (markFreeS_any fs hl hs vf B 1 (by omega) hbk l w0 (ownF_stays ha hb0))
  have HB := hide hb0
  obtain ⟨K, hK⟩ : ∃ K, K = kAt 1 fs fs.length := ⟨_, rfl⟩
  rw [← hK] at HC ⊢
  clear ha hb0 hl hs hbk hK
  go_enter Tryd.func30, Tryd.ntmps30
  go_wp2_with fail
  rw [← hw0]
  clear hw0
  refine HC.out.mono ?_
  rintro e w1 ⟨rfl, l', h1, h2, h3⟩
  have HE : Hid (l'.map Prod.snd = l.map Prod.snd ∧ OwnF w1 B vf l' (marksF 1 fs) ∧ Kept w w1 (freeBlocks vf l)) := hide ⟨h1, h2, kept_trans (kept_of_all HB.out _) h3 (fun j _ h => h)⟩
  clear h1 h2 h3
  go_wp2_with fail
  go_ret
  exact ⟨rfl, l', HE.out⟩

set_option maxHeartbeats 1000000 in
theorem heldMeta_any (tx root next : Int) (vf : Value) (fs : List (Int × List Int)) (hl : fs.length ≤ 1000) (hs : ∀ f ∈ fs, f.2.length ≤ 1000) (hbk : bulkF fs ≤ 1000000) (w : World) (ha : FreesAt w vf (marksF 1 fs)) :
    Calls Tryd.prog 31 #[.agg #[.int .i64 tx, .int .i64 root, .int .i64 next, vf], .int .i64 1] w fun e w' => e = .returned (.int .i64 ((kAt 1 fs fs.length : Nat) : Int)) ∧ Below w.heap.size w w' := by
  obtain ⟨w0, hw0⟩ : ∃ w0, w0 = w.alloc (.cells #[.int .i64 tx, .int .i64 root, .int .i64 next, vf] 26 (0, 0)) := ⟨_, rfl⟩
  have hb0 : Below w.heap.size w w0 := by rw [hw0]; exact (Below.refl _ _).alloc (Nat.le_refl _) _
  have HC := hide (heldFreeS_any fs hl hs vf 1 (by omega) hbk w0 (frees_below ha hb0))
  have HB := hide hb0
  obtain ⟨K, hK⟩ : ∃ K, K = kAt 1 fs fs.length := ⟨_, rfl⟩
  rw [← hK] at HC ⊢
  have d1 : decide ((K : Int) < 0) = false := decide_eq_false (by omega)
  clear ha hb0 hl hs hbk hK
  go_enter Tryd.func31, Tryd.ntmps31
  go_wp2_with fail
  rw [← hw0]
  clear hw0
  refine HC.out.mono ?_
  rintro e w1 ⟨rfl, h1⟩
  have HE : Hid (Below w.heap.size w w1) := hide (HB.out.trans (h1.mono HB.out.size))
  clear h1
  go_wp2_with fail
  go_ret
  exact ⟨rfl, HE.out⟩
end Go.Proofs.YthpfjfacjlpbdaaDoor
