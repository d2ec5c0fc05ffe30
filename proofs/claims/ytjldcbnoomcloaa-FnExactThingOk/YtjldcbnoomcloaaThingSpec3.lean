/-
  spec's texts of things by contracts: l04Short, ThingText.
-/
import Derived.Test.YtjldcbnoomcloaaThingSpec2
import Derived.Test.YtjldcbnoomcloaaPlain13
namespace Go.Proofs.Ytjldcbnoomcloaa
open Go.RowKit

theorem shortB_size (s : ByteArray) : (shortB s).size ≤ s.size + 5 := by
  have h := (vtext_length s.size).2
  rw [shortB, ByteArray.size_append]
  have e : (⟨(vtext s.size).toArray⟩ : ByteArray).size = (vtext s.size).length := List.size_toArray
  omega

set_option maxHeartbeats 400000 in
theorem l04Short_any (s : ByteArray) (h : s.size ≤ 20000) (w : World) :
    Calls Try.prog 92 #[.string s] w fun e w' => e = .returned (.string (shortB s)) ∧ Below w.heap.size w w' := by
  have hlen := (vtext_length s.size).2
  have HO : Hid (shortB s = ⟨(vtext s.size).toArray⟩ ++ s) := hide rfl
  go_enter Try.func92, Try.ntmps92
  go_wp2_with fail
  refine (l01Var_any s.size (by omega) (by omega) _).mono ?_
  rintro e w2 ⟨rfl, hb⟩
  rw [Int.toNat_natCast]
  go_wp2
  go_ret
  rw [HO.out]
  exact ⟨rfl, hb⟩

/-- a value in bytes -/
def valueT (kind num : Int) (t : ByteArray) : ByteArray := if kind = 1 then ⟨(vtext num.toNat).toArray⟩ else shortB t

theorem valueT_size {kind num : Int} {t : ByteArray} (h : valueB kind num t = true) : (valueT kind num t).size ≤ 11 := by
  unfold valueT
  split
  · have h := (vtext_length num.toNat).2
    have e : (⟨(vtext num.toNat).toArray⟩ : ByteArray).size = (vtext num.toNat).length := List.size_toArray
    omega
  · next hk =>
    rw [valueB, if_neg hk, Bool.and_eq_true, decide_eq_true_eq, decide_eq_true_eq] at h
    have := shortB_size t
    have := h.2.2.2
    omega

/-- the bytes of the first k values -/
def thingK (fs : List (ByteArray × Int)) (vs : List (Int × ByteArray)) : Nat → ByteArray
  | 0 => ⟨#[]⟩
  | k + 1 => thingK fs vs k ++ valueT (fs.getD k (⟨#[]⟩, 0)).2 (vs.getD k (0, ⟨#[]⟩)).1 (vs.getD k (0, ⟨#[]⟩)).2

theorem thingK_succ {fs : List (ByteArray × Int)} {vs : List (Int × ByteArray)} {k : Nat} (hv : k < vs.length) (hf : k < fs.length) : thingK fs vs (k + 1) = thingK fs vs k ++ valueT fs[k].2 vs[k].1 vs[k].2 := by
  rw [thingK]; simp [List.getD, hv, hf]

theorem thing_yes {fs : List (ByteArray × Int)} {vs : List (Int × ByteArray)} (h : thingOkB fs vs = true) : schemaOkB fs = true ∧ vs.length = fs.length ∧ fs.length ≤ 3 ∧ ∀ i (hi : i < vs.length) (hf : i < fs.length), valueB fs[i].2 vs[i].1 vs[i].2 = true := by
  rw [thingOkB, Bool.and_eq_true, Bool.and_eq_true, decide_eq_true_eq, decide_eq_true_eq] at h
  obtain ⟨⟨h1, h2⟩, h3⟩ := h
  refine ⟨h1, h2, ?_, fun i hi hf => by have := h3 i hi; simpa [List.getD, hi, hf] using this⟩
  rw [schemaOkB, Bool.and_eq_true, decide_eq_true_eq] at h1
  exact h1.2.2

theorem thingK_size {fs : List (ByteArray × Int)} {vs : List (Int × ByteArray)} (h : thingOkB fs vs = true) (k : Nat) (hk : k ≤ vs.length) : (thingK fs vs k).size ≤ 11 * k := by
  obtain ⟨-, h2, -, h4⟩ := thing_yes h
  induction k with
  | zero => exact Nat.le_refl _
  | succ k ih =>
    have := ih (by omega)
    have hv := valueT_size (h4 k (by omega) (by omega))
    rw [thingK_succ (by omega) (by omega), ByteArray.size_append]
    omega

def thingO (fs : List (ByteArray × Int)) (vs : List (Int × ByteArray)) : ByteArray := if thingOkB fs vs = true then thingK fs vs vs.length else ⟨#[]⟩

set_option maxHeartbeats 2000000 in
set_option maxRecDepth 100000 in
theorem specThingText_any (fs : List (ByteArray × Int)) (vs : List (Int × ByteArray)) (hl : fs.length ≤ 1048576) (hn : ∀ f ∈ fs, f.1.size ≤ 1048576) (hl2 : vs.length ≤ 1048576) (hn2 : ∀ f ∈ vs, f.2.size ≤ 1048576) (v u : Value) (w : World) (hr : RowAt w 2 v fs.length (flds fs)) (hu : RowAt w 2 u vs.length (puts vs)) :
    Calls Try.prog 52 #[v, u] w fun e w' => e = .returned (.tuple #[.string (thingO fs vs), .bool (thingOkB fs vs)]) ∧ Below w.heap.size w w' := by
  have HS := hide (fun wx h h' => specThingOk_any fs vs hl hn hl2 hn2 v u wx h h')
  have HRv := hide hr
  have HRu := hide hu
  obtain ⟨-, a, cap, rfl, h2⟩ := hr
  obtain ⟨-, a', cap', rfl, h3⟩ := hu
  have HR := hide h2
  have HQ := hide h3
  clear h2 h3 hn hn2
  cases hok : thingOkB fs vs with
  | false =>
    rw [hok] at HS
    have HO : Hid (thingO fs vs = ⟨#[]⟩) := hide (by rw [thingO, hok]; rfl)
    clear hok
    go_enter Try.func52, Try.ntmps52
    go_wp2_with fail
    refine (HS.out _ HRv.out HRu.out).mono ?_
    rintro e w1 ⟨rfl, hb⟩
    go_wp2_with fail
    go_ret2
    rw [HO.out]
    exact ⟨rfl, hb⟩
  | true =>
    rw [hok] at HS
    have HOk := hide hok
    have HY := hide (thing_yes hok)
    have HO : Hid (thingO fs vs = thingK fs vs vs.length) := hide (by rw [thingO, hok]; rfl)
    clear hok
    go_enter Try.func52, Try.ntmps52
    go_wp2_with fail
    refine (HS.out _ HRv.out HRu.out).mono ?_
    rintro e w1 ⟨rfl, hb⟩
    have HB1 := hide hb
    clear hb
    go_wp2_with fail
    go_loopg [6, 7] vs.length (fun g sv iv wr => ∃ k : Nat, k ≤ vs.length ∧ sv = .string (thingK fs vs k) ∧ iv = .int .i64 (k : Int) ∧ g + k = vs.length ∧ Hid (Below w.heap.size w wr))
    case atStart => exact ⟨0, Nat.zero_le _, rfl, rfl, rfl, HB1⟩
    case round =>
      obtain ⟨k, hk, rfl, rfl, hg, HB⟩ := hrel
      have HG := hide hg
      clear hg
      by_cases hlt : k < vs.length
      · have hlf : k < fs.length := by have := HY.out.2.1; omega
        rcases HR.out with h0 | ⟨b, off, rfl, hbl, hc⟩
        · omega
        · rcases HQ.out with h0 | ⟨b', off', rfl, hbl', hc'⟩
          · omega
          · obtain ⟨q, hq⟩ : ∃ q, q = fs[k].2 := ⟨_, rfl⟩
            obtain ⟨p, hp⟩ : ∃ p, p = vs[k].1 := ⟨_, rfl⟩
            obtain ⟨x, hx⟩ : ∃ x, x = vs[k].2 := ⟨_, rfl⟩
            have hc1 : wr.cell? ⟨b, off + k * 2 + 1, none⟩ = some (.int .i64 q) := by rw [HB.out.cell (by exact hbl), Nat.add_assoc, hc (k * 2 + 1) (by omega), (flds_at fs k hlf).2, hq]
            have hd0 : wr.cell? ⟨b', off' + k * 2, none⟩ = some (.int .i64 p) := by rw [HB.out.cell (by exact hbl'), hc' (k * 2) (by omega), (puts_at vs k hlt).1, hp]
            have hd1 : wr.cell? ⟨b', off' + k * 2 + 1, none⟩ = some (.string x) := by rw [HB.out.cell (by exact hbl'), Nat.add_assoc, hc' (k * 2 + 1) (by omega), (puts_at vs k hlt).2, hx]
            have hvb : valueB q p x = true := by rw [hq, hp, hx]; exact HY.out.2.2.2 k hlt hlf
            have hsz : (thingK fs vs k).size ≤ 100 := by have h1 := thingK_size HOk.out k hk; have h2 := HY.out.2.1; have h3 := HY.out.2.2.1; omega
            have HK : Hid (thingK fs vs (k + 1) = thingK fs vs k ++ valueT q p x) := hide (by rw [thingK_succ hlt hlf, hq, hp, hx])
            have hvz := valueT_size hvb
            obtain ⟨s, hs⟩ : ∃ s, s = thingK fs vs k := ⟨_, rfl⟩
            rw [← hs] at HK hsz ⊢
            have hk0 : (0 : Int) ≤ (k : Int) := by omega
            have hk1 : (k : Int) < (fs.length : Int) := by omega
            have hk2 : (k : Int) < (vs.length : Int) := by omega
            clear hc hc' hq hp hx hs
            by_cases hq1 : q = 1
            · subst hq1
              rw [value_num, Bool.and_eq_true, decide_eq_true_eq] at hvb
              have HV := hide (l01Var_any p hvb.1.1 (by omega))
              rw [valueT, if_pos rfl] at HK hvz
              obtain ⟨z, hz⟩ : ∃ z : ByteArray, z = ⟨(vtext p.toNat).toArray⟩ := ⟨_, rfl⟩
              rw [← hz] at HK HV hvz
              clear hvb hz
              go_wp2_with fail
              refine (HV.out _).mono ?_
              rintro e w2 ⟨rfl, hb2⟩
              have HB2 : Hid (Below w.heap.size w w2) := hide (HB.out.trans (hb2.mono HB.out.size))
              clear hb2 hc1 hd0 hd1
              go_wp2_with fail
              go_roundg (gk - 1)
              case measure => have := HG.out; omega
              case rel => exact ⟨k + 1, by omega, by rw [HK.out], by go_num, by have := HG.out; omega, HB2⟩
            · have hx6 : x.size ≤ 20000 := by
                rw [valueB, if_neg hq1, Bool.and_eq_true, decide_eq_true_eq, decide_eq_true_eq] at hvb
                have := hvb.2.2.2
                omega
              have HV := hide (l04Short_any x hx6)
              rw [valueT, if_neg hq1] at HK hvz
              obtain ⟨z, hz⟩ : ∃ z : ByteArray, z = shortB x := ⟨_, rfl⟩
              rw [← hz] at HK HV hvz
              have d1 : (q == 1) = false := by simp [hq1]
              have d2 : decide (q = 1) = false := by simp [hq1]
              clear hvb hz hq1
              go_wp2_with fail
              refine (HV.out _).mono ?_
              rintro e w2 ⟨rfl, hb2⟩
              have HB2 : Hid (Below w.heap.size w w2) := hide (HB.out.trans (hb2.mono HB.out.size))
              clear hb2 hc1 hd0 hd1
              go_wp2_with fail
              go_roundg (gk - 1)
              case measure => have := HG.out; omega
              case rel => exact ⟨k + 1, by omega, by rw [HK.out], by go_num, by have := HG.out; omega, HB2⟩
      · obtain rfl : k = vs.length := by omega
        go_wp2_with fail
        go_ret2
        rw [HO.out]
        exact ⟨rfl, HB.out⟩
end Go.Proofs.Ytjldcbnoomcloaa
