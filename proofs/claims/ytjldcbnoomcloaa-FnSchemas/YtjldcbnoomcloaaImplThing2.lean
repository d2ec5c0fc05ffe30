/-
  The program's functions over values by contracts: valueOk, ThingOk, KeyText.
-/
import Derived.Test.YtjldcbnoomcloaaImplThing
import Derived.Test.YtjldcbnoomcloaaThingSpec2
import Derived.Test.YtjldcbnoomcloaaShelfIndexByte
namespace Go.Proofs.Ytjldcbnoomcloaa
open Go.RowKit

theorem ixb_neg : ∀ (l : List UInt8) (c : UInt8), Lib.indexByte l c < 0 ↔ ∀ b ∈ l, b ≠ c
  | [], c => by simp [Lib.indexByte]
  | b :: l, c => by
    have ih := ixb_neg l c
    have hge := Lib.indexByte_ge l c
    by_cases hb : b = c
    · subst hb
      simp [Lib.indexByte]
    · have hb' : (b == c) = false := by simp [hb]
      rw [Lib.indexByte, hb']
      constructor
      · intro h x hx
        have h2 : Lib.indexByte l c < 0 := by
          by_cases e : Lib.indexByte l c = -1
          · omega
          · have e' : (Lib.indexByte l c == -1) = false := by simp [e]
            rw [e'] at h
            simp at h
            omega
        rcases List.mem_cons.1 hx with rfl | hx
        · exact hb
        · exact ih.1 h2 x hx
      · intro h
        have h2 := ih.2 (fun x hx => h x (List.mem_cons_of_mem _ hx))
        have e : Lib.indexByte l c = -1 := by omega
        rw [e]
        simp

theorem zero_free (t : ByteArray) : (Lib.indexByte t.data.toList (Int.toNat 0).toUInt8 < 0) ↔ ∀ i, i < t.size → byt t i ≠ 0 := by
  rw [ixb_neg]
  have hl : t.data.toList.length = t.size := by rw [Array.length_toList]; rfl
  have hat : ∀ i (h : i < t.size), (t.data.toList[i]'(by omega)).toNat = byt t i := fun i h => by rw [← byt_eq t i h]; simp; rfl
  constructor
  · intro h i hi h0
    have := h _ (List.getElem_mem (show i < t.data.toList.length by omega))
    apply this
    apply UInt8.toNat_inj.1
    rw [hat i hi, h0]; rfl
  · intro h b hb
    obtain ⟨i, hi, rfl⟩ := List.getElem_of_mem hb
    intro e
    apply h i (by omega)
    rw [← hat i (by omega), e]; rfl

theorem text_nil {t : ByteArray} (h : t.toList = []) : t = ⟨#[]⟩ := by
  rw [ByteArray.toList_eq] at h
  apply ByteArray.ext
  exact Array.toList_inj.1 h

theorem num_v1 {num : Int} {t : ByteArray} (h : t.toList = []) (h2 : ¬ num < 0) : valueB 1 num t = decide (num ≤ 999999) := by
  rw [value_num, decide_eq_true (text_nil h), Bool.and_true]
  congr 1
  simp; omega

theorem num_v2 {num : Int} {t : ByteArray} (h2 : num < 0) : valueB 1 num t = false := by
  rw [value_num, decide_eq_false (by omega)]; rfl

theorem num_v3 {num : Int} {t : ByteArray} (h : ¬ t.toList = []) : valueB 1 num t = false := by
  rw [value_num, decide_eq_false (show ¬ (t = ⟨#[]⟩) from fun e => h (by rw [e, ByteArray.toList_eq])), Bool.and_false]

set_option maxHeartbeats 2000000 in
set_option maxRecDepth 100000 in
theorem valueOk_any (kind num : Int) (t : ByteArray) (ht : t.size ≤ 1048576) (w : World) :
    Calls Try.prog 85 #[.int .i64 kind, .agg #[.int .i64 num, .string t]] w fun e w' => e = .returned (.bool (valueB kind num t)) ∧ Below w.heap.size w w' := by
  obtain ⟨w0, hw0⟩ : ∃ w0, w0 = w.alloc (Obj.cells #[.int .i64 num, .string t] 50) := ⟨_, rfl⟩
  have hb0 : Below w.heap.size w w0 := by rw [hw0]; exact (Below.refl w.heap.size w).alloc (Nat.le_refl _) _
  have hblk : w0.heap[w.heap.size]? = some (Obj.cells #[.int .i64 num, .string t] 50) := by rw [hw0]; exact heap_alloc_new w _
  have HB := hide hb0
  have cb0 : w0.cell? ⟨w.heap.size, 0, none⟩ = some (.int .i64 num) := (cell_at hblk 0).1
  have cb1 : w0.cell? ⟨w.heap.size, 1, none⟩ = some (.string t) := (cell_at hblk 1).1
  clear hb0 hblk
  obtain ⟨r, hr⟩ : ∃ r, r = valueB kind num t := ⟨_, rfl⟩
  have HR := hide hr
  rw [← hr]
  clear hr
  by_cases hk : kind = 1
  · subst hk
    go_enter Try.func85, Try.ntmps85
    go_wp2_with fail
    all_goals rw [← hw0]
    all_goals go_ret
    all_goals refine ⟨?_, HB.out⟩
    all_goals rw [HR.out]
    · rw [num_v1 (by assumption) (by omega)]; rfl
    · rw [num_v2 (by omega)]; rfl
    · rw [num_v3 (by assumption)]; rfl
  · have d1 : (kind == 1) = false := by simp [hk]
    have d1' : ((1 : Int) == kind) = false := by simp; omega
    by_cases hk2 : kind = 2
    · subst hk2
      have HV : Hid (r = (decide (∀ i, i < t.size → byt t i ≠ 0) && decide (num = 0 ∧ t.size ≤ 6))) := hide (by rw [HR.out, valueB, if_neg (by omega)]; simp)
      have HIx := hide (Try.strings_IndexByte t 0)
      have HZ := hide (zero_free t)
      clear HR
      by_cases h0 : num = 0
      · subst h0
        by_cases h6 : t.size ≤ 6
        · have d6 : decide ((t.size : Int) ≤ 6) = true := by simp; omega
          obtain ⟨ix, hix⟩ : ∃ ix, ix = Lib.indexByte t.data.toList (Int.toNat 0).toUInt8 := ⟨_, rfl⟩
          rw [← hix] at HIx HZ
          have HV2 : Hid (r = decide (ix < 0)) := hide (by
            rw [HV.out, decide_eq_true (show (0 : Int) = 0 ∧ t.size ≤ 6 from ⟨rfl, h6⟩), Bool.and_true]
            exact decide_eq_decide.2 HZ.out.symm)
          clear HV HZ hix
          go_enter Try.func85, Try.ntmps85
          go_wp2_with fail
          rw [← hw0]
          refine (HIx.out _).mono ?_
          rintro e w2 ⟨rfl, rfl⟩
          clear hw0
          go_wp2_with fail
          go_ret
          rw [HV2.out]
          exact ⟨rfl, HB.out⟩
        · have d6 : decide ((t.size : Int) ≤ 6) = false := by simp; omega
          have HV2 : Hid (r = false) := hide (by
            rw [HV.out, decide_eq_false (show ¬ ((0 : Int) = 0 ∧ t.size ≤ 6) from fun h => h6 h.2), Bool.and_false])
          clear HV HZ
          go_enter Try.func85, Try.ntmps85
          go_wp2_with fail
          rw [← hw0]
          go_ret
          rw [HV2.out]
          exact ⟨rfl, HB.out⟩
      · have HV2 : Hid (r = false) := hide (by
          rw [HV.out, decide_eq_false (show ¬ (num = 0 ∧ t.size ≤ 6) from fun h => h0 h.1), Bool.and_false])
        have dn : (num == 0) = false := by simp [h0]
        clear HV HZ
        go_enter Try.func85, Try.ntmps85
        go_wp2_with fail
        rw [← hw0]
        go_ret
        rw [HV2.out]
        exact ⟨rfl, HB.out⟩
    · have d2 : (kind == 2) = false := by simp [hk2]
      have d2' : ((2 : Int) == kind) = false := by simp; omega
      have HV2 : Hid (r = false) := hide (by rw [HR.out, valueB, if_neg hk, decide_eq_false (show ¬ (kind = 2 ∧ num = 0 ∧ t.size ≤ 6) from fun h => hk2 h.1), Bool.and_false])
      go_enter Try.func85, Try.ntmps85
      go_wp2_with fail
      rw [← hw0]
      go_ret
      rw [HV2.out]
      exact ⟨rfl, HB.out⟩

set_option maxHeartbeats 4000000 in
set_option maxRecDepth 100000 in
theorem implThingOk_any (fs : List (ByteArray × Int)) (vs : List (Int × ByteArray)) (hl : fs.length ≤ 1048576) (hn : ∀ f ∈ fs, f.1.size ≤ 1048576) (_hl2 : vs.length ≤ 1048576) (hn2 : ∀ f ∈ vs, f.2.size ≤ 1048576) (v u : Value) (w : World) (hr : RowAt w 2 v fs.length (flds fs)) (hu : RowAt w 2 u vs.length (puts vs)) :
    Calls Try.prog 37 #[v, u] w fun e w' => e = .returned (.bool (thingOkB fs vs)) ∧ Below w.heap.size w w' := by
  have HS := hide (fun wx h => implSchemaOk_any fs hl hn v wx h)
  have HRv := hide hr
  obtain ⟨-, a, cap, rfl, h2⟩ := hr
  obtain ⟨-, a', cap', rfl, h3⟩ := hu
  have HR := hide h2
  have HQ := hide h3
  have HN2 := hide hn2
  clear h2 h3 hn hn2
  cases hsk : schemaOkB fs with
  | false =>
    rw [hsk] at HS
    have HO := hide (thing_schema (vs := vs) hsk)
    clear hsk
    go_enter Try.func37, Try.ntmps37
    go_wp2_with fail
    refine (HS.out _ HRv.out).mono ?_
    rintro e w1 ⟨rfl, hb⟩
    go_wp2_with fail
    go_ret
    rw [HO.out]
    exact ⟨rfl, hb⟩
  | true =>
    rw [hsk] at HS
    have HSk := hide hsk
    clear hsk
    by_cases hne : vs.length = fs.length
    · have HNe := hide hne
      have d1 : ((vs.length : Int) != (fs.length : Int)) = false := by rw [hne]; simp
      go_enter Try.func37, Try.ntmps37
      go_wp2_with fail
      refine (HS.out _ HRv.out).mono ?_
      rintro e w1 ⟨rfl, hb⟩
      have HB1 := hide hb
      clear hb hne
      go_wp2_with fail
      clear d1
      go_loopg [19] fs.length (fun g iv wr => ∃ k : Nat, k ≤ fs.length ∧ iv = .int .i64 (k : Int) ∧ g + k = fs.length ∧ Hid (∀ i (hi : i < vs.length) (hf : i < fs.length), i < k → valueB fs[i].2 vs[i].1 vs[i].2 = true) ∧ Hid (Below w.heap.size w wr))
      case atStart => exact ⟨0, Nat.zero_le _, rfl, rfl, hide (fun i h hf h0 => by omega), HB1⟩
      case round =>
        obtain ⟨k, hk, rfl, hg, HA, HB⟩ := hrel
        have HG := hide hg
        clear hg
        by_cases hlf : k < fs.length
        · have hlt : k < vs.length := by have := HNe.out; omega
          rcases HR.out with h0 | ⟨b, off, rfl, hbl, hc⟩
          · omega
          · rcases HQ.out with h0 | ⟨b', off', rfl, hbl', hc'⟩
            · omega
            · obtain ⟨y, hy⟩ : ∃ y, y = fs[k].1 := ⟨_, rfl⟩
              obtain ⟨q, hq⟩ : ∃ q, q = fs[k].2 := ⟨_, rfl⟩
              obtain ⟨p, hp⟩ : ∃ p, p = vs[k].1 := ⟨_, rfl⟩
              obtain ⟨x, hx⟩ : ∃ x, x = vs[k].2 := ⟨_, rfl⟩
              have hc0 : wr.cell? ⟨b, off + k * 2, none⟩ = some (.string y) := by rw [HB.out.cell (by exact hbl), hc (k * 2) (by omega), (flds_at fs k hlf).1, hy]
              have hc1 : wr.cell? ⟨b, off + k * 2 + 1, none⟩ = some (.int .i64 q) := by rw [HB.out.cell (by exact hbl), Nat.add_assoc, hc (k * 2 + 1) (by omega), (flds_at fs k hlf).2, hq]
              have hxs : x.size ≤ 1048576 := by rw [hx]; exact HN2.out _ (List.getElem_mem hlt)
              have HV := hide (valueOk_any q p x hxs)
              have HQP := hide (⟨hq, hp, hx⟩ : q = fs[k].2 ∧ p = vs[k].1 ∧ x = vs[k].2)
              obtain ⟨wa, hwa⟩ : ∃ wa, wa = wr.alloc (Obj.cells #[.string y, .int .i64 q] 48) := ⟨_, rfl⟩
              have hblk : wa.heap[wr.heap.size]? = some (Obj.cells #[.string y, .int .i64 q] 48) := by rw [hwa]; exact heap_alloc_new wr _
              have HWa : Hid (Below w.heap.size w wa) := hide (by rw [hwa]; exact HB.out.alloc HB.out.size _)
              have hf1 : wa.cell? ⟨wr.heap.size, 1, none⟩ = some (.int .i64 q) := (cell_at hblk 1).1
              have hd0 : wa.cell? ⟨b', off' + k * 2, none⟩ = some (.int .i64 p) := by rw [HWa.out.cell (by exact hbl'), hc' (k * 2) (by omega), (puts_at vs k hlt).1, hp]
              have hd1 : wa.cell? ⟨b', off' + k * 2 + 1, none⟩ = some (.string x) := by rw [HWa.out.cell (by exact hbl'), Nat.add_assoc, hc' (k * 2 + 1) (by omega), (puts_at vs k hlt).2, hx]
              have hk0 : (0 : Int) ≤ (k : Int) := by omega
              have hk1 : (k : Int) < (fs.length : Int) := by omega
              have hk2 : (k : Int) < (vs.length : Int) := by omega
              have hnw := Nat.lt_of_lt_of_le hbl' HWa.out.size
              have hnf : wr.heap.size < wa.heap.size := (Array.getElem?_eq_some_iff.1 hblk).1
              clear hc hc' hq hp hx hy hblk
              cases hvb : valueB q p x with
              | false =>
                rw [hvb] at HV
                have HO : Hid (thingOkB fs vs = false) := hide (thing_bad hlt hlf (by rw [← HQP.out.1, ← HQP.out.2.1, ← HQP.out.2.2]; exact hvb))
                clear hvb
                go_wp2_with fail
                rw [← hwa]
                clear hwa hc0 hc1
                go_region_held3 (fun wx => wx.cell? ⟨wr.heap.size, 1, none⟩ = some (.int .i64 q) ∧ wx.cell? ⟨b', off' + k * 2, none⟩ = some (.int .i64 p) ∧ wx.cell? ⟨b', off' + k * 2 + 1, none⟩ = some (.string x)) (first | exact ⟨hf1, hd0, hd1⟩ | exact hS2) ((go_at_call 85; refine (HV.out _).mono ?_; rintro e w2 ⟨rfl, hb2⟩; have hS2 : w2.cell? ⟨wr.heap.size, 1, none⟩ = some (.int .i64 q) ∧ w2.cell? ⟨b', off' + k * 2, none⟩ = some (.int .i64 p) ∧ w2.cell? ⟨b', off' + k * 2 + 1, none⟩ = some (.string x) := ⟨(hb2.cell (by exact hnf)).trans hf1, (hb2.cell (by exact hnw)).trans hd0, (hb2.cell (by exact hnw)).trans hd1⟩))
                have hb3 : Below w.heap.size w w2 := HWa.out.trans ((Below.refl _ _).drew.trans (hb2.mono HWa.out.size))
                clear hb2 hS2 hf1 hd0 hd1
                go_wp2_with fail
                go_ret
                rw [HO.out]
                exact ⟨rfl, hb3⟩
              | true =>
                rw [hvb] at HV
                have HA2 : Hid (∀ i (hi : i < vs.length) (hf : i < fs.length), i < k + 1 → valueB fs[i].2 vs[i].1 vs[i].2 = true) := hide (fun i hi hf h => by
                  by_cases e : i = k
                  · subst e; rw [← HQP.out.1, ← HQP.out.2.1, ← HQP.out.2.2]; exact hvb
                  · exact HA.out i hi hf (by omega))
                clear hvb
                go_wp2_with fail
                rw [← hwa]
                clear hwa hc0 hc1
                go_region_held3 (fun wx => wx.cell? ⟨wr.heap.size, 1, none⟩ = some (.int .i64 q) ∧ wx.cell? ⟨b', off' + k * 2, none⟩ = some (.int .i64 p) ∧ wx.cell? ⟨b', off' + k * 2 + 1, none⟩ = some (.string x)) (first | exact ⟨hf1, hd0, hd1⟩ | exact hS2) ((go_at_call 85; refine (HV.out _).mono ?_; rintro e w2 ⟨rfl, hb2⟩; have hS2 : w2.cell? ⟨wr.heap.size, 1, none⟩ = some (.int .i64 q) ∧ w2.cell? ⟨b', off' + k * 2, none⟩ = some (.int .i64 p) ∧ w2.cell? ⟨b', off' + k * 2 + 1, none⟩ = some (.string x) := ⟨(hb2.cell (by exact hnf)).trans hf1, (hb2.cell (by exact hnw)).trans hd0, (hb2.cell (by exact hnw)).trans hd1⟩))
                have hb3 : Below w.heap.size w w2 := HWa.out.trans ((Below.refl _ _).drew.trans (hb2.mono HWa.out.size))
                have HB3 := hide hb3
                clear hb2 hb3 hS2 hf1 hd0 hd1
                go_wp2_with fail
                go_roundg (gk - 1)
                case measure => have := HG.out; omega
                case rel => exact ⟨k + 1, by omega, by go_num, by have := HG.out; omega, HA2, HB3⟩
        · have HO : Hid (thingOkB fs vs = true) := hide (thing_all HSk.out HNe.out (fun i hi hf => HA.out i hi hf (by omega)))
          go_wp2_with fail
          go_ret
          rw [HO.out]
          exact ⟨rfl, HB.out⟩
    · have HO := hide (thing_len hne)
      have d1 : ((vs.length : Int) != (fs.length : Int)) = true := by simp; omega
      go_enter Try.func37, Try.ntmps37
      go_wp2_with fail
      refine (HS.out _ HRv.out).mono ?_
      rintro e w1 ⟨rfl, hb⟩
      go_wp2_with fail
      go_ret
      rw [HO.out]
      exact ⟨rfl, hb⟩

set_option maxHeartbeats 2000000 in
set_option maxRecDepth 100000 in
theorem implKeyText_any (kind num : Int) (t : ByteArray) (ht : t.size ≤ 1048576) (w : World) :
    Calls Try.prog 40 #[.int .i64 kind, .agg #[.int .i64 num, .string t]] w fun e w' => e = .returned (.tuple #[.string (keyO kind num t), .bool (valueB kind num t)]) ∧ Below w.heap.size w w' := by
  obtain ⟨w0, hw0⟩ : ∃ w0, w0 = w.alloc (Obj.cells #[.int .i64 num, .string t] 50) := ⟨_, rfl⟩
  have hb0 : Below w.heap.size w w0 := by rw [hw0]; exact (Below.refl w.heap.size w).alloc (Nat.le_refl _) _
  have hblk : w0.heap[w.heap.size]? = some (Obj.cells #[.int .i64 num, .string t] 50) := by rw [hw0]; exact heap_alloc_new w _
  have HB := hide hb0
  have HBk := hide hblk
  have HV := hide (valueOk_any kind num t ht)
  clear hb0
  have ca0 : w0.cell? ⟨w.heap.size, 0, none⟩ = some (.int .i64 num) := (cell_at hblk 0).1
  have ca1 : w0.cell? ⟨w.heap.size, 1, none⟩ = some (.string t) := (cell_at hblk 1).1
  clear hblk
  cases hvb : valueB kind num t with
  | false =>
    have HO : Hid (keyO kind num t = ⟨#[]⟩) := hide (by rw [keyO, hvb]; rfl)
    rw [hvb] at HV
    clear hvb
    go_enter Try.func40, Try.ntmps40
    go_wp2_with fail
    rw [← hw0]
    refine (HV.out _).mono ?_
    rintro e w1 ⟨rfl, hb1⟩
    clear hw0
    go_wp2_with fail
    go_ret2
    rw [HO.out]
    exact ⟨rfl, HB.out.trans (hb1.mono HB.out.size)⟩
  | true =>
    have HK : Hid (keyO kind num t = keyT kind num t) := hide (by rw [keyO, hvb]; rfl)
    have HVb := hide hvb
    rw [hvb] at HV
    clear hvb
    go_enter Try.func40, Try.ntmps40
    go_wp2_with fail
    rw [← hw0]
    refine (HV.out _).mono ?_
    rintro e w1 ⟨rfl, hb1⟩
    have hblk1 := (hb1.block _ (Array.getElem?_eq_some_iff.1 HBk.out).1).trans HBk.out
    have cb0 : w1.cell? ⟨w.heap.size, 0, none⟩ = some (.int .i64 num) := (cell_at hblk1 0).1
    have cb1 : w1.cell? ⟨w.heap.size, 1, none⟩ = some (.string t) := (cell_at hblk1 1).1
    have HB1 : Hid (Below w.heap.size w w1) := hide (HB.out.trans (hb1.mono HB.out.size))
    clear hw0 hb1 hblk1 ca0 ca1
    by_cases hk : kind = 1
    · subst hk
      have hnum : 0 ≤ num ∧ num ≤ 999999 := by
        have := HVb.out
        rw [value_num, Bool.and_eq_true, decide_eq_true_eq] at this
        exact this.1
      obtain ⟨n, rfl⟩ := Int.eq_ofNat_of_zero_le hnum.1
      have hn : n ≤ 999999 := by omega
      have HO : Hid (keyO 1 (n : Int) t = ⟨#[UInt8.ofNat (n / 65536), UInt8.ofNat (n / 256 % 256), UInt8.ofNat (n % 256)]⟩) := hide (by rw [HK.out, keyT, if_pos rfl, Int.toNat_natCast])
      go_wp2_with fail
      obtain ⟨a1, a3, a4, ha1, ha3, ha4, hl1, hl3, hl4, e1, e3, e4⟩ := digits n hn
      rw [e1, e3, e4]
      have hcv := string_own (P := Try.prog) (src := 22) (dst := 9) Try.underlying22 Try.underlying5 Try.underlying9 (own3 w1 a1 a3 a4 hl1 hl3 hl4)
      have HB2 : Hid (Below w.heap.size w (w1.alloc (Obj.cells #[.int .u8 (a1 : Int), .int .u8 (a3 : Int), .int .u8 (a4 : Int)] 5))) := hide (HB1.out.alloc HB1.out.size _)
      rw [← ha1, ← ha3, ← ha4] at HO
      rw [hcv]
      clear hcv e1 e3 e4 ha1 ha3 ha4 hl1 hl3 hl4 hnum cb0 cb1
      go_wp2_with fail
      go_ret2
      rw [HO.out]
      exact ⟨rfl, HB2.out⟩
    · have HO : Hid (keyO kind num t = t ++ ⟨#[0]⟩) := hide (by rw [HK.out, keyT, if_neg hk])
      have d1 : (kind == 1) = false := by simp [hk]
      have d2 : decide (kind = 1) = false := by simp [hk]
      clear hk
      go_wp2_with fail
      go_ret2
      rw [HO.out]
      exact ⟨rfl, HB1.out⟩
end Go.Proofs.Ytjldcbnoomcloaa
