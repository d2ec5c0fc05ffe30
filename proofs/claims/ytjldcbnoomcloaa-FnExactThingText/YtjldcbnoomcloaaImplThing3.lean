/-
  The program's texts of things and schemas by contracts: valueText, ThingText, SchemaText.
-/
import Derived.Test.YtjldcbnoomcloaaImplThing2
import Derived.Test.YtjldcbnoomcloaaThingSpec4
import Derived.Test.YtjldcbnoomcloaaShort
import Derived.Lib.AppendStr
namespace Go.Proofs.Ytjldcbnoomcloaa
open Go.RowKit

theorem cells_str (l : List UInt8) (s : ByteArray) : Lib.byteCells l ++ Lib.strCells s = Lib.byteCells (l ++ s.data.toList) := by
  simp [Lib.byteCells, Lib.strCells]

set_option maxHeartbeats 1000000 in
set_option maxRecDepth 100000 in
theorem valueText_any (kind num : Int) (t : ByteArray) (hv : valueB kind num t = true) (w : World) :
    Calls Try.prog 79 #[.int .i64 kind, .agg #[.int .i64 num, .string t]] w fun e w' => e = .returned (.tuple #[.string (valueT kind num t), .bool true]) ∧ Below w.heap.size w w' := by
  obtain ⟨w0, hw0⟩ : ∃ w0, w0 = w.alloc (Obj.cells #[.int .i64 num, .string t] 50) := ⟨_, rfl⟩
  have hb0 : Below w.heap.size w w0 := by rw [hw0]; exact (Below.refl w.heap.size w).alloc (Nat.le_refl _) _
  have hblk : w0.heap[w.heap.size]? = some (Obj.cells #[.int .i64 num, .string t] 50) := by rw [hw0]; exact heap_alloc_new w _
  have HB := hide hb0
  have cb0 : w0.cell? ⟨w.heap.size, 0, none⟩ = some (.int .i64 num) := (cell_at hblk 0).1
  have cb1 : w0.cell? ⟨w.heap.size, 1, none⟩ = some (.string t) := (cell_at hblk 1).1
  clear hb0 hblk
  by_cases hk : kind = 1
  · subst hk
    rw [value_num, Bool.and_eq_true, decide_eq_true_eq] at hv
    have HC := hide (implVarText_yes num hv.1.1 (by omega))
    rw [valueT, if_pos rfl]
    obtain ⟨z, hz⟩ : ∃ z : ByteArray, z = ⟨(vtext num.toNat).toArray⟩ := ⟨_, rfl⟩
    rw [← hz] at HC ⊢
    clear hv hz
    go_enter Try.func79, Try.ntmps79
    go_wp2_with fail
    rw [← hw0]
    refine (HC.out _).mono ?_
    rintro e w1 ⟨rfl, hb1⟩
    clear hw0
    go_wp2_with fail
    go_ret2
    exact ⟨rfl, HB.out.trans (hb1.mono HB.out.size)⟩
  · have hx6 : t.size ≤ 20000 := by
      rw [valueB, if_neg hk, Bool.and_eq_true, decide_eq_true_eq, decide_eq_true_eq] at hv
      have := hv.2.2.2
      omega
    have HC := hide (implShortText_yes t hx6)
    rw [valueT, if_neg hk, shortB]
    obtain ⟨z, hz⟩ : ∃ z : ByteArray, z = ⟨(vtext t.size).toArray⟩ ++ t := ⟨_, rfl⟩
    rw [← hz] at HC ⊢
    have d1 : (kind == 1) = false := by simp [hk]
    have d2 : decide (kind = 1) = false := by simp [hk]
    clear hv hz hk
    go_enter Try.func79, Try.ntmps79
    go_wp2_with fail
    rw [← hw0]
    refine (HC.out _).mono ?_
    rintro e w1 ⟨rfl, hb1⟩
    clear hw0
    go_wp2_with fail
    go_ret2
    exact ⟨rfl, HB.out.trans (hb1.mono HB.out.size)⟩

theorem own_lit0 (w : World) : (w.alloc (Obj.cells #[] 5)).ownsRow w.heap.size 5 1 (.slice (some ⟨w.heap.size, 0, none⟩) 0 0) ([] : List UInt8).length (Lib.byteCells []) := by
  simpa [Lib.byteCells] using World.ownsRow_lit (base := w.heap.size) (e := 5) (size := 1) w #[] 0 (Nat.le_refl _) (by unfold maxLen; omega) (by simp)

set_option maxHeartbeats 4000000 in
set_option maxRecDepth 100000 in
theorem implThingText_any (fs : List (ByteArray × Int)) (vs : List (Int × ByteArray)) (hl : fs.length ≤ 1048576) (hn : ∀ f ∈ fs, f.1.size ≤ 1048576) (hl2 : vs.length ≤ 1048576) (hn2 : ∀ f ∈ vs, f.2.size ≤ 1048576) (v u : Value) (w : World) (hr : RowAt w 2 v fs.length (flds fs)) (hu : RowAt w 2 u vs.length (puts vs)) :
    Calls Try.prog 32 #[v, u] w fun e w' => e = .returned (.tuple #[.string (thingO fs vs), .bool (thingOkB fs vs)]) ∧ Below w.heap.size w w' := by
  obtain ⟨i0, hi, hz0, hz1, hz2⟩ := info_parts Try.infoByte
  have HS := hide (fun wx h h' => implThingOk_any fs vs hl hn hl2 hn2 v u wx h h')
  have HRv := hide hr
  have HRu := hide hu
  obtain ⟨-, a, cap, rfl, h2⟩ := hr
  obtain ⟨-, a', cap', rfl, h3⟩ := hu
  have HR := hide h2
  have HQ := hide h3
  clear h2 h3 hn hn2
  cases hok : thingOkB fs vs with
  | false =>
    rw [hok] at HS
    have HO : Hid (thingO fs vs = ⟨#[]⟩) := hide (by rw [thingO, hok]; rfl)
    clear hok
    go_enter Try.func32, Try.ntmps32
    go_wp2_with fail
    refine (HS.out _ HRv.out HRu.out).mono ?_
    rintro e w1 ⟨rfl, hb⟩
    go_wp2_with fail
    go_ret2
    rw [HO.out]
    exact ⟨rfl, hb⟩
  | true =>
    rw [hok] at HS
    have HOk := hide hok
    have HY := hide (thing_yes hok)
    have HO : Hid (thingO fs vs = thingK fs vs vs.length) := hide (by rw [thingO, hok]; rfl)
    clear hok
    go_enter Try.func32, Try.ntmps32
    go_wp2_with fail
    refine (HS.out _ HRv.out HRu.out).mono ?_
    rintro e w1 ⟨rfl, hb⟩
    have HB1 := hide hb
    clear hb
    go_wp2_with fail
    have HB1a : Hid (Below w.heap.size w (w1.alloc (Obj.cells #[] 5))) := hide (HB1.out.alloc HB1.out.size _)
    have HOw : Hid ((w1.alloc (Obj.cells #[] 5)).ownsRow w.heap.size 5 1 (.slice (some ⟨w1.heap.size, 0, none⟩) 0 0) ([] : List UInt8).length (Lib.byteCells [])) := hide (own_down (own_lit0 w1) HB1.out.size)
    go_loopg [6, 18] fs.length (fun g sv iv wr => ∃ k : Nat, k ≤ fs.length ∧ iv = .int .i64 (k : Int) ∧ g + k = fs.length ∧ wr.ownsRow w.heap.size 5 1 sv (thingK fs vs k).data.toList.length (Lib.byteCells (thingK fs vs k).data.toList) ∧ Hid (Below w.heap.size w wr))
    case atStart => exact ⟨0, Nat.zero_le _, rfl, rfl, HOw.out, HB1a⟩
    case round =>
      obtain ⟨k, hk, rfl, hg, hown, HB⟩ := hrel
      have HG := hide hg
      clear hg
      have hsz : (thingK fs vs k).data.toList.length ≤ 100 := by have h1 := thingK_size HOk.out k (by have := HY.out.2.1; omega); have h2 := HY.out.2.1; have h3 := HY.out.2.2.1; rw [ba_len]; omega
      by_cases hlf : k < fs.length
      · have hlt : k < vs.length := by have := HY.out.2.1; omega
        rcases HR.out with h0 | ⟨b, off, rfl, hbl, hc⟩
        · omega
        · rcases HQ.out with h0 | ⟨b', off', rfl, hbl', hc'⟩
          · omega
          · obtain ⟨y, hy⟩ : ∃ y, y = fs[k].1 := ⟨_, rfl⟩
            obtain ⟨q, hq⟩ : ∃ q, q = fs[k].2 := ⟨_, rfl⟩
            obtain ⟨p, hp⟩ : ∃ p, p = vs[k].1 := ⟨_, rfl⟩
            obtain ⟨x, hx⟩ : ∃ x, x = vs[k].2 := ⟨_, rfl⟩
            have hc0 : wr.cell? ⟨b, off + k * 2, none⟩ = some (.string y) := by rw [HB.out.cell (by exact hbl), hc (k * 2) (by omega), (flds_at fs k hlf).1, hy]
            have hc1 : wr.cell? ⟨b, off + k * 2 + 1, none⟩ = some (.int .i64 q) := by rw [HB.out.cell (by exact hbl), Nat.add_assoc, hc (k * 2 + 1) (by omega), (flds_at fs k hlf).2, hq]
            have hvb : valueB q p x = true := by rw [hq, hp, hx]; exact HY.out.2.2.2 k hlt hlf
            have HV := hide (valueText_any q p x hvb)
            have HK : Hid (thingK fs vs (k + 1) = thingK fs vs k ++ valueT q p x) := hide (by rw [thingK_succ hlt hlf, hq, hp, hx])
            have hvz := valueT_size hvb
            obtain ⟨z, hz⟩ : ∃ z, z = valueT q p x := ⟨_, rfl⟩
            obtain ⟨l, hl3⟩ : ∃ l, l = (thingK fs vs k).data.toList := ⟨_, rfl⟩
            have HK2 : Hid ((thingK fs vs (k + 1)).data.toList = l ++ z.data.toList) := hide (by rw [HK.out, hl3, hz, ByteArray.data_append, Array.toList_append])
            rw [← hz] at HV hvz
            rw [← hl3] at hown hsz
            obtain ⟨wa, hwa⟩ : ∃ wa, wa = wr.alloc (Obj.cells #[.string y, .int .i64 q] 48) := ⟨_, rfl⟩
            have hblk : wa.heap[wr.heap.size]? = some (Obj.cells #[.string y, .int .i64 q] 48) := by rw [hwa]; exact heap_alloc_new wr _
            have HWb : Hid (Below wr.heap.size wr wa) := hide (by rw [hwa]; exact (Below.refl _ _).alloc (Nat.le_refl _) _)
            have HWa : Hid (Below w.heap.size w wa) := hide (by rw [hwa]; exact HB.out.alloc HB.out.size _)
            have hf1 : wa.cell? ⟨wr.heap.size, 1, none⟩ = some (.int .i64 q) := (cell_at hblk 1).1
            have hd0 : wa.cell? ⟨b', off' + k * 2, none⟩ = some (.int .i64 p) := by rw [HWa.out.cell (by exact hbl'), hc' (k * 2) (by omega), (puts_at vs k hlt).1, hp]
            have hd1 : wa.cell? ⟨b', off' + k * 2 + 1, none⟩ = some (.string x) := by rw [HWa.out.cell (by exact hbl'), Nat.add_assoc, hc' (k * 2 + 1) (by omega), (puts_at vs k hlt).2, hx]
            have hk0 : (0 : Int) ≤ (k : Int) := by omega
            have hk1 : (k : Int) < (fs.length : Int) := by omega
            have hk2 : (k : Int) < (vs.length : Int) := by omega
            have hnw := Nat.lt_of_lt_of_le hbl' HWa.out.size
            have hnf : wr.heap.size < wa.heap.size := (Array.getElem?_eq_some_iff.1 hblk).1
            have HOn := hide hown
            clear hc hc' hq hp hx hy hblk hz hl3 hvb hown
            go_wp2_with fail
            rw [← hwa]
            clear hwa hc0 hc1
            go_region_held3 (fun wx => wx.cell? ⟨wr.heap.size, 1, none⟩ = some (.int .i64 q) ∧ wx.cell? ⟨b', off' + k * 2, none⟩ = some (.int .i64 p) ∧ wx.cell? ⟨b', off' + k * 2 + 1, none⟩ = some (.string x)) (first | exact ⟨hf1, hd0, hd1⟩ | exact hS2) ((go_at_call 79; refine (HV.out _).mono ?_; rintro e w2 ⟨rfl, hb2⟩; have hS2 : w2.cell? ⟨wr.heap.size, 1, none⟩ = some (.int .i64 q) ∧ w2.cell? ⟨b', off' + k * 2, none⟩ = some (.int .i64 p) ∧ w2.cell? ⟨b', off' + k * 2 + 1, none⟩ = some (.string x) := ⟨(hb2.cell (by exact hnf)).trans hf1, (hb2.cell (by exact hnw)).trans hd0, (hb2.cell (by exact hnw)).trans hd1⟩))
            have hbx : Below wr.heap.size wr w2 := HWb.out.trans ((Below.refl _ _).drew.trans (hb2.mono HWb.out.size))
            have hown2 := own_stays HOn.out hbx
            have HBx : Hid (Below w.heap.size w w2) := hide (HB.out.trans (hbx.mono HB.out.size))
            have hBs := HBx.out.size
            clear hb2 hS2 hf1 hd0 hd1 hbx
            go_wp2_with (at_builtin; refine Lib.wpList_append_own_string _ rfl _ _ 22 9 rfl w.heap.size 5 i0 Try.underlying22 Try.underlying9 hi hz0 hz1 hz2 _ _ _ rfl hown2 z rfl ?c1 ?c2 hBs ?_)
            case c1 => unfold maxLen; omega
            case c2 => omega
            intro v' w3 hown3 hgrow _
            have HB3 : Hid (Below w.heap.size w w3) := hide (below_grow HBx.out hBs hown2 (Below.refl _ _) hgrow)
            have hown4 : w3.ownsRow w.heap.size 5 1 v' (thingK fs vs (k + 1)).data.toList.length (Lib.byteCells (thingK fs vs (k + 1)).data.toList) := by
              rw [HK2.out, List.length_append, ba_len z, ← cells_str]
              exact hown3
            clear hown3 hgrow hown2
            go_wp2_with fail
            go_roundg (gk - 1)
            case measure => have := HG.out; omega
            case rel => exact ⟨k + 1, by omega, by go_num, by have := HG.out; omega, hown4, HB3⟩
      · obtain rfl : k = fs.length := by omega
        have hcv := string_own (dst := 9) (src := 22) Try.underlying22 Try.underlying5 Try.underlying9 hown
        have HO2 : Hid (thingO fs vs = ⟨(thingK fs vs fs.length).data.toList.toArray⟩) := hide (by rw [HO.out, HY.out.2.1])
        clear hown
        go_wp2_with fail
        go_ret2
        rw [HO2.out]
        exact ⟨rfl, HB.out⟩

set_option maxHeartbeats 4000000 in
set_option maxRecDepth 100000 in
theorem implSchemaText_any (fs : List (ByteArray × Int)) (hl : fs.length ≤ 1048576) (hn : ∀ f ∈ fs, f.1.size ≤ 1048576) (v : Value) (w : World) (hr : RowAt w 2 v fs.length (flds fs)) :
    Calls Try.prog 21 #[v] w fun e w' => e = .returned (.tuple #[.string (schemaO fs), .bool (schemaOkB fs)]) ∧ Below w.heap.size w w' := by
  obtain ⟨i0, hi, hz0, hz1, hz2⟩ := info_parts Try.infoByte
  have HS := hide (fun wx h => implSchemaOk_any fs hl hn v wx h)
  have HRv := hide hr
  obtain ⟨-, a, cap, rfl, h2⟩ := hr
  have HR := hide h2
  clear h2 hn
  cases hok : schemaOkB fs with
  | false =>
    rw [hok] at HS
    have HO : Hid (schemaO fs = ⟨#[]⟩) := hide (by rw [schemaO, hok]; rfl)
    clear hok
    go_enter Try.func21, Try.ntmps21
    go_wp2_with fail
    refine (HS.out _ HRv.out).mono ?_
    rintro e w1 ⟨rfl, hb⟩
    go_wp2_with fail
    go_ret2
    rw [HO.out]
    exact ⟨rfl, hb⟩
  | true =>
    rw [hok] at HS
    have HOk := hide hok
    have HY := hide (schema_yes hok)
    have HO : Hid (schemaO fs = schemaK fs fs.length) := hide (by rw [schemaO, hok]; rfl)
    clear hok
    go_enter Try.func21, Try.ntmps21
    go_wp2_with fail
    refine (HS.out _ HRv.out).mono ?_
    rintro e w1 ⟨rfl, hb⟩
    have HB1 := hide hb
    clear hb
    go_wp2_with fail
    have HB1a : Hid (Below w.heap.size w (w1.alloc (Obj.cells #[] 5))) := hide (HB1.out.alloc HB1.out.size _)
    have HOw : Hid ((w1.alloc (Obj.cells #[] 5)).ownsRow w.heap.size 5 1 (.slice (some ⟨w1.heap.size, 0, none⟩) 0 0) ([] : List UInt8).length (Lib.byteCells [])) := hide (own_down (own_lit0 w1) HB1.out.size)
    go_loopg [4, 15] fs.length (fun g sv iv wr => ∃ k : Nat, k ≤ fs.length ∧ iv = .int .i64 (k : Int) ∧ g + k = fs.length ∧ wr.ownsRow w.heap.size 5 1 sv (schemaK fs k).data.toList.length (Lib.byteCells (schemaK fs k).data.toList) ∧ Hid (Below w.heap.size w wr))
    case atStart => exact ⟨0, Nat.zero_le _, rfl, rfl, HOw.out, HB1a⟩
    case round =>
      obtain ⟨k, hk, rfl, hg, hown, HB⟩ := hrel
      have HG := hide hg
      clear hg
      have hsz : (schemaK fs k).data.toList.length ≤ 100 := by have h1 := schemaK_size HOk.out k hk; have h3 := HY.out.2.1; rw [ba_len]; omega
      by_cases hlf : k < fs.length
      · rcases HR.out with h0 | ⟨b, off, rfl, hbl, hc⟩
        · omega
        · obtain ⟨y, hy⟩ : ∃ y, y = fs[k].1 := ⟨_, rfl⟩
          have hkd := (HY.out.2.2 k hlf).2
          have hy4 : y.size ≤ 4 := by rw [hy]; exact (HY.out.2.2 k hlf).1
          obtain ⟨qn, hqn, hq⟩ : ∃ qn : Nat, (qn : Int) = fs[k].2 ∧ qn < 256 := by
            rcases hkd with h | h
            · exact ⟨1, h.symm, by omega⟩
            · exact ⟨2, h.symm, by omega⟩
          have hc0 : wr.cell? ⟨b, off + k * 2, none⟩ = some (.string y) := by rw [HB.out.cell (by exact hbl), hc (k * 2) (by omega), (flds_at fs k hlf).1, hy]
          have hc1 : wr.cell? ⟨b, off + k * 2 + 1, none⟩ = some (.int .i64 (qn : Int)) := by rw [HB.out.cell (by exact hbl), Nat.add_assoc, hc (k * 2 + 1) (by omega), (flds_at fs k hlf).2, hqn]
          have HV := hide (implShortText_yes y (by omega))
          obtain ⟨z, hz⟩ : ∃ z : ByteArray, z = ⟨(vtext y.size).toArray⟩ ++ y := ⟨_, rfl⟩
          have hzs : z.size ≤ 9 := by have := shortB_size y; rw [hz]; rw [shortB] at this; omega
          obtain ⟨l, hl3⟩ : ∃ l, l = (schemaK fs k).data.toList := ⟨_, rfl⟩
          have HK2 : Hid ((schemaK fs (k + 1)).data.toList = l ++ [UInt8.ofNat qn] ++ z.data.toList) := hide (by
            rw [schemaK_succ hlf, ← hqn, ← hy, hl3, hz, shortB, byteT, Int.toNat_natCast]
            simp [ByteArray.data_append])
          rw [← hz] at HV
          rw [← hl3] at hown hsz
          obtain ⟨wa, hwa⟩ : ∃ wa, wa = wr.alloc (Obj.cells #[.string y, .int .i64 (qn : Int)] 48) := ⟨_, rfl⟩
          have hblk : wa.heap[wr.heap.size]? = some (Obj.cells #[.string y, .int .i64 (qn : Int)] 48) := by rw [hwa]; exact heap_alloc_new wr _
          have HWb : Hid (Below wr.heap.size wr wa) := hide (by rw [hwa]; exact (Below.refl _ _).alloc (Nat.le_refl _) _)
          have HBk := hide hblk
          have hf0 : wa.cell? ⟨wr.heap.size, 0, none⟩ = some (.string y) := (cell_at hblk 0).1
          have hk0 : (0 : Int) ≤ (k : Int) := by omega
          have hk1 : (k : Int) < (fs.length : Int) := by omega
          have HOn := hide hown
          clear hc hqn hy hblk hz hl3 hkd hown
          go_wp2_with fail
          rw [← hwa]
          clear hwa hc0 hc1
          refine (HV.out _).mono ?_
          rintro e w2 ⟨rfl, hb2⟩
          have hbx : Below wr.heap.size wr w2 := HWb.out.trans (hb2.mono HWb.out.size)
          have hown2 := own_stays HOn.out hbx
          have HBx : Hid (Below w.heap.size w w2) := hide (HB.out.trans (hbx.mono HB.out.size))
          have hBs := HBx.out.size
          have hf1 : w2.cell? ⟨wr.heap.size, 1, none⟩ = some (.int .i64 (qn : Int)) := (cell_at ((hb2.block _ (Array.getElem?_eq_some_iff.1 HBk.out).1).trans HBk.out) 1).1
          have hwq : IntKind.u8.wrap (qn : Int) = (qn : Int) := wrapByte qn qn (by omega)
          clear hb2 hf0 hbx
          go_wp2_with (at_builtin; refine wpList_append_own _ rfl _ _ 22 rfl w.heap.size 5 i0 (.int .u8 0) 1 1 Try.underlying22 hi hz0 hz1 hz2 rfl (by decide) _ _ _ rfl (hown2.alloc _) ⟨w2.heap.size, 0, none⟩ 1 1 [.int .u8 (qn : Int)] rfl rfl ?c1 ?c2 ?c3 ?c4 ?c5 ?_)
          case c1 => exact one_cell _ _
          case c2 => intro u hu; simp at hu; subst hu; rfl
          case c3 => unfold maxLen; omega
          case c4 => omega
          case c5 => simp; omega
          intro v' w3 hown3 hgrow _
          have HB3 : Hid (Below w.heap.size w w3) := hide (below_app hBs HBx.out hown2 hgrow)
          have hBs3 := HB3.out.size
          have hown4 : w3.ownsRow w.heap.size 5 1 v' (l ++ [UInt8.ofNat qn]).length (Lib.byteCells (l ++ [UInt8.ofNat qn])) := by
            rw [← cells_snoc l qn hq, List.length_append]
            exact hown3
          have hl1 : (l ++ [UInt8.ofNat qn]).length ≤ 101 := by rw [List.length_append]; simp; omega
          obtain ⟨m, hm⟩ : ∃ m, m = l ++ [UInt8.ofNat qn] := ⟨_, rfl⟩
          rw [← hm] at HK2 hown4 hl1
          clear hown3 hgrow hown2 hm hwq hf1
          go_wp2_with (at_builtin; refine Lib.wpList_append_own_string _ rfl _ _ 22 9 rfl w.heap.size 5 i0 Try.underlying22 Try.underlying9 hi hz0 hz1 hz2 _ _ _ rfl hown4 z rfl ?d1 ?d2 hBs3 ?_)
          case d1 => unfold maxLen; omega
          case d2 => omega
          intro v5 w5 hown5 hgrow5 _
          have HB5 : Hid (Below w.heap.size w w5) := hide (below_grow HB3.out hBs3 hown4 (Below.refl _ _) hgrow5)
          have hown6 : w5.ownsRow w.heap.size 5 1 v5 (schemaK fs (k + 1)).data.toList.length (Lib.byteCells (schemaK fs (k + 1)).data.toList) := by
            rw [HK2.out, List.length_append, ba_len z, ← cells_str]
            exact hown5
          clear hown5 hgrow5 hown4
          go_wp2_with fail
          go_roundg (gk - 1)
          case measure => have := HG.out; omega
          case rel => exact ⟨k + 1, by omega, by go_num, by have := HG.out; omega, hown6, HB5⟩
      · obtain rfl : k = fs.length := by omega
        have hcv := string_own (dst := 9) (src := 22) Try.underlying22 Try.underlying5 Try.underlying9 hown
        have HO2 : Hid (schemaO fs = ⟨(schemaK fs fs.length).data.toList.toArray⟩) := hide HO.out
        clear hown
        go_wp2_with fail
        go_ret2
        rw [HO2.out]
        exact ⟨rfl, HB.out⟩
end Go.Proofs.Ytjldcbnoomcloaa
