/-
  spec.SchemaText by a contract.
-/
import Derived.Test.YtjldcbnoomcloaaThingSpec3
import Derived.Test.YtjldcbnoomcloaaStepCall
import Derived.Deep.RegionLaw
namespace Go.Proofs.Ytjldcbnoomcloaa
open Go.RowKit

theorem wrapByte (a b : Nat) (h : b = a % 256) : IntKind.u8.wrap (a : Int) = (b : Int) := by
  subst h
  simp [IntKind.wrap, IntKind.signed, IntKind.bits]

/-- one byte as a text -/
def byteT (q : Int) : ByteArray := ⟨#[UInt8.ofNat q.toNat]⟩

/-- the bytes of the first k fields -/
def schemaK (fs : List (ByteArray × Int)) : Nat → ByteArray
  | 0 => ⟨#[]⟩
  | k + 1 => schemaK fs k ++ byteT (fs.getD k (⟨#[]⟩, 0)).2 ++ shortB (fs.getD k (⟨#[]⟩, 0)).1

theorem schemaK_succ {fs : List (ByteArray × Int)} {k : Nat} (hf : k < fs.length) : schemaK fs (k + 1) = schemaK fs k ++ byteT fs[k].2 ++ shortB fs[k].1 := by
  rw [schemaK]; simp [List.getD, hf]

theorem schema_yes {fs : List (ByteArray × Int)} (h : schemaOkB fs = true) : 1 ≤ fs.length ∧ fs.length ≤ 3 ∧ ∀ i (hf : i < fs.length), fs[i].1.size ≤ 4 ∧ (fs[i].2 = 1 ∨ fs[i].2 = 2) := by
  rw [schemaOkB] at h
  simp only [Bool.and_eq_true, decide_eq_true_eq] at h
  obtain ⟨⟨h1, -⟩, h3⟩ := h
  refine ⟨h3.1, h3.2, fun i hf => ?_⟩
  rw [List.all_eq_true] at h1
  have := h1 _ (List.getElem_mem hf)
  rw [fieldB, wordB, Bool.and_eq_true, Bool.and_eq_true, decide_eq_true_eq, decide_eq_true_eq, decide_eq_true_eq] at this
  exact ⟨this.1.2.2, by omega⟩

theorem schemaK_size {fs : List (ByteArray × Int)} (h : schemaOkB fs = true) (k : Nat) (hk : k ≤ fs.length) : (schemaK fs k).size ≤ 10 * k := by
  obtain ⟨-, -, h4⟩ := schema_yes h
  induction k with
  | zero => exact Nat.le_refl _
  | succ k ih =>
    have h1 := ih (by omega)
    have h2 := (h4 k (by omega)).1
    have h3 := shortB_size fs[k].1
    have h5 : (byteT fs[k].2).size = 1 := rfl
    rw [schemaK_succ (by omega), ByteArray.size_append, ByteArray.size_append]
    omega

def schemaO (fs : List (ByteArray × Int)) : ByteArray := if schemaOkB fs = true then schemaK fs fs.length else ⟨#[]⟩

theorem own1 (w : World) (a : Nat) (ha : a < 256) : (w.alloc (Obj.cells #[.int .u8 (a : Int)] 5)).ownsRow w.heap.size 5 1 (.slice (some ⟨w.heap.size, 0, none⟩) 1 1) [UInt8.ofNat a].length (Lib.byteCells [UInt8.ofNat a]) := by
  have h := World.ownsRow_lit (base := w.heap.size) (e := 5) (size := 1) w #[.int .u8 (a : Int)] 1 (Nat.le_refl _) (by unfold maxLen; omega) rfl
  have e : Lib.byteCells [UInt8.ofNat a] = [.int .u8 (a : Int)] := by simp only [Lib.byteCells, List.map_cons, List.map_nil, toNat_ofNat8 _ ha]
  rw [e]
  exact h

theorem byte_text (w : World) (a : Nat) (ha : a < 256) : (convert 22 9 (.slice (some ⟨w.heap.size, 0, none⟩) 1 1)).run Try.prog (w.alloc (Obj.cells #[.int .u8 (a : Int)] 5)) = .ok (.string (byteT (a : Int))) (w.alloc (Obj.cells #[.int .u8 (a : Int)] 5)) :=
  string_own (P := Try.prog) Try.underlying22 Try.underlying5 Try.underlying9 (own1 w a ha)

theorem byte_text2 (w w2 : World) (a : Nat) (ha : a < 256) (hb : Below (w.alloc (Obj.cells #[.int .u8 (a : Int)] 5)).heap.size (w.alloc (Obj.cells #[.int .u8 (a : Int)] 5)) w2) : (convert 22 9 (.slice (some ⟨w.heap.size, 0, none⟩) 1 1)).run Try.prog w2 = .ok (.string (byteT (a : Int))) w2 :=
  string_own (P := Try.prog) Try.underlying22 Try.underlying5 Try.underlying9 (own_stays (own1 w a ha) hb)

set_option maxHeartbeats 4000000 in
set_option maxRecDepth 100000 in
theorem specSchemaText_any (fs : List (ByteArray × Int)) (hl : fs.length ≤ 1048576) (hn : ∀ f ∈ fs, f.1.size ≤ 1048576) (v : Value) (w : World) (hr : RowAt w 2 v fs.length (flds fs)) :
    Calls Try.prog 46 #[v] w fun e w' => e = .returned (.tuple #[.string (schemaO fs), .bool (schemaOkB fs)]) ∧ Below w.heap.size w w' := by
  have HS := hide (fun wx h => specSchemaOk_any fs hl hn v wx h)
  have HRv := hide hr
  obtain ⟨-, a, cap, rfl, h2⟩ := hr
  have HR := hide h2
  clear h2 hn
  cases hok : schemaOkB fs with
  | false =>
    rw [hok] at HS
    have HO : Hid (schemaO fs = ⟨#[]⟩) := hide (by rw [schemaO, hok]; rfl)
    clear hok
    go_enter Try.func46, Try.ntmps46
    go_wp2_with fail
    refine (HS.out _ HRv.out).mono ?_
    rintro e w1 ⟨rfl, hb⟩
    go_wp2_with fail
    go_ret2
    rw [HO.out]
    exact ⟨rfl, hb⟩
  | true =>
    rw [hok] at HS
    have HOk := hide hok
    have HY := hide (schema_yes hok)
    have HO : Hid (schemaO fs = schemaK fs fs.length) := hide (by rw [schemaO, hok]; rfl)
    clear hok
    go_enter Try.func46, Try.ntmps46
    go_wp2_with fail
    refine (HS.out _ HRv.out).mono ?_
    rintro e w1 ⟨rfl, hb⟩
    have HB1 := hide hb
    clear hb
    go_wp2_with fail
    go_loopg [4, 5] fs.length (fun g sv iv wr => ∃ k : Nat, k ≤ fs.length ∧ sv = .string (schemaK fs k) ∧ iv = .int .i64 (k : Int) ∧ g + k = fs.length ∧ Hid (Below w.heap.size w wr))
    case atStart => exact ⟨0, Nat.zero_le _, rfl, rfl, rfl, HB1⟩
    case round =>
      obtain ⟨k, hk, rfl, rfl, hg, HB⟩ := hrel
      have HG := hide hg
      clear hg
      by_cases hlt : k < fs.length
      · rcases HR.out with h0 | ⟨b, off, rfl, hbl, hc⟩
        · omega
        · obtain ⟨x, hx⟩ : ∃ x, x = fs[k].1 := ⟨_, rfl⟩
          have hkd := (HY.out.2.2 k hlt).2
          obtain ⟨qn, hqn, hq⟩ : ∃ qn : Nat, (qn : Int) = fs[k].2 ∧ qn < 256 := by
            rcases hkd with h | h
            · exact ⟨1, h.symm, by omega⟩
            · exact ⟨2, h.symm, by omega⟩
          have hc0 : wr.cell? ⟨b, off + k * 2, none⟩ = some (.string x) := by rw [HB.out.cell (by exact hbl), hc (k * 2) (by omega), (flds_at fs k hlt).1, hx]
          have hc1 : wr.cell? ⟨b, off + k * 2 + 1, none⟩ = some (.int .i64 (qn : Int)) := by rw [HB.out.cell (by exact hbl), Nat.add_assoc, hc (k * 2 + 1) (by omega), (flds_at fs k hlt).2, hqn]
          have hx4 : x.size ≤ 4 := by rw [hx]; exact (HY.out.2.2 k hlt).1
          have hsz : (schemaK fs k).size ≤ 100 := by have h1 := schemaK_size HOk.out k hk; have h2 := HY.out.2.1; omega
          have HK : Hid (schemaK fs (k + 1) = schemaK fs k ++ byteT (qn : Int) ++ shortB x) := hide (by rw [schemaK_succ hlt, hqn, hx])
          obtain ⟨s, hs⟩ : ∃ s, s = schemaK fs k := ⟨_, rfl⟩
          rw [← hs] at HK hsz ⊢
          have HV := hide (l04Short_any x (by omega))
          have hz5 := shortB_size x
          obtain ⟨z, hz⟩ : ∃ z, z = shortB x := ⟨_, rfl⟩
          rw [← hz] at HK HV hz5
          obtain ⟨kb, hkb⟩ : ∃ kb, kb = byteT (qn : Int) := ⟨_, rfl⟩
          have hkz : kb.size = 1 := by rw [hkb]; rfl
          have HT1 := hide (fun wx => byte_text wx qn hq)
          have HT2 := hide (fun wx w2 h => byte_text2 wx w2 qn hq h)
          rw [← hkb] at HK HT1 HT2
          have hT := HT2.out wr (wr.alloc (Obj.cells #[.int .u8 (qn : Int)] 5)).drew (Below.refl _ _).drew
          have hm : IntKind.u8.wrap (qn : Int) = (qn : Int) := wrapByte _ _ (by omega)
          have hs1 : ¬ 9223372036854775807 < s.size + 1 := by omega
          have hs2 : ¬ 9223372036854775807 < s.size + 1 + z.size := by omega
          have hbw : b < wr.heap.size := Nat.lt_of_lt_of_le hbl HB.out.size
          have hk0 : (0 : Int) ≤ (k : Int) := by omega
          have hk1 : (k : Int) < (fs.length : Int) := by omega
          have ca0 : ∀ o, (wr.alloc o).drew.cell? ⟨b, off + k * 2, none⟩ = some (.string x) := fun o => (((Below.refl wr.heap.size wr).alloc (Nat.le_refl _) o).drew.cell (by exact hbw)).trans hc0
          have ca1 : ∀ o, (wr.alloc o).drew.cell? ⟨b, off + k * 2 + 1, none⟩ = some (.int .i64 (qn : Int)) := fun o => (((Below.refl wr.heap.size wr).alloc (Nat.le_refl _) o).drew.cell (by exact hbw)).trans hc1
          clear hc hx hkd hqn hs hz hkb
          go_wp2_with fail
          go_region_law (first | (refine step_call1 _ ?_ 92 Try.f92 Try.func92 ?_ ?_ (.tmp 29) #[9] ?_ (.string x) ?_ _ (HV.out (wr.alloc (Obj.cells #[.int .u8 (qn : Int)] 5)).drew) ?_; exact rfl; decide; exact Option.some_ne_none _; exact rfl; exact rfl; rintro e w2 ⟨rfl, hb2⟩; refine ⟨_, rfl, ?_⟩; have hT2 := HT2.out wr w2 ((Below.refl _ _).drew.trans hb2); have hb3 : Below wr.heap.size wr w2 := ((Below.refl _ _).alloc (Nat.le_refl _) _).drew.trans (hb2.mono (by show _ ≤ (wr.alloc _).heap.size; simp)); have ce0 : w2.cell? ⟨b, off + k * 2, none⟩ = some (.string x) := (hb3.cell (by exact hbw)).trans hc0; have ce1 : w2.cell? ⟨b, off + k * 2 + 1, none⟩ = some (.int .i64 (qn : Int)) := (hb3.cell (by exact hbw)).trans hc1) | (refine step_call1 _ ?_ 92 Try.f92 Try.func92 ?_ ?_ (.tmp 29) #[9] ?_ (.string x) ?_ _ (HV.out wr.drew) ?_; exact rfl; decide; exact Option.some_ne_none _; exact rfl; exact rfl; rintro e w2 ⟨rfl, hb2⟩; refine ⟨_, rfl, ?_⟩; have hT3 := HT1.out w2; have hb3 : Below wr.heap.size wr w2 := (Below.refl _ _).drew.trans hb2; have ce0 : w2.cell? ⟨b, off + k * 2, none⟩ = some (.string x) := (hb3.cell (by exact hbw)).trans hc0; have ce1 : w2.cell? ⟨b, off + k * 2 + 1, none⟩ = some (.int .i64 (qn : Int)) := (hb3.cell (by exact hbw)).trans hc1))
          all_goals
            have HB3 := hide (HB.out.trans (hb3.mono HB.out.size))
            have HZ3 : Hid (w.heap.size ≤ w2.heap.size) := hide (Nat.le_trans HB.out.size hb3.size)
            clear hb2 hb3 ce0 ce1 hc0 hc1 ca0 ca1 hT hm
            try clear hT2
            try clear hT3
            go_wp2_with fail
            go_roundg (gk - 1)
            case measure => have := HG.out; omega
            case rel => exact ⟨k + 1, by omega, by rw [HK.out], by go_num, by have := HG.out; omega, hide (by first | exact HB3.out | exact HB3.out.alloc HZ3.out _)⟩
      · obtain rfl : k = fs.length := by omega
        go_wp2_with fail
        go_ret2
        rw [HO.out]
        exact ⟨rfl, HB.out⟩
end Go.Proofs.Ytjldcbnoomcloaa
