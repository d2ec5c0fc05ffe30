/-
  The program's ReadSchema by a contract: it answers the right schema whose bytes these are, or none.
-/
import Derived.Test.YtjldcbnoomcloaaReadSpec2
import Derived.Test.YtjldcbnoomcloaaImplThing
namespace Go.Proofs.Ytjldcbnoomcloaa
open Go.RowKit

set_option maxHeartbeats 4000000 in
set_option maxRecDepth 100000 in
theorem implReadSchema_any (t : ByteArray) (ht : t.size ≤ 1048576) (w : World) :
    Calls Try.prog 22 #[.string t] w fun e w' => ∃ v fs ok, e = .returned (.tuple #[v, .bool ok]) ∧ w'.ownsRow w.heap.size 48 2 v fs.length (flds fs) ∧ ReadSch t fs ok ∧ Below w.heap.size w w' := by
  obtain ⟨i0, hi, hz0, hz1, hz2⟩ := info_parts Try.infoFld
  have HOw := hide (own_flds0 w w.heap.size (Nat.le_refl _))
  have HB0 : Hid (∀ o, Below w.heap.size w (w.alloc o)) := hide (fun o => (Below.refl w.heap.size w).alloc (Nat.le_refl _) _)
  go_enter Try.func22, Try.ntmps22
  go_wp2_with fail
  go_loopg [4, 5] t.size (fun r ov pv wr => ∃ (fs : List (ByteArray × Int)) (p : Nat), fs.length ≤ 3 ∧ p ≤ t.size ∧ pv = .int .i64 (p : Int) ∧ r + p = t.size ∧ wr.ownsRow w.heap.size 48 2 ov fs.length (flds fs) ∧ Hid (Below w.heap.size w wr) ∧ Hid (SchTry t fs p ∧ SchHas t fs p))
  case atStart => exact ⟨[], 0, by simp, by omega, rfl, by omega, HOw.out, hide (HB0.out _), hide ⟨schTry_nil t, schHas_nil t⟩⟩
  case round =>
    obtain ⟨fs, p, hfl, hp, rfl, hgk, hown, HB, HT⟩ := hrel
    have HG := hide hgk
    have HOn := hide hown
    have hws := HB.out.size
    obtain ⟨a, cap, hov⟩ : ∃ a cap, u4 = .slice a fs.length cap := by obtain ⟨-, a, cap, e, -⟩ := row_of_own hown; exact ⟨a, cap, e⟩
    subst hov
    clear hgk hown
    by_cases h1 : p < t.size
    · have HC := hide (implReadShort_rd t ht (p + 1))
      have hcast : ((p + 1 : Nat) : Int) = (p : Int) + 1 := by omega
      rw [hcast] at HC
      cases ho : rdS t (p + 1) with
      | none =>
        rw [ho, tupS] at HC
        have HNo : Hid (∀ gs, ¬ IsSch t gs) := hide (schTry_none HT.out.1 h1 ho)
        clear ho
        go_wp2_with fail
        refine (HC.out _).mono ?_
        rintro e w2 ⟨rfl, hb2⟩
        have HB2 : Hid (Below w.heap.size w w2) := hide (HB.out.trans (hb2.mono HB.out.size))
        clear hb2
        go_wp2_with fail
        go_ret2
        exact ⟨_, [], false, rfl, own_flds0 _ _ HB2.out.size, Or.inr ⟨rfl, rfl, HNo.out⟩, HB2.out.alloc HB2.out.size _⟩
      | some r =>
        obtain ⟨x, q⟩ := r
        rw [ho, tupS] at HC
        obtain ⟨k1, k2, -, -⟩ := rdS_back ho
        by_cases h3 : fs.length = 3
        · have HNo : Hid (∀ gs, ¬ IsSch t gs) := hide (schTry_full HT.out.1 h1 (by omega))
          have d3 : ((fs.length : Int) == 3) = true := by rw [h3]; rfl
          clear ho
          go_wp2_with fail
          refine (HC.out _).mono ?_
          rintro e w2 ⟨rfl, hb2⟩
          have HB2 : Hid (Below w.heap.size w w2) := hide (HB.out.trans (hb2.mono HB.out.size))
          clear hb2
          go_wp2_with fail
          go_ret2
          exact ⟨_, [], false, rfl, own_flds0 _ _ HB2.out.size, Or.inr ⟨rfl, rfl, HNo.out⟩, HB2.out.alloc HB2.out.size _⟩
        · have d3 : ((fs.length : Int) == 3) = false := by simp; omega
          have d3' : decide (fs.length = 3) = false := by simp; omega
          obtain ⟨y, hy⟩ : ∃ y, y = byt t p := ⟨_, rfl⟩
          have hyb : y < 256 := by rw [hy]; exact byt_lt t _
          have hs1 : t[p].toNat = y := by rw [hy]; exact byt_eq t _ h1
          have HT2 : Hid (SchTry t (fs ++ [(x, (y : Int))]) q ∧ SchHas t (fs ++ [(x, (y : Int))]) q) := hide (by rw [hy]; exact ⟨schTry_some HT.out.1 h1 ho, schHas_some HT.out.2 h1 ho⟩)
          have hp0 : (0 : Int) ≤ (p : Int) := by omega
          have hp1 : (p : Int) < (t.size : Int) := by omega
          clear ho hy
          go_wp2_with fail
          refine (HC.out _).mono ?_
          rintro e w2 ⟨rfl, hb2⟩
          have HB2 : Hid (Below w.heap.size w w2) := hide (HB.out.trans (hb2.mono HB.out.size))
          have HO2 := hide (own_stays HOn.out hb2)
          have hws2 := HB2.out.size
          clear hb2
          go_wp2_with (at_builtin; (refine wpList_append_row _ rfl _ _ 24 rfl w.heap.size 48 i0 (.agg #[.string ⟨#[]⟩, .int .i64 0]) 2 24 Try.underlying24 hi hz0 hz1 hz2 rfl (by decide) _ _ _ rfl (HO2.out.alloc _) _ 1 (flds [(x, (y : Int))]) rfl (fld_new w2 x (y : Int)) (flds_one _) ?_ ?_ ?_ ?_))
          · unfold maxLen; omega
          · omega
          · simp; omega
          intro y6 d6 w6 hown6 hg6
          have hown7 : w6.ownsRow w.heap.size 48 2 (.slice y6 (fs.length + 1) d6) (fs ++ [(x, (y : Int))]).length (flds (fs ++ [(x, (y : Int))])) := by
            rw [← flds_snoc, List.length_append]
            exact hown6
          have HB6 : Hid (Below w.heap.size w w6) := hide ((HB2.out.alloc hws2 _).grown hg6 (by simp; omega) (fun k hk => (HO2.out.lt k hk).1))
          clear hown6 hg6
          go_wp2_with fail
          go_roundg (gk - (q - p))
          case measure => have := HG.out; omega
          case rel => exact ⟨fs ++ [(x, (y : Int))], q, by simp; omega, k2, rfl, by have := HG.out; omega, hown7, HB6, HT2⟩
    · have HE : Hid (∀ gs, IsSch t gs → gs = fs) := hide (schTry_end HT.out.1 (by omega))
      have HTx : Hid (schT fs = t) := hide (by rw [HT.out.2.2.1, extract_all t p (by omega)])
      have HSp := hide (implSchemaOk_any fs (by omega) (fun f hf => Nat.le_trans (HT.out.2.2.2 f hf) (by omega)) (.slice a fs.length cap) wr (row_of_own HOn.out))
      cases hok : schemaOkB fs with
      | false =>
        rw [hok] at HSp
        have HNo : Hid (∀ gs, ¬ IsSch t gs) := hide (fun gs hg => by
          have := HE.out gs hg
          subst this
          rw [hg.1] at hok; cases hok)
        clear hok
        go_wp2_with fail
        refine HSp.out.mono ?_
        rintro e w2 ⟨rfl, hb2⟩
        have HB2 : Hid (Below w.heap.size w w2) := hide (HB.out.trans (hb2.mono HB.out.size))
        clear hb2
        go_wp2_with fail
        go_ret2
        exact ⟨_, [], false, rfl, own_flds0 _ _ HB2.out.size, Or.inr ⟨rfl, rfl, HNo.out⟩, HB2.out.alloc HB2.out.size _⟩
      | true =>
        rw [hok] at HSp
        have HYs : Hid (IsSch t fs) := hide ⟨hok, HTx.out⟩
        clear hok
        go_wp2_with fail
        refine HSp.out.mono ?_
        rintro e w2 ⟨rfl, hb2⟩
        have HB2 : Hid (Below w.heap.size w w2) := hide (HB.out.trans (hb2.mono HB.out.size))
        have HO2 := hide (own_stays HOn.out hb2)
        clear hb2
        go_wp2_with fail
        go_ret2
        exact ⟨_, fs, true, rfl, HO2.out, Or.inl ⟨rfl, HYs.out, HE.out⟩, HB2.out⟩

/-- the program's value, its place behind it, and whether it is one -/
def tupVal : Option ((Int × ByteArray) × Nat) → Value
  | some (u, q) => .tuple #[.agg #[.int .i64 u.1, .string u.2], .int .i64 (q : Int), .bool true]
  | none => .tuple #[.agg #[.int .i64 0, .string ⟨#[]⟩], .int .i64 0, .bool false]

theorem two_sets {w : World} {g : Nat} {a b u0 u1 : Value} {T : TypeId} (h : w.heap[g]? = some (.cells #[a, b] T (0, 0))) : ((w.setCell ⟨g, 0, none⟩ u0).setCell ⟨g, 1, none⟩ u1).heap[g]? = some (.cells #[u0, u1] T (0, 0)) :=
  heap_setCell_same (w.setCell ⟨g, 0, none⟩ u0) g 1 _ _ _ (heap_setCell_same w g 0 _ _ _ h)

set_option maxHeartbeats 1000000 in
set_option maxRecDepth 100000 in
theorem readValue_any (kind : Int) (t : ByteArray) (ht : t.size ≤ 1048576) (p : Nat) (w : World) :
    Calls Try.prog 80 #[.int .i64 kind, .string t, .int .i64 (p : Int)] w fun e w' => e = .returned (tupVal (rdVal kind t p)) ∧ Below w.heap.size w w' := by
  obtain ⟨w0, hw0⟩ : ∃ w0, w0 = w.alloc (Obj.cells #[.int .i64 0, .string ⟨#[]⟩] 50) := ⟨_, rfl⟩
  have HB : Hid (Below w.heap.size w w0) := hide (by rw [hw0]; exact (Below.refl w.heap.size w).alloc (Nat.le_refl _) _)
  have HBk : Hid (w0.heap[w.heap.size]? = some (Obj.cells #[.int .i64 0, .string ⟨#[]⟩] 50)) := hide (by rw [hw0]; exact heap_alloc_new w _)
  by_cases hk : kind = 1
  · subst hk
    have HC := hide (implReadVar_rd t ht p)
    rw [rdVal, if_pos rfl]
    cases ho : rdV t p with
    | none =>
      rw [ho, tupV] at HC
      simp only [Option.map_none, tupVal]
      clear ho
      go_enter Try.func80, Try.ntmps80
      go_wp2_with fail
      rw [← hw0]
      refine (HC.out _).mono ?_
      rintro e w1 ⟨rfl, hb1⟩
      have hblk1 := (hb1.block _ (Array.getElem?_eq_some_iff.1 HBk.out).1).trans HBk.out
      have hfin := two_sets (u0 := .int .i64 0) (u1 := .string ⟨#[]⟩) hblk1
      have z0 := (cell_at hfin 0).1
      have z1 := (cell_at hfin 1).1
      have HZ := hide (⟨z0, z1⟩ : _ ∧ _)
      have r0 : w1.cell? ⟨w.heap.size, 0, none⟩ = some (.int .i64 0) := (cell_at hblk1 0).1
      have r1 : w1.cell? ⟨w.heap.size, 1, none⟩ = some (.string ⟨#[]⟩) := (cell_at hblk1 1).1
      have q0 := (cell_at hblk1 0).2
      have q1 := (cell_at hblk1 1).2
      have HB1 : Hid (Below w.heap.size w w1) := hide (HB.out.trans (hb1.mono HB.out.size))
      clear hw0 hfin z0 z1 hblk1 hb1
      go_wp2_with fail
      have z0 := HZ.out.1
      have z1 := HZ.out.2
      exact bodyPost_ret (v := .tuple #[.agg #[.int .i64 0, .string ⟨#[]⟩], .int .i64 0, .bool false]) (by simp [results, Try.results80, go_sem, z0, z1]) rfl ⟨rfl, (HB1.out.setCell (Nat.le_refl _) _).setCell (Nat.le_refl _) _⟩
    | some r =>
      obtain ⟨n, q⟩ := r
      rw [ho, tupV] at HC
      simp only [Option.map_some, tupVal]
      clear ho
      go_enter Try.func80, Try.ntmps80
      go_wp2_with fail
      rw [← hw0]
      refine (HC.out _).mono ?_
      rintro e w1 ⟨rfl, hb1⟩
      have hblk1 := (hb1.block _ (Array.getElem?_eq_some_iff.1 HBk.out).1).trans HBk.out
      have hfin := two_sets (u0 := .int .i64 (n : Int)) (u1 := .string ⟨#[]⟩) hblk1
      have z0 := (cell_at hfin 0).1
      have z1 := (cell_at hfin 1).1
      have HZ := hide (⟨z0, z1⟩ : _ ∧ _)
      have r0 : w1.cell? ⟨w.heap.size, 0, none⟩ = some (.int .i64 0) := (cell_at hblk1 0).1
      have r1 : w1.cell? ⟨w.heap.size, 1, none⟩ = some (.string ⟨#[]⟩) := (cell_at hblk1 1).1
      have q0 := (cell_at hblk1 0).2
      have q1 := (cell_at hblk1 1).2
      have HB1 : Hid (Below w.heap.size w w1) := hide (HB.out.trans (hb1.mono HB.out.size))
      clear hw0 hfin z0 z1 hblk1 hb1
      go_wp2_with fail
      have z0 := HZ.out.1
      have z1 := HZ.out.2
      exact bodyPost_ret (v := .tuple #[.agg #[.int .i64 (n : Int), .string ⟨#[]⟩], .int .i64 (q : Int), .bool true]) (by simp [results, Try.results80, go_sem, z0, z1]) rfl ⟨rfl, (HB1.out.setCell (Nat.le_refl _) _).setCell (Nat.le_refl _) _⟩
  · have HC := hide (implReadShort_rd t ht p)
    have d1 : (kind == 1) = false := by simp [hk]
    have d2 : decide (kind = 1) = false := by simp [hk]
    rw [rdVal, if_neg hk]
    clear hk
    cases ho : rdS t p with
    | none =>
      rw [ho, tupS] at HC
      simp only [Option.map_none, tupVal]
      clear ho
      go_enter Try.func80, Try.ntmps80
      go_wp2_with fail
      rw [← hw0]
      refine (HC.out _).mono ?_
      rintro e w1 ⟨rfl, hb1⟩
      have hblk1 := (hb1.block _ (Array.getElem?_eq_some_iff.1 HBk.out).1).trans HBk.out
      have hfin := two_sets (u0 := .int .i64 0) (u1 := .string ⟨#[]⟩) hblk1
      have z0 := (cell_at hfin 0).1
      have z1 := (cell_at hfin 1).1
      have HZ := hide (⟨z0, z1⟩ : _ ∧ _)
      have r0 : w1.cell? ⟨w.heap.size, 0, none⟩ = some (.int .i64 0) := (cell_at hblk1 0).1
      have r1 : w1.cell? ⟨w.heap.size, 1, none⟩ = some (.string ⟨#[]⟩) := (cell_at hblk1 1).1
      have q0 := (cell_at hblk1 0).2
      have q1 := (cell_at hblk1 1).2
      have HB1 : Hid (Below w.heap.size w w1) := hide (HB.out.trans (hb1.mono HB.out.size))
      clear hw0 hfin z0 z1 hblk1 hb1
      go_wp2_with fail
      have z0 := HZ.out.1
      have z1 := HZ.out.2
      exact bodyPost_ret (v := .tuple #[.agg #[.int .i64 0, .string ⟨#[]⟩], .int .i64 0, .bool false]) (by simp [results, Try.results80, go_sem, z0, z1]) rfl ⟨rfl, (HB1.out.setCell (Nat.le_refl _) _).setCell (Nat.le_refl _) _⟩
    | some r =>
      obtain ⟨x, q⟩ := r
      rw [ho, tupS] at HC
      simp only [Option.map_some, tupVal]
      clear ho
      go_enter Try.func80, Try.ntmps80
      go_wp2_with fail
      rw [← hw0]
      refine (HC.out _).mono ?_
      rintro e w1 ⟨rfl, hb1⟩
      have hblk1 := (hb1.block _ (Array.getElem?_eq_some_iff.1 HBk.out).1).trans HBk.out
      have hfin := two_sets (u0 := .int .i64 0) (u1 := .string x) hblk1
      have z0 := (cell_at hfin 0).1
      have z1 := (cell_at hfin 1).1
      have HZ := hide (⟨z0, z1⟩ : _ ∧ _)
      have r0 : w1.cell? ⟨w.heap.size, 0, none⟩ = some (.int .i64 0) := (cell_at hblk1 0).1
      have r1 : w1.cell? ⟨w.heap.size, 1, none⟩ = some (.string ⟨#[]⟩) := (cell_at hblk1 1).1
      have q0 := (cell_at hblk1 0).2
      have q1 := (cell_at hblk1 1).2
      have HB1 : Hid (Below w.heap.size w w1) := hide (HB.out.trans (hb1.mono HB.out.size))
      clear hw0 hfin z0 z1 hblk1 hb1
      go_wp2_with fail
      have z0 := HZ.out.1
      have z1 := HZ.out.2
      exact bodyPost_ret (v := .tuple #[.agg #[.int .i64 0, .string x], .int .i64 (q : Int), .bool true]) (by simp [results, Try.results80, go_sem, z0, z1]) rfl ⟨rfl, (HB1.out.setCell (Nat.le_refl _) _).setCell (Nat.le_refl _) _⟩
end Go.Proofs.Ytjldcbnoomcloaa
