/-
  spec.ReadSchema by a contract: it answers the right schema whose bytes these are, or none.
-/
import Derived.Test.YtjldcbnoomcloaaReadSpec
import Derived.Test.YtjldcbnoomcloaaAppRow
namespace Go.Proofs.Ytjldcbnoomcloaa
open Go.RowKit

theorem flds_snoc (l : List (ByteArray × Int)) (f : ByteArray × Int) : flds l ++ flds [f] = flds (l ++ [f]) := by simp [flds]

theorem fld_new (w : World) (x : ByteArray) (q : Int) : RowAt (w.alloc (Obj.cells #[.string x, .int .i64 q] 48)) 2 (.slice (some ⟨w.heap.size, 0, none⟩) 1 1) 1 (flds [(x, q)]) := by
  refine ⟨rfl, _, _, rfl, Or.inr ⟨w.heap.size, 0, rfl, by simp, fun j hj => ?_⟩⟩
  rw [Nat.zero_add, (cell_at (heap_alloc_new w _) j).1]
  simp [flds]

theorem fld_at (w : World) (n : Nat) (hn : n = w.heap.size) (x : ByteArray) (q : Int) : RowAt (w.alloc (Obj.cells #[.string x, .int .i64 q] 48)) 2 (.slice (some ⟨n, 0, none⟩) 1 1) 1 (flds [(x, q)]) := by
  subst hn; exact fld_new w x q

theorem flds_one (l : List (ByteArray × Int)) : ∀ y ∈ flds l, y.oneCell' = true := fun y hy => by
  obtain ⟨p, _, hp⟩ := List.mem_flatMap.1 hy
  simp at hp
  rcases hp with rfl | rfl <;> rfl

theorem own_flds0 (w : World) (B : Nat) (hB : B ≤ w.heap.size) : (w.alloc (Obj.cells #[] 48)).ownsRow B 48 2 (.slice (some ⟨w.heap.size, 0, none⟩) 0 0) ([] : List (ByteArray × Int)).length (flds []) := by
  simpa [flds] using World.ownsRow_lit (base := B) (e := 48) (size := 2) w #[] 0 hB (by unfold maxLen; omega) (by simp)

/-- the next field, by the cursor -/
theorem sch_round {t : ByteArray} (ht : t.size ≤ 1048576) {fs : List (ByteArray × Int)} {p : Nat} (h : SchTry t fs p) (hp : p < t.size) (g : Nat) : ∃ (x : ByteArray) (q : Nat) (bad : Bool),
    (∀ wx, CurT wx g t (p + 1) false → Calls Try.prog 73 #[.pointer (some ⟨g, 0, none⟩)] wx fun e w' => e = .returned (.string x) ∧ CurT w' g t q bad ∧ wx.grownBy w' (some g)) ∧
    x.size ≤ 20000 ∧ q ≤ 1048576 ∧ SchTry t (fs ++ [(x, (byt t p : Int))]) q ∧ (bad = true → ∀ gs, ¬ IsSch t gs) := by
  cases ho : rdS t (p + 1) with
  | none =>
    have hn := schTry_none h hp ho
    exact ⟨⟨#[]⟩, p + 1, true, fun wx hc => l04ReadShort_bad g t ht (p + 1) false (Or.inr ho) wx hc, Nat.zero_le _, by omega, fun gs hg => absurd hg (hn gs), fun _ => hn⟩
  | some r =>
    obtain ⟨x, q⟩ := r
    obtain ⟨h1, h2, h3, -⟩ := rdS_back ho
    exact ⟨x, q, false, fun wx hc => l04ReadShort_good g t ht (p + 1) x q ho wx hc, h3, by omega, schTry_some h hp ho, fun e => by cases e⟩

theorem cur_moved {w : World} {g p : Nat} {t : ByteArray} {bad : Bool} (h : CurT w g t p bad) (o : Obj) : CurT ((w.setCell ⟨g, 1, none⟩ (.int .i64 ((p : Int) + 1))).alloc o) g t (p + 1) bad ∧ w.grownBy ((w.setCell ⟨g, 1, none⟩ (.int .i64 ((p : Int) + 1))).alloc o) (some g) ∧ ((w.setCell ⟨g, 1, none⟩ (.int .i64 ((p : Int) + 1))).alloc o).heap[w.heap.size]? = some o := by
  have hgl := curT_lt h
  have h1 : (w.setCell ⟨g, 1, none⟩ (.int .i64 ((p : Int) + 1))).heap[g]? = some (.cells #[.string t, .int .i64 ((p : Int) + 1), .bool bad] 84 (0, 0)) := heap_setCell_same w g 1 _ _ _ h
  refine ⟨(Below.heap_alloc _ o g (by simpa using hgl)).trans h1, grown_alloc (grown_setCell w g 1 _) o, ?_⟩
  have := heap_alloc_new (w.setCell ⟨g, 1, none⟩ (.int .i64 ((p : Int) + 1))) o
  simpa using this

theorem curT_grown {w w' : World} {g p : Nat} {t : ByteArray} {bad : Bool} {row : Option Nat} (h : CurT w g t p bad) (hg : w.grownBy w' row) (hne : some g ≠ row) : CurT w' g t p bad := (hg.block g (curT_lt h) hne).trans h

set_option maxHeartbeats 4000000 in
set_option maxRecDepth 100000 in
theorem specReadSchema_any (t : ByteArray) (ht : t.size ≤ 1048576) (w : World) :
    Calls Try.prog 24 #[.string t] w fun e w' => ∃ v fs ok, e = .returned (.tuple #[v, .bool ok]) ∧ w'.ownsRow w.heap.size 48 2 v fs.length (flds fs) ∧ ReadSch t fs ok ∧ Below w.heap.size w w' := by
  obtain ⟨i0, hi, hz0, hz1, hz2⟩ := info_parts Try.infoFld
  obtain ⟨w1, hw1⟩ : ∃ w1, w1 = w.alloc (Obj.cells #[.string t, .int .i64 0, .bool false] 84) := ⟨_, rfl⟩
  have hb1 : Below w.heap.size w w1 := by rw [hw1]; exact (Below.refl w.heap.size w).alloc (Nat.le_refl _) _
  have hs1 : w1.heap.size = w.heap.size + 1 := by rw [hw1]; simp
  have hcu : CurT w1 w.heap.size t 0 false := by rw [hw1]; exact heap_alloc_new w _
  have HSt : Hid (∀ o, CurT (w1.alloc o) w.heap.size t 0 false ∧ Below w.heap.size w (w1.alloc o)) := hide (fun o => ⟨(Below.heap_alloc w1 o w.heap.size (by omega)).trans hcu, hb1.alloc hb1.size _⟩)
  have hOw := own_flds0 w1 (w.heap.size + 1) (by omega)
  rw [hs1] at hOw
  have HOw := hide hOw
  clear hb1 hcu hOw hs1
  go_enter Try.func24, Try.ntmps24
  go_wp2_with fail
  rw [← hw1]
  clear hw1
  go_loopg [5] 4 (fun q ov wr => ∃ (fs : List (ByteArray × Int)) (p : Nat) (bad : Bool), fs.length ≤ 4 ∧ q + fs.length = 4 ∧ wr.ownsRow (w.heap.size + 1) 48 2 ov fs.length (flds fs) ∧ CurT wr w.heap.size t p bad ∧ Hid (Below w.heap.size w wr) ∧ p ≤ 1048576 ∧ Hid (∀ f ∈ fs, f.1.size ≤ 1048576) ∧ Hid (SchTry t fs p ∧ (bad = true → ∀ gs, ¬ IsSch t gs)))
  case atStart => exact ⟨[], 0, false, by simp, rfl, HOw.out, (HSt.out _).1, hide (HSt.out _).2, by omega, hide (fun f h => by simp at h), hide ⟨schTry_nil t, fun h => by cases h⟩⟩
  case round =>
    obtain ⟨fs, p, bad, hfl, hgk, hown, hcu, HB, hp, HN, HT⟩ := hrel
    have HG := hide hgk
    have HCu := hide hcu
    have HOn := hide hown
    have hgl := curT_lt hcu
    have c1 : wr.cell? ⟨w.heap.size, 1, none⟩ = some (.int .i64 (p : Int)) := (cell_at hcu 1).1
    have f1 := (cell_at hcu 1).2
    have c2 : wr.cell? ⟨w.heap.size, 2, none⟩ = some (.bool bad) := (cell_at hcu 2).1
    obtain ⟨a, cap, hov⟩ : ∃ a cap, u5 = .slice a fs.length cap := by obtain ⟨-, a, cap, e, -⟩ := row_of_own hown; exact ⟨a, cap, e⟩
    subst hov
    clear hgk hcu hown
    by_cases hmore : p < t.size ∧ bad = false ∧ fs.length ≤ 3
    · obtain ⟨h1, rfl, h3⟩ := hmore
      obtain ⟨y, hy⟩ : ∃ y, y = byt t p := ⟨_, rfl⟩
      have hyb : y < 256 := by rw [hy]; exact byt_lt t _
      have hs1 : t[p].toNat = y := by rw [hy]; exact byt_eq t _ h1
      have HY := hide hy
      have hp0 : (0 : Int) ≤ (p : Int) := by omega
      have hp1 : (p : Int) < (t.size : Int) := by omega
      have d3 : decide ((fs.length : Int) ≤ 3) = true := by simp; omega
      clear hy
      obtain ⟨x, q, bad2, HCall, hx, hq, HT2⟩ := sch_round ht HT.out.1 h1 w.heap.size
      rw [← HY.out] at HT2
      have HCl := hide HCall
      have HT3 := hide HT2
      obtain ⟨wx, hwx⟩ : ∃ wx, wx = (wr.setCell ⟨w.heap.size, 1, none⟩ (.int .i64 ((p : Int) + 1))).alloc (Obj.cells #[.string ⟨#[]⟩, .int .i64 (y : Int)] 48) := ⟨_, rfl⟩
      have hmv := cur_moved HCu.out (Obj.cells #[.string ⟨#[]⟩, .int .i64 (y : Int)] 48)
      rw [← hwx] at hmv
      have HMv := hide hmv
      clear HCall HT2 hmv
      go_wp2_with fail
      rw [← hwx]
      clear hwx hs1 c1 c2 f1 hp0 hp1 d3
      refine (HCl.out _ HMv.out.1).mono ?_
      rintro e w2 ⟨rfl, hcu2, hg2⟩
      have hg12 := grown_trans HMv.out.2.1 hg2
      have hne : wr.heap.size ≠ w.heap.size := by omega
      have hF2 : w2.heap[wr.heap.size]? = some (Obj.cells #[.string ⟨#[]⟩, .int .i64 (y : Int)] 48) := (hg2.block _ (Array.getElem?_eq_some_iff.1 HMv.out.2.2).1 (by simpa using hne)).trans HMv.out.2.2
      have hF3 : (w2.setCell ⟨wr.heap.size, 0, none⟩ (.string x)).heap[wr.heap.size]? = some (.cells #[.string x, .int .i64 (y : Int)] 48 (0, 0)) := heap_setCell_same w2 wr.heap.size 0 _ _ _ hF2
      have e0 : w2.frozen? ⟨wr.heap.size, 0, none⟩ = false := (cell_at hF2 0).2
      have e0c : w2.cell? ⟨wr.heap.size, 0, none⟩ = some (.string ⟨#[]⟩) := (cell_at hF2 0).1
      obtain ⟨w3, hw3⟩ : ∃ w3, w3 = w2.setCell ⟨wr.heap.size, 0, none⟩ (.string x) := ⟨_, rfl⟩
      rw [← hw3] at hF3
      have e1c : w2.cell? ⟨wr.heap.size, 1, none⟩ = some (.int .i64 (y : Int)) := (cell_at hF2 1).1
      have hg3 : w2.grownBy w3 (some wr.heap.size) := by rw [hw3]; exact grown_setCell _ _ _ _
      have HS3 : Hid (w2.heap.size = w3.heap.size) := hide (by rw [hw3]; simp)
      have hlt0 := HOn.out.lt
      have hown2 := HOn.out.kept hg12 (Or.inr (fun e => by have := (hlt0 _ e).1; omega))
      have hown3 := hown2.kept hg3 (Or.inr (fun e => by have := (hlt0 _ e).2; omega))
      have hsz2 := hg12.size
      have HSz3 := hg3.size
      have HB3 : Hid (Below w.heap.size w w3) := hide ((HB.out.grown hg12 HB.out.size (fun k hk => by injection hk with hk; omega)).grown hg3 (by omega) (fun k hk => by injection hk with hk; omega))
      have HCu3 : Hid (CurT w3 w.heap.size t q bad2) := hide (curT_grown hcu2 hg3 (by simpa using Ne.symm hne))
      have HO3 := hide hown3
      have HLt : Hid (∀ k, Value.ownBlock (.slice a fs.length cap) = some k → w.heap.size + 1 ≤ k) := hide (fun k hk => (hlt0 k hk).1)
      have hs3 : w.heap.size + 1 ≤ w3.heap.size := by omega
      clear hcu2 hg2 hg12 hF2 hF3 hlt0 hown2 hown3 hg3 hsz2 HSz3 hne
      go_wp2_with (at_builtin; (rw [← hw3]; refine wpList_append_row _ rfl _ _ 24 rfl (w.heap.size + 1) 48 i0 (.agg #[.string ⟨#[]⟩, .int .i64 0]) 2 24 Try.underlying24 hi hz0 hz1 hz2 rfl (by decide) _ _ _ rfl (HO3.out.alloc _) _ 1 (flds [(x, (y : Int))]) rfl (fld_at w3 w2.heap.size HS3.out x (y : Int)) (flds_one _) ?_ ?_ ?_ ?_))
      · unfold maxLen; omega
      · omega
      · simp; omega
      intro y6 d6 w6 hown6 hg6
      rw [← hw3] at hg6
      have hown7 : w6.ownsRow (w.heap.size + 1) 48 2 (.slice y6 (fs.length + 1) d6) (fs ++ [(x, (y : Int))]).length (flds (fs ++ [(x, (y : Int))])) := by
        rw [← flds_snoc, List.length_append]
        exact hown6
      have hg36 := grown_trans (World.grownBy_alloc w3 _ _) hg6
      have HB6 : Hid (Below w.heap.size w w6) := hide (HB3.out.grown hg36 HB3.out.size (fun k hk => by have := HLt.out k hk; omega))
      have hcu6 : CurT w6 w.heap.size t q bad2 := curT_grown HCu3.out hg36 (fun e => by have := HLt.out _ e.symm; omega)
      clear hown6 hg6 hg36 e0 e0c e1c hw3
      go_wp2_with fail
      go_roundg (gk - 1)
      case measure => have := HG.out; omega
      case rel => exact ⟨fs ++ [(x, (y : Int))], q, bad2, by simp; omega, by have := HG.out; simp; omega, hown7, hcu6, HB6, hq, hide (fun f hf => by
        rcases List.mem_append.1 hf with hf | hf
        · exact HN.out f hf
        · obtain rfl := List.mem_singleton.1 hf
          exact Nat.le_trans hx (by omega)), HT3⟩
    · by_cases h1 : p < t.size
      · cases bad with
        | true =>
          have d1 : decide ((p : Int) < (t.size : Int)) = true := by simp; omega
          clear hmore
          have HSp := hide (specSchemaText_any fs (by omega) HN.out (.slice a fs.length cap) wr (row_of_own HOn.out))
          have HNo : Hid (∀ gs, ¬ IsSch t gs) := hide (HT.out.2 rfl)
          go_wp2_with fail
          refine HSp.out.mono ?_
          rintro e w2 ⟨rfl, hb2⟩
          have HB2 : Hid (Below w.heap.size w w2) := hide (HB.out.trans (hb2.mono HB.out.size))
          have k2 : w2.cell? ⟨w.heap.size, 2, none⟩ = some (.bool true) := (hb2.cell (by exact hgl)).trans c2
          clear hb2 c1 c2 f1
          go_wp2_with fail
          go_ret2
          exact ⟨_, [], false, rfl, own_flds0 _ _ HB2.out.size, Or.inr ⟨rfl, rfl, HNo.out⟩, HB2.out.alloc HB2.out.size _⟩
        | false =>
          have h3 : 3 < fs.length := by
            by_cases h3 : fs.length ≤ 3
            · exact absurd ⟨h1, rfl, h3⟩ hmore
            · omega
          have HE : Hid (∀ gs, IsSch t gs → gs = fs) := hide (fun gs hg => absurd hg (schTry_full HT.out.1 h1 (by omega) gs))
          have d1 : decide ((p : Int) < (t.size : Int)) = true := by simp; omega
          have d3 : decide ((fs.length : Int) ≤ 3) = false := by simp; omega
          clear hmore
          have HSp := hide (specSchemaText_any fs (by omega) HN.out (.slice a fs.length cap) wr (row_of_own HOn.out))
          cases hok : schemaOkB fs with
          | false =>
            rw [hok] at HSp
            have HNo : Hid (∀ gs, ¬ IsSch t gs) := hide (fun gs hg => by
              have := HE.out gs hg
              subst this
              rw [hg.1] at hok; cases hok)
            clear hok
            go_wp2_with fail
            refine HSp.out.mono ?_
            rintro e w2 ⟨rfl, hb2⟩
            have HB2 : Hid (Below w.heap.size w w2) := hide (HB.out.trans (hb2.mono HB.out.size))
            have k2 : w2.cell? ⟨w.heap.size, 2, none⟩ = some (.bool false) := (hb2.cell (by exact hgl)).trans c2
            clear hb2 c1 c2 f1
            go_wp2_with fail
            go_ret2
            exact ⟨_, [], false, rfl, own_flds0 _ _ HB2.out.size, Or.inr ⟨rfl, rfl, HNo.out⟩, HB2.out.alloc HB2.out.size _⟩
          | true =>
            have hso : schemaO fs = schT fs := by rw [schemaO, if_pos hok, schT]
            rw [hok, hso] at HSp
            have hbq := ba_beq (schT fs) t
            by_cases hst : schT fs = t
            · have HYs : Hid (IsSch t fs) := hide ⟨hok, hst⟩
              rw [decide_eq_true hst] at hbq
              obtain ⟨bk, hbk⟩ : ∃ bk, bk = schT fs := ⟨_, rfl⟩
              rw [← hbk] at hbq HSp
              clear hok hso hst hbk
              go_wp2_with fail
              refine HSp.out.mono ?_
              rintro e w2 ⟨rfl, hb2⟩
              have HB2 : Hid (Below w.heap.size w w2) := hide (HB.out.trans (hb2.mono HB.out.size))
              have HO2 := hide (own_stays HOn.out hb2)
              have k2 : w2.cell? ⟨w.heap.size, 2, none⟩ = some (.bool false) := (hb2.cell (by exact hgl)).trans c2
              clear hb2 c1 c2 f1
              go_wp2_with fail
              go_ret2
              exact ⟨_, fs, true, rfl, own_down HO2.out (by omega), Or.inl ⟨rfl, HYs.out, HE.out⟩, HB2.out⟩
            · have HNo : Hid (∀ gs, ¬ IsSch t gs) := hide (fun gs hg => by
                have := HE.out gs hg
                subst this
                exact hst hg.2)
              rw [decide_eq_false hst] at hbq
              obtain ⟨bk, hbk⟩ : ∃ bk, bk = schT fs := ⟨_, rfl⟩
              rw [← hbk] at hbq HSp
              clear hok hso hst hbk
              go_wp2_with fail
              refine HSp.out.mono ?_
              rintro e w2 ⟨rfl, hb2⟩
              have HB2 : Hid (Below w.heap.size w w2) := hide (HB.out.trans (hb2.mono HB.out.size))
              have k2 : w2.cell? ⟨w.heap.size, 2, none⟩ = some (.bool false) := (hb2.cell (by exact hgl)).trans c2
              clear hb2 c1 c2 f1
              go_wp2_with fail
              go_ret2
              exact ⟨_, [], false, rfl, own_flds0 _ _ HB2.out.size, Or.inr ⟨rfl, rfl, HNo.out⟩, HB2.out.alloc HB2.out.size _⟩
      · have HE : Hid (∀ gs, IsSch t gs → gs = fs) := hide (schTry_end HT.out.1 (by omega))
        have d1 : decide ((p : Int) < (t.size : Int)) = false := by simp; omega
        clear hmore
        cases bad with
        | true =>
          have HSp := hide (specSchemaText_any fs (by omega) HN.out (.slice a fs.length cap) wr (row_of_own HOn.out))
          have HNo : Hid (∀ gs, ¬ IsSch t gs) := hide (HT.out.2 rfl)
          go_wp2_with fail
          refine HSp.out.mono ?_
          rintro e w2 ⟨rfl, hb2⟩
          have HB2 : Hid (Below w.heap.size w w2) := hide (HB.out.trans (hb2.mono HB.out.size))
          have k2 : w2.cell? ⟨w.heap.size, 2, none⟩ = some (.bool true) := (hb2.cell (by exact hgl)).trans c2
          clear hb2 c1 c2 f1
          go_wp2_with fail
          go_ret2
          exact ⟨_, [], false, rfl, own_flds0 _ _ HB2.out.size, Or.inr ⟨rfl, rfl, HNo.out⟩, HB2.out.alloc HB2.out.size _⟩
        | false =>
          have HSp := hide (specSchemaText_any fs (by omega) HN.out (.slice a fs.length cap) wr (row_of_own HOn.out))
          cases hok : schemaOkB fs with
          | false =>
            rw [hok] at HSp
            have HNo : Hid (∀ gs, ¬ IsSch t gs) := hide (fun gs hg => by
              have := HE.out gs hg
              subst this
              rw [hg.1] at hok; cases hok)
            clear hok
            go_wp2_with fail
            refine HSp.out.mono ?_
            rintro e w2 ⟨rfl, hb2⟩
            have HB2 : Hid (Below w.heap.size w w2) := hide (HB.out.trans (hb2.mono HB.out.size))
            have k2 : w2.cell? ⟨w.heap.size, 2, none⟩ = some (.bool false) := (hb2.cell (by exact hgl)).trans c2
            clear hb2 c1 c2 f1
            go_wp2_with fail
            go_ret2
            exact ⟨_, [], false, rfl, own_flds0 _ _ HB2.out.size, Or.inr ⟨rfl, rfl, HNo.out⟩, HB2.out.alloc HB2.out.size _⟩
          | true =>
            have hso : schemaO fs = schT fs := by rw [schemaO, if_pos hok, schT]
            rw [hok, hso] at HSp
            have hbq := ba_beq (schT fs) t
            by_cases hst : schT fs = t
            · have HYs : Hid (IsSch t fs) := hide ⟨hok, hst⟩
              rw [decide_eq_true hst] at hbq
              obtain ⟨bk, hbk⟩ : ∃ bk, bk = schT fs := ⟨_, rfl⟩
              rw [← hbk] at hbq HSp
              clear hok hso hst hbk
              go_wp2_with fail
              refine HSp.out.mono ?_
              rintro e w2 ⟨rfl, hb2⟩
              have HB2 : Hid (Below w.heap.size w w2) := hide (HB.out.trans (hb2.mono HB.out.size))
              have HO2 := hide (own_stays HOn.out hb2)
              have k2 : w2.cell? ⟨w.heap.size, 2, none⟩ = some (.bool false) := (hb2.cell (by exact hgl)).trans c2
              clear hb2 c1 c2 f1
              go_wp2_with fail
              go_ret2
              exact ⟨_, fs, true, rfl, own_down HO2.out (by omega), Or.inl ⟨rfl, HYs.out, HE.out⟩, HB2.out⟩
            · have HNo : Hid (∀ gs, ¬ IsSch t gs) := hide (fun gs hg => by
                have := HE.out gs hg
                subst this
                exact hst hg.2)
              rw [decide_eq_false hst] at hbq
              obtain ⟨bk, hbk⟩ : ∃ bk, bk = schT fs := ⟨_, rfl⟩
              rw [← hbk] at hbq HSp
              clear hok hso hst hbk
              go_wp2_with fail
              refine HSp.out.mono ?_
              rintro e w2 ⟨rfl, hb2⟩
              have HB2 : Hid (Below w.heap.size w w2) := hide (HB.out.trans (hb2.mono HB.out.size))
              have k2 : w2.cell? ⟨w.heap.size, 2, none⟩ = some (.bool false) := (hb2.cell (by exact hgl)).trans c2
              clear hb2 c1 c2 f1
              go_wp2_with fail
              go_ret2
              exact ⟨_, [], false, rfl, own_flds0 _ _ HB2.out.size, Or.inr ⟨rfl, rfl, HNo.out⟩, HB2.out.alloc HB2.out.size _⟩
end Go.Proofs.Ytjldcbnoomcloaa
