/-
  spec.FallDisk by its contract.
-/
import Derived.Test.YtjjjnloimpehbaaDiskCopy
import Derived.Test.YtjjjnloimpehbaaDiskRet
import Derived.Test.YtjjjnloimpehbaaPlain10
namespace Go.Proofs.Ytjjjnloimpehbaa
open Go.RowKit

/-- the cells of a row of flags -/
def bools (l : List Bool) : List Value := l.map Value.bool

theorem bools_at (l : List Bool) (k : Nat) (h : k < l.length) : (bools l)[k]? = some (.bool l[k]) := by simp [bools, h]

theorem syncIn_set2 {wr : World} {a0 a1 a3 : Nat} {vp vl : Value} {n g c : Nat} {m : List ByteArray} {w : World} (h0 : a0 < g) (h1 : a1 < g) (h3 : g < a3) (h : SyncIn wr a0 a1 a3 vp vl (.slice (some ⟨g, 0, none⟩) n c) n m w) (j : Nat) (t : ByteArray) :
    SyncIn (wr.setCell ⟨g, j, none⟩ (.string t)).drew a0 a1 a3 vp vl (.slice (some ⟨g, 0, none⟩) n c) n (m.set j t) w := by
  have h' := syncIn_set h0 h1 h3 h 0 j t
  exact ⟨h'.box, h'.res, h'.out, h'.own, (h.low.setCell (by show a0 ≤ g; omega) _).drew⟩

set_option maxHeartbeats 2000000 in
set_option maxRecDepth 100000 in
theorem specFallDisk_any (v vb : Value) (ps : List ByteArray) (ls : List (Int × ByteArray)) (left : List Bool) (torn : Int) (hp : ps.length ≤ 1048576) (hl : ls.length ≤ 1048576) (_hlb : left.length ≤ 1048576) (hps : ∀ s ∈ ps, s.size ≤ 1048576) (hls : ∀ p ∈ ls, p.2.size ≤ 1048576) (w : World) (hd : DiskAt w v ps ls) (hvb : RowAt w 1 vb left.length (bools left)) :
    Calls Try.prog 25 #[v, vb, .int .i64 torn] w fun e w' => ∃ v', e = .returned v' ∧ DiskOwn w' w.heap.size v' (fallP left torn ps ls) (fallL ps ls) ∧ Below w.heap.size w w' := by
  obtain ⟨i0, hi, hz0, hz1, hz2⟩ := info_parts Try.infoStrR
  have HCo := hide (fun u wx h => specCopy_any u ps ls hp hl wx h)
  have HOk := hide (fun u wx h => specDiskOk_any u ps ls hp hl hps hls wx h)
  have HD := hide hd
  have HL := hide hvb
  obtain ⟨vp, vl, rfl, h1, h2⟩ := hd
  obtain ⟨x1, c1, rfl⟩ : ∃ a cap, vp = .slice a ps.length cap := by obtain ⟨-, a, cap, e, -⟩ := h1; exact ⟨a, cap, e⟩
  obtain ⟨x2, c2, rfl⟩ : ∃ a cap, vl = .slice a ls.length cap := by obtain ⟨-, a, cap, e, -⟩ := h2; exact ⟨a, cap, e⟩
  obtain ⟨xb, cb, rfl⟩ : ∃ a cap, vb = .slice a left.length cap := by obtain ⟨-, a, cap, e, -⟩ := hvb; exact ⟨a, cap, e⟩
  have H1 := hide h1
  have H2 := hide h2
  clear h1 h2 hps hls hvb
  obtain ⟨w0, hw0⟩ : ∃ w0, w0 = (w.alloc (Obj.cells #[.slice x1 ps.length c1, .slice x2 ls.length c2] 27)).alloc (Obj.cells #[.slice none 0 0, .slice none 0 0] 27) := ⟨_, rfl⟩
  obtain ⟨q0, q1, hs0⟩ := two_allocs w (Obj.cells #[.slice x1 ps.length c1, .slice x2 ls.length c2] 27) (Obj.cells #[.slice none 0 0, .slice none 0 0] 27)
  rw [← hw0] at q0 q1 hs0
  have HB_w0 : Hid (Below w.heap.size w w0) := hide (by rw [hw0]; exact ((Below.refl w.heap.size w).alloc (Nat.le_refl _) _).alloc (by simp) _)
  obtain ⟨a0, ha0⟩ : ∃ a, a = w.heap.size := ⟨_, rfl⟩
  obtain ⟨a1, ha1⟩ : ∃ a, a = a0 + 1 := ⟨_, rfl⟩
  rw [← ha0] at q0 q1 hs0
  rw [← ha1] at q1
  have Hbox_w0 := hide (held_var q0)
  have Hres_w0 := hide (held_var q1)
  have HA := hide (⟨ha0, ha1, hs0⟩ : a0 = w.heap.size ∧ a1 = a0 + 1 ∧ w0.heap.size = a0 + 2)
  clear q0 q1 hs0
  go_enter Try.func25, Try.ntmps25
  go_wp2_with fail
  rw [← hw0, ← ha0, ← ha1]
  clear hw0 ha0 ha1
  refine (HOk.out _ _ (disk_below HD.out HB_w0.out)).mono ?_
  rintro e w1 ⟨rfl, hb⟩
  have HZ1 : Hid (w0.heap.size ≤ w1.heap.size) := hide hb.size
  have HB_w1 : Hid (Below w.heap.size w w1) := hide (HB_w0.out.trans (hb.mono HB_w0.out.size))
  have Hbox_w1 := hide (held_below Hbox_w0.out hb)
  have Hres_w1 := hide (held_below Hres_w0.out hb)
  clear hb
  obtain ⟨cb0, cb1⟩ := held_cells Hbox_w1.out
  by_cases hok : diskOkB ps ls = true
  · rw [hok]
    have HP : Hid (fallP left torn ps ls = fallK left torn ps ls ls.length ∧ fallL ps ls = []) := hide ⟨by rw [fallP, if_pos hok], by rw [fallL, if_pos hok]⟩
    have HAll := hide (diskOk_yes hok).2.1
    clear hok
    have hown0 : (w1.alloc (Obj.cells #[] 9)).ownsRow w1.heap.size 9 1 (.slice (some ⟨w1.heap.size, 0, none⟩) 0 0) 0 (strs []) := own_empty (heap_alloc_new w1 _)
    have HRow := hide (row_below H1.out (HB_w1.out.alloc HB_w1.out.size (Obj.cells #[] 9)))
    have ce0 : (w1.alloc (Obj.cells #[] 9)).cell? ⟨a0, 0, none⟩ = some (.slice x1 ps.length c1) := (held_cells (held_below Hbox_w1.out ((Below.refl _ _).alloc (Nat.le_refl _) _))).1
    go_wp2_with (at_builtin; refine wpList_append_row _ rfl _ _ 24 rfl w1.heap.size 9 i0 (.string ⟨#[]⟩) 1 16 Try.underlying24 hi hz0 hz1 hz2 rfl (by decide) _ _ _ rfl hown0 _ _ _ rfl HRow.out (strs_one _) ?_ ?_ ?_ ?_)
    · unfold maxLen; omega
    · omega
    · simp
    intro y c w2 hown2' hg2
    have hown2 : w2.ownsRow w1.heap.size 9 1 (.slice y ps.length c) ps.length (strs ps) := hown2'
    have hA := HA.out
    have hz1 := HZ1.out
    have hgb : (Value.slice (some ⟨w1.heap.size, 0, none⟩) 0 0).ownBlock = some w1.heap.size := rfl
    rw [hgb] at hg2
    have r0 := k3 hg2 Hbox_w1.out.is (by omega)
    have r1 := k3 hg2 Hres_w1.out.is (by omega)
    have hb2 : Below a0 w w2 := by rw [hA.1]; exact low_grown (HB_w1.out.alloc HB_w1.out.size _) (by simp; have := HB_w1.out.size; omega) hg2 HB_w1.out.size
    obtain ⟨a3, ha3⟩ : ∃ a, a = w2.heap.size := ⟨_, rfl⟩
    have HG3 : Hid (∀ k, (Value.slice y ps.length c).ownBlock = some k → a1 + 1 ≤ k ∧ k < a3) := hide (fun k h => by have := hown2.lt k h; omega)
    have hlt1 : a1 < w2.heap.size := (Array.getElem?_eq_some_iff.1 r1).1
    have hlt0 : a0 < w2.heap.size := (Array.getElem?_eq_some_iff.1 r0).1
    have HI0 : Hid (SyncIn (w2.alloc (Obj.cells #[.slice y ps.length c, .slice none 0 0] 27)) a0 a1 a3 (.slice x1 ps.length c1) (.slice x2 ls.length c2) (.slice y ps.length c) ps.length ps w) := hide (by
      refine ⟨(Below.heap_alloc w2 _ a0 hlt0).trans r0, (Below.heap_alloc w2 _ a1 hlt1).trans r1, ?_, (own_down hown2 (by omega)).alloc _, ?_⟩
      · rw [ha3]; exact heap_alloc_new w2 _
      · exact hb2.alloc (by omega) _)
    clear hown2' hown2 hg2 hgb r0 r1 hb2 hlt0 hlt1 hA hz1 hown0 cb0 cb1 ce0
    go_wp2_with fail
    rw [← ha3]
    clear ha3
    go_loopg [8] ls.length (fun q iv wr => ∃ k : Nat, k ≤ ls.length ∧ iv = .int .i64 (k : Int) ∧ q + k = ls.length ∧ Hid (SyncIn wr a0 a1 a3 (.slice x1 ps.length c1) (.slice x2 ls.length c2) (.slice y ps.length c) ps.length (fallK left torn ps ls k) w))
    case atStart => exact ⟨0, Nat.zero_le _, rfl, rfl, HI0⟩
    case round =>
      obtain ⟨k, hk, rfl, hg, HI⟩ := hrel
      have HG := hide hg
      clear hg HI0
      have cb0 : wr.cell? ⟨a0, 0, none⟩ = some (.slice x1 ps.length c1) := (cell_at HI.out.box 0).1
      have cb1 : wr.cell? ⟨a0, 1, none⟩ = some (.slice x2 ls.length c2) := (cell_at HI.out.box 1).1
      have cb2 : wr.cell? ⟨a3, 0, none⟩ = some (.slice y ps.length c) := (cell_at HI.out.out 0).1
      by_cases hlt : k < ls.length
      · by_cases hleft : left.getD k false = true
        · have hkl : k < left.length := by
            by_cases h : k < left.length
            · exact h
            · rw [List.getD, List.getElem?_eq_none (by omega)] at hleft
              cases hleft
          rcases HL.out.2 with ⟨a, cap, e, h0 | ⟨bb, offb, e2, hblb, hcb⟩⟩
          · omega
          · injection e with e1 e3 e4
            subst e1 e4
            subst e2
            rcases H2.out.2 with ⟨a, cap, e, h0 | ⟨b, off, e2, hbl, hc⟩⟩
            · omega
            · injection e with e1 e3 e4
              subst e1 e4
              subst e2
              obtain ⟨q, t, hqt⟩ : ∃ q t, (q, t) = ls[k] := ⟨_, _, rfl⟩
              have hba : b < a0 := by have := HA.out; omega
              have hbb : bb < a0 := by have := HA.out; omega
              have hcl : wr.cell? ⟨bb, offb + k, none⟩ = some (.bool true) := by
                rw [HI.out.low.cell (by exact hbb), hcb k (by omega), bools_at left k hkl]
                have : left[k] = true := by rw [List.getD, List.getElem?_eq_getElem hkl] at hleft; exact hleft
                rw [this]
              have hc0 : wr.cell? ⟨b, off + k * 2, none⟩ = some (.int .i64 q) := by rw [HI.out.low.cell (by exact hba), hc (k * 2) (by omega), (puts_at ls k hlt).1, ← hqt]
              have hc1 : wr.cell? ⟨b, off + k * 2 + 1, none⟩ = some (.string t) := by rw [HI.out.low.cell (by exact hba), Nat.add_assoc, hc (k * 2 + 1) (by omega), (puts_at ls k hlt).2, ← hqt]
              obtain ⟨hq0, hq1, hts⟩ := HAll.out ls[k] (List.getElem_mem hlt)
              rw [← hqt] at hq0 hq1 hts
              obtain ⟨j, rfl⟩ := Int.eq_ofNat_of_zero_le (show 0 ≤ q from hq0)
              have hj1 : (j : Int) < (ps.length : Int) := hq1
              have hjl : j < ps.length := by omega
              have hts2 : t.size ≤ 240 := hts
              obtain ⟨g, rfl⟩ : ∃ g, y = some ⟨g, 0, none⟩ := by
                rcases HI.out.own.2 with ⟨e, h0⟩ | ⟨g, cc, cur, e, _⟩
                · omega
                · injection e with e1; exact ⟨g, e1⟩
              have hml : j < (fallK left torn ps ls k).length := by rw [fallK_length]; exact hjl
              obtain ⟨z, hz⟩ : ∃ z, z = (fallK left torn ps ls k)[j]'hml := ⟨_, rfl⟩
              have hd0 : wr.cell? ⟨g, j, none⟩ = some (.string z) := by rw [HI.out.own.cellAt j (by omega), strs_at _ j hml, hz]
              have hf0 : wr.frozen? ⟨g, j, none⟩ = false := HI.out.own.frozenAt j
              have HP2 : Hid (fallK left torn ps ls (k + 1) = (fallK left torn ps ls k).set j (fallT torn k t)) := hide (by
                rw [fallK_put (by rw [List.getElem?_eq_getElem hlt, ← hqt]) hleft, putD, fallK_length, if_pos (by show 0 ≤ (j : Int) ∧ (j : Int) < (ps.length : Int); omega)]
                simp)
              have hi0 : (0 : Int) ≤ (k : Int) := by omega
              have hi1 : (k : Int) < (ls.length : Int) := by omega
              have hi2 : (k : Int) < (left.length : Int) := by omega
              have hi3 : decide ((left.length : Int) ≤ (k : Int)) = false := by simp; omega
              have hj0 : (0 : Int) ≤ (j : Int) := by omega
              have HGo : Hid (a0 < g ∧ a1 < g ∧ g < a3) := hide (by have h1 := HG3.out g rfl; have h2 := HA.out; omega)
              clear hc hcb hqt hq0 hq1 hts hz hml hleft
              by_cases ht : (k : Int) = torn
              · subst ht
                have hsl : ∀ wx : World, (Instr.slice 9 (.string t) none (some (.int .i64 ((t.size : Int) / 2))) none).run Try.prog wx = .ok (.string (t.extract 0 (t.size / 2))) wx := fun wx => by
                  rw [run_slice_string_h (P := Try.prog) wx 9 t Try.underlying9 .i64 ((t.size : Int) / 2) (by omega) (by omega), show ((t.size : Int) / 2).toNat = t.size / 2 from by omega]
                rw [fallT, if_pos rfl] at HP2
                go_wp2_with fail
                go_region
                have HI2 : Hid (SyncIn (wr.setCell ⟨g, j, none⟩ (.string (t.extract 0 (t.size / 2)))).drew a0 a1 a3 (.slice x1 ps.length c1) (.slice (some ⟨b, off, none⟩) ls.length c2) (.slice (some ⟨g, 0, none⟩) ps.length c) ps.length (fallK left (k : Int) ps ls (k + 1)) w) := hide (by rw [HP2.out]; exact syncIn_set2 HGo.out.1 HGo.out.2.1 HGo.out.2.2 HI.out _ _)
                go_wp2_with fail
                go_roundg (gk - 1)
                case measure => have := HG.out; omega
                case rel => exact ⟨k + 1, by omega, by go_num, by have := HG.out; omega, HI2⟩
              · rw [fallT, if_neg ht] at HP2
                go_wp2_with fail
                go_region
                have HI2 : Hid (SyncIn (wr.setCell ⟨g, j, none⟩ (.string t)).drew a0 a1 a3 (.slice x1 ps.length c1) (.slice (some ⟨b, off, none⟩) ls.length c2) (.slice (some ⟨g, 0, none⟩) ps.length c) ps.length (fallK left torn ps ls (k + 1)) w) := hide (by rw [HP2.out]; exact syncIn_set2 HGo.out.1 HGo.out.2.1 HGo.out.2.2 HI.out _ _)
                go_wp2_with fail
                go_roundg (gk - 1)
                case measure => have := HG.out; omega
                case rel => exact ⟨k + 1, by omega, by go_num, by have := HG.out; omega, HI2⟩
        · have hlf : left.getD k false = false := by rw [← Bool.not_eq_true]; exact hleft
          have HI2 : Hid (SyncIn wr a0 a1 a3 (.slice x1 ps.length c1) (.slice x2 ls.length c2) (.slice y ps.length c) ps.length (fallK left torn ps ls (k + 1)) w) := hide (by rw [fallK_lost hlf]; exact HI.out)
          have hi0 : (0 : Int) ≤ (k : Int) := by omega
          have hi1 : (k : Int) < (ls.length : Int) := by omega
          by_cases hkl : k < left.length
          · rcases HL.out.2 with ⟨a, cap, e, h0 | ⟨bb, offb, e2, hblb, hcb⟩⟩
            · omega
            · injection e with e1 e3 e4
              subst e1 e4
              subst e2
              have hbb : bb < a0 := by have := HA.out; omega
              have hcl : wr.cell? ⟨bb, offb + k, none⟩ = some (.bool false) := by
                rw [HI.out.low.cell (by exact hbb), hcb k (by omega), bools_at left k hkl]
                have : left[k] = false := by rw [List.getD, List.getElem?_eq_getElem hkl] at hlf; exact hlf
                rw [this]
              have hi2 : (k : Int) < (left.length : Int) := by omega
              have hi3 : decide ((left.length : Int) ≤ (k : Int)) = false := by simp; omega
              clear hcb hleft hlf
              go_wp2_with fail
              go_roundg (gk - 1)
              case measure => have := HG.out; omega
              case rel => exact ⟨k + 1, by omega, by go_num, by have := HG.out; omega, HI2⟩
          · have hi3 : decide ((left.length : Int) ≤ (k : Int)) = true := by simp; omega
            clear hleft hlf
            go_wp2_with fail
            go_roundg (gk - 1)
            case measure => have := HG.out; omega
            case rel => exact ⟨k + 1, by omega, by go_num, by have := HG.out; omega, HI2⟩
      · obtain rfl : k = ls.length := by omega
        have cr0 : wr.cell? ⟨a1, 0, none⟩ = some (.slice none 0 0) := (cell_at HI.out.res 0).1
        have cr1 : wr.cell? ⟨a1, 1, none⟩ = some (.slice none 0 0) := (cell_at HI.out.res 1).1
        have fr0 := (cell_at HI.out.res 0).2
        have fr1 := (cell_at HI.out.res 1).2
        have cb3 : wr.cell? ⟨a3, 1, none⟩ = some (.slice none 0 0) := (cell_at HI.out.out 1).1
        have HFin := hide (ret_disk HI.out.res (B := a1 + 1) (u0 := .slice y ps.length c) (u1 := .slice none 0 0) (ps := fallK left torn ps ls ls.length) (ls := []) ⟨_, _, rfl, by rw [fallK_length]; exact HI.out.own, ⟨rfl, Or.inl ⟨rfl, rfl⟩⟩⟩ (by omega) (by have := HA.out; omega) (w := w) (by have h := HI.out.low; rw [HA.out.1] at h; exact h))
        go_wp2_with fail
        have hfin := HFin.out
        refine bodyPost_ret (v := .agg #[.slice y ps.length c, .slice none 0 0]) (by simp [results, Try.results25, go_sem, hfin.1, hfin.2.1]) rfl ⟨_, rfl, by rw [HP.out.1, HP.out.2]; exact hfin.2.2.1, hfin.2.2.2⟩
  · have hok' : diskOkB ps ls = false := by rw [← Bool.not_eq_true]; exact hok
    have HP : Hid (fallP left torn ps ls = ps ∧ fallL ps ls = ls) := hide ⟨by rw [fallP, hok']; rfl, by rw [fallL, hok']; rfl⟩
    rw [hok']
    clear hok hok'
    go_wp2_with fail
    refine (HCo.out _ _ (disk_below HD.out HB_w1.out)).mono ?_
    rintro e w2 ⟨u2, rfl, hown, hb⟩
    obtain ⟨x3, c3, y3, d3, rfl⟩ := disk_form hown
    have hres := (held_below Hres_w1.out hb).is
    have cr0 : w2.cell? ⟨a1, 0, none⟩ = some (.slice none 0 0) := (cell_at hres 0).1
    have cr1 : w2.cell? ⟨a1, 1, none⟩ = some (.slice none 0 0) := (cell_at hres 1).1
    have fr0 := (cell_at hres 0).2
    have fr1 := (cell_at hres 1).2
    have HFin := hide (ret_disk hres hown (by have := HA.out; have := HZ1.out; omega) (by have := HA.out; omega) (HB_w1.out.trans (hb.mono HB_w1.out.size)))
    clear hres hown hb
    go_wp2_with fail
    have hfin := HFin.out
    refine bodyPost_ret (v := .agg #[.slice x3 ps.length c3, .slice y3 ls.length d3]) (by simp [results, Try.results25, go_sem, hfin.1, hfin.2.1]) rfl ⟨_, rfl, by rw [HP.out.1, HP.out.2]; exact hfin.2.2.1, hfin.2.2.2⟩
end Go.Proofs.Ytjjjnloimpehbaa
