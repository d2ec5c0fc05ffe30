/-
  The program's FallDisk by a contract: what is left of what was late is kept, in order, the torn one by half, by way of a channel.
-/
import Derived.Test.YtjjjnloimpehbaaImplSync
import Derived.Test.YtjjjnloimpehbaaDiskFall
namespace Go.Proofs.Ytjjjnloimpehbaa
open Go.RowKit Go.Conc

/-- what is sent of the first k -/
def sentK (left : List Bool) (torn : Int) (ls : List (Int × ByteArray)) : Nat → List (Int × ByteArray)
  | 0 => []
  | k + 1 => match ls[k]? with
    | some p => if left.getD k false = true then sentK left torn ls k ++ [(p.1, fallT torn k p.2)] else sentK left torn ls k
    | none => sentK left torn ls k

theorem sentK_put {left : List Bool} {torn : Int} {ls : List (Int × ByteArray)} {k : Nat} {q : Int} {t : ByteArray} (h : ls[k]? = some (q, t)) (hl : left.getD k false = true) : sentK left torn ls (k + 1) = sentK left torn ls k ++ [(q, fallT torn k t)] := by
  rw [sentK, h]
  exact if_pos hl

theorem sentK_lost {left : List Bool} {torn : Int} {ls : List (Int × ByteArray)} {k : Nat} (hl : left.getD k false = false) : sentK left torn ls (k + 1) = sentK left torn ls k := by
  rw [sentK]
  split
  · exact if_neg (by rw [hl]; decide)
  · rfl

theorem sentK_length (left : List Bool) (torn : Int) (ls : List (Int × ByteArray)) (k : Nat) : (sentK left torn ls k).length ≤ k := by
  induction k with
  | zero => exact Nat.le_refl _
  | succ k ih =>
    rw [sentK]
    split
    · split
      · simp; exact ih
      · omega
    · omega

theorem sync_sent (left : List Bool) (torn : Int) (ps : List ByteArray) (ls : List (Int × ByteArray)) (k : Nat) : syncD ps (sentK left torn ls k) = fallK left torn ps ls k := by
  induction k with
  | zero => rfl
  | succ k ih =>
    rw [sentK, fallK]
    cases ls[k]? with
    | none => exact ih
    | some p =>
      by_cases h : left.getD k false = true
      · show syncD ps (if left.getD k false = true then _ else _) = if left.getD k false = true then _ else _
        rw [if_pos h, if_pos h, syncD, List.foldl_append]
        show putD (syncD ps (sentK left torn ls k)) _ = _
        rw [ih]
      · show syncD ps (if left.getD k false = true then _ else _) = if left.getD k false = true then _ else _
        rw [if_neg h, if_neg h]
        exact ih

theorem fallT_size (torn : Int) (k : Nat) (t : ByteArray) : (fallT torn k t).size ≤ t.size := by
  unfold fallT
  split
  · rw [ByteArray.size_extract]; omega
  · exact Nat.le_refl _

theorem sentK_size {N : Nat} {left : List Bool} {torn : Int} {ls : List (Int × ByteArray)} (h : ∀ p ∈ ls, p.2.size ≤ N) (k : Nat) : ∀ p ∈ sentK left torn ls k, p.2.size ≤ N := by
  induction k with
  | zero => intro p hp; cases hp
  | succ k ih =>
    rw [sentK]
    split
    · next p he =>
      have hm : p ∈ ls := List.mem_of_getElem? he
      split
      · intro q hq
        rcases List.mem_append.1 hq with h1 | h1
        · exact ih q h1
        · rw [List.mem_singleton] at h1
          subst h1
          exact Nat.le_trans (fallT_size _ _ _) (h p hm)
      · exact ih
    · exact ih

theorem putV_end (l : List (Int × ByteArray)) (q : Int) (t : ByteArray) : (l.map putV).toArray.push (.agg #[.int .i64 q, .string t]) = ((l ++ [(q, t)]).map putV).toArray := by
  rw [List.map_append]; simp [putV]

set_option maxHeartbeats 4000000 in
set_option maxRecDepth 100000 in
theorem implFallDisk_any (v vb : Value) (ps : List ByteArray) (ls : List (Int × ByteArray)) (left : List Bool) (torn : Int) (hp : ps.length ≤ 1048576) (hl : ls.length ≤ 1048576) (_hlb : left.length ≤ 1048576) (hps : ∀ s ∈ ps, s.size ≤ 1048576) (hls : ∀ p ∈ ls, p.2.size ≤ 1048576) (w : World) (hd : DiskAt w v ps ls) (hvb : RowAt w 1 vb left.length (bools left)) :
    Calls Try.prog 21 #[v, vb, .int .i64 torn] w fun e w' => ∃ v', e = .returned v' ∧ DiskOwn w' w.heap.size v' (fallP left torn ps ls) (fallL ps ls) ∧ Below w.heap.size w w' := by
  have HCo := hide (fun u wx h => implCopy_any u ps ls hp hl hps hls wx h)
  have HOk := hide (fun u wx h => implDiskOk_any u ps ls hp hl hps hls wx h)
  have HD := hide hd
  have HL := hide hvb
  obtain ⟨vp, vl, rfl, h1, h2⟩ := hd
  obtain ⟨x2, c2, rfl⟩ : ∃ a cap, vl = .slice a ls.length cap := by obtain ⟨-, a, cap, e, -⟩ := h2; exact ⟨a, cap, e⟩
  obtain ⟨x1, c1, rfl⟩ : ∃ a cap, vp = .slice a ps.length cap := by obtain ⟨-, a, cap, e, -⟩ := h1; exact ⟨a, cap, e⟩
  obtain ⟨xb, cb, rfl⟩ : ∃ a cap, vb = .slice a left.length cap := by obtain ⟨-, a, cap, e, -⟩ := hvb; exact ⟨a, cap, e⟩
  have H1 := hide h1
  have H2 := hide h2
  have HKe := hide (fun c cap s r wx h h' => keep_any (.slice x1 ps.length c1) (.slice x2 ls.length c2) ps hp hps c cap s r (sentK left torn ls ls.length) (sentK_size hls _) wx h h')
  have HLs := hide hls
  clear h1 h2 hps hls hvb
  obtain ⟨w0, hw0⟩ : ∃ w0, w0 = (w.alloc (Obj.cells #[.slice x1 ps.length c1, .slice x2 ls.length c2] 27)).alloc (Obj.cells #[.slice none 0 0, .slice none 0 0] 27) := ⟨_, rfl⟩
  obtain ⟨q0, q1, hs0⟩ := two_allocs w (Obj.cells #[.slice x1 ps.length c1, .slice x2 ls.length c2] 27) (Obj.cells #[.slice none 0 0, .slice none 0 0] 27)
  rw [← hw0] at q0 q1 hs0
  have HB_w0 : Hid (Below w.heap.size w w0) := hide (by rw [hw0]; exact ((Below.refl w.heap.size w).alloc (Nat.le_refl _) _).alloc (by simp) _)
  obtain ⟨a0, ha0⟩ : ∃ a, a = w.heap.size := ⟨_, rfl⟩
  obtain ⟨a1, ha1⟩ : ∃ a, a = a0 + 1 := ⟨_, rfl⟩
  rw [← ha0] at q0 q1 hs0
  rw [← ha1] at q1
  have Hbox_w0 := hide (held_var q0)
  have Hres_w0 := hide (held_var q1)
  have HA := hide (⟨ha0, ha1, hs0⟩ : a0 = w.heap.size ∧ a1 = a0 + 1 ∧ w0.heap.size = a0 + 2)
  clear q0 q1 hs0
  go_enter Try.func21, Try.ntmps21
  go_wp2_with fail
  rw [← hw0, ← ha0, ← ha1]
  clear hw0 ha0 ha1
  refine (HOk.out _ _ (disk_below HD.out HB_w0.out)).mono ?_
  rintro e w1 ⟨rfl, hb⟩
  have HZ1 : Hid (w0.heap.size ≤ w1.heap.size) := hide hb.size
  have HB_w1 : Hid (Below w.heap.size w w1) := hide (HB_w0.out.trans (hb.mono HB_w0.out.size))
  have Hbox_w1 := hide (held_below Hbox_w0.out hb)
  have Hres_w1 := hide (held_below Hres_w0.out hb)
  clear hb
  obtain ⟨cb0, cb1⟩ := held_cells Hbox_w1.out
  by_cases hok : diskOkB ps ls = true
  · rw [hok]
    have HP : Hid (fallP left torn ps ls = syncD ps (sentK left torn ls ls.length) ∧ fallL ps ls = []) := hide ⟨by rw [fallP, if_pos hok, sync_sent], by rw [fallL, if_pos hok]⟩
    clear hok
    obtain ⟨c, hc⟩ : ∃ c, c = w1.heap.size := ⟨_, rfl⟩
    obtain ⟨w2, hw2⟩ : ∃ w2, w2 = w1.alloc (.chan ls.length #[] false 0 0 false) := ⟨_, rfl⟩
    have HS1 : Hid (SendIn w2 c a0 a1 (.slice x1 ps.length c1) (.slice x2 ls.length c2) (.chan ls.length #[] false 0 0 false) w) := hide (by
      rw [hw2]
      refine ⟨(Below.heap_alloc w1 _ a0 Hbox_w1.out.le).trans Hbox_w1.out.is, (Below.heap_alloc w1 _ a1 Hres_w1.out.le).trans Hres_w1.out.is, ?_, ?_⟩
      · rw [hc]; exact heap_alloc_new w1 _
      · rw [HA.out.1]; exact HB_w1.out.alloc HB_w1.out.size _)
    have HAc : Hid (a1 < c) := hide (by rw [hc]; exact Hres_w1.out.le)
    have hmk := makeChan_any ls.length hl
    have cc1 : w2.cell? ⟨a0, 1, none⟩ = some (.slice x2 ls.length c2) := (cell_at HS1.out.box 1).1
    rw [hw2] at cc1
    go_wp2_with fail
    rw [← hw2, ← hc]
    clear hmk cc1 hw2 hc cb0 cb1
    go_loopg [22] ls.length (fun q iv wr => ∃ k s : Nat, k ≤ ls.length ∧ iv = .int .i64 (k : Int) ∧ q + k = ls.length ∧ Hid (SendIn wr c a0 a1 (.slice x1 ps.length c1) (.slice x2 ls.length c2) (.chan ls.length ((sentK left torn ls k).map putV).toArray false s 0 false) w))
    case atStart => exact ⟨0, 0, Nat.zero_le _, rfl, rfl, HS1⟩
    case round =>
      obtain ⟨k, s, hk, rfl, hg, HI⟩ := hrel
      have HG := hide hg
      clear hg HS1
      by_cases hlt : k < ls.length
      · rcases H2.out.2 with ⟨a, cap, e, h0 | ⟨b, off, e2, hbl, hcc⟩⟩
        · omega
        · injection e with e1 e3 e4
          subst e1 e4
          subst e2
          obtain ⟨q, t, hqt⟩ : ∃ q t, (q, t) = ls[k] := ⟨_, _, rfl⟩
          have hba : b < a0 := by have := HA.out; omega
          have hc0 : wr.cell? ⟨b, off + k * 2, none⟩ = some (.int .i64 q) := by rw [HI.out.low.cell (by exact hba), hcc (k * 2) (by omega), (puts_at ls k hlt).1, ← hqt]
          have hc1 : wr.cell? ⟨b, off + k * 2 + 1, none⟩ = some (.string t) := by rw [HI.out.low.cell (by exact hba), Nat.add_assoc, hcc (k * 2 + 1) (by omega), (puts_at ls k hlt).2, ← hqt]
          have hts : t.size ≤ 1048576 := by have := HLs.out _ (List.getElem_mem hlt); rw [← hqt] at this; exact this
          have hget : ls[k]? = some (q, t) := by rw [List.getElem?_eq_getElem hlt, hqt]
          have hi0 : (0 : Int) ≤ (k : Int) := by omega
          have hi1 : (k : Int) < (ls.length : Int) := by omega
          have HGet := hide hget
          clear hcc hqt hget
          by_cases hleft : left.getD k false = true
          · have hkl : k < left.length := by
              by_cases h : k < left.length
              · exact h
              · rw [List.getD, List.getElem?_eq_none (by omega)] at hleft
                cases hleft
            rcases HL.out.2 with ⟨a, cap, e, h0 | ⟨bb, offb, e2, hblb, hcb⟩⟩
            · omega
            · injection e with e1 e3 e4
              subst e1 e4
              subst e2
              have hbb : bb < a0 := by have := HA.out; omega
              have hcl : ∀ o, (wr.alloc o).cell? ⟨bb, offb + k, none⟩ = some (.bool true) := fun o => by
                rw [(sendIn_alloc HI.out o).low.cell (by exact hbb), hcb k (by omega), bools_at left k hkl]
                have : left[k] = true := by rw [List.getD, List.getElem?_eq_getElem hkl] at hleft; exact hleft
                rw [this]
              have hi2 : (k : Int) < (left.length : Int) := by omega
              have hi3 : decide ((left.length : Int) ≤ (k : Int)) = false := by simp; omega
              obtain ⟨t', ht'⟩ : ∃ t', t' = fallT torn k t := ⟨_, rfl⟩
              have HS : Hid (sentK left torn ls (k + 1) = sentK left torn ls k ++ [(q, t')]) := hide (by rw [ht']; exact sentK_put HGet.out hleft)
              have HIa : Hid (SendIn (wr.alloc (Obj.cells #[.int .i64 q, .string t'] 40)) c a0 a1 (.slice x1 ps.length c1) (.slice (some ⟨b, off, none⟩) ls.length c2) (.chan ls.length ((sentK left torn ls k).map putV).toArray false s 0 false) w) := hide (sendIn_alloc HI.out _)
              obtain ⟨w3, hw3⟩ : ∃ w3, w3 = (wr.alloc (Obj.cells #[.int .i64 q, .string t'] 40)).setChan c ls.length ((sentK left torn ls (k + 1)).map putV).toArray false (s + 1) 0 false := ⟨_, rfl⟩
              have HI2 : Hid (SendIn w3 c a0 a1 (.slice x1 ps.length c1) (.slice (some ⟨b, off, none⟩) ls.length c2) (.chan ls.length ((sentK left torn ls (k + 1)).map putV).toArray false (s + 1) 0 false) w) := hide (by rw [hw3]; exact sendIn_chan HIa.out (by have := HA.out; have := HAc.out; omega) HAc.out _ _ _ _ _ _)
              have hroom : ((sentK left torn ls k).map putV).toArray.size < ls.length := by simp; have := sentK_length left torn ls k; omega
              have HR := hide hroom
              have HW3 : Hid ((wr.alloc (Obj.cells #[.int .i64 q, .string t'] 40)).setChan c ls.length (((sentK left torn ls k).map putV).toArray.push (.agg #[.int .i64 q, .string t'])) false (s + 1) 0 false = w3) := hide (by rw [putV_end, ← HS.out]; exact hw3.symm)
              clear hcb hleft hroom hw3
              by_cases ht : (k : Int) = torn
              · subst ht
                rw [fallT, if_pos rfl] at ht'
                subst ht'
                have hsl : ∀ wx : World, (Instr.slice 9 (.string t) none (some (.int .i64 ((t.size : Int) / 2))) none).run Try.prog wx = .ok (.string (t.extract 0 (t.size / 2))) wx := fun wx => by
                  rw [run_slice_string_h (P := Try.prog) wx 9 t Try.underlying9 .i64 ((t.size : Int) / 2) (by omega) (by omega), show ((t.size : Int) / 2).toNat = t.size / 2 from by omega]
                iterate 123 (first | go_values | go_skip | go_guarded | go_step | go_upon)
                refine inOps_region ?_
                refine inOps_value (w' := wr.alloc (Obj.cells #[.int .i64 q, .string (t.extract 0 (t.size / 2))] 40)) (v := .chan (some c)) rfl rfl (by simp [go_sem]) ?_
                refine inOps_value (w' := wr.alloc (Obj.cells #[.int .i64 q, .string (t.extract 0 (t.size / 2))] 40)) (v := .agg #[.int .i64 q, .string (t.extract 0 (t.size / 2))]) rfl rfl (by simp [go_sem]) ?_
                refine inOps_send (c := c) (cap := ls.length) (s := s) (r := 0) (tm := false) (buf := ((sentK left (k : Int) ls k).map putV).toArray) (v := .agg #[.int .i64 q, .string (t.extract 0 (t.size / 2))]) (z := .tuple #[]) rfl rfl (by simp [go_sem, scase]) HIa.out.chan HR.out ?_
                rw [HW3.out]
                refine inOps_list ?_
                simp only [List.drop_succ_cons, List.drop_zero, Nat.zero_add, Nat.reduceAdd, List.getElem_toArray, List.getElem_cons_zero, List.getElem_cons_succ, Act.put, List.setIfInBounds_toArray, List.set_cons_succ, List.set_cons_zero]
                clear hc0 hc1 hcl
                go_wp2_with fail
                go_roundg (gk - 1)
                case measure => have := HG.out; omega
                case rel => exact ⟨k + 1, s + 1, by omega, by go_num, by have := HG.out; omega, HI2⟩
              · rw [fallT, if_neg ht] at ht'
                subst ht'
                iterate 95 (first | go_values | go_skip | go_guarded | go_step | go_upon)
                refine inOps_region ?_
                refine inOps_value (w' := wr.alloc (Obj.cells #[.int .i64 q, .string t'] 40)) (v := .chan (some c)) rfl rfl (by simp [go_sem]) ?_
                refine inOps_value (w' := wr.alloc (Obj.cells #[.int .i64 q, .string t'] 40)) (v := .agg #[.int .i64 q, .string t']) rfl rfl (by simp [go_sem]) ?_
                refine inOps_send (c := c) (cap := ls.length) (s := s) (r := 0) (tm := false) (buf := ((sentK left torn ls k).map putV).toArray) (v := .agg #[.int .i64 q, .string t']) (z := .tuple #[]) rfl rfl (by simp [go_sem, scase]) HIa.out.chan HR.out ?_
                rw [HW3.out]
                refine inOps_list ?_
                simp only [List.drop_succ_cons, List.drop_zero, Nat.zero_add, Nat.reduceAdd, List.getElem_toArray, List.getElem_cons_zero, List.getElem_cons_succ, Act.put, List.setIfInBounds_toArray, List.set_cons_succ, List.set_cons_zero]
                clear hc0 hc1 hcl
                go_wp2_with fail
                go_roundg (gk - 1)
                case measure => have := HG.out; omega
                case rel => exact ⟨k + 1, s + 1, by omega, by go_num, by have := HG.out; omega, HI2⟩
          · have hlf : left.getD k false = false := by rw [← Bool.not_eq_true]; exact hleft
            have HI2 : Hid (SendIn (wr.alloc (Obj.cells #[.int .i64 q, .string t] 40)) c a0 a1 (.slice x1 ps.length c1) (.slice (some ⟨b, off, none⟩) ls.length c2) (.chan ls.length ((sentK left torn ls (k + 1)).map putV).toArray false s 0 false) w) := hide (by rw [sentK_lost hlf]; exact sendIn_alloc HI.out _)
            by_cases hkl : k < left.length
            · rcases HL.out.2 with ⟨a, cap, e, h0 | ⟨bb, offb, e2, hblb, hcb⟩⟩
              · omega
              · injection e with e1 e3 e4
                subst e1 e4
                subst e2
                have hbb : bb < a0 := by have := HA.out; omega
                have hcl : ∀ o, (wr.alloc o).cell? ⟨bb, offb + k, none⟩ = some (.bool false) := fun o => by
                  rw [(sendIn_alloc HI.out o).low.cell (by exact hbb), hcb k (by omega), bools_at left k hkl]
                  have : left[k] = false := by rw [List.getD, List.getElem?_eq_getElem hkl] at hlf; exact hlf
                  rw [this]
                have hi2 : (k : Int) < (left.length : Int) := by omega
                have hi3 : decide ((left.length : Int) ≤ (k : Int)) = false := by simp; omega
                clear hcb hleft hlf
                go_wp2_with fail
                go_roundg (gk - 1)
                case measure => have := HG.out; omega
                case rel => exact ⟨k + 1, s, by omega, by go_num, by have := HG.out; omega, HI2⟩
            · have hi3 : decide ((left.length : Int) ≤ (k : Int)) = true := by simp; omega
              clear hleft hlf
              go_wp2_with fail
              go_roundg (gk - 1)
              case measure => have := HG.out; omega
              case rel => exact ⟨k + 1, s, by omega, by go_num, by have := HG.out; omega, HI2⟩
      · obtain rfl : k = ls.length := by omega
        have hcl : ∀ ats ty, (Builtin.close_ ats ty #[.chan (some c)]).run Try.prog wr = .ok (.tuple #[]) (wr.setChan c ls.length ((sentK left torn ls ls.length).map putV).toArray true s 0 false) := fun ats ty => run_close_open (P := Try.prog) (w := wr) ats ty HI.out.chan
        obtain ⟨wc, hwc⟩ : ∃ wc, wc = wr.setChan c ls.length ((sentK left torn ls ls.length).map putV).toArray true s 0 false := ⟨_, rfl⟩
        have HIc : Hid (SendIn wc c a0 a1 (.slice x1 ps.length c1) (.slice x2 ls.length c2) (.chan ls.length ((sentK left torn ls ls.length).map putV).toArray true s 0 false) w) := hide (by rw [hwc]; exact sendIn_chan HI.out (by have := HA.out; have := HAc.out; omega) HAc.out _ _ _ _ _ _)
        have cb0 : wc.cell? ⟨a0, 0, none⟩ = some (.slice x1 ps.length c1) := (cell_at HIc.out.box 0).1
        have cb1 : wc.cell? ⟨a0, 1, none⟩ = some (.slice x2 ls.length c2) := (cell_at HIc.out.box 1).1
        rw [← hwc] at hcl
        clear HI hwc
        go_wp2_with fail
        refine (HKe.out c ls.length s 0 wc (row_below H1.out (by have := HIc.out.low; rw [HA.out.1] at this; exact this)) HIc.out.chan).mono ?_
        rintro e wk ⟨u, rfl, hdk, hkk⟩
        obtain ⟨y1, d1, y2, d2, rfl⟩ := disk_form hdk
        have hA := HA.out
        obtain ⟨hr, hfin⟩ := send_end HIc.out hA.1 hA.2.1 HAc.out hdk hkk
        have cr0 : wk.cell? ⟨a1, 0, none⟩ = some (.slice none 0 0) := (cell_at hr 0).1
        have cr1 : wk.cell? ⟨a1, 1, none⟩ = some (.slice none 0 0) := (cell_at hr 1).1
        have fr0 := (cell_at hr 0).2
        have fr1 := (cell_at hr 1).2
        have HF := hide hfin
        clear hfin hdk hkk hr hcl cb0 cb1 hA
        go_wp2_with fail
        exact bodyPost_ret (v := .agg #[.slice y1 (syncD ps (sentK left torn ls ls.length)).length d1, .slice y2 0 d2]) (by have h1 := HF.out.1; have h2 := HF.out.2.1; simp only [List.length_nil] at h1 h2; simp [results, Try.results21, go_sem, h1, h2]) rfl ⟨_, rfl, by rw [HP.out.1, HP.out.2]; exact HF.out.2.2.1, HF.out.2.2.2⟩
  · have hok' : diskOkB ps ls = false := by rw [← Bool.not_eq_true]; exact hok
    have HP : Hid (fallP left torn ps ls = ps ∧ fallL ps ls = ls) := hide ⟨by rw [fallP, hok']; rfl, by rw [fallL, hok']; rfl⟩
    rw [hok']
    clear hok hok'
    go_wp2_with fail
    refine (HCo.out _ _ (disk_below HD.out HB_w1.out)).mono ?_
    rintro e w2 ⟨u2, rfl, hown, hb⟩
    obtain ⟨x3, c3, y3, d3, rfl⟩ := disk_form hown
    have hres := (held_below Hres_w1.out hb).is
    have cr0 : w2.cell? ⟨a1, 0, none⟩ = some (.slice none 0 0) := (cell_at hres 0).1
    have cr1 : w2.cell? ⟨a1, 1, none⟩ = some (.slice none 0 0) := (cell_at hres 1).1
    have fr0 := (cell_at hres 0).2
    have fr1 := (cell_at hres 1).2
    have HFin := hide (ret_disk hres hown (by have := HA.out; have := HZ1.out; omega) (by have := HA.out; omega) (HB_w1.out.trans (hb.mono HB_w1.out.size)))
    clear hres hown hb
    go_wp2_with fail
    have hfin := HFin.out
    exact bodyPost_ret (v := .agg #[.slice x3 ps.length c3, .slice y3 ls.length d3]) (by simp [results, Try.results21, go_sem, hfin.1, hfin.2.1]) rfl ⟨_, rfl, by rw [HP.out.1, HP.out.2]; exact hfin.2.2.1, hfin.2.2.2⟩
end Go.Proofs.Ytjjjnloimpehbaa
