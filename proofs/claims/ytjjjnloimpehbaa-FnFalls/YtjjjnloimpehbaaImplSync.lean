/-
  The program's SyncDisk by a contract: all that is late is kept, in order, by way of a channel.
-/
import Derived.Test.YtjjjnloimpehbaaKeep2
namespace Go.Proofs.Ytjjjnloimpehbaa
open Go.RowKit Go.Conc

/-- what the sending holds: its argument's box, its answer's variable, the channel; nothing that was there is turned -/
structure SendIn (wr : World) (c a0 a1 : Nat) (vp vl : Value) (ch : Obj) (w : World) : Prop where
  box : wr.heap[a0]? = some (Obj.cells #[vp, vl] 27)
  res : wr.heap[a1]? = some (Obj.cells #[.slice none 0 0, .slice none 0 0] 27)
  chan : wr.heap[c]? = some ch
  low : Below a0 w wr

theorem sendIn_below {wr wr' : World} {c a0 a1 : Nat} {vp vl : Value} {ch : Obj} {w : World} (h : SendIn wr c a0 a1 vp vl ch w) (hb : Below wr.heap.size wr wr') : SendIn wr' c a0 a1 vp vl ch w := by
  have key : ∀ {k : Nat} {o : Obj}, wr.heap[k]? = some o → wr'.heap[k]? = some o := fun h => (hb.block _ (Array.getElem?_eq_some_iff.1 h).1).trans h
  exact ⟨key h.box, key h.res, key h.chan, h.low.trans (hb.mono (Nat.le_of_lt (Array.getElem?_eq_some_iff.1 h.box).1))⟩

theorem sendIn_alloc {wr : World} {c a0 a1 : Nat} {vp vl : Value} {ch : Obj} {w : World} (h : SendIn wr c a0 a1 vp vl ch w) (o : Obj) : SendIn (wr.alloc o) c a0 a1 vp vl ch w := sendIn_below h ((Below.refl _ _).alloc (Nat.le_refl _) _)

theorem sendIn_chan {wr : World} {c a0 a1 : Nat} {vp vl : Value} {ch : Obj} {w : World} (h : SendIn wr c a0 a1 vp vl ch w) (h0 : a0 < c) (h1 : a1 < c) (cap : Nat) (buf : Array Value) (cl : Bool) (s r : Nat) (tm : Bool) : SendIn (wr.setChan c cap buf cl s r tm) c a0 a1 vp vl (.chan cap buf cl s r tm) w :=
  ⟨(heap_setChan_other _ _ _ _ _ _ _ _ _ (by omega)).trans h.box, (heap_setChan_other _ _ _ _ _ _ _ _ _ (by omega)).trans h.res, heap_setChan _ _ _ _ _ _ _ _ (Array.getElem?_eq_some_iff.1 h.chan).1, below_setChan h.low (Nat.le_of_lt h0) _ _ _ _ _ _⟩

theorem Try.infoPutC : ∃ i, Try.prog.info? 40 = some i ∧ i.bytes = 24 := by
  obtain ⟨i, h, -, -, hb⟩ := info_parts Try.infoPut
  exact ⟨i, h, hb⟩

theorem makeChan_any (n : Nat) (hn : n ≤ 1048576) (w : World) : (Instr.makeChan 67 (.int .i64 (n : Int))).run Try.prog w = .ok (.chan (some w.heap.size)) (w.alloc (.chan n #[] false 0 0 false)) := by
  obtain ⟨i, hi, hb⟩ := Try.infoPutC
  exact run_makeChan (P := Try.prog) (w := w) Try.underlying67 hi .i64 n (by omega) (by rw [hb]; omega)

theorem putV_snoc (ls : List (Int × ByteArray)) (k : Nat) (h : k < ls.length) : ((ls.take k).map putV).toArray.push (putV ls[k]) = ((ls.take (k + 1)).map putV).toArray := by
  rw [List.take_succ_eq_append_getElem h, List.map_append]; simp

/-- the end: what keep answers is laid into the variable of the answer -/
theorem send_end {w wc wk : World} {c a0 a1 : Nat} {vp vl u0 u1 : Value} {ch : Obj} {ps : List ByteArray} (h : SendIn wc c a0 a1 vp vl ch w) (h0 : a0 = w.heap.size) (h1 : a1 = a0 + 1) (hc : a1 < c) (hd : DiskOwn wk wc.heap.size (.agg #[u0, u1]) ps []) (hk : Kept wc wk (fun k => k = c)) :
    wk.heap[a1]? = some (Obj.cells #[.slice none 0 0, .slice none 0 0] 27) ∧ (((wk.setCell ⟨a1, 0, none⟩ u0).setCell ⟨a1, 1, none⟩ u1).cell? ⟨a1, 0, none⟩ = some u0 ∧ ((wk.setCell ⟨a1, 0, none⟩ u0).setCell ⟨a1, 1, none⟩ u1).cell? ⟨a1, 1, none⟩ = some u1 ∧
    DiskOwn ((wk.setCell ⟨a1, 0, none⟩ u0).setCell ⟨a1, 1, none⟩ u1) w.heap.size (.agg #[u0, u1]) ps [] ∧ Below w.heap.size w ((wk.setCell ⟨a1, 0, none⟩ u0).setCell ⟨a1, 1, none⟩ u1)) := by
  have hla : a1 < wc.heap.size := (Array.getElem?_eq_some_iff.1 h.res).1
  have hr := (hk.2.2.2.2 a1 hla (by omega)).trans h.res
  have hlow := h.low
  rw [h0] at hlow
  exact ⟨hr, ret_disk hr hd hla (by omega) (hlow.trans (below_of_kept hk hlow.size (fun k e => by omega)))⟩

set_option maxHeartbeats 2000000 in
set_option maxRecDepth 100000 in
theorem implSyncDisk_any (v : Value) (ps : List ByteArray) (ls : List (Int × ByteArray)) (hp : ps.length ≤ 1048576) (hl : ls.length ≤ 1048576) (hps : ∀ s ∈ ps, s.size ≤ 1048576) (hls : ∀ p ∈ ls, p.2.size ≤ 1048576) (w : World) (hd : DiskAt w v ps ls) :
    Calls Try.prog 16 #[v] w fun e w' => ∃ v', e = .returned v' ∧ DiskOwn w' w.heap.size v' (syncD ps ls) [] ∧ Below w.heap.size w w' := by
  obtain ⟨vp, vl, rfl, h1, h2⟩ := hd
  obtain ⟨x2, c2, rfl⟩ : ∃ a cap, vl = .slice a ls.length cap := by obtain ⟨-, a, cap, e, -⟩ := h2; exact ⟨a, cap, e⟩
  have H1 := hide h1
  have H2 := hide h2
  have HKe := hide (fun c cap s r wx h h' => keep_any vp (.slice x2 ls.length c2) ps hp hps c cap s r ls hls wx h h')
  clear h1 h2 hps hls
  obtain ⟨w0, hw0⟩ : ∃ w0, w0 = (w.alloc (Obj.cells #[vp, .slice x2 ls.length c2] 27)).alloc (Obj.cells #[.slice none 0 0, .slice none 0 0] 27) := ⟨_, rfl⟩
  obtain ⟨q0, q1, hs0⟩ := two_allocs w (Obj.cells #[vp, .slice x2 ls.length c2] 27) (Obj.cells #[.slice none 0 0, .slice none 0 0] 27)
  rw [← hw0] at q0 q1 hs0
  have hb0 : Below w.heap.size w w0 := by rw [hw0]; exact ((Below.refl w.heap.size w).alloc (Nat.le_refl _) _).alloc (by simp) _
  obtain ⟨a0, ha0⟩ : ∃ a, a = w.heap.size := ⟨_, rfl⟩
  obtain ⟨a1, ha1⟩ : ∃ a, a = a0 + 1 := ⟨_, rfl⟩
  obtain ⟨c, hc⟩ : ∃ c, c = a1 + 1 := ⟨_, rfl⟩
  rw [← ha0] at q0 q1 hs0
  rw [← ha1] at q1
  obtain ⟨w1, hw1⟩ : ∃ w1, w1 = w0.alloc (.chan ls.length #[] false 0 0 false) := ⟨_, rfl⟩
  have hsc : w0.heap.size = c := by omega
  have HS1 : Hid (SendIn w1 c a0 a1 vp (.slice x2 ls.length c2) (.chan ls.length #[] false 0 0 false) w) := hide (by
    rw [hw1]
    refine ⟨(Below.heap_alloc w0 _ a0 (by omega)).trans q0, (Below.heap_alloc w0 _ a1 (by omega)).trans q1, ?_, ?_⟩
    · rw [← hsc]; exact heap_alloc_new w0 _
    · rw [ha0]; exact hb0.alloc (by omega) _)
  have HA := hide (⟨ha0, ha1, hc⟩ : a0 = w.heap.size ∧ a1 = a0 + 1 ∧ c = a1 + 1)
  have hmk := makeChan_any ls.length hl
  have cb1 : w1.cell? ⟨a0, 1, none⟩ = some (.slice x2 ls.length c2) := (cell_at HS1.out.box 1).1
  rw [hw1, hw0, ha0] at cb1
  clear q0 q1 hs0 hb0
  go_enter Try.func16, Try.ntmps16
  go_wp2_with fail
  rw [← hw0, ← hw1, ← ha0, ← ha1, ← hc]
  clear hmk cb1 hw0 hw1 ha0 ha1 hc hsc
  go_loopg [13] ls.length (fun q iv wr => ∃ k s : Nat, k ≤ ls.length ∧ iv = .int .i64 (k : Int) ∧ q + k = ls.length ∧ Hid (SendIn wr c a0 a1 vp (.slice x2 ls.length c2) (.chan ls.length ((ls.take k).map putV).toArray false s 0 false) w))
  case atStart => exact ⟨0, 0, Nat.zero_le _, rfl, rfl, HS1⟩
  case round =>
    obtain ⟨k, s, hk, rfl, hg, HI⟩ := hrel
    have HG := hide hg
    clear hg HS1
    by_cases hlt : k < ls.length
    · rcases H2.out.2 with ⟨a, cap, e, h0 | ⟨b, off, e2, hbl, hcc⟩⟩
      · omega
      · injection e with e1 e3 e4
        subst e1 e4
        subst e2
        obtain ⟨q, t, hqt⟩ : ∃ q t, (q, t) = ls[k] := ⟨_, _, rfl⟩
        have hba : b < a0 := by have := HA.out; omega
        have hc0 : wr.cell? ⟨b, off + k * 2, none⟩ = some (.int .i64 q) := by rw [HI.out.low.cell (by exact hba), hcc (k * 2) (by omega), (puts_at ls k hlt).1, ← hqt]
        have hc1 : wr.cell? ⟨b, off + k * 2 + 1, none⟩ = some (.string t) := by rw [HI.out.low.cell (by exact hba), Nat.add_assoc, hcc (k * 2 + 1) (by omega), (puts_at ls k hlt).2, ← hqt]
        have hi0 : (0 : Int) ≤ (k : Int) := by omega
        have hi1 : (k : Int) < (ls.length : Int) := by omega
        obtain ⟨wa, hwa⟩ : ∃ wa, wa = wr.alloc (Obj.cells #[.int .i64 q, .string t] 40) := ⟨_, rfl⟩
        have HIa : Hid (SendIn wa c a0 a1 vp (.slice (some ⟨b, off, none⟩) ls.length c2) (.chan ls.length ((ls.take k).map putV).toArray false s 0 false) w) := hide (by rw [hwa]; exact sendIn_alloc HI.out _)
        have hva : wa.heap[wr.heap.size]? = some (Obj.cells #[.int .i64 q, .string t] 40) := by rw [hwa]; exact heap_alloc_new wr _
        have HI2 : Hid (SendIn (wa.setChan c ls.length ((ls.take (k + 1)).map putV).toArray false (s + 1) 0 false) c a0 a1 vp (.slice (some ⟨b, off, none⟩) ls.length c2) (.chan ls.length ((ls.take (k + 1)).map putV).toArray false (s + 1) 0 false) w) := hide (sendIn_chan HIa.out (by have := HA.out; omega) (by have := HA.out; omega) _ _ _ _ _ _)
        have cp0 : wa.cell? ⟨wr.heap.size, 0, none⟩ = some (.int .i64 q) := (cell_at hva 0).1
        have cp1 : wa.cell? ⟨wr.heap.size, 1, none⟩ = some (.string t) := (cell_at hva 1).1
        have hpush : ((ls.take k).map putV).toArray.push (.agg #[.int .i64 q, .string t]) = ((ls.take (k + 1)).map putV).toArray := by rw [← putV_snoc ls k hlt, ← hqt]; rfl
        have HQT := hide hqt
        clear hqt hcc hva
        iterate 32 (first | go_values | go_skip | go_guarded | go_step | go_upon)
        refine inOps_region ?_
        rw [← hwa]
        refine inOps_value (w' := wa) (v := .chan (some c)) rfl rfl (by simp [go_sem]) ?_
        refine inOps_value (w' := wa) (v := .agg #[.int .i64 q, .string t]) rfl rfl (by simp [go_sem, cp0, cp1]) ?_
        refine inOps_send (c := c) (cap := ls.length) (s := s) (r := 0) (tm := false) (buf := ((ls.take k).map putV).toArray) (v := .agg #[.int .i64 q, .string t]) (z := .tuple #[]) rfl rfl (by simp [go_sem, scase]) HIa.out.chan (by simp; omega) ?_
        rw [hpush]
        refine inOps_list ?_
        simp only [List.drop_succ_cons, List.drop_zero, Nat.zero_add, Nat.reduceAdd, List.getElem_toArray, List.getElem_cons_zero, List.getElem_cons_succ, Act.put, List.setIfInBounds_toArray, List.set_cons_succ, List.set_cons_zero]
        obtain ⟨w3, hw3⟩ : ∃ w3, w3 = wa.setChan c ls.length ((ls.take (k + 1)).map putV).toArray false (s + 1) 0 false := ⟨_, rfl⟩
        rw [← hw3]
        rw [← hw3] at HI2
        clear hwa cp0 cp1 hpush hc0 hc1 hw3
        go_wp2_with fail
        go_roundg (gk - 1)
        case measure => have := HG.out; omega
        case rel => exact ⟨k + 1, s + 1, by omega, by go_num, by have := HG.out; omega, HI2⟩
    · obtain rfl : k = ls.length := by omega
      have hch : wr.heap[c]? = some (.chan ls.length (ls.map putV).toArray false s 0 false) := by have := HI.out.chan; rw [List.take_length] at this; exact this
      have hcl : ∀ ats ty, (Builtin.close_ ats ty #[.chan (some c)]).run Try.prog wr = .ok (.tuple #[]) (wr.setChan c ls.length (ls.map putV).toArray true s 0 false) := fun ats ty => run_close_open (P := Try.prog) (w := wr) ats ty hch
      obtain ⟨wc, hwc⟩ : ∃ wc, wc = wr.setChan c ls.length (ls.map putV).toArray true s 0 false := ⟨_, rfl⟩
      have HIc : Hid (SendIn wc c a0 a1 vp (.slice x2 ls.length c2) (.chan ls.length (ls.map putV).toArray true s 0 false) w) := hide (by rw [hwc]; exact sendIn_chan HI.out (by have := HA.out; omega) (by have := HA.out; omega) _ _ _ _ _ _)
      have cb0 : wc.cell? ⟨a0, 0, none⟩ = some vp := (cell_at HIc.out.box 0).1
      have cb1 : wc.cell? ⟨a0, 1, none⟩ = some (.slice x2 ls.length c2) := (cell_at HIc.out.box 1).1
      rw [← hwc] at hcl
      clear HI hch hwc
      go_wp2_with fail
      refine (HKe.out c ls.length s 0 wc (row_below H1.out (by have := HIc.out.low; rw [HA.out.1] at this; exact this)) HIc.out.chan).mono ?_
      rintro e wk ⟨u, rfl, hdk, hkk⟩
      obtain ⟨y1, d1, y2, d2, rfl⟩ := disk_form hdk
      have hA := HA.out
      obtain ⟨hr, hfin⟩ := send_end HIc.out hA.1 hA.2.1 (by omega) hdk hkk
      have cr0 : wk.cell? ⟨a1, 0, none⟩ = some (.slice none 0 0) := (cell_at hr 0).1
      have cr1 : wk.cell? ⟨a1, 1, none⟩ = some (.slice none 0 0) := (cell_at hr 1).1
      have fr0 := (cell_at hr 0).2
      have fr1 := (cell_at hr 1).2
      have HF := hide hfin
      clear hfin hdk hkk hr hcl cb0 cb1 hA
      go_wp2_with fail
      exact bodyPost_ret (v := .agg #[.slice y1 (syncD ps ls).length d1, .slice y2 0 d2]) (by have h1 := HF.out.1; have h2 := HF.out.2.1; simp only [List.length_nil] at h1 h2; simp [results, Try.results16, go_sem, h1, h2]) rfl ⟨_, rfl, HF.out.2.2.1, HF.out.2.2.2⟩
end Go.Proofs.Ytjjjnloimpehbaa
