/-
  Several texts in one. Plain facts on disks, without any program: a new disk, a put that is taken, what falls. · The program's functions over disks by contracts: hasPage, DiskOk, ReadPage, DiskNew. · BestMeta by contracts, the specification's and the program's. · spec.Open by a contract (made by tools/specopen.py). · FnExactReadMeta by contracts. · FnExactBestMeta by contracts. · laws.FnExactOpen by contracts: it returns true at every disk, given the program's contract (made by tools/openlaw.py). · A disk that came in as an argument of a law, opened: what its reading gives. · The program's copyDisk by a contract: the same disk, in memory of its own. · impl.Open by a contract (made out of SpecOpen, whose text it shares).
-/
import Derived.Test.YtplkioelbdemjaaGreatDoorOpC
import Derived.Test.YtplkioelbdemjaaGreatDoorOpB
import Derived.Test.YtplkioelbdemjaaGreatDoorClone
import Derived.Test.YtplkioelbdemjaaGreatDoorBestPlain
import Derived.Test.YtplkioelbdemjaaGreatDoorImplReadMeta
import Derived.Test.YtplkioelbdemjaaGreatDoorOpG
import Derived.Test.YtplkioelbdemjaaGreatDoorOpD
import Derived.Deep.Cut
import Derived.Test.YtplkioelbdemjaaGreatDoorOpF
import Derived.Lib.SmallJoins
import Derived.Deep.Strs
import Derived.Deep.SlicePairs
import Derived.ChangeOld
namespace Go.Proofs.YtplkioelbdemjaaGreatDoor
open Go.RowKit

/-- the pages of a new disk -/
def newP (n : Int) : List ByteArray := if 4 ≤ n ∧ n ≤ 40 then List.replicate n.toNat ⟨#[]⟩ else []

/-- whether a put is taken -/
def writeOk (ps : List ByteArray) (ls : List (Int × ByteArray)) (page : Int) (text : ByteArray) : Bool := diskOkB ps ls && decide (0 ≤ page ∧ page ≤ (ps.length : Int) - 1) && decide (text.size ≤ 240) && decide (ls.length ≠ 200)

/-- what is late behind it -/
def writeL (ps : List ByteArray) (ls : List (Int × ByteArray)) (page : Int) (text : ByteArray) : List (Int × ByteArray) := if writeOk ps ls page text = true then ls ++ [(page, text)] else ls

theorem writeL_le {ps : List ByteArray} {ls : List (Int × ByteArray)} {page : Int} {text : ByteArray} (h : ls.length ≤ 1048576) : (writeL ps ls page text).length ≤ 1048576 := by
  rw [writeL]
  split
  · next hw =>
    rw [writeOk] at hw
    simp only [Bool.and_eq_true] at hw
    have := (diskOk_yes hw.1.1.1).2.2.2.2
    simp
    omega
  · exact h

/-- the text that is kept of the one at the place k -/
def fallT (torn : Int) (k : Nat) (t : ByteArray) : ByteArray := if (k : Int) = torn then t.extract 0 (t.size / 2) else t

/-- the pages behind the first k of what was late -/
def fallK (left : List Bool) (torn : Int) (ps : List ByteArray) (ls : List (Int × ByteArray)) : Nat → List ByteArray
  | 0 => ps
  | k + 1 => match ls[k]? with
    | some p => if left.getD k false = true then putD (fallK left torn ps ls k) (p.1, fallT torn k p.2) else fallK left torn ps ls k
    | none => fallK left torn ps ls k

theorem fallK_length (left : List Bool) (torn : Int) (ps : List ByteArray) (ls : List (Int × ByteArray)) (k : Nat) : (fallK left torn ps ls k).length = ps.length := by
  induction k with
  | zero => rfl
  | succ k ih =>
    rw [fallK]
    split
    · split
      · rw [putD_length, ih]
      · exact ih
    · exact ih

theorem fallK_put {left : List Bool} {torn : Int} {ps : List ByteArray} {ls : List (Int × ByteArray)} {k : Nat} {q : Int} {t : ByteArray} (h : ls[k]? = some (q, t)) (hl : left.getD k false = true) : fallK left torn ps ls (k + 1) = putD (fallK left torn ps ls k) (q, fallT torn k t) := by
  rw [fallK, h]
  exact if_pos hl

theorem fallK_lost {left : List Bool} {torn : Int} {ps : List ByteArray} {ls : List (Int × ByteArray)} {k : Nat} (hl : left.getD k false = false) : fallK left torn ps ls (k + 1) = fallK left torn ps ls k := by
  rw [fallK]
  split
  · exact if_neg (by rw [hl]; decide)
  · rfl

/-- what falls: the pages, and what is late -/
def fallP (left : List Bool) (torn : Int) (ps : List ByteArray) (ls : List (Int × ByteArray)) : List ByteArray := if diskOkB ps ls = true then fallK left torn ps ls ls.length else ps
def fallL (ps : List ByteArray) (ls : List (Int × ByteArray)) : List (Int × ByteArray) := if diskOkB ps ls = true then [] else ls

end Go.Proofs.YtplkioelbdemjaaGreatDoor

namespace Go.Proofs.YtplkioelbdemjaaGreatDoor
open Go.RowKit

set_option maxHeartbeats 400000 in
theorem hasPage_any (a : Option Addr) (n cap : Nat) (vl : Value) (page : Int) (w : World) :
    Calls Tryz.prog 44 #[.agg #[.slice a n cap, vl], .int .i64 page] w fun e w' => e = .returned (.bool (decide (0 ≤ page ∧ page < (n : Int)))) ∧ Below w.heap.size w w' := by
  have HB : Hid (∀ o, Below w.heap.size w (w.alloc o)) := hide (fun o => (Below.refl w.heap.size w).alloc (Nat.le_refl _) _)
  by_cases h0 : 0 ≤ page
  · by_cases h1 : page < (n : Int)
    · rw [decide_eq_true (show 0 ≤ page ∧ page < (n : Int) from ⟨h0, h1⟩)]
      have h2 : decide (0 ≤ page) = true := decide_eq_true h0
      have h3 : decide (page < (n : Int)) = true := decide_eq_true h1
      go_enter Tryz.func44, Tryz.ntmps44
      go_wp2
      go_ret
      exact ⟨rfl, HB.out _⟩
    · rw [decide_eq_false (show ¬ (0 ≤ page ∧ page < (n : Int)) from fun h => h1 h.2)]
      have h2 : decide (0 ≤ page) = true := decide_eq_true h0
      have h3 : decide (page < (n : Int)) = false := decide_eq_false h1
      go_enter Tryz.func44, Tryz.ntmps44
      go_wp2
      go_ret
      exact ⟨rfl, HB.out _⟩
  · rw [decide_eq_false (show ¬ (0 ≤ page ∧ page < (n : Int)) from fun h => h0 h.1)]
    have h2 : decide (0 ≤ page) = false := decide_eq_false h0
    go_enter Tryz.func44, Tryz.ntmps44
    go_wp2
    go_ret
    exact ⟨rfl, HB.out _⟩

theorem Tryz.infoDiskI : (Tryz.prog.info? 29).map (fun i => (i.zero, i.size, i.bytes)) = some (some (.agg #[.slice none 0 0, .slice none 0 0]), 2, 48) := by kernel_rfl

set_option maxHeartbeats 2000000 in
set_option maxRecDepth 100000 in
theorem implReadPage_any (v : Value) (ps : List ByteArray) (ls : List (Int × ByteArray)) (_hp : ps.length ≤ 1048576) (hl : ls.length ≤ 1048576) (hps : ∀ s ∈ ps, s.size ≤ 1048576) (hls : ∀ p ∈ ls, p.2.size ≤ 1048576) (page : Int) (w : World) (hd : DiskAt w v ps ls) :
    Calls Tryz.prog 43 #[v, .int .i64 page] w fun e w' => e = .returned (.string (readD ps ls page)) ∧ Below w.heap.size w w' := by
  obtain ⟨vp, vl, rfl, h1, h2⟩ := hd
  obtain ⟨x1, c1, rfl⟩ : ∃ a cap, vp = .slice a ps.length cap := by obtain ⟨-, a, cap, e, -⟩ := h1; exact ⟨a, cap, e⟩
  obtain ⟨x2, c2, rfl⟩ : ∃ a cap, vl = .slice a ls.length cap := by obtain ⟨-, a, cap, e, -⟩ := h2; exact ⟨a, cap, e⟩
  have H1 := hide h1
  have H2 := hide h2
  have HPs := hide hps
  have HLs := hide hls
  clear h1 h2 hps hls
  have HC := hide (hasPage_any x1 ps.length c1 (.slice x2 ls.length c2) page)
  obtain ⟨w0, hw0⟩ : ∃ w0, w0 = w.alloc (Obj.cells #[.slice x1 ps.length c1, .slice x2 ls.length c2] 29) := ⟨_, rfl⟩
  have hb0 : Below w.heap.size w w0 := by rw [hw0]; exact (Below.refl w.heap.size w).alloc (Nat.le_refl _) _
  have hblk : w0.heap[w.heap.size]? = some (Obj.cells #[.slice x1 ps.length c1, .slice x2 ls.length c2] 29) := by rw [hw0]; exact heap_alloc_new w _
  have HB0 := hide hb0
  have HBk := hide hblk
  clear hb0 hblk
  by_cases hin : 0 ≤ page ∧ page < (ps.length : Int)
  · rw [decide_eq_true hin] at HC
    go_enter Tryz.func43, Tryz.ntmps43
    go_wp2_with fail
    rw [← hw0]
    clear hw0
    refine (HC.out _).mono ?_
    rintro e w1 ⟨rfl, hb1⟩
    have hblk1 : w1.heap[w.heap.size]? = some (Obj.cells #[.slice x1 ps.length c1, .slice x2 ls.length c2] 29) := (hb1.block _ (Array.getElem?_eq_some_iff.1 HBk.out).1).trans HBk.out
    have HB1 : Hid (Below w.heap.size w w1) := hide (HB0.out.trans (hb1.mono HB0.out.size))
    have cb0 : w1.cell? ⟨w.heap.size, 0, none⟩ = some (.slice x1 ps.length c1) := (cell_at hblk1 0).1
    have cb1 : w1.cell? ⟨w.heap.size, 1, none⟩ = some (.slice x2 ls.length c2) := (cell_at hblk1 1).1
    clear hb1 hblk1
    go_wp2_with fail
    go_loopg [5] ls.length (fun q iv wr => ∃ k : Nat, k ≤ ls.length ∧ iv = .int .i64 ((k : Int) - 1) ∧ q = k ∧ Hid (lateAt ls page ls.length = lateAt ls page k) ∧ w1 = wr)
    case atStart => exact ⟨ls.length, Nat.le_refl _, rfl, rfl, hide rfl, rfl⟩
    case round =>
      obtain ⟨k, hk, rfl, hgk, HL, rfl⟩ := hrel
      have HGk := hide hgk
      clear hgk
      by_cases hk0 : k = 0
      · subst hk0
        have HO : Hid (readD ps ls page = ps.getD page.toNat ⟨#[]⟩) := hide (readD_page (by omega) (by rw [HL.out]; rfl))
        obtain ⟨n, hn⟩ := Int.eq_ofNat_of_zero_le hin.1
        have hnl : n < ps.length := by omega
        obtain ⟨x, hx⟩ : ∃ x, x = ps.getD page.toNat ⟨#[]⟩ := ⟨_, rfl⟩
        rcases H1.out.2 with ⟨a, cap, e, h0 | ⟨b, off, e2, hbl, hc⟩⟩
        · omega
        · injection e with e1 e3 e4
          subst e1 e4
          subst e2
          have hxe : x = ps[n] := by rw [hx, hn]; simp [List.getD, hnl]
          have hcell : w1.cell? ⟨b, off + n, none⟩ = some (.string x) := by
            rw [HB1.out.cell (by exact hbl), hc n (by omega), strs_at ps n hnl, hxe]
          have hxs : x.size ≤ 1048576 := by rw [hxe]; exact HPs.out _ (List.getElem_mem hnl)
          have HCl := hide (clone_any x (by omega))
          rw [← hx] at HO
          subst hn
          have hi0 : (0 : Int) ≤ (n : Int) := by omega
          have hi1 : (n : Int) < (ps.length : Int) := by omega
          clear hx hc hxe
          go_wp2_with fail
          refine (HCl.out _).mono ?_
          rintro e w2 ⟨rfl, hb2⟩
          go_wp2_with fail
          go_ret
          rw [HO.out]
          exact ⟨rfl, HB1.out.trans (hb2.mono HB1.out.size)⟩
      · obtain ⟨j, rfl⟩ : ∃ j, k = j + 1 := ⟨k - 1, by omega⟩
        have hjl : j < ls.length := by omega
        rcases H2.out.2 with ⟨a, cap, e, h0 | ⟨b, off, e2, hbl, hc⟩⟩
        · omega
        · injection e with e1 e3 e4
          subst e1 e4
          subst e2
          obtain ⟨q, t, hqt⟩ : ∃ q t, (q, t) = ls[j] := ⟨_, _, rfl⟩
          have hget : ls[j]? = some (q, t) := by rw [List.getElem?_eq_getElem hjl, hqt]
          have hts : t.size ≤ 1048576 := by have := HLs.out _ (List.getElem_mem hjl); rw [← hqt] at this; exact this
          have hc0 : w1.cell? ⟨b, off + j * 2, none⟩ = some (.int .i64 q) := by rw [HB1.out.cell (by exact hbl), hc (j * 2) (by omega), (puts_at ls j hjl).1, ← hqt]
          have hc1 : w1.cell? ⟨b, off + j * 2 + 1, none⟩ = some (.string t) := by rw [HB1.out.cell (by exact hbl), Nat.add_assoc, hc (j * 2 + 1) (by omega), (puts_at ls j hjl).2, ← hqt]
          have hi0 : (0 : Int) ≤ (j : Int) := by omega
          have hi1 : (j : Int) < (ls.length : Int) := by omega
          have hij : ((j + 1 : Nat) : Int) - 1 = (j : Int) := by omega
          rw [hij]
          have HGet := hide hget
          clear hc hqt hget hij
          by_cases hq : q = page
          · subst hq
            have HO : Hid (readD ps ls q = t) := hide (readD_late (by omega) (by rw [HL.out]; exact lateAt_hit HGet.out))
            have HCl := hide (clone_any t (by omega))
            go_wp2_with fail
            refine (HCl.out _).mono ?_
            rintro e w2 ⟨rfl, hb2⟩
            go_wp2_with fail
            go_ret
            rw [HO.out]
            exact ⟨rfl, HB1.out.trans (hb2.mono HB1.out.size)⟩
          · have HL2 : Hid (lateAt ls page ls.length = lateAt ls page j) := hide (by rw [HL.out]; exact lateAt_miss HGet.out hq)
            go_wp2_with fail
            go_roundg j
            case measure => have := HGk.out; omega
            case rel => exact ⟨j, by omega, by go_num, rfl, HL2, rfl⟩
  · rw [decide_eq_false hin] at HC
    have HO : Hid (readD ps ls page = ⟨#[]⟩) := hide (readD_out (by omega))
    go_enter Tryz.func43, Tryz.ntmps43
    go_wp2_with fail
    rw [← hw0]
    refine (HC.out _).mono ?_
    rintro e w1 ⟨rfl, hb1⟩
    clear hw0
    go_wp2_with fail
    go_ret
    rw [HO.out]
    exact ⟨rfl, HB0.out.trans (hb1.mono HB0.out.size)⟩

theorem diskOk_count {ps : List ByteArray} {ls : List (Int × ByteArray)} (h : ¬ (4 ≤ ps.length ∧ ps.length ≤ 40 ∧ ls.length ≤ 200)) : diskOkB ps ls = false := by
  rw [diskOkB, decide_eq_false h]; simp

set_option maxHeartbeats 2000000 in
set_option maxRecDepth 100000 in
theorem implDiskOk_any (v : Value) (ps : List ByteArray) (ls : List (Int × ByteArray)) (hp : ps.length ≤ 1048576) (hl : ls.length ≤ 1048576) (hps : ∀ s ∈ ps, s.size ≤ 1048576) (hls : ∀ p ∈ ls, p.2.size ≤ 1048576) (w : World) (hd : DiskAt w v ps ls) :
    Calls Tryz.prog 21 #[v] w fun e w' => e = .returned (.bool (diskOkB ps ls)) ∧ Below w.heap.size w w' := by
  obtain ⟨vp, vl, rfl, h1, h2⟩ := hd
  obtain ⟨x1, c1, rfl⟩ : ∃ a cap, vp = .slice a ps.length cap := by obtain ⟨-, a, cap, e, -⟩ := h1; exact ⟨a, cap, e⟩
  obtain ⟨x2, c2, rfl⟩ : ∃ a cap, vl = .slice a ls.length cap := by obtain ⟨-, a, cap, e, -⟩ := h2; exact ⟨a, cap, e⟩
  have H1 := hide h1
  have H2 := hide h2
  have HPs := hide hps
  have HLs := hide hls
  clear h1 h2 hps hls
  obtain ⟨w0, hw0⟩ : ∃ w0, w0 = w.alloc (Obj.cells #[.slice x1 ps.length c1, .slice x2 ls.length c2] 29) := ⟨_, rfl⟩
  have hb0 : Below w.heap.size w w0 := by rw [hw0]; exact (Below.refl w.heap.size w).alloc (Nat.le_refl _) _
  have hblk : w0.heap[w.heap.size]? = some (Obj.cells #[.slice x1 ps.length c1, .slice x2 ls.length c2] 29) := by rw [hw0]; exact heap_alloc_new w _
  have hsz : w.heap.size < w0.heap.size := (Array.getElem?_eq_some_iff.1 hblk).1
  have HB0 := hide hb0
  have HBk := hide hblk
  have HSz := hide hsz
  clear hb0 hblk hsz
  by_cases hcnt : 4 ≤ ps.length ∧ ps.length ≤ 40 ∧ ls.length ≤ 200
  · obtain ⟨n1, n2, n3⟩ := hcnt
    have HT := hide (decide_eq_true (show 4 ≤ ps.length ∧ ps.length ≤ 40 ∧ ls.length ≤ 200 from ⟨n1, n2, n3⟩))
    have d1 : decide ((ps.length : Int) < 4) = false := by simp; omega
    have d2 : decide ((40 : Int) < (ps.length : Int)) = false := by simp; omega
    have d3 : decide ((200 : Int) < (ls.length : Int)) = false := by simp; omega
    go_enter Tryz.func21, Tryz.ntmps21
    go_wp2_with fail
    rw [← hw0]
    clear hw0
    have cb0 : w0.cell? ⟨w.heap.size, 0, none⟩ = some (.slice x1 ps.length c1) := (cell_at HBk.out 0).1
    have cb1 : w0.cell? ⟨w.heap.size, 1, none⟩ = some (.slice x2 ls.length c2) := (cell_at HBk.out 1).1
    go_loopg [26] ps.length (fun q iv wr => ∃ k : Nat, k ≤ ps.length ∧ iv = .int .i64 (k : Int) ∧ q + k = ps.length ∧ Hid (∀ i (h : i < ps.length), i < k → ps[i].size ≤ 240) ∧ w0 = wr)
    case atStart => exact ⟨0, Nat.zero_le _, rfl, rfl, hide (fun i h h0 => by omega), rfl⟩
    case round =>
      obtain ⟨k, hk, rfl, hg, HA, rfl⟩ := hrel
      have HG := hide hg
      clear hg
      by_cases hlt : k < ps.length
      · rcases H1.out.2 with ⟨a, cap, e, h0 | ⟨b, off, e2, hbl, hc⟩⟩
        · omega
        · injection e with e1 e3 e4
          subst e1 e4
          subst e2
          obtain ⟨x, hx⟩ : ∃ x, x = ps[k] := ⟨_, rfl⟩
          have hxs : x.size ≤ 1048576 := by rw [hx]; exact HPs.out _ (List.getElem_mem hlt)
          have hcell : w0.cell? ⟨b, off + k, none⟩ = some (.string x) := by rw [HB0.out.cell (by exact hbl), hc k (by omega), strs_at ps k hlt, hx]
          have HX := hide hx
          have hi0 : (0 : Int) ≤ (k : Int) := by omega
          have hi1 : (k : Int) < (ps.length : Int) := by omega
          clear hx hc
          by_cases hbig : 240 < x.size
          · have HO : Hid (diskOkB ps ls = false) := hide (diskOk_page hlt (by rw [← HX.out]; exact hbig))
            go_wp2_with fail
            go_ret
            rw [HO.out]
            exact ⟨rfl, HB0.out⟩
          · have HA2 : Hid (∀ i (h : i < ps.length), i < k + 1 → ps[i].size ≤ 240) := hide (fun i h hi => by
              by_cases e : i = k
              · subst e; rw [← HX.out]; omega
              · exact HA.out i h (by omega))
            go_wp2_with fail
            go_roundg (gk - 1)
            case measure => have := HG.out; omega
            case rel => exact ⟨k + 1, by omega, by go_num, by have := HG.out; omega, HA2, rfl⟩
      · have HAll : Hid (∀ i (h : i < ps.length), ps[i].size ≤ 240) := hide (fun i h => HA.out i h (by omega))
        clear HA
        go_wp2_with fail
        go_loopg [37] ls.length (fun q iv wr => ∃ j : Nat, j ≤ ls.length ∧ iv = .int .i64 (j : Int) ∧ q + j = ls.length ∧ Hid (∀ i (h : i < ls.length), i < j → 0 ≤ ls[i].1 ∧ ls[i].1 < (ps.length : Int) ∧ ls[i].2.size ≤ 240) ∧ Below w0.heap.size w0 wr)
        case atStart => exact ⟨0, Nat.zero_le _, rfl, rfl, hide (fun i h h0 => by omega), Below.refl _ _⟩
        case round =>
          obtain ⟨j, hj, rfl, hg, HA, hbw⟩ := hrel
          have HG2 := hide hg
          have HBw := hide hbw
          have HBa : Hid (Below w.heap.size w wr) := hide (HB0.out.trans (hbw.mono HB0.out.size))
          clear hg
          by_cases hjl : j < ls.length
          · rcases H2.out.2 with ⟨a, cap, e, h0 | ⟨b, off, e2, hbl, hc⟩⟩
            · omega
            · injection e with e1 e3 e4
              subst e1 e4
              subst e2
              obtain ⟨q, t, hqt⟩ : ∃ q t, (q, t) = ls[j] := ⟨_, _, rfl⟩
              have hts : t.size ≤ 1048576 := by have := HLs.out _ (List.getElem_mem hjl); rw [← hqt] at this; exact this
              have hc0 : wr.cell? ⟨b, off + j * 2, none⟩ = some (.int .i64 q) := by rw [HBa.out.cell (by exact hbl), hc (j * 2) (by omega), (puts_at ls j hjl).1, ← hqt]
              have hc1 : wr.cell? ⟨b, off + j * 2 + 1, none⟩ = some (.string t) := by rw [HBa.out.cell (by exact hbl), Nat.add_assoc, hc (j * 2 + 1) (by omega), (puts_at ls j hjl).2, ← hqt]
              have hi0 : (0 : Int) ≤ (j : Int) := by omega
              have hi1 : (j : Int) < (ls.length : Int) := by omega
              have HQT := hide hqt
              have HC := hide (hasPage_any x1 ps.length c1 (.slice (some ⟨b, off, none⟩) ls.length c2) q)
              clear hc hqt
              have cd0 : wr.cell? ⟨w.heap.size, 0, none⟩ = some (.slice x1 ps.length c1) := (hbw.cell (by exact HSz.out)).trans cb0
              have cd1 : wr.cell? ⟨w.heap.size, 1, none⟩ = some (.slice (some ⟨b, off, none⟩) ls.length c2) := (hbw.cell (by exact HSz.out)).trans cb1
              have ca0 : ∀ o, (wr.alloc o).cell? ⟨w.heap.size, 0, none⟩ = some (.slice x1 ps.length c1) := fun o => (cell_at ((Below.heap_alloc wr o _ (Nat.lt_of_lt_of_le HSz.out hbw.size)).trans ((hbw.block _ HSz.out).trans HBk.out)) 0).1
              have ca1 : ∀ o, (wr.alloc o).cell? ⟨w.heap.size, 1, none⟩ = some (.slice (some ⟨b, off, none⟩) ls.length c2) := fun o => (cell_at ((Below.heap_alloc wr o _ (Nat.lt_of_lt_of_le HSz.out hbw.size)).trans ((hbw.block _ HSz.out).trans HBk.out)) 1).1
              obtain ⟨wa, hwa⟩ : ∃ wa, wa = wr.alloc (Obj.cells #[.int .i64 q, .string t] 72) := ⟨_, rfl⟩
              have hva : wa.heap[wr.heap.size]? = some (Obj.cells #[.int .i64 q, .string t] 72) := by rw [hwa]; exact heap_alloc_new wr _
              have HVa := hide hva
              have HWa : Hid (Below wr.heap.size wr wa) := hide (by rw [hwa]; exact (Below.refl _ _).alloc (Nat.le_refl _) _)
              clear hbw cb0 cb1 hva
              by_cases hin : 0 ≤ q ∧ q < (ps.length : Int)
              · rw [decide_eq_true hin] at HC
                go_wp2_with fail
                rw [← hwa]
                refine (HC.out _).mono ?_
                rintro e w2 ⟨rfl, hb2⟩
                have hcp : w2.cell? ⟨wr.heap.size, 1, none⟩ = some (.string t) := (cell_at ((hb2.block _ (Array.getElem?_eq_some_iff.1 HVa.out).1).trans HVa.out) 1).1
                have HB2 : Hid (Below wr.heap.size wr w2) := hide (HWa.out.trans (hb2.mono HWa.out.size))
                clear hb2 hwa ca0 ca1 cd0 cd1 hc0 hc1
                by_cases hbig : 240 < t.size
                · have HO : Hid (diskOkB ps ls = false) := hide (diskOk_late hjl (by rw [← HQT.out]; show ¬ (0 ≤ q ∧ q < (ps.length : Int) ∧ t.size ≤ 240); omega))
                  have hd1 : decide ((240 : Int) < (t.size : Int)) = true := by simp; omega
                  go_wp2_with fail
                  go_ret
                  rw [HO.out]
                  exact ⟨rfl, HBa.out.trans (HB2.out.mono HBa.out.size)⟩
                · have HA2 : Hid (∀ i (h : i < ls.length), i < j + 1 → 0 ≤ ls[i].1 ∧ ls[i].1 < (ps.length : Int) ∧ ls[i].2.size ≤ 240) := hide (fun i h hi => by
                    by_cases e : i = j
                    · subst e; rw [← HQT.out]; show 0 ≤ q ∧ q < (ps.length : Int) ∧ t.size ≤ 240; omega
                    · exact HA.out i h (by omega))
                  have hd1 : decide ((240 : Int) < (t.size : Int)) = false := by simp; omega
                  go_wp2_with fail
                  go_roundg (gk - 1)
                  case measure => have := HG2.out; omega
                  case rel => exact ⟨j + 1, by omega, by go_num, by have := HG2.out; omega, HA2, HBw.out.trans (HB2.out.mono HBw.out.size)⟩
              · rw [decide_eq_false hin] at HC
                have HO : Hid (diskOkB ps ls = false) := hide (diskOk_late hjl (by rw [← HQT.out]; show ¬ (0 ≤ q ∧ q < (ps.length : Int) ∧ t.size ≤ 240); omega))
                go_wp2_with fail
                rw [← hwa]
                refine (HC.out _).mono ?_
                rintro e w2 ⟨rfl, hb2⟩
                have HB2 : Hid (Below wr.heap.size wr w2) := hide (HWa.out.trans (hb2.mono HWa.out.size))
                clear hb2 hwa ca0 ca1 cd0 cd1 hc0 hc1
                go_wp2_with fail
                go_ret
                rw [HO.out]
                exact ⟨rfl, HBa.out.trans (HB2.out.mono HBa.out.size)⟩
          · have HE : Hid (diskOkB ps ls = true) := hide ((diskOk_all HAll.out (fun i h => HA.out i h (by omega))).trans HT.out)
            clear hbw
            go_wp2_with fail
            go_ret
            rw [HE.out]
            exact ⟨rfl, HBa.out⟩
  · have HO := hide (diskOk_count hcnt)
    by_cases n1 : ps.length < 4
    · have d1 : decide ((ps.length : Int) < 4) = true := by simp; omega
      go_enter Tryz.func21, Tryz.ntmps21
      go_wp2_with fail
      rw [← hw0]
      go_ret
      rw [HO.out]
      exact ⟨rfl, HB0.out⟩
    · have d1 : decide ((ps.length : Int) < 4) = false := by simp; omega
      by_cases n2 : 40 < ps.length
      · have d2 : decide ((40 : Int) < (ps.length : Int)) = true := by simp; omega
        go_enter Tryz.func21, Tryz.ntmps21
        go_wp2_with fail
        rw [← hw0]
        go_ret
        rw [HO.out]
        exact ⟨rfl, HB0.out⟩
      · have d2 : decide ((40 : Int) < (ps.length : Int)) = false := by simp; omega
        have d3 : decide ((200 : Int) < (ls.length : Int)) = true := by simp; omega
        go_enter Tryz.func21, Tryz.ntmps21
        go_wp2_with fail
        rw [← hw0]
        go_ret
        rw [HO.out]
        exact ⟨rfl, HB0.out⟩
end Go.Proofs.YtplkioelbdemjaaGreatDoor

namespace Go.Proofs.YtplkioelbdemjaaGreatDoor
open Go.RowKit

def BmPost (w : World) (t0 t1 : ByteArray) (e : Ending) (w' : World) : Prop := ∃ m v ok, e = .returned (.tuple #[v, .bool ok]) ∧ BestM t0 t1 m ok ∧ MetaOwn w' w.heap.size v m ∧ Below w.heap.size w w'

set_option maxHeartbeats 8000000 in
set_option maxRecDepth 100000 in
theorem specBestMeta_any (v : Value) (ps : List ByteArray) (ls : List (Int × ByteArray)) (hp : ps.length ≤ 1048576) (hl : ls.length ≤ 1048576) (hps : ∀ s ∈ ps, s.size ≤ 1048576) (hls : ∀ p ∈ ls, p.2.size ≤ 1048576) (w : World) (hd : DiskAt w v ps ls) :
    Calls Tryz.prog 15 #[v] w fun e w' => BmPost w (readD ps ls 0) (readD ps ls 1) e w' := by
  have HP := hide (fun page wx h => specReadPage_any v ps ls hp hl page wx h)
  have HM := hide (fun page wx => specReadMeta_any (readD ps ls page) (readD_small hps hls page) wx)
  have HD := hide hd
  obtain ⟨vp, vl, rfl, h1, h2⟩ := hd
  obtain ⟨xp, cp, rfl⟩ : ∃ a cap, vp = .slice a ps.length cap := by obtain ⟨-, a, cap, e, -⟩ := h1; exact ⟨a, cap, e⟩
  obtain ⟨xl, cl, rfl⟩ : ∃ a cap, vl = .slice a ls.length cap := by obtain ⟨-, a, cap, e, -⟩ := h2; exact ⟨a, cap, e⟩
  obtain ⟨t0, ht0⟩ : ∃ t, t = readD ps ls 0 := ⟨_, rfl⟩
  obtain ⟨t1, ht1⟩ : ∃ t, t = readD ps ls 1 := ⟨_, rfl⟩
  rw [← ht0, ← ht1]
  obtain ⟨np, hnp⟩ : ∃ n, n = ps.length := ⟨_, rfl⟩
  obtain ⟨nl, hnl⟩ : ∃ n, n = ls.length := ⟨_, rfl⟩
  rw [← hnp, ← hnl] at HD HP ⊢
  have HP0 := hide (fun wx h => HP.out 0 wx h)
  have HP1 := hide (fun wx h => HP.out 1 wx h)
  have HM0' := hide (HM.out 0)
  have HM1' := hide (HM.out 1)
  rw [← ht0] at HP0 HM0'
  rw [← ht1] at HP1 HM1'
  clear h1 h2 hp hl hps hls ht0 ht1 hnp hnl HP HM
  obtain ⟨wb, hwb⟩ : ∃ wb, wb = (w.alloc (.cells #[.slice xp np cp, .slice xl nl cl] 29 (0, 0))).alloc (.cells #[.int .i64 0, .int .i64 0, .int .i64 0, .slice none 0 0] 32 (0, 0)) := ⟨_, rfl⟩
  have hbb : Below w.heap.size w wb := by rw [hwb]; exact ((Below.refl _ _).alloc (Nat.le_refl _) _).alloc (by simp) _
  obtain ⟨qd, qr, hs⟩ := two_allocs w (.cells #[.slice xp np cp, .slice xl nl cl] 29 (0, 0)) (.cells #[.int .i64 0, .int .i64 0, .int .i64 0, .slice none 0 0] 32 (0, 0))
  rw [← hwb] at qd qr hs
  have HQd := hide qd
  have HQr := hide qr
  have HWb := hide hs
  have HBb := hide hbb
  clear qd qr hs hbb
  go_enter Tryz.func15, Tryz.ntmps15
  go_wp2_with fail
  rw [← hwb]
  clear hwb
  refine (HP0.out _ (disk_below HD.out HBb.out)).mono ?_
  rintro e w1 ⟨rfl, hb1⟩
  have HB1 : Hid (Below wb.heap.size wb w1) := hide hb1
  have HBw1 : Hid (Below w.heap.size w w1) := hide (HBb.out.trans (hb1.mono HBb.out.size))
  clear hb1
  go_wp2_with fail
  refine (HM0'.out w1).mono ?_
  rintro e w2 ⟨m0, v0, ok0, rfl, hrd0, hmo0, hb2⟩
  obtain ⟨vf0, l0, rfl, ho0⟩ := hmo0
  obtain ⟨tx0, r0, n0, f0⟩ := m0
  dsimp only at ho0 ⊢
  obtain ⟨a0, c0, rfl⟩ := own_slice ho0.1
  have HMo0 : Hid (MetaOwn w2 w1.heap.size (.agg #[.int .i64 tx0, .int .i64 r0, .int .i64 n0, .slice a0 f0.length c0]) ⟨tx0, r0, n0, f0⟩) := hide ⟨_, l0, rfl, ho0⟩
  obtain ⟨F0, hF0⟩ : ∃ F0, F0 = f0.length := ⟨_, rfl⟩
  rw [← hF0] at HMo0 ⊢
  have HR0 := hide hrd0
  have HB2 : Hid (Below wb.heap.size wb w2) := hide (HB1.out.trans (hb2.mono HB1.out.size))
  obtain ⟨w3, hw3⟩ : ∃ w3, w3 = w2.alloc (.cells #[.int .i64 tx0, .int .i64 r0, .int .i64 n0, .slice a0 F0 c0] 32 (0, 0)) := ⟨_, rfl⟩
  have hb3 : Below w2.heap.size w2 w3 := by rw [hw3]; exact (Below.refl _ _).alloc (Nat.le_refl _) _
  obtain ⟨g0, hg0⟩ : ∃ g, g = w2.heap.size := ⟨_, rfl⟩
  have HV0 : Hid (w3.heap[g0]? = some (.cells #[.int .i64 tx0, .int .i64 r0, .int .i64 n0, .slice a0 F0 c0] 32 (0, 0))) := hide (by rw [hw3, hg0]; exact heap_alloc_new w2 _)
  have HB3 : Hid (Below wb.heap.size wb w3) := hide (HB2.out.trans (hb3.mono HB2.out.size))
  have HM3 := hide (metaOwn_below HMo0.out hb3)
  have HBw3 : Hid (Below w.heap.size w w3) := hide (HBb.out.trans (HB3.out.mono HBb.out.size))
  have qd := (HB3.out.block w.heap.size (by have := HWb.out; omega)).trans HQd.out
  have d0 := (cell_at qd 0).1
  have d1 := (cell_at qd 1).1
  rw [hw3] at d0 d1
  have HG0 := hide hg0
  have HL1 : Hid (wb.heap.size ≤ w1.heap.size) := hide HB1.out.size
  clear hrd0 ho0 hb2 hb3 hF0 qd HMo0
  go_wp2_with fail
  rw [← HG0.out]
  try rw [← hw3]
  clear hw3 hg0 d0 d1
  refine (HP1.out _ (disk_below HD.out HBw3.out)).mono ?_
  rintro e w4 ⟨rfl, hb4⟩
  have HB4 : Hid (Below wb.heap.size wb w4) := hide (HB3.out.trans (hb4.mono HB3.out.size))
  have HBw4 : Hid (Below w.heap.size w w4) := hide (HBw3.out.trans (hb4.mono HBw3.out.size))
  have HV4 := hide ((hb4.block g0 (Array.getElem?_eq_some_iff.1 HV0.out).1).trans HV0.out)
  have HM4 := hide (metaOwn_below HM3.out hb4)
  clear hb4
  go_wp2_with fail
  refine (HM1'.out w4).mono ?_
  rintro e w5 ⟨m1, v1, ok1, rfl, hrd1, hmo1, hb5⟩
  obtain ⟨vf1, l1, rfl, ho1⟩ := hmo1
  obtain ⟨tx1, r1, n1, f1⟩ := m1
  dsimp only at ho1 ⊢
  obtain ⟨a1, c1, rfl⟩ := own_slice ho1.1
  have HMo1 : Hid (MetaOwn w5 w4.heap.size (.agg #[.int .i64 tx1, .int .i64 r1, .int .i64 n1, .slice a1 f1.length c1]) ⟨tx1, r1, n1, f1⟩) := hide ⟨_, l1, rfl, ho1⟩
  obtain ⟨F1, hF1⟩ : ∃ F1, F1 = f1.length := ⟨_, rfl⟩
  rw [← hF1] at HMo1 ⊢
  have HR1 := hide hrd1
  obtain ⟨w6, hw6⟩ : ∃ w6, w6 = w5.alloc (.cells #[.int .i64 tx1, .int .i64 r1, .int .i64 n1, .slice a1 F1 c1] 32 (0, 0)) := ⟨_, rfl⟩
  have hb6 : Below w5.heap.size w5 w6 := by rw [hw6]; exact (Below.refl _ _).alloc (Nat.le_refl _) _
  obtain ⟨g1, hg1⟩ : ∃ g, g = w5.heap.size := ⟨_, rfl⟩
  have hV1 : w6.heap[g1]? = some (.cells #[.int .i64 tx1, .int .i64 r1, .int .i64 n1, .slice a1 F1 c1] 32 (0, 0)) := by rw [hw6, hg1]; exact heap_alloc_new w5 _
  have hV0 := (hb6.block g0 (Nat.lt_of_lt_of_le (Array.getElem?_eq_some_iff.1 HV4.out).1 hb5.size)).trans ((hb5.block g0 (Array.getElem?_eq_some_iff.1 HV4.out).1).trans HV4.out)
  have hB6 : Below wb.heap.size wb w6 := (HB4.out.trans (hb5.mono HB4.out.size)).trans (hb6.mono (by have := HB4.out.size; have := hb5.size; omega))
  have HM0 : Hid (MetaOwn w6 wb.heap.size (.agg #[.int .i64 tx0, .int .i64 r0, .int .i64 n0, .slice a0 F0 c0]) ⟨tx0, r0, n0, f0⟩) := hide (metaOwn_down (metaOwn_below (metaOwn_below HM4.out hb5) hb6) HL1.out)
  have HM1 : Hid (MetaOwn w6 wb.heap.size (.agg #[.int .i64 tx1, .int .i64 r1, .int .i64 n1, .slice a1 F1 c1]) ⟨tx1, r1, n1, f1⟩) := hide (metaOwn_down (metaOwn_below HMo1.out hb6) HB4.out.size)
  have HBw : Hid (Below w.heap.size w w6) := hide (HBb.out.trans (hB6.mono HBb.out.size))
  have ra := (hB6.block (w.heap.size + 1) (by have := HWb.out; omega)).trans HQr.out
  have y0 := (cell_at hV0 0).1
  have y1 := (cell_at hV0 1).1
  have y2 := (cell_at hV0 2).1
  have y3 := (cell_at hV0 3).1
  have a0' := (cell_at ra 0).1
  have a1' := (cell_at ra 1).1
  have a2' := (cell_at ra 2).1
  have a3' := (cell_at ra 3).1
  have z0 := (cell_at ra 0).2
  have z1 := (cell_at ra 1).2
  have z2 := (cell_at ra 2).2
  have z3 := (cell_at ra 3).2
  have x0 := (cell_at hV1 0).1
  have x1 := (cell_at hV1 1).1
  have x2 := (cell_at hV1 2).1
  have x3 := (cell_at hV1 3).1
  have HRA := hide ra
  have HW6 := hide hw6
  rw [hw6] at y0 y1 y2 y3 a0' a1' a2' a3' z0 z1 z2 z3 x0 x1 x2 x3
  rw [hg1] at x0 x1 x2 x3
  have n1' : g0 ≠ w.heap.size + 1 := by have h1 := HWb.out; have h2 := HB2.out.size; have h3 := HG0.out; omega
  clear hrd1 ho1 hb5 hb6 hF1 HMo1 hV0 hV1 ra hB6 hg1 hw6
  cases ok0 with
  | true =>
    cases ok1 with
    | true =>
      by_cases hle : tx1 ≤ tx0
      · have d1 : decide (tx1 ≤ tx0) = true := decide_eq_true hle
        have HBm : Hid (BestM t0 t1 ⟨tx0, r0, n0, f0⟩ true) := hide ⟨_, _, _, _, HR0.out, HR1.out, by rw [bestOf, if_pos ⟨rfl, Or.inr hle⟩]⟩
        clear hle
        go_wp2_with fail
        rw [← HW6.out]
        have hrt := ret_meta (m := ⟨tx0, r0, n0, f0⟩) HRA.out (metaOwn_down HM0.out (show w.heap.size + 1 + 1 ≤ wb.heap.size by have := HWb.out; omega)) (by omega)
        have t0 := (cell_at hrt.1 0).1
        have t1 := (cell_at hrt.1 1).1
        have t2 := (cell_at hrt.1 2).1
        have t3 := (cell_at hrt.1 3).1
        dsimp only at t0 t1 t2 t3
        refine bodyPost_ret (v := .tuple #[.agg #[.int .i64 tx0, .int .i64 r0, .int .i64 n0, .slice a0 F0 c0], .bool true]) (by simp [results, Tryz.results15, go_sem, t0, t1, t2, t3]) rfl ⟨⟨tx0, r0, n0, f0⟩, _, true, rfl, HBm.out, metaOwn_down hrt.2.1 (by omega), HBw.out.trans (hrt.2.2.mono (by have := HBw.out.size; omega))⟩
      · have d1 : decide (tx1 ≤ tx0) = false := decide_eq_false hle
        have HBm : Hid (BestM t0 t1 ⟨tx1, r1, n1, f1⟩ true) := hide ⟨_, _, _, _, HR0.out, HR1.out, by rw [bestOf, if_neg (fun h => by rcases h.2 with h | h; cases h; exact hle h), if_pos rfl]⟩
        clear hle
        go_wp2_with fail
        rw [← HW6.out]
        have hrt := ret_meta (m := ⟨tx1, r1, n1, f1⟩) HRA.out (metaOwn_down HM1.out (show w.heap.size + 1 + 1 ≤ wb.heap.size by have := HWb.out; omega)) (by omega)
        have t0 := (cell_at hrt.1 0).1
        have t1 := (cell_at hrt.1 1).1
        have t2 := (cell_at hrt.1 2).1
        have t3 := (cell_at hrt.1 3).1
        dsimp only at t0 t1 t2 t3
        refine bodyPost_ret (v := .tuple #[.agg #[.int .i64 tx1, .int .i64 r1, .int .i64 n1, .slice a1 F1 c1], .bool true]) (by simp [results, Tryz.results15, go_sem, t0, t1, t2, t3]) rfl ⟨⟨tx1, r1, n1, f1⟩, _, true, rfl, HBm.out, metaOwn_down hrt.2.1 (by omega), HBw.out.trans (hrt.2.2.mono (by have := HBw.out.size; omega))⟩
    | false =>
      have HBm : Hid (BestM t0 t1 ⟨tx0, r0, n0, f0⟩ true) := hide ⟨_, _, _, _, HR0.out, HR1.out, by rw [bestOf, if_pos ⟨rfl, Or.inl rfl⟩]⟩
      go_wp2_with fail
      rw [← HW6.out]
      have hrt := ret_meta (m := ⟨tx0, r0, n0, f0⟩) HRA.out (metaOwn_down HM0.out (show w.heap.size + 1 + 1 ≤ wb.heap.size by have := HWb.out; omega)) (by omega)
      have t0 := (cell_at hrt.1 0).1
      have t1 := (cell_at hrt.1 1).1
      have t2 := (cell_at hrt.1 2).1
      have t3 := (cell_at hrt.1 3).1
      dsimp only at t0 t1 t2 t3
      refine bodyPost_ret (v := .tuple #[.agg #[.int .i64 tx0, .int .i64 r0, .int .i64 n0, .slice a0 F0 c0], .bool true]) (by simp [results, Tryz.results15, go_sem, t0, t1, t2, t3]) rfl ⟨⟨tx0, r0, n0, f0⟩, _, true, rfl, HBm.out, metaOwn_down hrt.2.1 (by omega), HBw.out.trans (hrt.2.2.mono (by have := HBw.out.size; omega))⟩
  | false =>
    cases ok1 with
    | true =>
      have HBm : Hid (BestM t0 t1 ⟨tx1, r1, n1, f1⟩ true) := hide ⟨_, _, _, _, HR0.out, HR1.out, by rw [bestOf, if_neg (fun h => by cases h.1), if_pos rfl]⟩
      go_wp2_with fail
      rw [← HW6.out]
      have hrt := ret_meta (m := ⟨tx1, r1, n1, f1⟩) HRA.out (metaOwn_down HM1.out (show w.heap.size + 1 + 1 ≤ wb.heap.size by have := HWb.out; omega)) (by omega)
      have t0 := (cell_at hrt.1 0).1
      have t1 := (cell_at hrt.1 1).1
      have t2 := (cell_at hrt.1 2).1
      have t3 := (cell_at hrt.1 3).1
      dsimp only at t0 t1 t2 t3
      refine bodyPost_ret (v := .tuple #[.agg #[.int .i64 tx1, .int .i64 r1, .int .i64 n1, .slice a1 F1 c1], .bool true]) (by simp [results, Tryz.results15, go_sem, t0, t1, t2, t3]) rfl ⟨⟨tx1, r1, n1, f1⟩, _, true, rfl, HBm.out, metaOwn_down hrt.2.1 (by omega), HBw.out.trans (hrt.2.2.mono (by have := HBw.out.size; omega))⟩
    | false =>
      have HBm : Hid (BestM t0 t1 ⟨0, 0, 0, []⟩ false) := hide ⟨_, _, _, _, HR0.out, HR1.out, by rw [bestOf, if_neg (fun h => by cases h.1), if_neg (fun h => by cases h)]; rfl⟩
      go_wp2_with fail
      rw [← HW6.out]
      have hrt := ret_meta (m := ⟨0, 0, 0, []⟩) HRA.out (zero_own w6 (w.heap.size + 1 + 1)) (by omega)
      have t0 := (cell_at hrt.1 0).1
      have t1 := (cell_at hrt.1 1).1
      have t2 := (cell_at hrt.1 2).1
      have t3 := (cell_at hrt.1 3).1
      dsimp only at t0 t1 t2 t3
      refine bodyPost_ret (v := .tuple #[.agg #[.int .i64 0, .int .i64 0, .int .i64 0, .slice none 0 0], .bool false]) (by simp [results, Tryz.results15, go_sem, t0, t1, t2, t3]) rfl ⟨⟨0, 0, 0, []⟩, _, false, rfl, HBm.out, metaOwn_down hrt.2.1 (by omega), HBw.out.trans (hrt.2.2.mono (by have := HBw.out.size; omega))⟩

set_option maxHeartbeats 8000000 in
set_option maxRecDepth 100000 in
theorem implBestMeta_any (v : Value) (ps : List ByteArray) (ls : List (Int × ByteArray)) (hp : ps.length ≤ 1048576) (hl : ls.length ≤ 1048576) (hps : ∀ s ∈ ps, s.size ≤ 1048576) (hls : ∀ p ∈ ls, p.2.size ≤ 1048576) (w : World) (hT : SumTab w) (hE : ErrTab w) (hd : DiskAt w v ps ls) :
    Calls Tryz.prog 20 #[v] w fun e w' => BmPost w (readD ps ls 0) (readD ps ls 1) e w' := by
  have HT := hide (⟨hT, hE⟩ : _ ∧ _)
  clear hT hE
  have HP := hide (fun page wx h => implReadPage_any v ps ls hp hl hps hls page wx h)
  have HM := hide (fun page wx h h' => implReadMeta_any (readD ps ls page) (readD_small hps hls page) wx h h')
  have HD := hide hd
  obtain ⟨vp, vl, rfl, h1, h2⟩ := hd
  obtain ⟨xp, cp, rfl⟩ : ∃ a cap, vp = .slice a ps.length cap := by obtain ⟨-, a, cap, e, -⟩ := h1; exact ⟨a, cap, e⟩
  obtain ⟨xl, cl, rfl⟩ : ∃ a cap, vl = .slice a ls.length cap := by obtain ⟨-, a, cap, e, -⟩ := h2; exact ⟨a, cap, e⟩
  obtain ⟨t0, ht0⟩ : ∃ t, t = readD ps ls 0 := ⟨_, rfl⟩
  obtain ⟨t1, ht1⟩ : ∃ t, t = readD ps ls 1 := ⟨_, rfl⟩
  rw [← ht0, ← ht1]
  obtain ⟨np, hnp⟩ : ∃ n, n = ps.length := ⟨_, rfl⟩
  obtain ⟨nl, hnl⟩ : ∃ n, n = ls.length := ⟨_, rfl⟩
  rw [← hnp, ← hnl] at HD HP ⊢
  have HP0 := hide (fun wx h => HP.out 0 wx h)
  have HP1 := hide (fun wx h => HP.out 1 wx h)
  have HM0' := hide (HM.out 0)
  have HM1' := hide (HM.out 1)
  rw [← ht0] at HP0 HM0'
  rw [← ht1] at HP1 HM1'
  clear h1 h2 hp hl hps hls ht0 ht1 hnp hnl HP HM
  obtain ⟨wb, hwb⟩ : ∃ wb, wb = (w.alloc (.cells #[.slice xp np cp, .slice xl nl cl] 29 (0, 0))).alloc (.cells #[.int .i64 0, .int .i64 0, .int .i64 0, .slice none 0 0] 32 (0, 0)) := ⟨_, rfl⟩
  have hbb : Below w.heap.size w wb := by rw [hwb]; exact ((Below.refl _ _).alloc (Nat.le_refl _) _).alloc (by simp) _
  obtain ⟨qd, qr, hs⟩ := two_allocs w (.cells #[.slice xp np cp, .slice xl nl cl] 29 (0, 0)) (.cells #[.int .i64 0, .int .i64 0, .int .i64 0, .slice none 0 0] 32 (0, 0))
  rw [← hwb] at qd qr hs
  have HQd := hide qd
  have HQr := hide qr
  have HWb := hide hs
  have HBb := hide hbb
  clear qd qr hs hbb
  go_enter Tryz.func20, Tryz.ntmps20
  go_wp2_with fail
  rw [← hwb]
  clear hwb
  refine (HP0.out _ (disk_below HD.out HBb.out)).mono ?_
  rintro e w1 ⟨rfl, hb1⟩
  have HB1 : Hid (Below wb.heap.size wb w1) := hide hb1
  have HBw1 : Hid (Below w.heap.size w w1) := hide (HBb.out.trans (hb1.mono HBb.out.size))
  clear hb1
  go_wp2_with fail
  refine (HM0'.out w1 (sumTab_below HT.out.1 HBw1.out) (errTab_below HT.out.2 HBw1.out)).mono ?_
  rintro e w2 ⟨m0, v0, ok0, rfl, hrd0, hmo0, hb2⟩
  obtain ⟨vf0, l0, rfl, ho0⟩ := hmo0
  obtain ⟨tx0, r0, n0, f0⟩ := m0
  dsimp only at ho0 ⊢
  obtain ⟨a0, c0, rfl⟩ := own_slice ho0.1
  have HMo0 : Hid (MetaOwn w2 w1.heap.size (.agg #[.int .i64 tx0, .int .i64 r0, .int .i64 n0, .slice a0 f0.length c0]) ⟨tx0, r0, n0, f0⟩) := hide ⟨_, l0, rfl, ho0⟩
  obtain ⟨F0, hF0⟩ : ∃ F0, F0 = f0.length := ⟨_, rfl⟩
  rw [← hF0] at HMo0 ⊢
  have HR0 := hide hrd0
  have HB2 : Hid (Below wb.heap.size wb w2) := hide (HB1.out.trans (hb2.mono HB1.out.size))
  obtain ⟨w3, hw3⟩ : ∃ w3, w3 = w2.alloc (.cells #[.int .i64 tx0, .int .i64 r0, .int .i64 n0, .slice a0 F0 c0] 32 (0, 0)) := ⟨_, rfl⟩
  have hb3 : Below w2.heap.size w2 w3 := by rw [hw3]; exact (Below.refl _ _).alloc (Nat.le_refl _) _
  obtain ⟨g0, hg0⟩ : ∃ g, g = w2.heap.size := ⟨_, rfl⟩
  have HV0 : Hid (w3.heap[g0]? = some (.cells #[.int .i64 tx0, .int .i64 r0, .int .i64 n0, .slice a0 F0 c0] 32 (0, 0))) := hide (by rw [hw3, hg0]; exact heap_alloc_new w2 _)
  have HB3 : Hid (Below wb.heap.size wb w3) := hide (HB2.out.trans (hb3.mono HB2.out.size))
  have HM3 := hide (metaOwn_below HMo0.out hb3)
  have HBw3 : Hid (Below w.heap.size w w3) := hide (HBb.out.trans (HB3.out.mono HBb.out.size))
  have qd := (HB3.out.block w.heap.size (by have := HWb.out; omega)).trans HQd.out
  have d0 := (cell_at qd 0).1
  have d1 := (cell_at qd 1).1
  rw [hw3] at d0 d1
  have HG0 := hide hg0
  have HL1 : Hid (wb.heap.size ≤ w1.heap.size) := hide HB1.out.size
  clear hrd0 ho0 hb2 hb3 hF0 qd HMo0
  go_wp2_with fail
  rw [← HG0.out]
  try rw [← hw3]
  clear hw3 hg0 d0 d1
  refine (HP1.out _ (disk_below HD.out HBw3.out)).mono ?_
  rintro e w4 ⟨rfl, hb4⟩
  have HB4 : Hid (Below wb.heap.size wb w4) := hide (HB3.out.trans (hb4.mono HB3.out.size))
  have HBw4 : Hid (Below w.heap.size w w4) := hide (HBw3.out.trans (hb4.mono HBw3.out.size))
  have HV4 := hide ((hb4.block g0 (Array.getElem?_eq_some_iff.1 HV0.out).1).trans HV0.out)
  have HM4 := hide (metaOwn_below HM3.out hb4)
  clear hb4
  go_wp2_with fail
  refine (HM1'.out w4 (sumTab_below HT.out.1 HBw4.out) (errTab_below HT.out.2 HBw4.out)).mono ?_
  rintro e w5 ⟨m1, v1, ok1, rfl, hrd1, hmo1, hb5⟩
  obtain ⟨vf1, l1, rfl, ho1⟩ := hmo1
  obtain ⟨tx1, r1, n1, f1⟩ := m1
  dsimp only at ho1 ⊢
  obtain ⟨a1, c1, rfl⟩ := own_slice ho1.1
  have HMo1 : Hid (MetaOwn w5 w4.heap.size (.agg #[.int .i64 tx1, .int .i64 r1, .int .i64 n1, .slice a1 f1.length c1]) ⟨tx1, r1, n1, f1⟩) := hide ⟨_, l1, rfl, ho1⟩
  obtain ⟨F1, hF1⟩ : ∃ F1, F1 = f1.length := ⟨_, rfl⟩
  rw [← hF1] at HMo1 ⊢
  have HR1 := hide hrd1
  obtain ⟨w6, hw6⟩ : ∃ w6, w6 = w5.alloc (.cells #[.int .i64 tx1, .int .i64 r1, .int .i64 n1, .slice a1 F1 c1] 32 (0, 0)) := ⟨_, rfl⟩
  have hb6 : Below w5.heap.size w5 w6 := by rw [hw6]; exact (Below.refl _ _).alloc (Nat.le_refl _) _
  obtain ⟨g1, hg1⟩ : ∃ g, g = w5.heap.size := ⟨_, rfl⟩
  have hV1 : w6.heap[g1]? = some (.cells #[.int .i64 tx1, .int .i64 r1, .int .i64 n1, .slice a1 F1 c1] 32 (0, 0)) := by rw [hw6, hg1]; exact heap_alloc_new w5 _
  have hV0 := (hb6.block g0 (Nat.lt_of_lt_of_le (Array.getElem?_eq_some_iff.1 HV4.out).1 hb5.size)).trans ((hb5.block g0 (Array.getElem?_eq_some_iff.1 HV4.out).1).trans HV4.out)
  have hB6 : Below wb.heap.size wb w6 := (HB4.out.trans (hb5.mono HB4.out.size)).trans (hb6.mono (by have := HB4.out.size; have := hb5.size; omega))
  have HM0 : Hid (MetaOwn w6 wb.heap.size (.agg #[.int .i64 tx0, .int .i64 r0, .int .i64 n0, .slice a0 F0 c0]) ⟨tx0, r0, n0, f0⟩) := hide (metaOwn_down (metaOwn_below (metaOwn_below HM4.out hb5) hb6) HL1.out)
  have HM1 : Hid (MetaOwn w6 wb.heap.size (.agg #[.int .i64 tx1, .int .i64 r1, .int .i64 n1, .slice a1 F1 c1]) ⟨tx1, r1, n1, f1⟩) := hide (metaOwn_down (metaOwn_below HMo1.out hb6) HB4.out.size)
  have HBw : Hid (Below w.heap.size w w6) := hide (HBb.out.trans (hB6.mono HBb.out.size))
  have ra := (hB6.block (w.heap.size + 1) (by have := HWb.out; omega)).trans HQr.out
  have y0 := (cell_at hV0 0).1
  have y1 := (cell_at hV0 1).1
  have y2 := (cell_at hV0 2).1
  have y3 := (cell_at hV0 3).1
  have a0' := (cell_at ra 0).1
  have a1' := (cell_at ra 1).1
  have a2' := (cell_at ra 2).1
  have a3' := (cell_at ra 3).1
  have z0 := (cell_at ra 0).2
  have z1 := (cell_at ra 1).2
  have z2 := (cell_at ra 2).2
  have z3 := (cell_at ra 3).2
  have x0 := (cell_at hV1 0).1
  have x1 := (cell_at hV1 1).1
  have x2 := (cell_at hV1 2).1
  have x3 := (cell_at hV1 3).1
  have HRA := hide ra
  have HW6 := hide hw6
  rw [hw6] at y0 y1 y2 y3 a0' a1' a2' a3' z0 z1 z2 z3 x0 x1 x2 x3
  rw [hg1] at x0 x1 x2 x3
  have n1' : g0 ≠ w.heap.size + 1 := by have h1 := HWb.out; have h2 := HB2.out.size; have h3 := HG0.out; omega
  clear hrd1 ho1 hb5 hb6 hF1 HMo1 hV0 hV1 ra hB6 hg1 hw6
  cases ok1 with
  | true =>
    cases ok0 with
    | true =>
      by_cases hle : tx0 < tx1
      · have d1 : decide (tx0 < tx1) = true := decide_eq_true hle
        have HBm : Hid (BestM t0 t1 ⟨tx1, r1, n1, f1⟩ true) := hide ⟨_, _, _, _, HR0.out, HR1.out, by rw [bestOf, if_neg (fun h => by rcases h.2 with h | h; cases h; exact absurd hle (Int.not_lt.2 h)), if_pos rfl]⟩
        clear hle
        go_wp2_with fail
        rw [← HW6.out]
        have hrt := ret_meta (m := ⟨tx1, r1, n1, f1⟩) HRA.out (metaOwn_down HM1.out (show w.heap.size + 1 + 1 ≤ wb.heap.size by have := HWb.out; omega)) (by omega)
        have t0 := (cell_at hrt.1 0).1
        have t1 := (cell_at hrt.1 1).1
        have t2 := (cell_at hrt.1 2).1
        have t3 := (cell_at hrt.1 3).1
        dsimp only at t0 t1 t2 t3
        refine bodyPost_ret (v := .tuple #[.agg #[.int .i64 tx1, .int .i64 r1, .int .i64 n1, .slice a1 F1 c1], .bool true]) (by simp [results, Tryz.results20, go_sem, t0, t1, t2, t3]) rfl ⟨⟨tx1, r1, n1, f1⟩, _, true, rfl, HBm.out, metaOwn_down hrt.2.1 (by omega), HBw.out.trans (hrt.2.2.mono (by have := HBw.out.size; omega))⟩
      · have d1 : decide (tx0 < tx1) = false := decide_eq_false hle
        have HBm : Hid (BestM t0 t1 ⟨tx0, r0, n0, f0⟩ true) := hide ⟨_, _, _, _, HR0.out, HR1.out, by rw [bestOf, if_pos ⟨rfl, Or.inr (Int.not_lt.1 hle)⟩]⟩
        clear hle
        go_wp2_with fail
        rw [← HW6.out]
        have hrt := ret_meta (m := ⟨tx0, r0, n0, f0⟩) HRA.out (metaOwn_down HM0.out (show w.heap.size + 1 + 1 ≤ wb.heap.size by have := HWb.out; omega)) (by omega)
        have t0 := (cell_at hrt.1 0).1
        have t1 := (cell_at hrt.1 1).1
        have t2 := (cell_at hrt.1 2).1
        have t3 := (cell_at hrt.1 3).1
        dsimp only at t0 t1 t2 t3
        refine bodyPost_ret (v := .tuple #[.agg #[.int .i64 tx0, .int .i64 r0, .int .i64 n0, .slice a0 F0 c0], .bool true]) (by simp [results, Tryz.results20, go_sem, t0, t1, t2, t3]) rfl ⟨⟨tx0, r0, n0, f0⟩, _, true, rfl, HBm.out, metaOwn_down hrt.2.1 (by omega), HBw.out.trans (hrt.2.2.mono (by have := HBw.out.size; omega))⟩
    | false =>
      have HBm : Hid (BestM t0 t1 ⟨tx1, r1, n1, f1⟩ true) := hide ⟨_, _, _, _, HR0.out, HR1.out, by rw [bestOf, if_neg (fun h => by cases h.1), if_pos rfl]⟩
      go_wp2_with fail
      rw [← HW6.out]
      have hrt := ret_meta (m := ⟨tx1, r1, n1, f1⟩) HRA.out (metaOwn_down HM1.out (show w.heap.size + 1 + 1 ≤ wb.heap.size by have := HWb.out; omega)) (by omega)
      have t0 := (cell_at hrt.1 0).1
      have t1 := (cell_at hrt.1 1).1
      have t2 := (cell_at hrt.1 2).1
      have t3 := (cell_at hrt.1 3).1
      dsimp only at t0 t1 t2 t3
      refine bodyPost_ret (v := .tuple #[.agg #[.int .i64 tx1, .int .i64 r1, .int .i64 n1, .slice a1 F1 c1], .bool true]) (by simp [results, Tryz.results20, go_sem, t0, t1, t2, t3]) rfl ⟨⟨tx1, r1, n1, f1⟩, _, true, rfl, HBm.out, metaOwn_down hrt.2.1 (by omega), HBw.out.trans (hrt.2.2.mono (by have := HBw.out.size; omega))⟩
  | false =>
    cases ok0 with
    | true =>
      have HBm : Hid (BestM t0 t1 ⟨tx0, r0, n0, f0⟩ true) := hide ⟨_, _, _, _, HR0.out, HR1.out, by rw [bestOf, if_pos ⟨rfl, Or.inl rfl⟩]⟩
      go_wp2_with fail
      rw [← HW6.out]
      have hrt := ret_meta (m := ⟨tx0, r0, n0, f0⟩) HRA.out (metaOwn_down HM0.out (show w.heap.size + 1 + 1 ≤ wb.heap.size by have := HWb.out; omega)) (by omega)
      have t0 := (cell_at hrt.1 0).1
      have t1 := (cell_at hrt.1 1).1
      have t2 := (cell_at hrt.1 2).1
      have t3 := (cell_at hrt.1 3).1
      dsimp only at t0 t1 t2 t3
      refine bodyPost_ret (v := .tuple #[.agg #[.int .i64 tx0, .int .i64 r0, .int .i64 n0, .slice a0 F0 c0], .bool true]) (by simp [results, Tryz.results20, go_sem, t0, t1, t2, t3]) rfl ⟨⟨tx0, r0, n0, f0⟩, _, true, rfl, HBm.out, metaOwn_down hrt.2.1 (by omega), HBw.out.trans (hrt.2.2.mono (by have := HBw.out.size; omega))⟩
    | false =>
      have HBm : Hid (BestM t0 t1 ⟨tx0, r0, n0, f0⟩ false) := hide ⟨_, _, _, _, HR0.out, HR1.out, by rw [bestOf, if_neg (fun h => by cases h.1), if_neg (fun h => by cases h), readM_false HR0.out]⟩
      go_wp2_with fail
      rw [← HW6.out]
      have hrt := ret_meta (m := ⟨tx0, r0, n0, f0⟩) HRA.out (metaOwn_down HM0.out (show w.heap.size + 1 + 1 ≤ wb.heap.size by have := HWb.out; omega)) (by omega)
      have t0 := (cell_at hrt.1 0).1
      have t1 := (cell_at hrt.1 1).1
      have t2 := (cell_at hrt.1 2).1
      have t3 := (cell_at hrt.1 3).1
      dsimp only at t0 t1 t2 t3
      refine bodyPost_ret (v := .tuple #[.agg #[.int .i64 tx0, .int .i64 r0, .int .i64 n0, .slice a0 F0 c0], .bool false]) (by simp [results, Tryz.results20, go_sem, t0, t1, t2, t3]) rfl ⟨⟨tx0, r0, n0, f0⟩, _, false, rfl, HBm.out, metaOwn_down hrt.2.1 (by omega), HBw.out.trans (hrt.2.2.mono (by have := HBw.out.size; omega))⟩
end Go.Proofs.YtplkioelbdemjaaGreatDoor

namespace Go.Proofs.YtplkioelbdemjaaGreatDoor
open Go.RowKit

def mtO : Mt := ⟨0, 0, 0, []⟩

def wkO : Wk := ⟨[], [], 0, [], [], []⟩

/-- a store with nothing but a disk and a meta -/
def stOf (ps : List ByteArray) (ls : List (Int × ByteArray)) (m : Mt) : St := ⟨ps, ls, m, [], mtO, wkO, 0, false, false⟩

/-- what is opened -/
def openS (ps : List ByteArray) (ls : List (Int × ByteArray)) (m : Mt) (ok : Bool) : St := if ok = true then stOf ps ls m else stOf [] [] mtO

def OpPost (w : World) (ps : List ByteArray) (ls : List (Int × ByteArray)) (e : Ending) (w' : World) : Prop := ∃ m ok v, BestM (readD ps ls 0) (readD ps ls 1) m ok ∧ e = .returned (.tuple #[v, .bool (ok && diskOkB ps ls)]) ∧ StOwn w' w.heap.size v (openS ps ls m (ok && diskOkB ps ls)) ∧ Below w.heap.size w w'

theorem ownF_noneO (w : World) (B : Nat) : OwnF w B (.slice none 0 0) [] [] := ⟨⟨rfl, Or.inl ⟨rfl, rfl⟩⟩, rfl, fun i p f hi => (by simp at hi), fun i j p q b hi => (by simp at hi)⟩

theorem noFO (k : Nat) (h : freeBlocks (.slice none 0 0) [] k) : False := by
  rcases h with h | ⟨i, p, hp, -⟩
  · cases h
  · simp at hp

theorem noDO (k : Nat) (h : diskBlocks (.agg #[.slice none 0 0, .slice none 0 0]) k) : False := by
  obtain ⟨a, b, e2, h⟩ := h
  injection e2 with e2
  have e3 := congrArg Array.toList e2
  simp at e3
  obtain ⟨rfl, rfl⟩ := e3
  rcases h with h | h <;> cases h

theorem noWO (k : Nat) (h : workBlocks (.agg #[.slice none 0 0, .slice none 0 0, .int .i64 0, .slice none 0 0, .slice none 0 0, .slice none 0 0]) k) : False := by
  obtain ⟨vp, vl, n, vu, vg, vf, e, h⟩ := h
  obtain ⟨rfl, rfl, rfl, rfl, rfl, rfl⟩ := agg6 e
  rcases h with h | h | h | h
  · exact noDO k h
  · cases h
  · cases h
  · cases h

theorem work_noneO (w : World) (B : Nat) : WorkOwn w B (.agg #[.slice none 0 0, .slice none 0 0, .int .i64 0, .slice none 0 0, .slice none 0 0, .slice none 0 0]) wkO :=
  ⟨_, _, _, _, _, rfl, ⟨_, _, rfl, ⟨rfl, Or.inl ⟨rfl, rfl⟩⟩, ⟨rfl, Or.inl ⟨rfl, rfl⟩⟩⟩, ⟨none, 0, rfl, Nat.zero_le _, Or.inl ⟨rfl, rfl⟩⟩, ⟨none, 0, rfl, Nat.zero_le _, Or.inl ⟨rfl, rfl⟩⟩, ⟨none, 0, rfl, Nat.zero_le _, Or.inl ⟨rfl, rfl⟩⟩, fun j h => (by have h' : (none : Option Nat) = some j := h; cases h'), fun j h => (by have h' : (none : Option Nat) = some j := h; cases h'), fun j h => (by have h' : (none : Option Nat) = some j := h; cases h')⟩

/-- a store of a disk and a meta, in memory of its own -/
theorem stOf_own {w : World} {B : Nat} {p1 p2 p3 : Option Addr} {q1 q2 q3 : Nat} {ps : List ByteArray} {ls : List (Int × ByteArray)} {m : Mt} {l : List (Int × Value)} (h : Sep B w [diskA B (.agg #[.slice p1 ps.length q1, .slice p2 ls.length q2]) ps ls, freesA B (.slice p3 m.fs.length q3) l m.fs]) :
    StOwn w B (.agg #[.slice p1 ps.length q1, .slice p2 ls.length q2, .int .i64 m.tx, .int .i64 m.root, .int .i64 m.next, .slice p3 m.fs.length q3, .slice none 0 0, .int .i64 0, .int .i64 0, .int .i64 0, .slice none 0 0, .slice none 0 0, .slice none 0 0, .int .i64 0, .slice none 0 0, .slice none 0 0, .slice none 0 0, .int .i64 0, .bool false, .bool false]) (stOf ps ls m) := by
  refine ⟨p1, q1, p2, q2, p3, q3, none, 0, none, 0, none, 0, none, 0, none, 0, none, 0, none, 0, l, [], [], rfl, rfl, ?_⟩
  obtain ⟨a1, a2, h3⟩ := sep_cons.1 h
  obtain ⟨b1, -, -⟩ := sep_cons.1 h3
  refine sep_cons.2 ⟨a1, ?_, sep_cons.2 ⟨b1, ?_, sep_cons.2 ⟨⟨⟨fun A hA => ?_, ?_⟩, ?_⟩, ?_, sep_cons.2 ⟨⟨ownF_noneO w B, fun k hk => (noFO k hk).elim⟩, ?_, sep_cons.2 ⟨⟨work_noneO w B, fun k hk => (noWO k hk).elim⟩, (fun _ h => by cases h), sep_nil _ _⟩⟩⟩⟩⟩
  · intro A hA k hk hk'
    simp only [List.mem_cons, List.not_mem_nil, or_false] at hA
    rcases hA with rfl | rfl | rfl | rfl
    · exact a2 _ (List.mem_cons_self ..) k hk hk'
    · obtain ⟨X, hX, hF⟩ := hk'
      have hX' : X = rowA B 79 5 (.slice none 0 0) 0 [] := by simpa [rdsL, frL, stOf, rds] using hX
      subst hX'
      cases hF
    · exact noFO k hk'
    · exact noWO k hk'
  · intro A hA k hk hk'
    simp only [List.mem_cons, List.not_mem_nil, or_false] at hA
    rcases hA with rfl | rfl | rfl
    · obtain ⟨X, hX, hF⟩ := hk'
      have hX' : X = rowA B 79 5 (.slice none 0 0) 0 [] := by simpa [rdsL, frL, stOf, rds] using hX
      subst hX'
      cases hF
    · exact noFO k hk'
    · exact noWO k hk'
  · have hX' : A = rowA B 79 5 (.slice none 0 0) 0 [] := by simpa [rdsL, frL, stOf, rds] using hA
    subst hX'
    exact ⟨⟨rfl, Or.inl ⟨rfl, rfl⟩⟩, fun k hk => by cases hk⟩
  · simp [rdsL, frL, stOf]
  · rintro k ⟨X, hX, hF⟩
    have hX' : X = rowA B 79 5 (.slice none 0 0) 0 [] := by simpa [rdsL, frL, stOf, rds] using hX
    subst hX'
    cases hF
  · rintro A hA k ⟨X, hX, hF⟩ _
    have hX' : X = rowA B 79 5 (.slice none 0 0) 0 [] := by simpa [rdsL, frL, stOf, rds] using hX
    subst hX'
    cases hF
  · intro A hA k hk _
    exact noFO k hk

theorem st0_own (w : World) (B : Nat) : StOwn w B (.agg #[.slice none 0 0, .slice none 0 0, .int .i64 0, .int .i64 0, .int .i64 0, .slice none 0 0, .slice none 0 0, .int .i64 0, .int .i64 0, .int .i64 0, .slice none 0 0, .slice none 0 0, .slice none 0 0, .int .i64 0, .slice none 0 0, .slice none 0 0, .slice none 0 0, .int .i64 0, .bool false, .bool false]) (stOf [] [] mtO) :=
  stOf_own (p1 := none) (p2 := none) (p3 := none) (q1 := 0) (q2 := 0) (q3 := 0) (ps := []) (ls := []) (m := mtO) (l := []) (sep_cons.2 ⟨⟨⟨_, _, rfl, ⟨rfl, Or.inl ⟨rfl, rfl⟩⟩, ⟨rfl, Or.inl ⟨rfl, rfl⟩⟩⟩, fun k hk => (noDO k hk).elim⟩, fun _ _ k hk => (noDO k hk).elim, sep_cons.2 ⟨⟨ownF_noneO w B, fun k hk => (noFO k hk).elim⟩, fun _ _ k hk => (noFO k hk).elim, sep_nil _ _⟩⟩)

theorem Tryz.sizeMetaO : (Tryz.prog.info? 32).map (·.size) = some 4 := by kernel_rfl

theorem Tryz.sizeDiskO : (Tryz.prog.info? 29).map (·.size) = some 2 := by kernel_rfl

set_option maxHeartbeats 16000000 in
set_option maxRecDepth 100000 in
theorem specOpen_any (v : Value) (ps : List ByteArray) (ls : List (Int × ByteArray)) (hp : ps.length ≤ 1048576) (hl : ls.length ≤ 1048576) (hps : ∀ s ∈ ps, s.size ≤ 1048576) (hls : ∀ p ∈ ls, p.2.size ≤ 1048576) (w : World) (hd : DiskAt w v ps ls) :
    Calls Tryz.prog 5 #[v] w fun e w' => OpPost w ps ls e w' := by
  have HBm := hide (fun wx h => specBestMeta_any v ps ls hp hl hps hls wx h)
  have HOk := hide (fun wx h => specDiskOk_any v ps ls hp hl hps hls wx h)
  have HCo := hide (fun wx h => specCopy_any v ps ls hp hl wx h)
  have HD := hide hd
  obtain ⟨vp, vl, rfl, -, -⟩ := hd
  obtain ⟨dk, hdk⟩ : ∃ b, b = diskOkB ps ls := ⟨_, rfl⟩
  rw [← hdk] at HOk
  have HDk := hide hdk
  clear hp hl hps hls hdk
  obtain ⟨a0, ha0⟩ : ∃ a, a = w.heap.size := ⟨_, rfl⟩
  have hS0 := sep_new (sep_new (sep_nil w.heap.size w) (Obj.cells #[vp, vl] 29) (Nat.le_refl _)) (Obj.cells #[.slice none 0 0, .slice none 0 0, .int .i64 0, .int .i64 0, .int .i64 0, .slice none 0 0, .slice none 0 0, .int .i64 0, .int .i64 0, .int .i64 0, .slice none 0 0, .slice none 0 0, .slice none 0 0, .int .i64 0, .slice none 0 0, .slice none 0 0, .slice none 0 0, .int .i64 0, .bool false, .bool false] 40) (by simp)
  obtain ⟨w0, hw0⟩ : ∃ w0, w0 = (w.alloc (Obj.cells #[vp, vl] 29)).alloc (Obj.cells #[.slice none 0 0, .slice none 0 0, .int .i64 0, .int .i64 0, .int .i64 0, .slice none 0 0, .slice none 0 0, .int .i64 0, .int .i64 0, .int .i64 0, .slice none 0 0, .slice none 0 0, .slice none 0 0, .int .i64 0, .slice none 0 0, .slice none 0 0, .slice none 0 0, .int .i64 0, .bool false, .bool false] 40) := ⟨_, rfl⟩
  rw [World.size_alloc, ← hw0, ← ha0] at hS0
  have HS_w0 := hide hS0
  have HB_w0 : Hid (Below w.heap.size w w0) := hide (by rw [hw0]; exact ((Below.refl w.heap.size w).alloc (Nat.le_refl _) _).alloc (by simp) _)
  have HZ_w0 : Hid (a0 ≤ w0.heap.size) := hide (by rw [hw0, ha0]; simp; omega)
  have HA := hide ha0
  have HGA : Hid (w.heap.size ≤ a0 + 1) := hide (by omega)
  have x0 : w0.cell? ⟨a0, 0, none⟩ = some vp := (cell_at (sep_get HS_w0.out 1 rfl : w0.heap[a0]? = some (Obj.cells #[vp, vl] 29)) 0).1
  have x1 : w0.cell? ⟨a0, 1, none⟩ = some vl := (cell_at (sep_get HS_w0.out 1 rfl : w0.heap[a0]? = some (Obj.cells #[vp, vl] 29)) 1).1
  clear hS0 ha0
  go_enter Tryz.func5, Tryz.ntmps5
  go_upto_region 1 with fail
  rw [← hw0, ← HA.out]
  clear hw0
  go_wp2_with fail
  clear x0 x1
  refine (HBm.out w0 (disk_below HD.out HB_w0.out)).mono ?_
  rintro e w1 ⟨m, v1, ok, rfl, hbm, hmo, hb⟩
  obtain ⟨xr, l1, ev, ho⟩ := hmo
  obtain ⟨p3, q3, rfl⟩ := own_slice ho.1
  subst ev
  have HBM := hide hbm
  have HS_w1 := hide (sep_add HS_w0.out hb (freesA a0 (.slice p3 m.fs.length q3) l1 m.fs) (ownF_down ho HZ_w0.out) (fun j hj => ownF_lt ho j hj) HZ_w0.out)
  have HB_w1 : Hid (Below w.heap.size w w1) := hide (HB_w0.out.trans (hb.mono HB_w0.out.size))
  have HZ_w1 : Hid (a0 ≤ w1.heap.size) := hide (Nat.le_trans HZ_w0.out hb.size)
  clear hb ho hbm
  obtain ⟨g, hg⟩ : ∃ g, g = w1.heap.size := ⟨_, rfl⟩
  obtain ⟨w2, hw2⟩ : ∃ wx, wx = w1.alloc (Obj.cells #[.int .i64 m.tx, .int .i64 m.root, .int .i64 m.next, .slice p3 m.fs.length q3] 32) := ⟨_, rfl⟩
  have hs2 := sep_new HS_w1.out (Obj.cells #[.int .i64 m.tx, .int .i64 m.root, .int .i64 m.next, .slice p3 m.fs.length q3] 32) HZ_w1.out
  rw [← hw2, ← hg] at hs2
  have HS_w2 := hide hs2
  have HB_w2 : Hid (Below w.heap.size w w2) := hide (by rw [hw2]; exact HB_w1.out.alloc HB_w1.out.size _)
  have HZ_w2 : Hid (a0 ≤ w2.heap.size) := hide (by rw [hw2]; have := HZ_w1.out; simp; omega)
  clear hs2
  go_upto_region 2 with fail
  rw [← hw2, ← hg]
  clear hw2 hg
  cases ok with
  | false =>
    go_upto_region 3 with fail
    have HTh : Hid (w2.there (a0 + 1) 0 (#[.slice none 0 0, .slice none 0 0, .int .i64 0, .int .i64 0, .int .i64 0, .slice none 0 0, .slice none 0 0, .int .i64 0, .int .i64 0, .int .i64 0, .slice none 0 0, .slice none 0 0, .slice none 0 0, .int .i64 0, .slice none 0 0, .slice none 0 0, .slice none 0 0, .int .i64 0, .bool false, .bool false] : Array Value).size) := hide (there_of (sep_get HS_w2.out 2 rfl : w2.heap[a0 + 1]? = some (Obj.cells #[.slice none 0 0, .slice none 0 0, .int .i64 0, .int .i64 0, .int .i64 0, .slice none 0 0, .slice none 0 0, .int .i64 0, .int .i64 0, .int .i64 0, .slice none 0 0, .slice none 0 0, .slice none 0 0, .int .i64 0, .slice none 0 0, .slice none 0 0, .slice none 0 0, .int .i64 0, .bool false, .bool false] 40)) 0 20 (show 0 + 20 ≤ 20 by decide))
    obtain ⟨wf, hwf⟩ : ∃ wf, wf = w2.setCells (a0 + 1) 0 (#[.slice none 0 0, .slice none 0 0, .int .i64 0, .int .i64 0, .int .i64 0, .slice none 0 0, .slice none 0 0, .int .i64 0, .int .i64 0, .int .i64 0, .slice none 0 0, .slice none 0 0, .slice none 0 0, .int .i64 0, .slice none 0 0, .slice none 0 0, .slice none 0 0, .int .i64 0, .bool false, .bool false] : Array Value).toList := ⟨_, rfl⟩
    have HSf := sep_cellsAll HS_w2.out 2 rfl #[.slice none 0 0, .slice none 0 0, .int .i64 0, .int .i64 0, .int .i64 0, .slice none 0 0, .slice none 0 0, .int .i64 0, .int .i64 0, .int .i64 0, .slice none 0 0, .slice none 0 0, .slice none 0 0, .int .i64 0, .slice none 0 0, .slice none 0 0, .slice none 0 0, .int .i64 0, .bool false, .bool false] rfl
    have HBf := below_cells HGA.out (#[.slice none 0 0, .slice none 0 0, .int .i64 0, .int .i64 0, .int .i64 0, .slice none 0 0, .slice none 0 0, .int .i64 0, .int .i64 0, .int .i64 0, .slice none 0 0, .slice none 0 0, .slice none 0 0, .int .i64 0, .slice none 0 0, .slice none 0 0, .slice none 0 0, .int .i64 0, .bool false, .bool false] : Array Value).toList 0 w2 HB_w2.out
    rw [← hwf] at HSf HBf
    have HWf := hide hwf.symm
    have HSf := hide HSf
    have HBf := hide HBf
    clear hwf
    go_wp2_with ((with_reducible refine wpList_storeL ?_ 40 (.tmp 2) (.tmp 18) ?_ (a0 + 1) 0 #[.slice none 0 0, .slice none 0 0, .int .i64 0, .int .i64 0, .int .i64 0, .slice none 0 0, .slice none 0 0, .int .i64 0, .int .i64 0, .int .i64 0, .slice none 0 0, .slice none 0 0, .slice none 0 0, .int .i64 0, .slice none 0 0, .slice none 0 0, .slice none 0 0, .int .i64 0, .bool false, .bool false] ?_ ?_ HTh.out ?_ ?_ HWf.out ?_); exact rfl; exact rfl; exact rfl; exact rfl; exact Tryz.sizeStore; exact rfl)
    have HRf : Hid (wf.rangeAt (a0 + 1) 0 (#[.slice none 0 0, .slice none 0 0, .int .i64 0, .int .i64 0, .int .i64 0, .slice none 0 0, .slice none 0 0, .int .i64 0, .int .i64 0, .int .i64 0, .slice none 0 0, .slice none 0 0, .slice none 0 0, .int .i64 0, .slice none 0 0, .slice none 0 0, .slice none 0 0, .int .i64 0, .bool false, .bool false] : Array Value).toList) := hide (range_all (sep_get HSf.out 2 rfl))
    refine bodyPost_ret (v := .tuple #[.agg #[.slice none 0 0, .slice none 0 0, .int .i64 0, .int .i64 0, .int .i64 0, .slice none 0 0, .slice none 0 0, .int .i64 0, .int .i64 0, .int .i64 0, .slice none 0 0, .slice none 0 0, .slice none 0 0, .int .i64 0, .slice none 0 0, .slice none 0 0, .slice none 0 0, .int .i64 0, .bool false, .bool false], .bool false]) (results_ct Tryz.results5 rfl rfl (run_agg HRf.out Tryz.underlying40 rfl Tryz.sizeStore)) rfl ⟨m, false, .agg #[.slice none 0 0, .slice none 0 0, .int .i64 0, .int .i64 0, .int .i64 0, .slice none 0 0, .slice none 0 0, .int .i64 0, .int .i64 0, .int .i64 0, .slice none 0 0, .slice none 0 0, .slice none 0 0, .int .i64 0, .slice none 0 0, .slice none 0 0, .slice none 0 0, .int .i64 0, .bool false, .bool false], HBM.out, by rw [← HDk.out]; rfl, ?_, HBf.out⟩
    rw [← HDk.out]
    exact st0_own wf w.heap.size
  | true =>
    have x0 : w2.cell? ⟨a0, 0, none⟩ = some vp := (cell_at (sep_get HS_w2.out 3 rfl : w2.heap[a0]? = some (Obj.cells #[vp, vl] 29)) 0).1
    have x1 : w2.cell? ⟨a0, 1, none⟩ = some vl := (cell_at (sep_get HS_w2.out 3 rfl : w2.heap[a0]? = some (Obj.cells #[vp, vl] 29)) 1).1
    go_wp2_with fail
    clear x0 x1
    refine (HOk.out w2 (disk_below HD.out HB_w2.out)).mono ?_
    rintro e w3 ⟨rfl, hb⟩
    have HS_w3 := hide (sep_below HS_w2.out hb)
    have HB_w3 : Hid (Below w.heap.size w w3) := hide (HB_w2.out.trans (hb.mono HB_w2.out.size))
    have HZ_w3 : Hid (a0 ≤ w3.heap.size) := hide (Nat.le_trans HZ_w2.out hb.size)
    clear hb
    cases dk with
    | false =>
      go_upto_region 3 with fail
      have HTh : Hid (w3.there (a0 + 1) 0 (#[.slice none 0 0, .slice none 0 0, .int .i64 0, .int .i64 0, .int .i64 0, .slice none 0 0, .slice none 0 0, .int .i64 0, .int .i64 0, .int .i64 0, .slice none 0 0, .slice none 0 0, .slice none 0 0, .int .i64 0, .slice none 0 0, .slice none 0 0, .slice none 0 0, .int .i64 0, .bool false, .bool false] : Array Value).size) := hide (there_of (sep_get HS_w3.out 2 rfl : w3.heap[a0 + 1]? = some (Obj.cells #[.slice none 0 0, .slice none 0 0, .int .i64 0, .int .i64 0, .int .i64 0, .slice none 0 0, .slice none 0 0, .int .i64 0, .int .i64 0, .int .i64 0, .slice none 0 0, .slice none 0 0, .slice none 0 0, .int .i64 0, .slice none 0 0, .slice none 0 0, .slice none 0 0, .int .i64 0, .bool false, .bool false] 40)) 0 20 (show 0 + 20 ≤ 20 by decide))
      obtain ⟨wf, hwf⟩ : ∃ wf, wf = w3.setCells (a0 + 1) 0 (#[.slice none 0 0, .slice none 0 0, .int .i64 0, .int .i64 0, .int .i64 0, .slice none 0 0, .slice none 0 0, .int .i64 0, .int .i64 0, .int .i64 0, .slice none 0 0, .slice none 0 0, .slice none 0 0, .int .i64 0, .slice none 0 0, .slice none 0 0, .slice none 0 0, .int .i64 0, .bool false, .bool false] : Array Value).toList := ⟨_, rfl⟩
      have HSf := sep_cellsAll HS_w3.out 2 rfl #[.slice none 0 0, .slice none 0 0, .int .i64 0, .int .i64 0, .int .i64 0, .slice none 0 0, .slice none 0 0, .int .i64 0, .int .i64 0, .int .i64 0, .slice none 0 0, .slice none 0 0, .slice none 0 0, .int .i64 0, .slice none 0 0, .slice none 0 0, .slice none 0 0, .int .i64 0, .bool false, .bool false] rfl
      have HBf := below_cells HGA.out (#[.slice none 0 0, .slice none 0 0, .int .i64 0, .int .i64 0, .int .i64 0, .slice none 0 0, .slice none 0 0, .int .i64 0, .int .i64 0, .int .i64 0, .slice none 0 0, .slice none 0 0, .slice none 0 0, .int .i64 0, .slice none 0 0, .slice none 0 0, .slice none 0 0, .int .i64 0, .bool false, .bool false] : Array Value).toList 0 w3 HB_w3.out
      rw [← hwf] at HSf HBf
      have HWf := hide hwf.symm
      have HSf := hide HSf
      have HBf := hide HBf
      clear hwf
      go_wp2_with ((with_reducible refine wpList_storeL ?_ 40 (.tmp 2) (.tmp 18) ?_ (a0 + 1) 0 #[.slice none 0 0, .slice none 0 0, .int .i64 0, .int .i64 0, .int .i64 0, .slice none 0 0, .slice none 0 0, .int .i64 0, .int .i64 0, .int .i64 0, .slice none 0 0, .slice none 0 0, .slice none 0 0, .int .i64 0, .slice none 0 0, .slice none 0 0, .slice none 0 0, .int .i64 0, .bool false, .bool false] ?_ ?_ HTh.out ?_ ?_ HWf.out ?_); exact rfl; exact rfl; exact rfl; exact rfl; exact Tryz.sizeStore; exact rfl)
      have HRf : Hid (wf.rangeAt (a0 + 1) 0 (#[.slice none 0 0, .slice none 0 0, .int .i64 0, .int .i64 0, .int .i64 0, .slice none 0 0, .slice none 0 0, .int .i64 0, .int .i64 0, .int .i64 0, .slice none 0 0, .slice none 0 0, .slice none 0 0, .int .i64 0, .slice none 0 0, .slice none 0 0, .slice none 0 0, .int .i64 0, .bool false, .bool false] : Array Value).toList) := hide (range_all (sep_get HSf.out 2 rfl))
      refine bodyPost_ret (v := .tuple #[.agg #[.slice none 0 0, .slice none 0 0, .int .i64 0, .int .i64 0, .int .i64 0, .slice none 0 0, .slice none 0 0, .int .i64 0, .int .i64 0, .int .i64 0, .slice none 0 0, .slice none 0 0, .slice none 0 0, .int .i64 0, .slice none 0 0, .slice none 0 0, .slice none 0 0, .int .i64 0, .bool false, .bool false], .bool false]) (results_ct Tryz.results5 rfl rfl (run_agg HRf.out Tryz.underlying40 rfl Tryz.sizeStore)) rfl ⟨m, true, .agg #[.slice none 0 0, .slice none 0 0, .int .i64 0, .int .i64 0, .int .i64 0, .slice none 0 0, .slice none 0 0, .int .i64 0, .int .i64 0, .int .i64 0, .slice none 0 0, .slice none 0 0, .slice none 0 0, .int .i64 0, .slice none 0 0, .slice none 0 0, .slice none 0 0, .int .i64 0, .bool false, .bool false], HBM.out, by rw [← HDk.out]; rfl, ?_, HBf.out⟩
      rw [← HDk.out]
      exact st0_own wf w.heap.size
    | true =>
      go_upto_region 4 with fail
      obtain ⟨wd, hwd⟩ : ∃ wd, wd = w3.drew := ⟨_, rfl⟩
      have HS_wd := hide (sep_drew HS_w3.out)
      have HB_wd := hide HB_w3.out.drew
      have HZ_wd : Hid (a0 ≤ w3.drew.heap.size) := HZ_w3
      rw [← hwd] at HS_wd HB_wd HZ_wd
      have hS_wd : (fun wx => wx.heap[a0]? = some (Obj.cells #[vp, vl] 29) ∧ wx.heap[g]? = some (Obj.cells #[.int .i64 m.tx, .int .i64 m.root, .int .i64 m.next, .slice p3 m.fs.length q3] 32)) wd := ⟨sep_get HS_wd.out 3 rfl, sep_get HS_wd.out 0 rfl⟩
      refine wp_region_held_drew (S := fun wx => wx.heap[a0]? = some (Obj.cells #[vp, vl] 29) ∧ wx.heap[g]? = some (Obj.cells #[.int .i64 m.tx, .int .i64 m.root, .int .i64 m.next, .slice p3 m.fs.length q3] 32)) (by kernel_rfl) (by rw [← hwd]; exact hS_wd) (fun _ => ?_)
      rw [← hwd]
      clear hwd
      refine takeW 0 19 (.agg #[vp, vl]) rfl rfl (by kernel_rfl) (by kernel_rfl) (by kernel_rfl) (fun _ _ _ h => h) (yields_loadL (by rfl) 29 (.tmp 1) rfl a0 0 rfl #[vp, vl] _ (fun _ h => range_all h.1) Tryz.underlying29 rfl Tryz.sizeDiskO) hS_wd ?_
      (try simp only [List.setIfInBounds_toArray, List.set_cons_zero, List.set_cons_succ])
      refine takeW 2 21 (.agg #[.int .i64 m.tx, .int .i64 m.root, .int .i64 m.next, .slice p3 m.fs.length q3]) rfl rfl (by kernel_rfl) (by kernel_rfl) (by kernel_rfl) (fun _ _ _ h => h) (yields_loadL (by rfl) 32 (.tmp 4) rfl g 0 rfl #[.int .i64 m.tx, .int .i64 m.root, .int .i64 m.next, .slice p3 m.fs.length q3] _ (fun _ h => range_all h.2) Tryz.underlying32 rfl Tryz.sizeMetaO) hS_wd ?_
      (try simp only [List.setIfInBounds_toArray, List.set_cons_zero, List.set_cons_succ])
      refine wpAnyH_ready (rs := [1]) (by kernel_rfl) (by simp) ?_
      refine AllReadyH.cons rfl (fun K hK => ?_) AllReadyH.nil
      refine step_call1 wd ?_ 17 Tryz.f17 Tryz.func17 ?_ ?_ (.tmp 19) #[29] ?_ (.agg #[vp, vl]) ?_ _ (HCo.out wd (disk_below HD.out HB_wd.out)) ?_
      · exact rfl
      · decide
      · exact Option.some_ne_none _
      · exact rfl
      · exact rfl
      rintro e w4 ⟨v4, rfl, ho, hb⟩
      refine ⟨_, rfl, ?_⟩
      obtain ⟨d1, e1, d2, e2, rfl⟩ := disk_form ho
      have HS_w4 := hide (sep_add HS_wd.out hb (diskA a0 _ ps ls) (disk_downQ ho HZ_wd.out) (fun j hj => diskOwn_lt ho j hj) HZ_wd.out)
      have HB_w4 : Hid (Below w.heap.size w w4) := hide (HB_wd.out.trans (hb.mono HB_wd.out.size))
      have hS_w4 : (fun wx => wx.heap[a0]? = some (Obj.cells #[vp, vl] 29) ∧ wx.heap[g]? = some (Obj.cells #[.int .i64 m.tx, .int .i64 m.root, .int .i64 m.next, .slice p3 m.fs.length q3] 32)) w4 := ⟨sep_get HS_w4.out 4 rfl, sep_get HS_w4.out 1 rfl⟩
      refine hK.out (Act.put _ (some 20) _) _ hS_w4 (fun _ => ?_)
      clear hK K hb ho
      simp only [Act.put, List.setIfInBounds_toArray, List.set_cons_zero, List.set_cons_succ]
      refine takeW 3 22 ?_ rfl rfl (by kernel_rfl) (by kernel_rfl) (by kernel_rfl) (fun _ _ _ h => h) (Or.inl ⟨by rfl, ?_⟩) hS_w4 ?_
      rotate_left
      · (intro wx hSw; (try dsimp only at hSw); go_simp; try with_reducible rfl)
      (try simp only [List.setIfInBounds_toArray, List.set_cons_zero, List.set_cons_succ])
      have hth : w4.there (a0 + 1) 0 (#[.slice d1 ps.length e1, .slice d2 ls.length e2, .int .i64 m.tx, .int .i64 m.root, .int .i64 m.next, .slice p3 m.fs.length q3, .slice none 0 0, .int .i64 0, .int .i64 0, .int .i64 0, .slice none 0 0, .slice none 0 0, .slice none 0 0, .int .i64 0, .slice none 0 0, .slice none 0 0, .slice none 0 0, .int .i64 0, .bool false, .bool false] : Array Value).size := there_of (sep_get HS_w4.out 3 rfl : w4.heap[a0 + 1]? = some (Obj.cells #[.slice none 0 0, .slice none 0 0, .int .i64 0, .int .i64 0, .int .i64 0, .slice none 0 0, .slice none 0 0, .int .i64 0, .int .i64 0, .int .i64 0, .slice none 0 0, .slice none 0 0, .slice none 0 0, .int .i64 0, .slice none 0 0, .slice none 0 0, .slice none 0 0, .int .i64 0, .bool false, .bool false] 40)) 0 20 (show 0 + 20 ≤ 20 by decide)
      obtain ⟨wf, hwf⟩ : ∃ wf, wf = w4.setCells (a0 + 1) 0 (#[.slice d1 ps.length e1, .slice d2 ls.length e2, .int .i64 m.tx, .int .i64 m.root, .int .i64 m.next, .slice p3 m.fs.length q3, .slice none 0 0, .int .i64 0, .int .i64 0, .int .i64 0, .slice none 0 0, .slice none 0 0, .slice none 0 0, .int .i64 0, .slice none 0 0, .slice none 0 0, .slice none 0 0, .int .i64 0, .bool false, .bool false] : Array Value).toList := ⟨_, rfl⟩
      have hsf := sep_cellsAll HS_w4.out 3 rfl #[.slice d1 ps.length e1, .slice d2 ls.length e2, .int .i64 m.tx, .int .i64 m.root, .int .i64 m.next, .slice p3 m.fs.length q3, .slice none 0 0, .int .i64 0, .int .i64 0, .int .i64 0, .slice none 0 0, .slice none 0 0, .slice none 0 0, .int .i64 0, .slice none 0 0, .slice none 0 0, .slice none 0 0, .int .i64 0, .bool false, .bool false] rfl
      have hbf := below_cells HGA.out (#[.slice d1 ps.length e1, .slice d2 ls.length e2, .int .i64 m.tx, .int .i64 m.root, .int .i64 m.next, .slice p3 m.fs.length q3, .slice none 0 0, .int .i64 0, .int .i64 0, .int .i64 0, .slice none 0 0, .slice none 0 0, .slice none 0 0, .int .i64 0, .slice none 0 0, .slice none 0 0, .slice none 0 0, .int .i64 0, .bool false, .bool false] : Array Value).toList 0 w4 HB_w4.out
      rw [← hwf] at hsf hbf
      have hS_wf : (fun wx => wx.heap[a0]? = some (Obj.cells #[vp, vl] 29) ∧ wx.heap[g]? = some (Obj.cells #[.int .i64 m.tx, .int .i64 m.root, .int .i64 m.next, .slice p3 m.fs.length q3] 32)) wf := ⟨sep_get hsf 4 rfl, sep_get hsf 1 rfl⟩
      have HSf := hide hsf
      have HBf := hide hbf
      refine wpAnyH_ready (rs := [4]) (by kernel_rfl) (by simp) ?_
      refine AllReadyH.cons rfl (fun K hK => ?_) AllReadyH.nil
      refine step_storeL ?_ 40 (.tmp 2) (.tmp 22) ?_ (a0 + 1) 0 #[.slice d1 ps.length e1, .slice d2 ls.length e2, .int .i64 m.tx, .int .i64 m.root, .int .i64 m.next, .slice p3 m.fs.length q3, .slice none 0 0, .int .i64 0, .int .i64 0, .int .i64 0, .slice none 0 0, .slice none 0 0, .slice none 0 0, .int .i64 0, .slice none 0 0, .slice none 0 0, .slice none 0 0, .int .i64 0, .bool false, .bool false] ?_ ?_ hth ?_ ?_ hwf.symm ?_
      · exact rfl
      · exact rfl
      · exact rfl
      · exact rfl
      · exact Tryz.sizeStore
      · exact rfl
      refine hK.out _ _ hS_wf (fun _ => ?_)
      clear hK K hth hsf hbf hwf
      refine takeW 5 3 ?_ rfl rfl (by kernel_rfl) (by kernel_rfl) (by kernel_rfl) (fun _ _ _ h => h) (Or.inl ⟨by rfl, ?_⟩) hS_wf ?_
      rotate_left
      · (intro wx hSw; (try dsimp only at hSw); go_simp; try with_reducible rfl)
      (try simp only [List.setIfInBounds_toArray, List.set_cons_zero, List.set_cons_succ])
      refine wpAnyH_done (by kernel_rfl) ?_ _
      go_wp2_with fail
      have HRf : Hid (wf.rangeAt (a0 + 1) 0 (#[.slice d1 ps.length e1, .slice d2 ls.length e2, .int .i64 m.tx, .int .i64 m.root, .int .i64 m.next, .slice p3 m.fs.length q3, .slice none 0 0, .int .i64 0, .int .i64 0, .int .i64 0, .slice none 0 0, .slice none 0 0, .slice none 0 0, .int .i64 0, .slice none 0 0, .slice none 0 0, .slice none 0 0, .int .i64 0, .bool false, .bool false] : Array Value).toList) := hide (range_all (sep_get HSf.out 3 rfl))
      refine bodyPost_ret (v := .tuple #[.agg #[.slice d1 ps.length e1, .slice d2 ls.length e2, .int .i64 m.tx, .int .i64 m.root, .int .i64 m.next, .slice p3 m.fs.length q3, .slice none 0 0, .int .i64 0, .int .i64 0, .int .i64 0, .slice none 0 0, .slice none 0 0, .slice none 0 0, .int .i64 0, .slice none 0 0, .slice none 0 0, .slice none 0 0, .int .i64 0, .bool false, .bool false], .bool true]) (results_ct Tryz.results5 rfl rfl (run_agg HRf.out Tryz.underlying40 rfl Tryz.sizeStore)) rfl ⟨m, true, .agg #[.slice d1 ps.length e1, .slice d2 ls.length e2, .int .i64 m.tx, .int .i64 m.root, .int .i64 m.next, .slice p3 m.fs.length q3, .slice none 0 0, .int .i64 0, .int .i64 0, .int .i64 0, .slice none 0 0, .slice none 0 0, .slice none 0 0, .int .i64 0, .slice none 0 0, .slice none 0 0, .slice none 0 0, .int .i64 0, .bool false, .bool false], HBM.out, by rw [← HDk.out]; rfl, ?_, HBf.out⟩
      rw [← HDk.out]
      have h := stOf_own (sep_pick (pre := [_, _, _, _, _]) (rest := []) HSf.out [0, 2] (by decide) [_, _] rfl)
      rw [HA.out] at h
      exact h
end Go.Proofs.YtplkioelbdemjaaGreatDoor

namespace Go.Proofs.YtplkioelbdemjaaGreatDoor
open Go.RowKit

theorem staysM {w w' : World} {g : Nat} {o : Obj} (h : w.heap[g]? = some o) (hb : Below w.heap.size w w') : w'.heap[g]? = some o := (hb.block g (Array.getElem?_eq_some_iff.1 h).1).trans h

theorem readM_small {t : ByteArray} {m : Mt} {ok : Bool} (h : ReadM t m ok) : m.fs.length ≤ 20 ∧ (∀ f ∈ m.fs, f.2.length ≤ 40) ∧ bulkF m.fs ≤ 1000000 := by
  rcases h with ⟨-, h, -⟩ | ⟨-, rfl, -⟩
  · obtain ⟨h1, h2⟩ := ok_parts (good_ok h.1)
    have h3 : ∀ f ∈ m.fs, f.2.length ≤ 40 := fun f hf => (h2 f hf).2.2.2.1
    have h4 := freeNums_len m.fs h3
    refine ⟨h1.2.2.2.2.2, h3, ?_⟩
    have h5 : ∀ fs : List (Int × List Int), bulkF fs ≤ (freeNums fs).length := fun fs => by
      have h6 : ∀ fs : List (Int × List Int), fs.length + (fs.map fun p => p.2.length).sum ≤ (freeNums fs).length := fun fs => by
        induction fs with
        | nil => simp [freeNums]
        | cons f fs ih => rw [freeNums_cons]; simp; omega
      unfold bulkF sumF
      rw [List.take_length]
      exact h6 fs
    have := h5 m.fs
    omega
  · exact ⟨by simp [Mt.none], (fun f hf => by cases hf), by simp [Mt.none, bulkF, sumF]⟩

end Go.Proofs.YtplkioelbdemjaaGreatDoor

namespace Go.Proofs.YtplkioelbdemjaaGreatDoor
open Go.RowKit

theorem bulk_inB {ps : List ByteArray} {ls : List (Int × ByteArray)} (h : bulkS ps + bulkP ls ≤ 1048576) : ps.length ≤ 1048576 ∧ (∀ s ∈ ps, s.size ≤ 1048576) ∧ ls.length ≤ 1048576 ∧ ∀ p ∈ ls, p.2.size ≤ 1048576 := by
  rw [bulkS_eq] at h
  unfold bulkP at h
  refine ⟨by omega, fun s hs => ?_, by omega, fun p hp => ?_⟩
  · obtain ⟨i, hi, rfl⟩ := List.getElem_of_mem hs
    have h1 := sumS_succ ps i hi
    have h2 := sumS_mono ps (i + 1)
    omega
  · obtain ⟨i, hi, rfl⟩ := List.getElem_of_mem hp
    have h1 := sumP_succ ls i hi
    have h2 := sumP_mono ls (i + 1)
    omega

theorem best_small {t0 t1 : ByteArray} {m : Mt} {ok : Bool} (h : BestM t0 t1 m ok) : m.fs.length ≤ 20 ∧ (∀ f ∈ m.fs, f.2.length ≤ 40) ∧ bulkF m.fs ≤ 1000000 := by
  obtain ⟨m0, b0, m1, b1, h0, h1, h2⟩ := h
  unfold bestOf at h2
  split at h2
  · injection h2 with e1 e2
    subst e1
    exact readM_small h0
  · split at h2
    · injection h2 with e1 e2
      subst e1
      exact readM_small h1
    · injection h2 with e1 e2
      subst e1
      exact ⟨by simp [Mt.none], (fun f hf => by cases hf), by simp [Mt.none, bulkF, sumF]⟩

theorem disk_slices {w : World} {B : Nat} {v : Value} {ps : List ByteArray} {ls : List (Int × ByteArray)} (h : DiskOwn w B v ps ls) : ∃ a c b d, v = .agg #[.slice a ps.length c, .slice b ls.length d] := by
  obtain ⟨vp, vl, rfl, h1, h2⟩ := h
  obtain ⟨a, c, rfl⟩ := own_slice h1
  obtain ⟨b, d, rfl⟩ := own_slice h2
  exact ⟨a, c, b, d, rfl⟩

end Go.Proofs.YtplkioelbdemjaaGreatDoor

namespace Go.Proofs.YtplkioelbdemjaaGreatDoor
open Go.RowKit

theorem disk_arr {w : World} {B : Nat} {v : Value} {ps : List ByteArray} {ls : List (Int × ByteArray)} (h : DiskOwn w B v ps ls) : ∃ cs : Array Value, v = .agg cs ∧ cs.size = 2 ∧ cs.toList.all (·.oneCell') = true := by
  obtain ⟨x, c, y, d, e⟩ := disk_form h
  exact ⟨_, e, rfl, rfl⟩

theorem wkO_bulk : wkO.bulk ≤ 1048576 := by decide

theorem open_small {ps : List ByteArray} {ls : List (Int × ByteArray)} {m : Mt} (b : Bool) (h : bulkS ps + bulkP ls ≤ 1048576) (h1 : m.fs.length ≤ 20) (h2 : ∀ f ∈ m.fs, f.2.length ≤ 40) (h3 : bulkF m.fs ≤ 1000000) : (openS ps ls m b).small ∧ (openS ps ls m b).may := by
  have hb := bulk_inW h
  have key : ∀ (qs : List ByteArray) (ks : List (Int × ByteArray)) (n : Mt), (qs.length ≤ 1048576 ∧ (∀ t ∈ qs, t.size ≤ 1048576) ∧ ks.length ≤ 1048576 ∧ ∀ p ∈ ks, p.2.size ≤ 1048576) → n.fs.length ≤ 20 → (∀ f ∈ n.fs, f.2.length ≤ 40) → bulkF n.fs ≤ 1000000 → (stOf qs ks n).small ∧ (stOf qs ks n).may := fun qs ks n g g1 g2 g3 =>
    ⟨⟨g, ⟨by show n.fs.length ≤ _; omega, fun f hf => by have := g2 f hf; omega⟩, ⟨Nat.zero_le _, fun r hr => (by cases hr)⟩, ⟨Nat.zero_le _, fun f hf => (by cases hf)⟩, wkO_bulk⟩, ⟨⟨g.1, g.2.2.1⟩, ⟨by show n.fs.length ≤ _; omega, fun f hf => by have := g2 f hf; omega, by show bulkF n.fs ≤ _; omega⟩, ⟨Nat.zero_le _, fun r hr => (by cases hr), by simp [stOf, sumR]⟩, ⟨Nat.zero_le _, fun f hf => (by cases hf), by simp [stOf, mtO, bulkF, sumF]⟩, bulkW_in wkO_bulk⟩⟩
  unfold openS
  split
  · exact key ps ls m hb h1 h2 h3
  · exact key [] [] mtO ⟨Nat.zero_le _, fun t ht => (by cases ht), Nat.zero_le _, fun p hp => (by cases hp)⟩ (Nat.zero_le _) (fun f hf => by cases hf) (by simp [mtO, bulkF, sumF])

theorem Tryz.sizeLD : (Tryz.prog.info? 25).map (·.size) = some 2 := by kernel_rfl

set_option maxHeartbeats 16000000 in
set_option maxRecDepth 100000 in
theorem lawOpen (v : Value) (ps : List ByteArray) (ls : List (Int × ByteArray)) (bp : ps.length ≤ maxLen) (bq : ∀ s ∈ ps, s.size ≤ maxLen) (bl : ls.length ≤ maxLen) (bm : ∀ p ∈ ls, p.2.size ≤ maxLen) (T : World → Prop) (hTb : ∀ wx wy, T wx → Below wx.heap.size wx wy → T wy)
    (hI : bulkS ps + bulkP ls ≤ 1048576 → ∀ u wx, T wx → DiskAt wx u ps ls → Calls Tryz.prog 7 #[u] wx fun e w' => OpPost wx ps ls e w') (w : World) (hT : T w) (hd : DiskAt w v ps ls) :
    Calls Tryz.prog 3 #[v] w fun e w' => e = .returned (.bool true) ∧ Below w.heap.size w w' := by
  have HTb : Hid (∀ wy, Below w.heap.size w wy → T wy) := hide (fun wy h => hTb w wy hT h)
  have HSz := hide (fun wx h => szDisk_any v ps ls bp bq bl bm 1048576 (Nat.le_refl _) wx h)
  have HSt := hide hd
  obtain ⟨vp, vl, e0, -, -⟩ := hd
  obtain ⟨cs, hcs, hn⟩ : ∃ cs : Array Value, v = .agg cs ∧ cs.size = 2 := ⟨_, e0, rfl⟩
  subst hcs
  have HN : Hid ((Tryz.prog.info? 25).map (·.size) = some cs.size) := hide (by rw [hn]; exact Tryz.sizeLD)
  clear bp bq bl bm hTb hT e0 hn
  obtain ⟨a0, ha0⟩ : ∃ a, a = w.heap.size := ⟨_, rfl⟩
  have hS0 := sep_new (sep_nil w.heap.size w) (Obj.cells cs 25) (Nat.le_refl _)
  obtain ⟨w0, hw0⟩ : ∃ w0, w0 = w.alloc (Obj.cells cs 25) := ⟨_, rfl⟩
  rw [← hw0, ← ha0] at hS0
  have HS_w0 := hide hS0
  have HB_w0 : Hid (Below w.heap.size w w0) := hide (by rw [hw0]; exact (Below.refl w.heap.size w).alloc (Nat.le_refl _) _)
  have HZ_w0 : Hid (a0 ≤ w0.heap.size) := hide (by rw [hw0, ha0]; simp)
  have HA := hide ha0
  have HR0 : Hid (w0.rangeAt a0 0 cs.toList) := hide (range_all (sep_get HS_w0.out 0 rfl : w0.heap[a0]? = some (Obj.cells cs 25)))
  clear hS0 ha0
  by_cases hbk : bulkS ps + bulkP ls ≤ 1048576
  rotate_left
  · rw [szOut_no (by omega)] at HSz
    go_enter Tryz.func3, Tryz.ntmps3
    go_upto_region 2 with fail
    rw [← hw0, ← HA.out]
    clear hw0
    go_wp2_with ((with_reducible refine wpList_loadL ?_ 25 (.tmp 1) ?_ a0 0 ?_ cs HR0.out _ Tryz.underlying25 ?_ ?_ ?_); exact rfl; exact rfl; exact rfl; exact rfl; exact HN.out)
    refine (HSz.out _ (disk_below HSt.out HB_w0.out)).mono ?_
    rintro e w1 ⟨rfl, hb1⟩
    go_wp2_with fail
    go_ret
    exact ⟨rfl, HB_w0.out.trans (hb1.mono HB_w0.out.size)⟩
  obtain ⟨r, hr⟩ : ∃ r : Nat, szOut 1048576 (bulkS ps + bulkP ls) = (r : Int) := ⟨_, szOut_yes hbk⟩
  rw [hr] at HSz
  obtain ⟨f1, f2, f3, f4⟩ := bulk_inW hbk
  have HSp := hide (fun u wx h => specOpen_any u ps ls f1 f3 f2 f4 wx h)
  have HIm := hide (hI hbk)
  have HTo := hide (fun u wx h => toDisk_any u ps ls f1 f3 wx h)
  have HEx := hide (fun u u' wx h h' => eqDisk_one u u' ps ls f1 f3 wx h h')
  have HMx := hide (fun v B rest wx h hB => markDisk_sep 1 (by omega) (by omega) v ps ls f1 f3 B rest wx h hB)
  obtain ⟨kx, hkx⟩ : ∃ n, n = 1 + ps.length + ls.length * 2 := ⟨_, rfl⟩
  rw [← hkx] at HMx
  have dx : decide ((kx : Int) < 0) = false := decide_eq_false (by omega)
  have HOp := hide (fun (m : Mt) (b : Bool) h1 h2 h3 => open_small (ps := ps) (ls := ls) (m := m) b hbk h1 h2 h3)
  clear hbk hr hI f1 f2 f3 f4 hkx
  go_enter Tryz.func3, Tryz.ntmps3
  go_upto_region 2 with fail
  rw [← hw0, ← HA.out]
  clear hw0 HR0
  have HRg : Hid (w0.rangeAt a0 0 cs.toList) := hide (range_all (sep_get HS_w0.out 0 rfl : w0.heap[a0]? = some (Obj.cells cs 25)))
  go_wp2_with ((with_reducible refine wpList_loadL ?_ 25 (.tmp 1) ?_ a0 0 ?_ cs HRg.out _ Tryz.underlying25 ?_ ?_ ?_); exact rfl; exact rfl; exact rfl; exact rfl; exact HN.out)
  clear HRg
  refine (HSz.out _ (disk_below HSt.out HB_w0.out)).mono ?_
  rintro e w1 ⟨rfl, hb⟩
  have HS_w1 := hide (sep_below HS_w0.out hb)
  have HB_w1 : Hid (Below w.heap.size w w1) := hide (HB_w0.out.trans (hb.mono HB_w0.out.size))
  have HZ_w1 : Hid (a0 ≤ w1.heap.size) := hide (Nat.le_trans HZ_w0.out hb.size)
  clear hb
  have HRg : Hid (w1.rangeAt a0 0 cs.toList) := hide (range_all (sep_get HS_w1.out 0 rfl : w1.heap[a0]? = some (Obj.cells cs 25)))
  go_wp2_with ((with_reducible refine wpList_loadL ?_ 25 (.tmp 1) ?_ a0 0 ?_ cs HRg.out _ Tryz.underlying25 ?_ ?_ ?_); exact rfl; exact rfl; exact rfl; exact rfl; exact HN.out)
  clear HRg
  refine (HTo.out _ _ (disk_below HSt.out HB_w1.out)).mono ?_
  rintro e w2 ⟨va, rfl, hoa, hb⟩
  have HS_w2 := hide (sep_below HS_w1.out hb)
  have HB_w2 : Hid (Below w.heap.size w w2) := hide (HB_w1.out.trans (hb.mono HB_w1.out.size))
  have HZ_w2 : Hid (a0 ≤ w2.heap.size) := hide (Nat.le_trans HZ_w1.out hb.size)
  have HOa := hide (disk_of_own hoa)
  clear hb hoa
  go_wp2_with fail
  refine (HSp.out _ _ HOa.out).mono ?_
  rintro e w3 ⟨m, ok, v1, hbm, rfl, ho1, hb⟩
  obtain ⟨c, hc⟩ : ∃ c, c = (ok && diskOkB ps ls) := ⟨_, rfl⟩
  rw [← hc] at ho1 ⊢
  obtain ⟨t, ht⟩ : ∃ t, t = openS ps ls m c := ⟨_, rfl⟩
  rw [← ht] at ho1
  have HBM := hide hbm
  have HCt := hide (⟨hc, ht⟩ : _ ∧ _)
  obtain ⟨m1, m2, m3⟩ := best_small hbm
  obtain ⟨tsm, tma⟩ := HOp.out m c m1 m2 m3
  rw [← ht] at tsm tma
  have HEr := hide (fun u u' wx h h' => eqStore_same u u' t tsm wx h h')
  have HMr := hide (fun v L B ht rest wx h hB => markStore_L 1 (by omega) (by omega) v t tma L B ht rest wx h hB)
  have HHr := hide (fun v wx h => heldStore_L 1 (by omega) (by omega) v t tma wx h)
  obtain ⟨kz, hkz⟩ : ∃ n, n = t.k4 1 := ⟨_, rfl⟩
  rw [← hkz] at HMr HHr
  have dz : (c != c) = false := by cases c <;> rfl
  have dk : ((kz : Int) != (kz : Int)) = false := by simp
  have dn : decide ((kz : Int) < 0) = false := decide_eq_false (by omega)
  clear hbm hc ht m1 m2 m3 tsm tma hkz HOp
  obtain ⟨L1, hL1, hs1⟩ := sep_st HS_w2.out hb ho1 HZ_w2.out
  have HS_w3 := hide (hs1)
  have HB_w3 : Hid (Below w.heap.size w w3) := hide (HB_w2.out.trans (hb.mono HB_w2.out.size))
  have HZ_w3 : Hid (a0 ≤ w3.heap.size) := hide (Nat.le_trans HZ_w2.out hb.size)
  obtain ⟨cs1, rfl, hz1, ho11⟩ := things_arr hL1
  have HT1 := hide hL1
  have HO11 := hide ho11
  have HN1 : Hid ((Tryz.prog.info? 40).map (·.size) = some cs1.size) := hide (by rw [hz1]; exact Tryz.sizeStore)
  have HY1 := hide hz1
  clear hb ho1 hL1 hs1 ho11 hz1
  obtain ⟨g4, hg4⟩ : ∃ g, g = w3.heap.size := ⟨_, rfl⟩
  obtain ⟨w4, hw4⟩ : ∃ wx, wx = (w3.alloc (Obj.cells #[.slice none 0 0, .slice none 0 0, .int .i64 0, .int .i64 0, .int .i64 0, .slice none 0 0, .slice none 0 0, .int .i64 0, .int .i64 0, .int .i64 0, .slice none 0 0, .slice none 0 0, .slice none 0 0, .int .i64 0, .slice none 0 0, .slice none 0 0, .slice none 0 0, .int .i64 0, .bool false, .bool false] 40)).setCells w3.heap.size 0 cs1.toList := ⟨_, rfl⟩
  have hsv := sep_cellsAll (sep_new HS_w3.out (Obj.cells #[.slice none 0 0, .slice none 0 0, .int .i64 0, .int .i64 0, .int .i64 0, .slice none 0 0, .slice none 0 0, .int .i64 0, .int .i64 0, .int .i64 0, .slice none 0 0, .slice none 0 0, .slice none 0 0, .int .i64 0, .slice none 0 0, .slice none 0 0, .slice none 0 0, .int .i64 0, .bool false, .bool false] 40) HZ_w3.out) 0 rfl cs1 (by rw [HY1.out]; rfl)
  have hth : Hid ((w3.alloc (Obj.cells #[.slice none 0 0, .slice none 0 0, .int .i64 0, .int .i64 0, .int .i64 0, .slice none 0 0, .slice none 0 0, .int .i64 0, .int .i64 0, .int .i64 0, .slice none 0 0, .slice none 0 0, .slice none 0 0, .int .i64 0, .slice none 0 0, .slice none 0 0, .slice none 0 0, .int .i64 0, .bool false, .bool false] 40)).there w3.heap.size 0 cs1.size) := hide (there_of (heap_alloc_new w3 (Obj.cells #[.slice none 0 0, .slice none 0 0, .int .i64 0, .int .i64 0, .int .i64 0, .slice none 0 0, .slice none 0 0, .int .i64 0, .int .i64 0, .int .i64 0, .slice none 0 0, .slice none 0 0, .slice none 0 0, .int .i64 0, .slice none 0 0, .slice none 0 0, .slice none 0 0, .int .i64 0, .bool false, .bool false] 40)) 0 cs1.size (by rw [HY1.out]; exact Nat.le_refl 20))
  have HB_w4 : Hid (Below w.heap.size w w4) := hide (by rw [hw4]; exact below_cells HB_w3.out.size _ 0 _ (HB_w3.out.alloc HB_w3.out.size _))
  have HZ_w4 : Hid (a0 ≤ w4.heap.size) := hide (by rw [hw4, size_cells]; have := HZ_w3.out; simp; omega)
  rw [← hw4, ← hg4] at hsv
  have HS_w4 := hide hsv
  have HW := hide hw4.symm
  clear hsv hw4
  go_upto_region 6 with ((with_reducible refine wpList_storeL ?_ 40 (.tmp 4) (.tmp 23) ?_ w3.heap.size 0 cs1 ?_ ?_ hth.out ?_ ?_ HW.out ?_); exact rfl; exact rfl; exact rfl; exact rfl; exact HN1.out; exact HO11.out)
  rw [← hg4]
  clear hg4 hth HW
  clear HOa
  have HRg : Hid (w4.rangeAt a0 0 cs.toList) := hide (range_all (sep_get HS_w4.out 2 rfl : w4.heap[a0]? = some (Obj.cells cs 25)))
  go_wp2_with ((with_reducible refine wpList_loadL ?_ 25 (.tmp 1) ?_ a0 0 ?_ cs HRg.out _ Tryz.underlying25 ?_ ?_ ?_); exact rfl; exact rfl; exact rfl; exact rfl; exact HN.out)
  clear HRg
  refine (HTo.out _ _ (disk_below HSt.out HB_w4.out)).mono ?_
  rintro e w5 ⟨vx, rfl, hox, hb⟩
  obtain ⟨csx, rfl, hzx, ho1x⟩ := disk_arr hox
  have HS_w5 := hide (sep_add HS_w4.out hb (diskA a0 (.agg csx) ps ls) (disk_downQ hox HZ_w4.out) (fun j hj => diskOwn_lt hox j hj) HZ_w4.out)
  have HB_w5 : Hid (Below w.heap.size w w5) := hide (HB_w4.out.trans (hb.mono HB_w4.out.size))
  have HZ_w5 : Hid (a0 ≤ w5.heap.size) := hide (Nat.le_trans HZ_w4.out hb.size)
  have HYx := hide hzx
  have HO1x := hide ho1x
  have HNx : Hid ((Tryz.prog.info? 29).map (·.size) = some csx.size) := hide (by rw [hzx]; exact Tryz.sizeDiskO)
  clear hb hox hzx ho1x
  obtain ⟨g6, hg6⟩ : ∃ g, g = w5.heap.size := ⟨_, rfl⟩
  obtain ⟨w6, hw6⟩ : ∃ wx, wx = (w5.alloc (Obj.cells #[.slice none 0 0, .slice none 0 0] 29)).setCells w5.heap.size 0 csx.toList := ⟨_, rfl⟩
  have hsv := sep_cellsAll (sep_new HS_w5.out (Obj.cells #[.slice none 0 0, .slice none 0 0] 29) HZ_w5.out) 0 rfl csx (by rw [HYx.out]; rfl)
  have hth : Hid ((w5.alloc (Obj.cells #[.slice none 0 0, .slice none 0 0] 29)).there w5.heap.size 0 csx.size) := hide (there_of (heap_alloc_new w5 (Obj.cells #[.slice none 0 0, .slice none 0 0] 29)) 0 csx.size (by rw [HYx.out]; exact Nat.le_refl 2))
  have HB_w6 : Hid (Below w.heap.size w w6) := hide (by rw [hw6]; exact below_cells HB_w5.out.size _ 0 _ (HB_w5.out.alloc HB_w5.out.size _))
  have HZ_w6 : Hid (a0 ≤ w6.heap.size) := hide (by rw [hw6, size_cells]; have := HZ_w5.out; simp; omega)
  rw [← hw6, ← hg6] at hsv
  have HS_w6 := hide hsv
  have HW := hide hw6.symm
  clear hsv hw6
  go_upto_region 7 with ((with_reducible refine wpList_storeL ?_ 29 (.tmp 6) (.tmp 26) ?_ w5.heap.size 0 csx ?_ ?_ hth.out ?_ ?_ HW.out ?_); exact rfl; exact rfl; exact rfl; exact rfl; exact HNx.out; exact HO1x.out)
  rw [← hg6]
  clear hg6 hth HW
  have HRg : Hid (w6.rangeAt g6 0 csx.toList) := hide (range_all (sep_get HS_w6.out 0 rfl : w6.heap[g6]? = some (Obj.cells csx 29)))
  go_wp2_with ((with_reducible refine wpList_loadL ?_ 29 (.tmp 6) ?_ g6 0 ?_ csx HRg.out _ Tryz.underlying29 ?_ ?_ ?_); exact rfl; exact rfl; exact rfl; exact rfl; exact HNx.out)
  clear HRg
  refine (HIm.out _ _ (HTb.out _ HB_w6.out) (disk_of_own (sep_get HS_w6.out 1 rfl))).mono ?_
  rintro e w7 ⟨m', ok', v2, hbm', rfl, ho2, hb⟩
  obtain ⟨rfl, rfl⟩ := bestM_one HBM.out hbm'
  clear hbm'
  rw [← HCt.out.1] at ho2 ⊢
  rw [← HCt.out.2] at ho2
  obtain ⟨L2, hL2, hs2⟩ := sep_st HS_w6.out hb ho2 HZ_w6.out
  have HS_w7 := hide (hs2)
  have HB_w7 : Hid (Below w.heap.size w w7) := hide (HB_w6.out.trans (hb.mono HB_w6.out.size))
  have HZ_w7 : Hid (a0 ≤ w7.heap.size) := hide (Nat.le_trans HZ_w6.out hb.size)
  obtain ⟨cs2, rfl, hz2, ho12⟩ := things_arr hL2
  have HT2 := hide hL2
  have HO12 := hide ho12
  have HN2 : Hid ((Tryz.prog.info? 40).map (·.size) = some cs2.size) := hide (by rw [hz2]; exact Tryz.sizeStore)
  have HY2 := hide hz2
  clear hb ho2 hL2 hs2 ho12 hz2
  obtain ⟨g8, hg8⟩ : ∃ g, g = w7.heap.size := ⟨_, rfl⟩
  obtain ⟨w8, hw8⟩ : ∃ wx, wx = (w7.alloc (Obj.cells #[.slice none 0 0, .slice none 0 0, .int .i64 0, .int .i64 0, .int .i64 0, .slice none 0 0, .slice none 0 0, .int .i64 0, .int .i64 0, .int .i64 0, .slice none 0 0, .slice none 0 0, .slice none 0 0, .int .i64 0, .slice none 0 0, .slice none 0 0, .slice none 0 0, .int .i64 0, .bool false, .bool false] 40)).setCells w7.heap.size 0 cs2.toList := ⟨_, rfl⟩
  have hsv := sep_cellsAll (sep_new HS_w7.out (Obj.cells #[.slice none 0 0, .slice none 0 0, .int .i64 0, .int .i64 0, .int .i64 0, .slice none 0 0, .slice none 0 0, .int .i64 0, .int .i64 0, .int .i64 0, .slice none 0 0, .slice none 0 0, .slice none 0 0, .int .i64 0, .slice none 0 0, .slice none 0 0, .slice none 0 0, .int .i64 0, .bool false, .bool false] 40) HZ_w7.out) 0 rfl cs2 (by rw [HY2.out]; rfl)
  have hth : Hid ((w7.alloc (Obj.cells #[.slice none 0 0, .slice none 0 0, .int .i64 0, .int .i64 0, .int .i64 0, .slice none 0 0, .slice none 0 0, .int .i64 0, .int .i64 0, .int .i64 0, .slice none 0 0, .slice none 0 0, .slice none 0 0, .int .i64 0, .slice none 0 0, .slice none 0 0, .slice none 0 0, .int .i64 0, .bool false, .bool false] 40)).there w7.heap.size 0 cs2.size) := hide (there_of (heap_alloc_new w7 (Obj.cells #[.slice none 0 0, .slice none 0 0, .int .i64 0, .int .i64 0, .int .i64 0, .slice none 0 0, .slice none 0 0, .int .i64 0, .int .i64 0, .int .i64 0, .slice none 0 0, .slice none 0 0, .slice none 0 0, .int .i64 0, .slice none 0 0, .slice none 0 0, .slice none 0 0, .int .i64 0, .bool false, .bool false] 40)) 0 cs2.size (by rw [HY2.out]; exact Nat.le_refl 20))
  have HB_w8 : Hid (Below w.heap.size w w8) := hide (by rw [hw8]; exact below_cells HB_w7.out.size _ 0 _ (HB_w7.out.alloc HB_w7.out.size _))
  have HZ_w8 : Hid (a0 ≤ w8.heap.size) := hide (by rw [hw8, size_cells]; have := HZ_w7.out; simp; omega)
  rw [← hw8, ← hg8] at hsv
  have HS_w8 := hide hsv
  have HW := hide hw8.symm
  clear hsv hw8
  go_upto_region 8 with ((with_reducible refine wpList_storeL ?_ 40 (.tmp 7) (.tmp 30) ?_ w7.heap.size 0 cs2 ?_ ?_ hth.out ?_ ?_ HW.out ?_); exact rfl; exact rfl; exact rfl; exact rfl; exact HN2.out; exact HO12.out)
  rw [← hg8]
  clear hg8 hth HW
  have HR1 : Hid (w8.rangeAt g8 0 cs2.toList) := hide (range_all (sep_get HS_w8.out 0 rfl : w8.heap[g8]? = some (Obj.cells cs2 40)))
  have HR2 : Hid (w8.rangeAt g4 0 cs1.toList) := hide (range_all (sep_get HS_w8.out 4 rfl : w8.heap[g4]? = some (Obj.cells cs1 40)))
  go_wp2_with (first | ((with_reducible refine wpList_loadL ?_ 40 (.tmp 7) ?_ g8 0 ?_ cs2 HR1.out _ Tryz.underlying40 ?_ ?_ ?_); exact rfl; exact rfl; exact rfl; exact rfl; exact HN2.out) | ((with_reducible refine wpList_loadL ?_ 40 (.tmp 4) ?_ g4 0 ?_ cs1 HR2.out _ Tryz.underlying40 ?_ ?_ ?_); exact rfl; exact rfl; exact rfl; exact rfl; exact HN1.out))
  refine (HEr.out _ _ _ (things_at HS_w8.out 1 rfl HT2.out) (things_at HS_w8.out 5 rfl HT1.out)).mono ?_
  rintro e w9 ⟨rfl, hb⟩
  have HS_w9 := hide (sep_below HS_w8.out hb)
  have HB_w9 : Hid (Below w.heap.size w w9) := hide (HB_w8.out.trans (hb.mono HB_w8.out.size))
  have HZ_w9 : Hid (a0 ≤ w9.heap.size) := hide (Nat.le_trans HZ_w8.out hb.size)
  clear hb HR1 HR2
  go_wp2_with fail
  have HSw : Hid (∀ wx : World, wx.heap[a0]? = some (Obj.cells cs 25) → wx.heap[g6]? = some (Obj.cells csx 29) → (fun wx => wx.rangeAt a0 0 cs.toList ∧ wx.rangeAt g6 0 csx.toList) wx) := hide (fun wx h1 h2 => ⟨range_all h1, range_all h2⟩)
  obtain ⟨wd, hwd⟩ : ∃ wd, wd = w9.drew := ⟨_, rfl⟩
  have HS_wd := hide (sep_drew HS_w9.out)
  have HB_wd := hide (HB_w9.out).drew
  have HZ_wd : Hid (a0 ≤ w9.drew.heap.size) := HZ_w9
  rw [← hwd] at HS_wd HB_wd HZ_wd
  have hHeld := HSw.out wd (sep_get HS_wd.out 6 rfl) (sep_get HS_wd.out 2 rfl)
  refine wp_region_held_drew (S := fun wx => wx.rangeAt a0 0 cs.toList ∧ wx.rangeAt g6 0 csx.toList) (by kernel_rfl) (by rw [← hwd]; exact hHeld) (fun _ => ?_)
  rw [← hwd]
  clear hwd
  refine takeW 0 41 (.agg csx) rfl rfl (by kernel_rfl) (by kernel_rfl) (by kernel_rfl) (fun _ _ _ h => h) (yields_loadL (by rfl) 29 (.tmp 6) rfl g6 0 rfl csx _ (fun _ h => h.2) Tryz.underlying29 rfl HNx.out) hHeld ?_
  simp only [List.setIfInBounds_toArray, List.set_cons_zero, List.set_cons_succ]
  refine takeW 1 42 (.agg cs) rfl rfl (by kernel_rfl) (by kernel_rfl) (by kernel_rfl) (fun _ _ _ h => h) (yields_loadL (by rfl) 25 (.tmp 1) rfl a0 0 rfl cs _ (fun _ h => h.1) Tryz.underlying25 rfl HN.out) hHeld ?_
  simp only [List.setIfInBounds_toArray, List.set_cons_zero, List.set_cons_succ]
  refine wpAnyH_ready (rs := [2]) (by kernel_rfl) (by simp) ?_
  refine AllReadyH.cons rfl (fun K hK => ?_) AllReadyH.nil
  refine step_call1 wd ?_ 6 Tryz.f6 Tryz.func6 ?_ ?_ (.tmp 42) #[25] ?_ (.agg cs) ?_ _ (HTo.out _ wd (disk_below HSt.out HB_wd.out)) ?_
  · exact rfl
  · decide
  · exact Option.some_ne_none _
  · exact rfl
  · exact rfl
  rintro e w10 ⟨vq, rfl, hoq, hb⟩
  refine ⟨_, rfl, ?_⟩
  have HS_w10 := hide (sep_below HS_wd.out hb)
  have HB_w10 : Hid (Below w.heap.size w w10) := hide (HB_wd.out.trans (hb.mono HB_wd.out.size))
  have HZ_w10 : Hid (a0 ≤ w10.heap.size) := hide (Nat.le_trans HZ_wd.out hb.size)
  have HOq := hide (disk_of_own hoq)
  clear hb hoq
  have hS2 := HSw.out _ (sep_get HS_w10.out 6 rfl) (sep_get HS_w10.out 2 rfl)
  refine hK.out (Act.put _ (some 43) _) _ hS2 (fun _ => ?_)
  clear hK K
  simp only [Act.put, List.setIfInBounds_toArray, List.set_cons_zero, List.set_cons_succ]
  refine wpAnyH_ready (rs := [3]) (by kernel_rfl) (by simp) ?_
  refine AllReadyH.cons rfl (fun K hK => ?_) AllReadyH.nil
  refine step_call2 w10 ?_ 9 Tryz.f9 Tryz.func9 ?_ ?_ (.tmp 41) (.tmp 43) #[29, 29] ?_ (.agg csx) vq ?_ ?_ _ (HEx.out _ _ w10 (disk_of_own (sep_get HS_w10.out 3 rfl)) HOq.out) ?_
  · exact rfl
  · decide
  · exact Option.some_ne_none _
  · exact rfl
  · exact rfl
  · exact rfl
  rintro e w11 ⟨rfl, hb⟩
  refine ⟨_, rfl, ?_⟩
  have HS_w11 := hide (sep_below HS_w10.out hb)
  have HB_w11 : Hid (Below w.heap.size w w11) := hide (HB_w10.out.trans (hb.mono HB_w10.out.size))
  have HZ_w11 : Hid (a0 ≤ w11.heap.size) := hide (Nat.le_trans HZ_w10.out hb.size)
  clear hb HOq
  have hS3 := HSw.out _ (sep_get HS_w11.out 6 rfl) (sep_get HS_w11.out 2 rfl)
  refine hK.out (Act.put _ (some 44) _) _ hS3 (fun _ => ?_)
  clear hK K
  simp only [Act.put, List.setIfInBounds_toArray, List.set_cons_zero, List.set_cons_succ]
  refine takeW 4 45 ?_ rfl rfl (by kernel_rfl) (by kernel_rfl) (by kernel_rfl) (fun _ _ _ h => h) (Or.inl ⟨by rfl, ?_⟩) hS3 ?_
  rotate_left
  · (intro wx hSw; (try dsimp only at hSw); go_simp; try with_reducible rfl)
  simp only [List.setIfInBounds_toArray, List.set_cons_zero, List.set_cons_succ]
  refine wpAnyH_done (by kernel_rfl) ?_ _
  clear hS2 hS3 hHeld HSw
  have HSp := hide (sep_pick (pre := [_, _, _, _, _, _, _]) (rest := []) HS_w11.out [3, 0, 1, 2, 4, 5, 6] (by decide) [_, _, _, _, _, _, _] rfl)
  clear HS_w11
  have HS_w11 := HSp
  clear HSp
  have HRg : Hid (w11.rangeAt g6 0 csx.toList) := hide (range_all (sep_get HS_w11.out 3 rfl : w11.heap[g6]? = some (Obj.cells csx 29)))
  go_wp2_with ((with_reducible refine wpList_loadL ?_ 29 (.tmp 6) ?_ g6 0 ?_ csx HRg.out _ Tryz.underlying29 ?_ ?_ ?_); exact rfl; exact rfl; exact rfl; exact rfl; exact HNx.out)
  clear HRg
  refine (HMx.out _ _ _ _ HS_w11.out HZ_w11.out).mono ?_
  rintro e w12 ⟨rfl, hs, hb⟩
  have HS_w12 := hide (hs)
  have HB_w12 : Hid (Below w.heap.size w w12) := hide (HB_w11.out.trans (by rw [← HA.out]; exact hb))
  have HZ_w12 : Hid (a0 ≤ w12.heap.size) := hide (Nat.le_trans HZ_w11.out hb.size)
  clear hs hb
  have HR1 : Hid (w12.rangeAt g8 0 cs2.toList) := hide (range_all (sep_get HS_w12.out 1 rfl : w12.heap[g8]? = some (Obj.cells cs2 40)))
  have HR2 : Hid (w12.rangeAt g4 0 cs1.toList) := hide (range_all (sep_get HS_w12.out 4 rfl : w12.heap[g4]? = some (Obj.cells cs1 40)))
  go_wp2_with (first | ((with_reducible refine wpList_loadW ?_ 40 (.tmp 7) ?_ g8 0 ?_ cs2 HR1.out _ Tryz.underlying40 ?_ ?_ ?_); exact rfl; exact rfl; exact rfl; exact rfl; exact HN2.out) | ((with_reducible refine wpList_loadW ?_ 40 (.tmp 4) ?_ g4 0 ?_ cs1 HR2.out _ Tryz.underlying40 ?_ ?_ ?_); exact rfl; exact rfl; exact rfl; exact rfl; exact HN1.out))
  refine (HEr.out _ _ _ (things_at HS_w12.out 2 rfl HT2.out) (things_at HS_w12.out 5 rfl HT1.out)).mono ?_
  rintro e w13 ⟨rfl, hb⟩
  have HS_w13 := hide (sep_below HS_w12.out hb)
  have HB_w13 : Hid (Below w.heap.size w w13) := hide (HB_w12.out.trans (hb.mono HB_w12.out.size))
  have HZ_w13 : Hid (a0 ≤ w13.heap.size) := hide (Nat.le_trans HZ_w12.out hb.size)
  clear hb HR1 HR2
  have HSp := hide (sep_pick (pre := [_, _, _, _, _, _, _]) (rest := []) HS_w13.out [2, 0, 1, 3, 4, 5, 6] (by decide) [_, _, _, _, _, _, _] rfl)
  clear HS_w13
  have HS_w13 := HSp
  clear HSp
  have HRg : Hid (w13.rangeAt g8 0 cs2.toList) := hide (range_all (sep_get HS_w13.out 2 rfl : w13.heap[g8]? = some (Obj.cells cs2 40)))
  go_wp2_with ((with_reducible refine wpList_loadL ?_ 40 (.tmp 7) ?_ g8 0 ?_ cs2 HRg.out _ Tryz.underlying40 ?_ ?_ ?_); exact rfl; exact rfl; exact rfl; exact rfl; exact HN2.out)
  clear HRg
  refine (HMr.out _ _ _ HT2.out _ _ HS_w13.out HZ_w13.out).mono ?_
  rintro e w14 ⟨rfl, L2m, hL2m, hs, hb⟩
  have HS_w14 := hide (hs)
  have HB_w14 : Hid (Below w.heap.size w w14) := hide (HB_w13.out.trans (by rw [← HA.out]; exact hb))
  have HZ_w14 : Hid (a0 ≤ w14.heap.size) := hide (Nat.le_trans HZ_w13.out hb.size)
  have HT2m := hide hL2m
  clear hs hb hL2m
  have HRg : Hid (w14.rangeAt g8 0 cs2.toList) := hide (range_all (sep_get HS_w14.out 2 rfl : w14.heap[g8]? = some (Obj.cells cs2 40)))
  go_wp2_with ((with_reducible refine wpList_loadL ?_ 40 (.tmp 7) ?_ g8 0 ?_ cs2 HRg.out _ Tryz.underlying40 ?_ ?_ ?_); exact rfl; exact rfl; exact rfl; exact rfl; exact HN2.out)
  clear HRg
  refine (HHr.out _ _ (things_at HS_w14.out 0 rfl HT2m.out)).mono ?_
  rintro e w15 ⟨rfl, hb⟩
  have HS_w15 := hide (sep_below HS_w14.out hb)
  have HB_w15 : Hid (Below w.heap.size w w15) := hide (HB_w14.out.trans (hb.mono HB_w14.out.size))
  have HZ_w15 : Hid (a0 ≤ w15.heap.size) := hide (Nat.le_trans HZ_w14.out hb.size)
  clear hb
  have HRg : Hid (w15.rangeAt a0 0 cs.toList) := hide (range_all (sep_get HS_w15.out 6 rfl : w15.heap[a0]? = some (Obj.cells cs 25)))
  go_wp2_with ((with_reducible refine wpList_loadL ?_ 25 (.tmp 1) ?_ a0 0 ?_ cs HRg.out _ Tryz.underlying25 ?_ ?_ ?_); exact rfl; exact rfl; exact rfl; exact rfl; exact HN.out)
  clear HRg
  refine (HTo.out _ _ (disk_below HSt.out HB_w15.out)).mono ?_
  rintro e w16 ⟨vb, rfl, hob, hb⟩
  have HS_w16 := hide (sep_below HS_w15.out hb)
  have HB_w16 : Hid (Below w.heap.size w w16) := hide (HB_w15.out.trans (hb.mono HB_w15.out.size))
  have HZ_w16 : Hid (a0 ≤ w16.heap.size) := hide (Nat.le_trans HZ_w15.out hb.size)
  have HOb := hide (disk_of_own hob)
  clear hb hob
  go_wp2_with fail
  refine (HIm.out _ _ (HTb.out _ HB_w16.out) HOb.out).mono ?_
  rintro e w17 ⟨m', ok', v3, hbm', rfl, ho3, hb⟩
  obtain ⟨rfl, rfl⟩ := bestM_one HBM.out hbm'
  clear hbm'
  rw [← HCt.out.1] at ho3 ⊢
  rw [← HCt.out.2] at ho3
  obtain ⟨L3, hL3, hs3⟩ := sep_st HS_w16.out hb ho3 HZ_w16.out
  have HS_w17 := hide (hs3)
  have HB_w17 : Hid (Below w.heap.size w w17) := hide (HB_w16.out.trans (hb.mono HB_w16.out.size))
  have HZ_w17 : Hid (a0 ≤ w17.heap.size) := hide (Nat.le_trans HZ_w16.out hb.size)
  obtain ⟨cs3, rfl, hz3, ho13⟩ := things_arr hL3
  have HT3 := hide hL3
  have HO13 := hide ho13
  have HN3 : Hid ((Tryz.prog.info? 40).map (·.size) = some cs3.size) := hide (by rw [hz3]; exact Tryz.sizeStore)
  have HY3 := hide hz3
  clear hb ho3 hL3 hs3 ho13 hz3
  obtain ⟨g18, hg18⟩ : ∃ g, g = w17.heap.size := ⟨_, rfl⟩
  obtain ⟨w18, hw18⟩ : ∃ wx, wx = (w17.alloc (Obj.cells #[.slice none 0 0, .slice none 0 0, .int .i64 0, .int .i64 0, .int .i64 0, .slice none 0 0, .slice none 0 0, .int .i64 0, .int .i64 0, .int .i64 0, .slice none 0 0, .slice none 0 0, .slice none 0 0, .int .i64 0, .slice none 0 0, .slice none 0 0, .slice none 0 0, .int .i64 0, .bool false, .bool false] 40)).setCells w17.heap.size 0 cs3.toList := ⟨_, rfl⟩
  have hsv := sep_cellsAll (sep_new HS_w17.out (Obj.cells #[.slice none 0 0, .slice none 0 0, .int .i64 0, .int .i64 0, .int .i64 0, .slice none 0 0, .slice none 0 0, .int .i64 0, .int .i64 0, .int .i64 0, .slice none 0 0, .slice none 0 0, .slice none 0 0, .int .i64 0, .slice none 0 0, .slice none 0 0, .slice none 0 0, .int .i64 0, .bool false, .bool false] 40) HZ_w17.out) 0 rfl cs3 (by rw [HY3.out]; rfl)
  have hth : Hid ((w17.alloc (Obj.cells #[.slice none 0 0, .slice none 0 0, .int .i64 0, .int .i64 0, .int .i64 0, .slice none 0 0, .slice none 0 0, .int .i64 0, .int .i64 0, .int .i64 0, .slice none 0 0, .slice none 0 0, .slice none 0 0, .int .i64 0, .slice none 0 0, .slice none 0 0, .slice none 0 0, .int .i64 0, .bool false, .bool false] 40)).there w17.heap.size 0 cs3.size) := hide (there_of (heap_alloc_new w17 (Obj.cells #[.slice none 0 0, .slice none 0 0, .int .i64 0, .int .i64 0, .int .i64 0, .slice none 0 0, .slice none 0 0, .int .i64 0, .int .i64 0, .int .i64 0, .slice none 0 0, .slice none 0 0, .slice none 0 0, .int .i64 0, .slice none 0 0, .slice none 0 0, .slice none 0 0, .int .i64 0, .bool false, .bool false] 40)) 0 cs3.size (by rw [HY3.out]; exact Nat.le_refl 20))
  have HB_w18 : Hid (Below w.heap.size w w18) := hide (by rw [hw18]; exact below_cells HB_w17.out.size _ 0 _ (HB_w17.out.alloc HB_w17.out.size _))
  have HZ_w18 : Hid (a0 ≤ w18.heap.size) := hide (by rw [hw18, size_cells]; have := HZ_w17.out; simp; omega)
  rw [← hw18, ← hg18] at hsv
  have HS_w18 := hide hsv
  have HW := hide hw18.symm
  clear hsv hw18
  go_upto_region 25 with ((with_reducible refine wpList_storeL ?_ 40 (.tmp 12) (.tmp 77) ?_ w17.heap.size 0 cs3 ?_ ?_ hth.out ?_ ?_ HW.out ?_); exact rfl; exact rfl; exact rfl; exact rfl; exact HN3.out; exact HO13.out)
  rw [← hg18]
  clear hg18 hth HW
  clear HOb
  have HR1 : Hid (w18.rangeAt g18 0 cs3.toList) := hide (range_all (sep_get HS_w18.out 0 rfl : w18.heap[g18]? = some (Obj.cells cs3 40)))
  have HR2 : Hid (w18.rangeAt g4 0 cs1.toList) := hide (range_all (sep_get HS_w18.out 6 rfl : w18.heap[g4]? = some (Obj.cells cs1 40)))
  go_wp2_with (first | ((with_reducible refine wpList_loadL ?_ 40 (.tmp 12) ?_ g18 0 ?_ cs3 HR1.out _ Tryz.underlying40 ?_ ?_ ?_); exact rfl; exact rfl; exact rfl; exact rfl; exact HN3.out) | ((with_reducible refine wpList_loadL ?_ 40 (.tmp 4) ?_ g4 0 ?_ cs1 HR2.out _ Tryz.underlying40 ?_ ?_ ?_); exact rfl; exact rfl; exact rfl; exact rfl; exact HN1.out))
  refine (HEr.out _ _ _ (things_at HS_w18.out 1 rfl HT3.out) (things_at HS_w18.out 7 rfl HT1.out)).mono ?_
  rintro e w19 ⟨rfl, hb⟩
  have HS_w19 := hide (sep_below HS_w18.out hb)
  have HB_w19 : Hid (Below w.heap.size w w19) := hide (HB_w18.out.trans (hb.mono HB_w18.out.size))
  have HZ_w19 : Hid (a0 ≤ w19.heap.size) := hide (Nat.le_trans HZ_w18.out hb.size)
  clear hb HR1 HR2
  have HRg : Hid (w19.rangeAt g8 0 cs2.toList) := hide (range_all (sep_get HS_w19.out 4 rfl : w19.heap[g8]? = some (Obj.cells cs2 40)))
  go_wp2_with ((with_reducible refine wpList_loadL ?_ 40 (.tmp 7) ?_ g8 0 ?_ cs2 HRg.out _ Tryz.underlying40 ?_ ?_ ?_); exact rfl; exact rfl; exact rfl; exact rfl; exact HN2.out)
  clear HRg
  refine (HHr.out _ _ (things_at HS_w19.out 2 rfl HT2m.out)).mono ?_
  rintro e w20 ⟨rfl, hb⟩
  have HS_w20 := hide (sep_below HS_w19.out hb)
  have HB_w20 : Hid (Below w.heap.size w w20) := hide (HB_w19.out.trans (hb.mono HB_w19.out.size))
  have HZ_w20 : Hid (a0 ≤ w20.heap.size) := hide (Nat.le_trans HZ_w19.out hb.size)
  clear hb
  go_wp2_with fail
  go_ret
  exact ⟨rfl, HB_w20.out⟩
end Go.Proofs.YtplkioelbdemjaaGreatDoor

namespace Go.Proofs.YtplkioelbdemjaaGreatDoor
open Go.RowKit Go.ChangeShapes Go.WideShapes Go.Deep

theorem row_strs {H : Type} {enc : TypeId × Value → H} {W : World} {base : Nat} {spare : Nat → Bool} {held : Bool} {fuel : Nat} {v : Value} {x : DataW H × List MemPlace}
    (h : DataW.trod enc Tryz.prog W base spare held fuel 22 [v] = some x) : ∃ ps : List ByteArray, RowAt W 1 v ps.length (strs ps) ∧ ps.length ≤ maxLen ∧ ∀ s ∈ ps, s.size ≤ maxLen := by
  rcases open_strs Tryz.underlying22 Tryz.underlying9 (by kernel_rfl) h with ⟨hcs, -⟩ | ⟨a, len, cap, m, Sx, hcs, -, hl, hm, hmm, -, hx⟩
  · injection hcs with hcs
    subst hcs
    exact ⟨[], ⟨rfl, none, 0, rfl, Or.inl rfl⟩, by unfold maxLen; simp, fun s hs => by cases hs⟩
  · injection hcs with hcs
    subst hcs
    have hlm : len ≤ m := by rw [hmm]; split <;> omega
    refine ⟨(List.range len).map Sx, ?_, by simp; omega, fun s hs => ?_⟩
    · rw [List.length_map, List.length_range]
      refine ⟨by rw [strs_length]; simp, some a, cap, rfl, ?_⟩
      by_cases h0 : len = 0
      · exact Or.inl h0
      · obtain ⟨b, off, spot⟩ := a
        have hc := (hx 0 (by omega)).1
        obtain rfl : spot = none := by simpa [Addr.add] using World.cell?_spot hc
        refine Or.inr ⟨b, off, rfl, World.block_lt_of_cell? W _ (by simpa [Addr.add] using hc : W.cell? ⟨b, off, none⟩ = _), fun j hj => ?_⟩
        have hj' : j < len := by omega
        have := (hx j (by omega)).1
        rw [Addr.add_lit] at this
        rw [this, strs_at _ j (by simpa using hj')]
        simp
    · obtain ⟨i, hi, rfl⟩ := List.mem_map.1 hs
      exact (hx i (by have := List.mem_range.1 hi; omega)).2

theorem row_puts {H : Type} {enc : TypeId × Value → H} {W : World} {base : Nat} {spare : Nat → Bool} {held : Bool} {fuel : Nat} {v : Value} {x : DataW H × List MemPlace}
    (h : DataW.trod enc Tryz.prog W base spare held fuel 23 [v] = some x) : ∃ ls : List (Int × ByteArray), RowAt W 2 v ls.length (puts ls) ∧ ls.length ≤ maxLen ∧ ∀ p ∈ ls, p.2.size ≤ maxLen := by
  rcases open_slice_pairs Tryz.underlying23 Tryz.underlying68 (by kernel_rfl) rfl rfl (by kernel_rfl) (by kernel_rfl) h with ⟨hcs, -⟩ | ⟨a, len, cap, m, n, V0, V1, D0, D1, P0, P1, hcs, -, hl, hm, hmm, -, hx⟩
  · injection hcs with hcs
    subst hcs
    exact ⟨[], ⟨rfl, none, 0, rfl, Or.inl rfl⟩, by unfold maxLen; simp, fun s hs => by cases hs⟩
  · injection hcs with hcs
    subst hcs
    have hlm : len ≤ m := by rw [hmm]; split <;> omega
    have each : ∀ i, i < m → ∃ q : Int × ByteArray, V0 i = .int .i64 q.1 ∧ V1 i = .string q.2 ∧ q.2.size ≤ maxLen := fun i hi => by
      obtain ⟨h1, h2, h3, h4⟩ := hx i hi
      obtain ⟨k, e1, e2, -⟩ := DataW.trod_int Tryz.underlying3 h3
      obtain ⟨s, g1, g2, g3⟩ := DataW.trod_string Tryz.underlying9 h4
      exact ⟨(k, s), by simpa using e1, by simpa using g1, g3⟩
    obtain ⟨q, hq⟩ := choose_lt each
    refine ⟨(List.range len).map q, ?_, by simp; omega, fun s hs => ?_⟩
    · rw [List.length_map, List.length_range]
      refine ⟨by rw [puts_length]; simp, some a, cap, rfl, ?_⟩
      by_cases h0 : len = 0
      · exact Or.inl h0
      · obtain ⟨b, off, spot⟩ := a
        have hc := (hx 0 (by omega)).1
        obtain rfl : spot = none := by simpa [Addr.add] using World.cell?_spot hc
        refine Or.inr ⟨b, off, rfl, World.block_lt_of_cell? W _ (by simpa [Addr.add] using hc : W.cell? ⟨b, off, none⟩ = _), fun j hj => ?_⟩
        have hi : j / 2 < len := by omega
        obtain ⟨h1, h2, -, -⟩ := hx (j / 2) (by omega)
        rw [Addr.add_lit] at h1 h2
        have hp := puts_at ((List.range len).map q) (j / 2) (by simpa using hi)
        rcases Nat.mod_two_eq_zero_or_one j with e | e
        · rw [show j = j / 2 * 2 from by omega, hp.1, h1, (hq (j / 2) (by omega)).1]
          simp
        · rw [show j = j / 2 * 2 + 1 from by omega, hp.2, h2, (hq (j / 2) (by omega)).2.1]
          simp
    · obtain ⟨i, hi, rfl⟩ := List.mem_map.1 hs
      exact (hq i (by have := List.mem_range.1 hi; omega)).2.2

set_option maxRecDepth 100000 in
theorem open_disk {H : Type} {enc : TypeId × Value → H} {W : World} {r : Reach} {b0 base : Nat} {spare : Nat → Bool} {held : Bool} {v : Value} {d : DataW H} {p : List MemPlace}
    (hv : Value.okWide Tryz.prog W r b0 25 v) (h : DataW.Trod enc Tryz.prog W base spare held 25 v d p) :
    ∃ ps ls, DiskAt W v ps ls ∧ ps.length ≤ maxLen ∧ (∀ s ∈ ps, s.size ≤ maxLen) ∧ ls.length ≤ maxLen ∧ ∀ p ∈ ls, p.2.size ≤ maxLen := by
  obtain ⟨v0, v1, y0, y1, n, rfl, -, -, h0, h1⟩ := Joins.open_agg2 Tryz.underlying25 (by kernel_rfl) (by kernel_rfl) hv h
  obtain ⟨ps, hp1, hp2, hp3⟩ := row_strs h0
  obtain ⟨ls, hl1, hl2, hl3⟩ := row_puts h1
  exact ⟨ps, ls, ⟨v0, v1, rfl, hp1, hl1⟩, hp2, hp3, hl2, hl3⟩
end Go.Proofs.YtplkioelbdemjaaGreatDoor

namespace Go.Proofs.YtplkioelbdemjaaGreatDoor
open Go.RowKit

/-- what the copy keeps: its argument's box, its answer's variable; nothing that was there is turned -/
structure CopyIn (wr : World) (a0 a1 : Nat) (vp vl : Value) (w : World) : Prop where
  box : wr.heap[a0]? = some (Obj.cells #[vp, vl] 29)
  res : wr.heap[a1]? = some (Obj.cells #[.slice none 0 0, .slice none 0 0] 29)
  low : Below a0 w wr

theorem copyIn_below {wr wr' : World} {a0 a1 : Nat} {vp vl : Value} {w : World} (h : CopyIn wr a0 a1 vp vl w) (hb : Below wr.heap.size wr wr') : CopyIn wr' a0 a1 vp vl w :=
  ⟨(hb.block _ (Array.getElem?_eq_some_iff.1 h.box).1).trans h.box, (hb.block _ (Array.getElem?_eq_some_iff.1 h.res).1).trans h.res, h.low.trans (hb.mono (Nat.le_of_lt (Array.getElem?_eq_some_iff.1 h.box).1))⟩

theorem copyIn_alloc {wr : World} {a0 a1 : Nat} {vp vl : Value} {w : World} (h : CopyIn wr a0 a1 vp vl w) (o : Obj) : CopyIn (wr.alloc o) a0 a1 vp vl w := copyIn_below h ((Below.refl _ _).alloc (Nat.le_refl _) _)

theorem copyIn_grown {wr wr' : World} {a0 a1 g : Nat} {vp vl : Value} {w : World} (h : CopyIn wr a0 a1 vp vl w) (hg : wr.grownBy wr' (some g)) (h0 : a0 < g) (h1 : a1 < g) : CopyIn wr' a0 a1 vp vl w :=
  ⟨(hg.block _ (Array.getElem?_eq_some_iff.1 h.box).1 (by intro e; injection e with e; omega)).trans h.box, (hg.block _ (Array.getElem?_eq_some_iff.1 h.res).1 (by intro e; injection e with e; omega)).trans h.res, h.low.grown hg (Nat.le_of_lt (Array.getElem?_eq_some_iff.1 h.box).1) (fun k hk => by injection hk with hk; omega)⟩

theorem strs_snoc (l : List ByteArray) (k : Nat) (h : k < l.length) : strs (l.take k) ++ [.string l[k]] = strs (l.take (k + 1)) := by
  rw [List.take_succ_eq_append_getElem h, strs, strs, List.map_append]; rfl

theorem puts_take (l : List (Int × ByteArray)) (k : Nat) (h : k < l.length) : puts (l.take k) ++ [.int .i64 l[k].1, .string l[k].2] = puts (l.take (k + 1)) := by
  rw [List.take_succ_eq_append_getElem h, puts, puts, List.flatMap_append]; rfl

theorem new_put (w : World) (q : Int) (t : ByteArray) : ∀ j u, [Value.int .i64 q, .string t][j]? = some u → (w.alloc (Obj.cells #[.int .i64 q, .string t] 72)).cell? ((⟨w.heap.size, 0, none⟩ : Addr).add j) = some u := fun j u hj => by
  rw [Addr.add_lit, Nat.zero_add, (cell_at (heap_alloc_new w _) j).1, ← hj]
  simp

theorem put_oneCell (q : Int) (t : ByteArray) : ∀ y ∈ [Value.int .i64 q, .string t], y.oneCell' = true := fun y hy => by
  simp only [List.mem_cons, List.not_mem_nil, or_false] at hy
  rcases hy with rfl | rfl <;> rfl

set_option maxHeartbeats 4000000 in
set_option maxRecDepth 100000 in
theorem implCopy_any (v : Value) (ps : List ByteArray) (ls : List (Int × ByteArray)) (hp : ps.length ≤ 1048576) (hl : ls.length ≤ 1048576) (hps : ∀ s ∈ ps, s.size ≤ 1048576) (hls : ∀ p ∈ ls, p.2.size ≤ 1048576) (w : World) (hd : DiskAt w v ps ls) :
    Calls Tryz.prog 22 #[v] w fun e w' => ∃ v', e = .returned v' ∧ DiskOwn w' w.heap.size v' ps ls ∧ Below w.heap.size w w' := by
  obtain ⟨i0, hi, hz0, hz1, hz2⟩ := info_parts Tryz.infoStrR
  obtain ⟨i1, hj, hy0, hy1, hy2⟩ := info_parts Tryz.infoPut
  obtain ⟨vp, vl, rfl, h1, h2⟩ := hd
  obtain ⟨x1, c1, rfl⟩ : ∃ a cap, vp = .slice a ps.length cap := by obtain ⟨-, a, cap, e, -⟩ := h1; exact ⟨a, cap, e⟩
  obtain ⟨x2, c2, rfl⟩ : ∃ a cap, vl = .slice a ls.length cap := by obtain ⟨-, a, cap, e, -⟩ := h2; exact ⟨a, cap, e⟩
  have H1 := hide h1
  have H2 := hide h2
  have HPs := hide hps
  have HLs := hide hls
  clear h1 h2 hps hls
  obtain ⟨w0, hw0⟩ : ∃ w0, w0 = (w.alloc (Obj.cells #[.slice x1 ps.length c1, .slice x2 ls.length c2] 29)).alloc (Obj.cells #[.slice none 0 0, .slice none 0 0] 29) := ⟨_, rfl⟩
  obtain ⟨q0, q1, hs0⟩ := two_allocs w (Obj.cells #[.slice x1 ps.length c1, .slice x2 ls.length c2] 29) (Obj.cells #[.slice none 0 0, .slice none 0 0] 29)
  rw [← hw0] at q0 q1 hs0
  have hb0 : Below w.heap.size w w0 := by rw [hw0]; exact ((Below.refl w.heap.size w).alloc (Nat.le_refl _) _).alloc (by simp) _
  go_enter Tryz.func22, Tryz.ntmps22
  go_wp2_with (at_make; rw [← hw0]; refine wpList_make_own _ rfl _ _ 22 rfl w0.heap.size 9 i0 (.string ⟨#[]⟩) 1 Tryz.underlying22 hi hz0 hz1 .i64 .i64 _ ps.length rfl rfl rfl (by rw [hz2]; omega) (by unfold maxLen; omega) (Nat.le_refl _) ?_)
  intro w1 hown1 hg1
  obtain ⟨a0, ha0⟩ : ∃ a, a = w.heap.size := ⟨_, rfl⟩
  obtain ⟨a1, ha1⟩ : ∃ a, a = a0 + 1 := ⟨_, rfl⟩
  obtain ⟨a2, ha2⟩ : ∃ a, a = a1 + 1 := ⟨_, rfl⟩
  rw [← hw0] at hg1
  rw [← ha0, ← ha1, ← ha2] at hown1 ⊢
  rw [← ha0] at q0 q1 hs0
  rw [← ha1] at q1
  have hC1 : CopyIn w1 a0 a1 (.slice x1 ps.length c1) (.slice x2 ls.length c2) w := ⟨(hg1.block a0 (by omega) (by simp)).trans q0, (hg1.block a1 (by omega) (by simp)).trans q1, by rw [ha0]; exact hb0.grown hg1 (by omega) (fun k hk => by cases hk)⟩
  have HA := hide (⟨ha0, ha1, by omega⟩ : a0 = w.heap.size ∧ a1 = a0 + 1 ∧ a2 = a0 + 2)
  have cb0 : w1.cell? ⟨a0, 0, none⟩ = some (.slice x1 ps.length c1) := (cell_at hC1.box 0).1
  have cb1 : w1.cell? ⟨a0, 1, none⟩ = some (.slice x2 ls.length c2) := (cell_at hC1.box 1).1
  have HC1 := hide hC1
  have HO1 := hide hown1
  clear hC1 hown1 hg1 ha0 ha1 ha2 hw0 hb0 q0 q1 hs0
  go_wp2_with fail
  go_loopg [3, 16] ps.length (fun q pv iv wr => ∃ k : Nat, k ≤ ps.length ∧ iv = .int .i64 (k : Int) ∧ q + k = ps.length ∧ pv = .slice (some ⟨a2, 0, none⟩) k ps.length ∧ Hid (CopyIn wr a0 a1 (.slice x1 ps.length c1) (.slice x2 ls.length c2) w) ∧ Hid (wr.ownsRow a2 9 1 (.slice (some ⟨a2, 0, none⟩) k ps.length) k (strs (ps.take k))))
  case atStart => exact ⟨0, Nat.zero_le _, rfl, rfl, rfl, HC1, HO1⟩
  case round =>
    obtain ⟨k, hk, rfl, hg, rfl, HC, HO⟩ := hrel
    have HG := hide hg
    clear hg cb0 cb1 HC1 HO1
    by_cases hlt : k < ps.length
    · rcases H1.out.2 with ⟨a, cap, e, h0 | ⟨b, off, e2, hbl, hc⟩⟩
      · omega
      · injection e with e1 e3 e4
        subst e1 e4
        subst e2
        obtain ⟨x, hx⟩ : ∃ x, x = ps[k] := ⟨_, rfl⟩
        have hba : b < a0 := by have := HA.out; omega
        have hcell : wr.cell? ⟨b, off + k, none⟩ = some (.string x) := by rw [HC.out.low.cell (by exact hba), hc k (by omega), strs_at ps k hlt, hx]
        have hxs : x.size ≤ 1048576 := by rw [hx]; exact HPs.out _ (List.getElem_mem hlt)
        have HCl := hide (clone_any x (by omega))
        have hi0 : (0 : Int) ≤ (k : Int) := by omega
        have hi1 : (k : Int) < (ps.length : Int) := by omega
        have HX := hide hx
        clear hc hx
        go_wp2_with fail
        refine (HCl.out _).mono ?_
        rintro e w2 ⟨rfl, hb2⟩
        have HC2 := hide (copyIn_alloc (copyIn_below HC.out hb2) (Obj.cells #[.string x] 9))
        have hown3 := (own_stays HO.out hb2).alloc (Obj.cells #[.string x] 9)
        have hnew : ∀ j u, [Value.string x][j]? = some u → (w2.alloc (Obj.cells #[.string x] 9)).cell? ((⟨w2.heap.size, 0, none⟩ : Addr).add j) = some u := fun j u hj => by
          obtain rfl : j = 0 := by have := (List.getElem?_eq_some_iff.1 hj).1; simp at this; omega
          rw [Addr.add_lit, ← hj]
          exact (cell_at (heap_alloc_new w2 _) 0).1
        clear hb2 hcell
        go_wp2_with (at_builtin; refine wpList_append_fits _ rfl _ _ 22 rfl a2 9 i0 1 Tryz.underlying22 hi hz1 a2 k ps.length _ rfl hown3 ⟨w2.heap.size, 0, none⟩ 1 1 [.string x] rfl rfl hnew (by simp [Value.oneCell']) (by omega) ?_)
        intro w4 hown4 hg4
        have HC4 := hide (copyIn_grown HC2.out hg4 (by have := HA.out; omega) (by have := HA.out; omega))
        have HO4 : Hid (w4.ownsRow a2 9 1 (.slice (some ⟨a2, 0, none⟩) (k + 1) ps.length) (k + 1) (strs (ps.take (k + 1)))) := hide (by rw [← strs_snoc ps k hlt, ← HX.out]; exact hown4)
        clear hown4 hg4 hown3 hnew
        go_wp2_with fail
        go_roundg (gk - 1)
        case measure => have := HG.out; omega
        case rel => exact ⟨k + 1, by omega, by go_num, by have := HG.out; omega, rfl, HC4, HO4⟩
    · obtain rfl : k = ps.length := by omega
      have HOp : Hid (wr.ownsRow a2 9 1 (.slice (some ⟨a2, 0, none⟩) ps.length ps.length) ps.length (strs ps)) := hide (by have := HO.out; rw [List.take_length] at this; exact this)
      have cb1 : wr.cell? ⟨a0, 1, none⟩ = some (.slice x2 ls.length c2) := (cell_at HC.out.box 1).1
      clear HO
      go_wp2_with (at_make; refine wpList_make_own _ rfl _ _ 27 rfl wr.heap.size 72 i1 (.agg #[.int .i64 0, .string ⟨#[]⟩]) 2 Tryz.underlying27 hj hy0 hy1 .i64 .i64 _ ls.length rfl rfl rfl (by rw [hy2]; omega) (by unfold maxLen; omega) (Nat.le_refl _) ?_)
      intro w5 hown5 hg5
      obtain ⟨a3, ha3⟩ : ∃ a, a = wr.heap.size := ⟨_, rfl⟩
      have hb5 : Below wr.heap.size wr w5 := (Below.refl _ _).grown hg5 (Nat.le_refl _) (fun k hk => by cases hk)
      have hlt2 : a2 < a3 := by rw [ha3]; exact (HOp.out.lt a2 rfl).2
      rw [← ha3] at hown5 ⊢
      have HC5 := hide (copyIn_below HC.out hb5)
      have HP5 := hide (own_stays HOp.out hb5)
      have HO5 := hide hown5
      have HL2 := hide hlt2
      have cb2 : w5.cell? ⟨a0, 1, none⟩ = some (.slice x2 ls.length c2) := (cell_at HC5.out.box 1).1
      clear hown5 hg5 hb5 ha3 HC HOp cb1 hlt2
      go_wp2_with fail
      go_loopg [6, 33] ls.length (fun q pv iv wq => ∃ k : Nat, k ≤ ls.length ∧ iv = .int .i64 (k : Int) ∧ q + k = ls.length ∧ pv = .slice (some ⟨a3, 0, none⟩) k ls.length ∧ Hid (CopyIn wq a0 a1 (.slice x1 ps.length c1) (.slice x2 ls.length c2) w) ∧ Hid (wq.ownsRow a2 9 1 (.slice (some ⟨a2, 0, none⟩) ps.length ps.length) ps.length (strs ps)) ∧ Hid (wq.ownsRow a3 72 2 (.slice (some ⟨a3, 0, none⟩) k ls.length) k (puts (ls.take k))))
      case atStart => exact ⟨0, Nat.zero_le _, rfl, rfl, rfl, HC5, HP5, HO5⟩
      case round =>
        obtain ⟨k, hk, rfl, hg, rfl, HC, HP, HO⟩ := hrel
        have HG := hide hg
        clear hg cb2 HC5 HP5 HO5
        by_cases hlt : k < ls.length
        · rcases H2.out.2 with ⟨a, cap, e, h0 | ⟨b, off, e2, hbl, hc⟩⟩
          · omega
          · injection e with e1 e3 e4
            subst e1 e4
            subst e2
            obtain ⟨q, t, hqt⟩ : ∃ q t, (q, t) = ls[k] := ⟨_, _, rfl⟩
            have hba : b < a0 := by have := HA.out; omega
            have hc0 : wr.cell? ⟨b, off + k * 2, none⟩ = some (.int .i64 q) := by rw [HC.out.low.cell (by exact hba), hc (k * 2) (by omega), (puts_at ls k hlt).1, ← hqt]
            have hc1 : wr.cell? ⟨b, off + k * 2 + 1, none⟩ = some (.string t) := by rw [HC.out.low.cell (by exact hba), Nat.add_assoc, hc (k * 2 + 1) (by omega), (puts_at ls k hlt).2, ← hqt]
            have hts : t.size ≤ 1048576 := by have := HLs.out _ (List.getElem_mem hlt); rw [← hqt] at this; exact this
            have HCl := hide (clone_any t (by omega))
            have hi0 : (0 : Int) ≤ (k : Int) := by omega
            have hi1 : (k : Int) < (ls.length : Int) := by omega
            have HQT := hide hqt
            obtain ⟨wa, hwa⟩ : ∃ wa, wa = wr.alloc (Obj.cells #[.int .i64 q, .string t] 72) := ⟨_, rfl⟩
            obtain ⟨ap, hap⟩ : ∃ ap, ap = wr.heap.size := ⟨_, rfl⟩
            have hva : wa.heap[ap]? = some (Obj.cells #[.int .i64 q, .string t] 72) := by rw [hwa, hap]; exact heap_alloc_new wr _
            have hba2 : Below wr.heap.size wr wa := by rw [hwa]; exact (Below.refl _ _).alloc (Nat.le_refl _) _
            have HVa := hide hva
            have HCa := hide (copyIn_below HC.out hba2)
            have HPa := hide (own_stays HP.out hba2)
            have HOa := hide (own_stays HO.out hba2)
            have cp0 : wa.cell? ⟨ap, 0, none⟩ = some (.int .i64 q) := (cell_at hva 0).1
            have cp1 : wa.cell? ⟨ap, 1, none⟩ = some (.string t) := (cell_at hva 1).1
            clear hc hqt hba2 hva
            go_wp2_with fail
            rw [← hwa, ← hap]
            clear hwa hap hc0 hc1
            go_region_law (first | (refine step_call1 _ ?_ 45 Tryz.f45 Tryz.func45 ?_ ?_ (.tmp 41) #[9] ?_ (.string t) ?_ _ (HCl.out _) ?_; exact rfl; decide; exact Option.some_ne_none _; exact rfl; exact rfl; rintro e w2 ⟨rfl, hb2⟩; refine ⟨_, rfl, ?_⟩; have hb3 : Below wa.heap.size wa w2 := (Below.refl _ _).drew.trans hb2; have cq0 : w2.cell? ⟨ap, 0, none⟩ = some (.int .i64 q) := (cell_at ((hb3.block _ (Array.getElem?_eq_some_iff.1 HVa.out).1).trans HVa.out) 0).1; have HC2 := hide (copyIn_alloc (copyIn_below HCa.out hb3) (Obj.cells #[.int .i64 q, .string t] 72)); have HP2 := hide ((own_stays HPa.out hb3).alloc (Obj.cells #[.int .i64 q, .string t] 72)); have HO2 := hide ((own_stays HOa.out hb3).alloc (Obj.cells #[.int .i64 q, .string t] 72))) | (refine step_append_fits _ ?_ (.tmp 37) (.tmp 44) 27 ?_ a3 72 i1 2 Tryz.underlying27 hj hy1 a3 k ls.length _ ?_ HO2.out ⟨w2.heap.size, 0, none⟩ 1 1 [.int .i64 q, .string t] ?_ ?_ (new_put w2 q t) ?_ ?_ ?_; exact rfl; exact rfl; exact rfl; exact rfl; exact rfl; exact put_oneCell q t; omega; intro w4 hown4 hg4))
            all_goals
              have HC4 := hide (copyIn_grown HC2.out hg4 (by have h1 := HA.out; have h2 := HL2.out; omega) (by have h1 := HA.out; have h2 := HL2.out; omega))
              have HP4 := hide (HP2.out.kept hg4 (Or.inr (by intro e; have e2 : a2 = a3 := Option.some.inj e; have h2 := HL2.out; omega)))
              have HO4 : Hid (w4.ownsRow a3 72 2 (.slice (some ⟨a3, 0, none⟩) (k + 1) ls.length) (k + 1) (puts (ls.take (k + 1)))) := hide (by rw [← puts_take ls k hlt, ← HQT.out]; exact hown4)
              clear hown4 hg4 HC2 HP2 HO2 hb2 hb3 cq0 cp0 cp1
              go_wp2_with fail
              go_roundg (gk - 1)
              case measure => have := HG.out; omega
              case rel => exact ⟨k + 1, by omega, by go_num, by have := HG.out; omega, rfl, HC4, HP4, HO4⟩
        · obtain rfl : k = ls.length := by omega
          have HOl : Hid (wr.ownsRow a3 72 2 (.slice (some ⟨a3, 0, none⟩) ls.length ls.length) ls.length (puts ls)) := hide (by have := HO.out; rw [List.take_length] at this; exact this)
          have cr0 : wr.cell? ⟨a1, 0, none⟩ = some (.slice none 0 0) := (cell_at HC.out.res 0).1
          have cr1 : wr.cell? ⟨a1, 1, none⟩ = some (.slice none 0 0) := (cell_at HC.out.res 1).1
          have fr0 := (cell_at HC.out.res 0).2
          have fr1 := (cell_at HC.out.res 1).2
          go_wp2_with fail
          have hA := HA.out
          have hL := HL2.out
          have hret := ret_disk (w := w) (B := a2) (u0 := .slice (some ⟨a2, 0, none⟩) ps.length ps.length) (u1 := .slice (some ⟨a3, 0, none⟩) ls.length ls.length) (ps := ps) (ls := ls) HC.out.res ⟨_, _, rfl, HP.out, own_down HOl.out (by omega)⟩ (by omega) (by omega) (by have := HC.out.low; rw [hA.1] at this; exact this)
          exact bodyPost_ret (v := .agg #[.slice (some ⟨a2, 0, none⟩) ps.length ps.length, .slice (some ⟨a3, 0, none⟩) ls.length ls.length]) (by simp [results, Tryz.results22, go_sem, hret.1, hret.2.1]) rfl ⟨_, rfl, hret.2.2.1, hret.2.2.2⟩
end Go.Proofs.YtplkioelbdemjaaGreatDoor

namespace Go.Proofs.YtplkioelbdemjaaGreatDoor
open Go.RowKit

set_option maxHeartbeats 16000000 in
set_option maxRecDepth 100000 in
theorem implOpen_any (v : Value) (ps : List ByteArray) (ls : List (Int × ByteArray)) (hp : ps.length ≤ 1048576) (hl : ls.length ≤ 1048576) (hps : ∀ s ∈ ps, s.size ≤ 1048576) (hls : ∀ p ∈ ls, p.2.size ≤ 1048576) (w : World) (hT : SumTab w) (hE : ErrTab w) (hd : DiskAt w v ps ls) :
    Calls Tryz.prog 7 #[v] w fun e w' => OpPost w ps ls e w' := by
  have HTb : Hid (∀ wy, Below w.heap.size w wy → SumTab wy ∧ ErrTab wy) := hide (fun wy h => ⟨sumTab_below hT h, errTab_below hE h⟩)
  have HBm := hide (fun wx hT hE h => implBestMeta_any v ps ls hp hl hps hls wx hT hE h)
  have HOk := hide (fun wx h => implDiskOk_any v ps ls hp hl hps hls wx h)
  have HCo := hide (fun wx h => implCopy_any v ps ls hp hl hps hls wx h)
  have HD := hide hd
  obtain ⟨vp, vl, rfl, -, -⟩ := hd
  obtain ⟨dk, hdk⟩ : ∃ b, b = diskOkB ps ls := ⟨_, rfl⟩
  rw [← hdk] at HOk
  have HDk := hide hdk
  clear hp hl hps hls hdk hT hE
  obtain ⟨a0, ha0⟩ : ∃ a, a = w.heap.size := ⟨_, rfl⟩
  have hS0 := sep_new (sep_new (sep_nil w.heap.size w) (Obj.cells #[vp, vl] 29) (Nat.le_refl _)) (Obj.cells #[.slice none 0 0, .slice none 0 0, .int .i64 0, .int .i64 0, .int .i64 0, .slice none 0 0, .slice none 0 0, .int .i64 0, .int .i64 0, .int .i64 0, .slice none 0 0, .slice none 0 0, .slice none 0 0, .int .i64 0, .slice none 0 0, .slice none 0 0, .slice none 0 0, .int .i64 0, .bool false, .bool false] 40) (by simp)
  obtain ⟨w0, hw0⟩ : ∃ w0, w0 = (w.alloc (Obj.cells #[vp, vl] 29)).alloc (Obj.cells #[.slice none 0 0, .slice none 0 0, .int .i64 0, .int .i64 0, .int .i64 0, .slice none 0 0, .slice none 0 0, .int .i64 0, .int .i64 0, .int .i64 0, .slice none 0 0, .slice none 0 0, .slice none 0 0, .int .i64 0, .slice none 0 0, .slice none 0 0, .slice none 0 0, .int .i64 0, .bool false, .bool false] 40) := ⟨_, rfl⟩
  rw [World.size_alloc, ← hw0, ← ha0] at hS0
  have HS_w0 := hide hS0
  have HB_w0 : Hid (Below w.heap.size w w0) := hide (by rw [hw0]; exact ((Below.refl w.heap.size w).alloc (Nat.le_refl _) _).alloc (by simp) _)
  have HZ_w0 : Hid (a0 ≤ w0.heap.size) := hide (by rw [hw0, ha0]; simp; omega)
  have HA := hide ha0
  have HGA : Hid (w.heap.size ≤ a0 + 1) := hide (by omega)
  have x0 : w0.cell? ⟨a0, 0, none⟩ = some vp := (cell_at (sep_get HS_w0.out 1 rfl : w0.heap[a0]? = some (Obj.cells #[vp, vl] 29)) 0).1
  have x1 : w0.cell? ⟨a0, 1, none⟩ = some vl := (cell_at (sep_get HS_w0.out 1 rfl : w0.heap[a0]? = some (Obj.cells #[vp, vl] 29)) 1).1
  clear hS0 ha0
  go_enter Tryz.func7, Tryz.ntmps7
  go_upto_region 1 with fail
  rw [← hw0, ← HA.out]
  clear hw0
  go_wp2_with fail
  clear x0 x1
  refine (HBm.out w0 (HTb.out _ HB_w0.out).1 (HTb.out _ HB_w0.out).2 (disk_below HD.out HB_w0.out)).mono ?_
  rintro e w1 ⟨m, v1, ok, rfl, hbm, hmo, hb⟩
  obtain ⟨xr, l1, ev, ho⟩ := hmo
  obtain ⟨p3, q3, rfl⟩ := own_slice ho.1
  subst ev
  have HBM := hide hbm
  have HS_w1 := hide (sep_add HS_w0.out hb (freesA a0 (.slice p3 m.fs.length q3) l1 m.fs) (ownF_down ho HZ_w0.out) (fun j hj => ownF_lt ho j hj) HZ_w0.out)
  have HB_w1 : Hid (Below w.heap.size w w1) := hide (HB_w0.out.trans (hb.mono HB_w0.out.size))
  have HZ_w1 : Hid (a0 ≤ w1.heap.size) := hide (Nat.le_trans HZ_w0.out hb.size)
  clear hb ho hbm
  obtain ⟨g, hg⟩ : ∃ g, g = w1.heap.size := ⟨_, rfl⟩
  obtain ⟨w2, hw2⟩ : ∃ wx, wx = w1.alloc (Obj.cells #[.int .i64 m.tx, .int .i64 m.root, .int .i64 m.next, .slice p3 m.fs.length q3] 32) := ⟨_, rfl⟩
  have hs2 := sep_new HS_w1.out (Obj.cells #[.int .i64 m.tx, .int .i64 m.root, .int .i64 m.next, .slice p3 m.fs.length q3] 32) HZ_w1.out
  rw [← hw2, ← hg] at hs2
  have HS_w2 := hide hs2
  have HB_w2 : Hid (Below w.heap.size w w2) := hide (by rw [hw2]; exact HB_w1.out.alloc HB_w1.out.size _)
  have HZ_w2 : Hid (a0 ≤ w2.heap.size) := hide (by rw [hw2]; have := HZ_w1.out; simp; omega)
  clear hs2
  go_upto_region 2 with fail
  rw [← hw2, ← hg]
  clear hw2 hg
  cases ok with
  | false =>
    go_upto_region 3 with fail
    have HTh : Hid (w2.there (a0 + 1) 0 (#[.slice none 0 0, .slice none 0 0, .int .i64 0, .int .i64 0, .int .i64 0, .slice none 0 0, .slice none 0 0, .int .i64 0, .int .i64 0, .int .i64 0, .slice none 0 0, .slice none 0 0, .slice none 0 0, .int .i64 0, .slice none 0 0, .slice none 0 0, .slice none 0 0, .int .i64 0, .bool false, .bool false] : Array Value).size) := hide (there_of (sep_get HS_w2.out 2 rfl : w2.heap[a0 + 1]? = some (Obj.cells #[.slice none 0 0, .slice none 0 0, .int .i64 0, .int .i64 0, .int .i64 0, .slice none 0 0, .slice none 0 0, .int .i64 0, .int .i64 0, .int .i64 0, .slice none 0 0, .slice none 0 0, .slice none 0 0, .int .i64 0, .slice none 0 0, .slice none 0 0, .slice none 0 0, .int .i64 0, .bool false, .bool false] 40)) 0 20 (show 0 + 20 ≤ 20 by decide))
    obtain ⟨wf, hwf⟩ : ∃ wf, wf = w2.setCells (a0 + 1) 0 (#[.slice none 0 0, .slice none 0 0, .int .i64 0, .int .i64 0, .int .i64 0, .slice none 0 0, .slice none 0 0, .int .i64 0, .int .i64 0, .int .i64 0, .slice none 0 0, .slice none 0 0, .slice none 0 0, .int .i64 0, .slice none 0 0, .slice none 0 0, .slice none 0 0, .int .i64 0, .bool false, .bool false] : Array Value).toList := ⟨_, rfl⟩
    have HSf := sep_cellsAll HS_w2.out 2 rfl #[.slice none 0 0, .slice none 0 0, .int .i64 0, .int .i64 0, .int .i64 0, .slice none 0 0, .slice none 0 0, .int .i64 0, .int .i64 0, .int .i64 0, .slice none 0 0, .slice none 0 0, .slice none 0 0, .int .i64 0, .slice none 0 0, .slice none 0 0, .slice none 0 0, .int .i64 0, .bool false, .bool false] rfl
    have HBf := below_cells HGA.out (#[.slice none 0 0, .slice none 0 0, .int .i64 0, .int .i64 0, .int .i64 0, .slice none 0 0, .slice none 0 0, .int .i64 0, .int .i64 0, .int .i64 0, .slice none 0 0, .slice none 0 0, .slice none 0 0, .int .i64 0, .slice none 0 0, .slice none 0 0, .slice none 0 0, .int .i64 0, .bool false, .bool false] : Array Value).toList 0 w2 HB_w2.out
    rw [← hwf] at HSf HBf
    have HWf := hide hwf.symm
    have HSf := hide HSf
    have HBf := hide HBf
    clear hwf
    go_wp2_with ((with_reducible refine wpList_storeL ?_ 40 (.tmp 2) (.tmp 18) ?_ (a0 + 1) 0 #[.slice none 0 0, .slice none 0 0, .int .i64 0, .int .i64 0, .int .i64 0, .slice none 0 0, .slice none 0 0, .int .i64 0, .int .i64 0, .int .i64 0, .slice none 0 0, .slice none 0 0, .slice none 0 0, .int .i64 0, .slice none 0 0, .slice none 0 0, .slice none 0 0, .int .i64 0, .bool false, .bool false] ?_ ?_ HTh.out ?_ ?_ HWf.out ?_); exact rfl; exact rfl; exact rfl; exact rfl; exact Tryz.sizeStore; exact rfl)
    have HRf : Hid (wf.rangeAt (a0 + 1) 0 (#[.slice none 0 0, .slice none 0 0, .int .i64 0, .int .i64 0, .int .i64 0, .slice none 0 0, .slice none 0 0, .int .i64 0, .int .i64 0, .int .i64 0, .slice none 0 0, .slice none 0 0, .slice none 0 0, .int .i64 0, .slice none 0 0, .slice none 0 0, .slice none 0 0, .int .i64 0, .bool false, .bool false] : Array Value).toList) := hide (range_all (sep_get HSf.out 2 rfl))
    refine bodyPost_ret (v := .tuple #[.agg #[.slice none 0 0, .slice none 0 0, .int .i64 0, .int .i64 0, .int .i64 0, .slice none 0 0, .slice none 0 0, .int .i64 0, .int .i64 0, .int .i64 0, .slice none 0 0, .slice none 0 0, .slice none 0 0, .int .i64 0, .slice none 0 0, .slice none 0 0, .slice none 0 0, .int .i64 0, .bool false, .bool false], .bool false]) (results_ct Tryz.results7 rfl rfl (run_agg HRf.out Tryz.underlying40 rfl Tryz.sizeStore)) rfl ⟨m, false, .agg #[.slice none 0 0, .slice none 0 0, .int .i64 0, .int .i64 0, .int .i64 0, .slice none 0 0, .slice none 0 0, .int .i64 0, .int .i64 0, .int .i64 0, .slice none 0 0, .slice none 0 0, .slice none 0 0, .int .i64 0, .slice none 0 0, .slice none 0 0, .slice none 0 0, .int .i64 0, .bool false, .bool false], HBM.out, by rw [← HDk.out]; rfl, ?_, HBf.out⟩
    rw [← HDk.out]
    exact st0_own wf w.heap.size
  | true =>
    have x0 : w2.cell? ⟨a0, 0, none⟩ = some vp := (cell_at (sep_get HS_w2.out 3 rfl : w2.heap[a0]? = some (Obj.cells #[vp, vl] 29)) 0).1
    have x1 : w2.cell? ⟨a0, 1, none⟩ = some vl := (cell_at (sep_get HS_w2.out 3 rfl : w2.heap[a0]? = some (Obj.cells #[vp, vl] 29)) 1).1
    go_wp2_with fail
    clear x0 x1
    refine (HOk.out w2 (disk_below HD.out HB_w2.out)).mono ?_
    rintro e w3 ⟨rfl, hb⟩
    have HS_w3 := hide (sep_below HS_w2.out hb)
    have HB_w3 : Hid (Below w.heap.size w w3) := hide (HB_w2.out.trans (hb.mono HB_w2.out.size))
    have HZ_w3 : Hid (a0 ≤ w3.heap.size) := hide (Nat.le_trans HZ_w2.out hb.size)
    clear hb
    cases dk with
    | false =>
      go_upto_region 3 with fail
      have HTh : Hid (w3.there (a0 + 1) 0 (#[.slice none 0 0, .slice none 0 0, .int .i64 0, .int .i64 0, .int .i64 0, .slice none 0 0, .slice none 0 0, .int .i64 0, .int .i64 0, .int .i64 0, .slice none 0 0, .slice none 0 0, .slice none 0 0, .int .i64 0, .slice none 0 0, .slice none 0 0, .slice none 0 0, .int .i64 0, .bool false, .bool false] : Array Value).size) := hide (there_of (sep_get HS_w3.out 2 rfl : w3.heap[a0 + 1]? = some (Obj.cells #[.slice none 0 0, .slice none 0 0, .int .i64 0, .int .i64 0, .int .i64 0, .slice none 0 0, .slice none 0 0, .int .i64 0, .int .i64 0, .int .i64 0, .slice none 0 0, .slice none 0 0, .slice none 0 0, .int .i64 0, .slice none 0 0, .slice none 0 0, .slice none 0 0, .int .i64 0, .bool false, .bool false] 40)) 0 20 (show 0 + 20 ≤ 20 by decide))
      obtain ⟨wf, hwf⟩ : ∃ wf, wf = w3.setCells (a0 + 1) 0 (#[.slice none 0 0, .slice none 0 0, .int .i64 0, .int .i64 0, .int .i64 0, .slice none 0 0, .slice none 0 0, .int .i64 0, .int .i64 0, .int .i64 0, .slice none 0 0, .slice none 0 0, .slice none 0 0, .int .i64 0, .slice none 0 0, .slice none 0 0, .slice none 0 0, .int .i64 0, .bool false, .bool false] : Array Value).toList := ⟨_, rfl⟩
      have HSf := sep_cellsAll HS_w3.out 2 rfl #[.slice none 0 0, .slice none 0 0, .int .i64 0, .int .i64 0, .int .i64 0, .slice none 0 0, .slice none 0 0, .int .i64 0, .int .i64 0, .int .i64 0, .slice none 0 0, .slice none 0 0, .slice none 0 0, .int .i64 0, .slice none 0 0, .slice none 0 0, .slice none 0 0, .int .i64 0, .bool false, .bool false] rfl
      have HBf := below_cells HGA.out (#[.slice none 0 0, .slice none 0 0, .int .i64 0, .int .i64 0, .int .i64 0, .slice none 0 0, .slice none 0 0, .int .i64 0, .int .i64 0, .int .i64 0, .slice none 0 0, .slice none 0 0, .slice none 0 0, .int .i64 0, .slice none 0 0, .slice none 0 0, .slice none 0 0, .int .i64 0, .bool false, .bool false] : Array Value).toList 0 w3 HB_w3.out
      rw [← hwf] at HSf HBf
      have HWf := hide hwf.symm
      have HSf := hide HSf
      have HBf := hide HBf
      clear hwf
      go_wp2_with ((with_reducible refine wpList_storeL ?_ 40 (.tmp 2) (.tmp 18) ?_ (a0 + 1) 0 #[.slice none 0 0, .slice none 0 0, .int .i64 0, .int .i64 0, .int .i64 0, .slice none 0 0, .slice none 0 0, .int .i64 0, .int .i64 0, .int .i64 0, .slice none 0 0, .slice none 0 0, .slice none 0 0, .int .i64 0, .slice none 0 0, .slice none 0 0, .slice none 0 0, .int .i64 0, .bool false, .bool false] ?_ ?_ HTh.out ?_ ?_ HWf.out ?_); exact rfl; exact rfl; exact rfl; exact rfl; exact Tryz.sizeStore; exact rfl)
      have HRf : Hid (wf.rangeAt (a0 + 1) 0 (#[.slice none 0 0, .slice none 0 0, .int .i64 0, .int .i64 0, .int .i64 0, .slice none 0 0, .slice none 0 0, .int .i64 0, .int .i64 0, .int .i64 0, .slice none 0 0, .slice none 0 0, .slice none 0 0, .int .i64 0, .slice none 0 0, .slice none 0 0, .slice none 0 0, .int .i64 0, .bool false, .bool false] : Array Value).toList) := hide (range_all (sep_get HSf.out 2 rfl))
      refine bodyPost_ret (v := .tuple #[.agg #[.slice none 0 0, .slice none 0 0, .int .i64 0, .int .i64 0, .int .i64 0, .slice none 0 0, .slice none 0 0, .int .i64 0, .int .i64 0, .int .i64 0, .slice none 0 0, .slice none 0 0, .slice none 0 0, .int .i64 0, .slice none 0 0, .slice none 0 0, .slice none 0 0, .int .i64 0, .bool false, .bool false], .bool false]) (results_ct Tryz.results7 rfl rfl (run_agg HRf.out Tryz.underlying40 rfl Tryz.sizeStore)) rfl ⟨m, true, .agg #[.slice none 0 0, .slice none 0 0, .int .i64 0, .int .i64 0, .int .i64 0, .slice none 0 0, .slice none 0 0, .int .i64 0, .int .i64 0, .int .i64 0, .slice none 0 0, .slice none 0 0, .slice none 0 0, .int .i64 0, .slice none 0 0, .slice none 0 0, .slice none 0 0, .int .i64 0, .bool false, .bool false], HBM.out, by rw [← HDk.out]; rfl, ?_, HBf.out⟩
      rw [← HDk.out]
      exact st0_own wf w.heap.size
    | true =>
      go_upto_region 4 with fail
      obtain ⟨wd, hwd⟩ : ∃ wd, wd = w3.drew := ⟨_, rfl⟩
      have HS_wd := hide (sep_drew HS_w3.out)
      have HB_wd := hide HB_w3.out.drew
      have HZ_wd : Hid (a0 ≤ w3.drew.heap.size) := HZ_w3
      rw [← hwd] at HS_wd HB_wd HZ_wd
      have hS_wd : (fun wx => wx.heap[a0]? = some (Obj.cells #[vp, vl] 29) ∧ wx.heap[g]? = some (Obj.cells #[.int .i64 m.tx, .int .i64 m.root, .int .i64 m.next, .slice p3 m.fs.length q3] 32)) wd := ⟨sep_get HS_wd.out 3 rfl, sep_get HS_wd.out 0 rfl⟩
      refine wp_region_held_drew (S := fun wx => wx.heap[a0]? = some (Obj.cells #[vp, vl] 29) ∧ wx.heap[g]? = some (Obj.cells #[.int .i64 m.tx, .int .i64 m.root, .int .i64 m.next, .slice p3 m.fs.length q3] 32)) (by kernel_rfl) (by rw [← hwd]; exact hS_wd) (fun _ => ?_)
      rw [← hwd]
      clear hwd
      refine takeW 0 19 (.agg #[vp, vl]) rfl rfl (by kernel_rfl) (by kernel_rfl) (by kernel_rfl) (fun _ _ _ h => h) (yields_loadL (by rfl) 29 (.tmp 1) rfl a0 0 rfl #[vp, vl] _ (fun _ h => range_all h.1) Tryz.underlying29 rfl Tryz.sizeDiskO) hS_wd ?_
      (try simp only [List.setIfInBounds_toArray, List.set_cons_zero, List.set_cons_succ])
      refine takeW 2 21 (.agg #[.int .i64 m.tx, .int .i64 m.root, .int .i64 m.next, .slice p3 m.fs.length q3]) rfl rfl (by kernel_rfl) (by kernel_rfl) (by kernel_rfl) (fun _ _ _ h => h) (yields_loadL (by rfl) 32 (.tmp 4) rfl g 0 rfl #[.int .i64 m.tx, .int .i64 m.root, .int .i64 m.next, .slice p3 m.fs.length q3] _ (fun _ h => range_all h.2) Tryz.underlying32 rfl Tryz.sizeMetaO) hS_wd ?_
      (try simp only [List.setIfInBounds_toArray, List.set_cons_zero, List.set_cons_succ])
      refine wpAnyH_ready (rs := [1]) (by kernel_rfl) (by simp) ?_
      refine AllReadyH.cons rfl (fun K hK => ?_) AllReadyH.nil
      refine step_call1 wd ?_ 22 Tryz.f22 Tryz.func22 ?_ ?_ (.tmp 19) #[29] ?_ (.agg #[vp, vl]) ?_ _ (HCo.out wd (disk_below HD.out HB_wd.out)) ?_
      · exact rfl
      · decide
      · exact Option.some_ne_none _
      · exact rfl
      · exact rfl
      rintro e w4 ⟨v4, rfl, ho, hb⟩
      refine ⟨_, rfl, ?_⟩
      obtain ⟨d1, e1, d2, e2, rfl⟩ := disk_form ho
      have HS_w4 := hide (sep_add HS_wd.out hb (diskA a0 _ ps ls) (disk_downQ ho HZ_wd.out) (fun j hj => diskOwn_lt ho j hj) HZ_wd.out)
      have HB_w4 : Hid (Below w.heap.size w w4) := hide (HB_wd.out.trans (hb.mono HB_wd.out.size))
      have hS_w4 : (fun wx => wx.heap[a0]? = some (Obj.cells #[vp, vl] 29) ∧ wx.heap[g]? = some (Obj.cells #[.int .i64 m.tx, .int .i64 m.root, .int .i64 m.next, .slice p3 m.fs.length q3] 32)) w4 := ⟨sep_get HS_w4.out 4 rfl, sep_get HS_w4.out 1 rfl⟩
      refine hK.out (Act.put _ (some 20) _) _ hS_w4 (fun _ => ?_)
      clear hK K hb ho
      simp only [Act.put, List.setIfInBounds_toArray, List.set_cons_zero, List.set_cons_succ]
      refine takeW 3 22 ?_ rfl rfl (by kernel_rfl) (by kernel_rfl) (by kernel_rfl) (fun _ _ _ h => h) (Or.inl ⟨by rfl, ?_⟩) hS_w4 ?_
      rotate_left
      · (intro wx hSw; (try dsimp only at hSw); go_simp; try with_reducible rfl)
      (try simp only [List.setIfInBounds_toArray, List.set_cons_zero, List.set_cons_succ])
      have hth : w4.there (a0 + 1) 0 (#[.slice d1 ps.length e1, .slice d2 ls.length e2, .int .i64 m.tx, .int .i64 m.root, .int .i64 m.next, .slice p3 m.fs.length q3, .slice none 0 0, .int .i64 0, .int .i64 0, .int .i64 0, .slice none 0 0, .slice none 0 0, .slice none 0 0, .int .i64 0, .slice none 0 0, .slice none 0 0, .slice none 0 0, .int .i64 0, .bool false, .bool false] : Array Value).size := there_of (sep_get HS_w4.out 3 rfl : w4.heap[a0 + 1]? = some (Obj.cells #[.slice none 0 0, .slice none 0 0, .int .i64 0, .int .i64 0, .int .i64 0, .slice none 0 0, .slice none 0 0, .int .i64 0, .int .i64 0, .int .i64 0, .slice none 0 0, .slice none 0 0, .slice none 0 0, .int .i64 0, .slice none 0 0, .slice none 0 0, .slice none 0 0, .int .i64 0, .bool false, .bool false] 40)) 0 20 (show 0 + 20 ≤ 20 by decide)
      obtain ⟨wf, hwf⟩ : ∃ wf, wf = w4.setCells (a0 + 1) 0 (#[.slice d1 ps.length e1, .slice d2 ls.length e2, .int .i64 m.tx, .int .i64 m.root, .int .i64 m.next, .slice p3 m.fs.length q3, .slice none 0 0, .int .i64 0, .int .i64 0, .int .i64 0, .slice none 0 0, .slice none 0 0, .slice none 0 0, .int .i64 0, .slice none 0 0, .slice none 0 0, .slice none 0 0, .int .i64 0, .bool false, .bool false] : Array Value).toList := ⟨_, rfl⟩
      have hsf := sep_cellsAll HS_w4.out 3 rfl #[.slice d1 ps.length e1, .slice d2 ls.length e2, .int .i64 m.tx, .int .i64 m.root, .int .i64 m.next, .slice p3 m.fs.length q3, .slice none 0 0, .int .i64 0, .int .i64 0, .int .i64 0, .slice none 0 0, .slice none 0 0, .slice none 0 0, .int .i64 0, .slice none 0 0, .slice none 0 0, .slice none 0 0, .int .i64 0, .bool false, .bool false] rfl
      have hbf := below_cells HGA.out (#[.slice d1 ps.length e1, .slice d2 ls.length e2, .int .i64 m.tx, .int .i64 m.root, .int .i64 m.next, .slice p3 m.fs.length q3, .slice none 0 0, .int .i64 0, .int .i64 0, .int .i64 0, .slice none 0 0, .slice none 0 0, .slice none 0 0, .int .i64 0, .slice none 0 0, .slice none 0 0, .slice none 0 0, .int .i64 0, .bool false, .bool false] : Array Value).toList 0 w4 HB_w4.out
      rw [← hwf] at hsf hbf
      have hS_wf : (fun wx => wx.heap[a0]? = some (Obj.cells #[vp, vl] 29) ∧ wx.heap[g]? = some (Obj.cells #[.int .i64 m.tx, .int .i64 m.root, .int .i64 m.next, .slice p3 m.fs.length q3] 32)) wf := ⟨sep_get hsf 4 rfl, sep_get hsf 1 rfl⟩
      have HSf := hide hsf
      have HBf := hide hbf
      refine wpAnyH_ready (rs := [4]) (by kernel_rfl) (by simp) ?_
      refine AllReadyH.cons rfl (fun K hK => ?_) AllReadyH.nil
      refine step_storeL ?_ 40 (.tmp 2) (.tmp 22) ?_ (a0 + 1) 0 #[.slice d1 ps.length e1, .slice d2 ls.length e2, .int .i64 m.tx, .int .i64 m.root, .int .i64 m.next, .slice p3 m.fs.length q3, .slice none 0 0, .int .i64 0, .int .i64 0, .int .i64 0, .slice none 0 0, .slice none 0 0, .slice none 0 0, .int .i64 0, .slice none 0 0, .slice none 0 0, .slice none 0 0, .int .i64 0, .bool false, .bool false] ?_ ?_ hth ?_ ?_ hwf.symm ?_
      · exact rfl
      · exact rfl
      · exact rfl
      · exact rfl
      · exact Tryz.sizeStore
      · exact rfl
      refine hK.out _ _ hS_wf (fun _ => ?_)
      clear hK K hth hsf hbf hwf
      refine takeW 5 3 ?_ rfl rfl (by kernel_rfl) (by kernel_rfl) (by kernel_rfl) (fun _ _ _ h => h) (Or.inl ⟨by rfl, ?_⟩) hS_wf ?_
      rotate_left
      · (intro wx hSw; (try dsimp only at hSw); go_simp; try with_reducible rfl)
      (try simp only [List.setIfInBounds_toArray, List.set_cons_zero, List.set_cons_succ])
      refine wpAnyH_done (by kernel_rfl) ?_ _
      go_wp2_with fail
      have HRf : Hid (wf.rangeAt (a0 + 1) 0 (#[.slice d1 ps.length e1, .slice d2 ls.length e2, .int .i64 m.tx, .int .i64 m.root, .int .i64 m.next, .slice p3 m.fs.length q3, .slice none 0 0, .int .i64 0, .int .i64 0, .int .i64 0, .slice none 0 0, .slice none 0 0, .slice none 0 0, .int .i64 0, .slice none 0 0, .slice none 0 0, .slice none 0 0, .int .i64 0, .bool false, .bool false] : Array Value).toList) := hide (range_all (sep_get HSf.out 3 rfl))
      refine bodyPost_ret (v := .tuple #[.agg #[.slice d1 ps.length e1, .slice d2 ls.length e2, .int .i64 m.tx, .int .i64 m.root, .int .i64 m.next, .slice p3 m.fs.length q3, .slice none 0 0, .int .i64 0, .int .i64 0, .int .i64 0, .slice none 0 0, .slice none 0 0, .slice none 0 0, .int .i64 0, .slice none 0 0, .slice none 0 0, .slice none 0 0, .int .i64 0, .bool false, .bool false], .bool true]) (results_ct Tryz.results7 rfl rfl (run_agg HRf.out Tryz.underlying40 rfl Tryz.sizeStore)) rfl ⟨m, true, .agg #[.slice d1 ps.length e1, .slice d2 ls.length e2, .int .i64 m.tx, .int .i64 m.root, .int .i64 m.next, .slice p3 m.fs.length q3, .slice none 0 0, .int .i64 0, .int .i64 0, .int .i64 0, .slice none 0 0, .slice none 0 0, .slice none 0 0, .int .i64 0, .slice none 0 0, .slice none 0 0, .slice none 0 0, .int .i64 0, .bool false, .bool false], HBM.out, by rw [← HDk.out]; rfl, ?_, HBf.out⟩
      rw [← HDk.out]
      have h := stOf_own (sep_pick (pre := [_, _, _, _, _]) (rest := []) HSf.out [0, 2] (by decide) [_, _] rfl)
      rw [HA.out] at h
      exact h
end Go.Proofs.YtplkioelbdemjaaGreatDoor
