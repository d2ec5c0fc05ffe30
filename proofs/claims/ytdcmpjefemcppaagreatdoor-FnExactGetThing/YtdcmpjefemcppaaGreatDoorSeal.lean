/-
  impl.Sealed and impl.Unsealed by contracts: a text of at most 20000 bytes with the four bytes of its sum behind it, and true; of a text that is one the text without them, and true; else the empty text and false.
-/
import Derived.Test.YtdcmpjefemcppaaGreatDoorSum
import Derived.Test.YtdcmpjefemcppaaGreatDoorClone
import Derived.Laws.Concat
import Derived.Deep.RegionHeld3
namespace Go.Proofs.YtdcmpjefemcppaaGreatDoor
open Go.RowKit

theorem seal_bytes (s : ByteArray) : s ++ ⟨(fourL (sumL 4294967295 s.data.toList)).toArray⟩ = (⟨(sealL s.data.toList).toArray⟩ : ByteArray) := by
  apply ByteArray.ext
  simp [sealL]

/-- what Unsealed answers -/
def unOut (s : ByteArray) : Value := if isSealed s.data.toList = true then .tuple #[.string (s.extract 0 (s.size - 4)), .bool true] else .tuple #[.string ⟨#[]⟩, .bool false]

theorem tolist_eq (t : ByteArray) : t.toList = t.data.toList := ByteArray.toList_eq t

theorem list_len (s : ByteArray) : s.data.toList.length = s.size := by rw [Array.length_toList]; rfl

theorem seal_cut (s : ByteArray) (n : Nat) (hn : s.size = n + 4) : (s.extract 0 n).data.toList = s.data.toList.take n ∧ (s.extract n s.size).data.toList = s.data.toList.drop n := by
  constructor
  · simp [ByteArray.data_extract]
  · simp [ByteArray.data_extract, hn]; rw [List.take_of_length_le]; rw [List.length_drop, list_len]; omega

set_option maxHeartbeats 1000000 in
theorem implUnsealed_any (s : ByteArray) (hs : s.size ≤ 1048576) (w : World) (hT : SumTab w) :
    Calls Tryz.prog 62 #[.string s] w fun e w' => e = .returned (unOut s) ∧ Below w.heap.size w w' := by
  have HT := hide hT
  clear hT
  by_cases h4 : s.size < 4
  · have HO : Hid (unOut s = .tuple #[.string ⟨#[]⟩, .bool false]) := hide (by rw [unOut, if_neg]; rw [isSealed, decide_eq_true_eq, list_len]; omega)
    have hd : decide ((s.size : Int) < 4) = true := by simp; omega
    go_enter Tryz.func62, Tryz.ntmps62
    go_wp2
    go_ret2
    rw [HO.out]
    exact ⟨rfl, Below.refl _ _⟩
  · have hd : decide ((s.size : Int) < 4) = false := by simp; omega
    by_cases hbig : 20004 < s.size
    · have HO : Hid (unOut s = .tuple #[.string ⟨#[]⟩, .bool false]) := hide (by rw [unOut, if_neg]; rw [isSealed, decide_eq_true_eq, list_len]; omega)
      have hd2 : decide ((20004 : Int) < (s.size : Int)) = true := by simp; omega
      go_enter Tryz.func62, Tryz.ntmps62
      go_wp2
      go_ret2
      rw [HO.out]
      exact ⟨rfl, Below.refl _ _⟩
    · have hd2 : decide ((20004 : Int) < (s.size : Int)) = false := by simp; omega
      obtain ⟨n, hn⟩ : ∃ n, s.size = n + 4 := ⟨s.size - 4, by omega⟩
      obtain ⟨t, ht⟩ : ∃ t, t = s.extract n s.size := ⟨_, rfl⟩
      obtain ⟨x, hx⟩ : ∃ x, x = sumL 4294967295 (s.data.toList.take n) := ⟨_, rfl⟩
      have hil : (s.extract 0 n).size = n := by rw [ByteArray.size_extract]; omega
      have HC : Hid (∀ wx, SumTab wx → Calls Tryz.prog 79 #[.string (s.extract 0 n)] wx fun e w' => e = .returned (.int .u32 (x : Int)) ∧ wx = w') := hide (fun wx h => by
        have := implSumOf_any (s.extract 0 n) (by omega) wx h
        rw [(seal_cut s n hn).1, ← hx] at this
        exact this)
      have HTl : Hid (t.data.toList = s.data.toList.drop n) := hide (by rw [ht]; exact (seal_cut s n hn).2)
      have HO : Hid (isSealed s.data.toList = decide (t.data.toList = fourL x)) := hide (by rw [isSealed, list_len, hn, Nat.add_sub_cancel, HTl.out, hx]; congr 1; simp; omega)
      have hs2 : ∀ wx : World, (Instr.slice 9 (.string s) (some (.int .i64 (n : Int))) none none).run Tryz.prog wx = .ok (.string t) wx := fun wx => by
        rw [run_slice_string_l (P := Tryz.prog) wx 9 s Tryz.underlying9 .i64 (n : Int) (by omega) (by omega), ht, Int.toNat_natCast]
      have HS : Hid (s.size - 4 = n) := hide (by omega)
      clear ht hx
      go_enter Tryz.func62, Tryz.ntmps62
      go_wp2_with fail
      go_region_held3 (fun _ => True) (trivial) (first | (go_at_call 79; refine (HC.out _ ?_).mono ?_; exact HT.out; rintro e wx ⟨rfl, rfl⟩) | (go_at_call 80; refine (text_any x _).mono ?_; rintro e wx ⟨rfl, hbw⟩))
      by_cases he : t.data.toList = fourL x
      · have hq : (fourL x == t.toList) = true := by rw [tolist_eq, he]; exact beq_self_eq_true _
        rw [hq]
        go_wp2_with fail
        refine (clone_any _ (by omega) _).mono ?_
        rintro e w2 ⟨rfl, hb2⟩
        go_wp2
        go_ret2
        rw [unOut, HO.out, if_pos (by simpa using he), HS.out]
        exact ⟨rfl, (((Below.refl _ _).drew).trans hbw).trans (hb2.mono hbw.size)⟩
      · have hq : (fourL x == t.toList) = false := by rw [tolist_eq]; exact beq_eq_false_iff_ne.2 (fun e => he e.symm)
        rw [hq]
        go_wp2_with fail
        go_ret2
        rw [unOut, HO.out, if_neg (by simpa using he)]
        exact ⟨rfl, ((Below.refl _ _).drew).trans hbw⟩
end Go.Proofs.YtdcmpjefemcppaaGreatDoor
