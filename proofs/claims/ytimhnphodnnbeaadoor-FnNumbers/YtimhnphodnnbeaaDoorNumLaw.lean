/-
  laws.FnNumbers returns true at every code of at most 1048576 bytes (and at a longer one at once), where the table of powers of ten holds what its initialiser lays.
-/
import Derived.Test.YtimhnphodnnbeaaDoorDraw3
import Derived.Test.YtimhnphodnnbeaaDoorShort
import Derived.Test.YtimhnphodnnbeaaDoorReadSh
import Derived.Test.YtimhnphodnnbeaaDoorHex
import Derived.Test.YtimhnphodnnbeaaDoorUnhex
import Derived.Test.YtimhnphodnnbeaaDoorReadDec
import Derived.Test.YtimhnphodnnbeaaDoorDecLaw
import Derived.Test.YtimhnphodnnbeaaDoorPlain7
namespace Go.Proofs.YtimhnphodnnbeaaDoor
open Go.RowKit

theorem big_no (a : Option Addr) (len cap : Nat) (h : len ≤ 1048576) (w : World) : Calls Tryd.prog 4 #[.slice a len cap] w fun e w' => e = .returned (.bool false) ∧ w = w' := by
  have hq : decide ((1048576 : Int) < (len : Int)) = false := by simp; omega
  go_enter Tryd.func4, Tryd.ntmps4
  go_wp2
  go_ret
  exact ⟨rfl, rfl⟩

theorem big_yes (a : Option Addr) (len cap : Nat) (h : 1048576 < len) (w : World) : Calls Tryd.prog 4 #[.slice a len cap] w fun e w' => e = .returned (.bool true) ∧ w = w' := by
  have hq : decide ((1048576 : Int) < (len : Int)) = true := by simp; omega
  go_enter Tryd.func4, Tryd.ntmps4
  go_wp2
  go_ret
  exact ⟨rfl, rfl⟩

theorem ba_list (x : ByteArray) : (⟨x.data.toList.toArray⟩ : ByteArray) = x := by rw [Array.toArray_toList]

theorem var_ex (n : Nat) (hn : n ≤ 1000000000) (w : World) : Calls Tryd.prog 6 #[.int .i64 (n : Int)] w fun e w' => ∃ sv : ByteArray, sv.size ≤ 5 ∧ e = .returned (.tuple #[.string sv, .bool true]) ∧ Hid (sv = ⟨(vtext n).toArray⟩) ∧ Below w.heap.size w w' := by
  refine (implVarText_yes (n : Int) (by omega) (by omega) w).mono ?_
  rintro e w1 ⟨rfl, hb⟩
  rw [Int.toNat_natCast]
  exact ⟨_, by rw [size_list]; exact (vtext_length n).2, rfl, hide rfl, hb⟩

theorem readVar_back (n : Nat) (hn : n ≤ 1000000000) (sv : ByteArray) (hs : sv = ⟨(vtext n).toArray⟩) (w : World) :
    Calls Tryd.prog 7 #[.string (⟨#[120]⟩ ++ sv ++ ⟨#[121]⟩), .int .i64 1] w fun e w' => e = .returned (.tuple #[.int .i64 (n : Int), .int .i64 ((sv.size : Int) + 1), .bool true]) ∧ w = w' := by
  have hl := vtext_length n
  have e1 : (⟨#[120]⟩ ++ sv ++ ⟨#[121]⟩ : ByteArray) = ⟨([120] ++ vtext n ++ [121]).toArray⟩ := by
    rw [hs]
    apply ByteArray.ext
    simp [ByteArray.data_append]
  rw [e1]
  have hr := rv_round n hn [120] [121]
  have h := implReadVar_in ⟨([120] ++ vtext n ++ [121]).toArray⟩ 1 (by rw [size_list]; simp; omega) (by rw [size_list]; simp) w
  rw [show ([120] : List UInt8).length = 1 from rfl] at hr
  rw [hr] at h
  refine h.mono ?_
  rintro e w1 ⟨rfl, rfl⟩
  refine ⟨?_, rfl⟩
  rw [hs, size_list, rvOut, show ((1 + (vtext n).length : Nat) : Int) = ((vtext n).length : Int) + 1 from by omega]

theorem dec_ex (n : Nat) (hn : n ≤ 1000000000) (w : World) (htab : Lib.TabIs Tryd.prog w "internal/strconv.uint64pow10" .u64 Lib.pow10Tab) :
    Calls Tryd.prog 9 #[.int .i64 (n : Int)] w fun e w' => ∃ dv : ByteArray, dv.size ≤ 20 ∧ e = .returned (.string dv) ∧ Hid (dv = ⟨(decN n).toArray⟩) ∧ Below w.heap.size w w' := by
  refine (implDecimal_any (n : Int) (by omega) (by omega) w htab).mono ?_
  rintro e w1 ⟨rfl, hb⟩
  rw [itoa_nat n (by omega)]
  refine ⟨_, ?_, rfl, hide rfl, hb⟩
  rw [size_list]
  unfold decN
  split
  · simp
  · exact decF_length 20 n

theorem readDec_back (n : Nat) (hn : n ≤ 1000000000) (dv : ByteArray) (hs : dv = ⟨(decN n).toArray⟩) (hz : dv.size ≤ 20) (w : World) :
    Calls Tryd.prog 8 #[.string dv] w fun e w' => e = .returned (.tuple #[.int .i64 (n : Int), .bool true]) ∧ Below w.heap.size w w' := by
  obtain ⟨hok, hv⟩ := dec_round n hn
  refine (implReadDecimal_any dv (by omega) w).mono ?_
  rintro e w1 ⟨he, _, hb⟩
  rw [hs] at he
  rw [hv] at he
  exact ⟨he hok, hb⟩

theorem short_ex (t : ByteArray) (ht : t.size ≤ 300) (w : World) : Calls Tryd.prog 11 #[.string t] w fun e w' => ∃ av : ByteArray, av.size ≤ 400 ∧ e = .returned (.tuple #[.string av, .bool true]) ∧ Hid (av = ⟨(vtext t.size).toArray⟩ ++ t) ∧ Below w.heap.size w w' := by
  refine (implShortText_yes t (by omega) w).mono ?_
  rintro e w1 ⟨rfl, hb⟩
  have hl := vtext_length t.size
  exact ⟨_, by rw [ByteArray.size_append, size_list]; omega, rfl, hide rfl, hb⟩

theorem readShort_back (t av : ByteArray) (ht : t.size ≤ 300) (hs : av = ⟨(vtext t.size).toArray⟩ ++ t) (w : World) :
    Calls Tryd.prog 12 #[.string av, .int .i64 0] w fun e w' => e = .returned (.tuple #[.string t, .int .i64 (av.size : Int), .bool true]) ∧ Below w.heap.size w w' := by
  have hl := vtext_length t.size
  have e1 : av = ⟨([] ++ vtext t.size ++ t.data.toList).toArray⟩ := by
    rw [hs]
    apply ByteArray.ext
    simp [ByteArray.data_append]
  have hsz : av.size = (vtext t.size).length + t.size := by rw [hs, ByteArray.size_append, size_list]
  have hr := rv_round t.size (by omega) [] t.data.toList
  rw [← e1, show ([] : List UInt8).length = 0 from rfl] at hr
  have h := implReadShort_in av 0 (by omega) (by omega) w
  rw [hr] at h
  refine h.mono ?_
  rintro e w1 ⟨rfl, hb⟩
  refine ⟨?_, hb⟩
  rw [shOut, if_pos ⟨by omega, by omega⟩]
  have ex : av.extract (0 + (vtext t.size).length) (0 + (vtext t.size).length + t.size) = t := by
    have hdl : t.data.toList.length = t.size := by rw [Array.length_toList]; rfl
    have e2 : av.data.toList = vtext t.size ++ t.data.toList := by rw [e1]; simp
    have hd : (av.extract (0 + (vtext t.size).length) (0 + (vtext t.size).length + t.size)).data.toList = t.data.toList := by
      rw [Lib.extract_data, e2, Nat.zero_add, List.drop_left, List.take_of_length_le (by omega)]
    rw [← ba_list (av.extract _ _), hd, ba_list]
  rw [ex, hsz]
  simp

theorem hex_ex (t : ByteArray) (ht : t.size ≤ 300) (w : World) : Calls Tryd.prog 13 #[.string t] w fun e w' => ∃ hv : ByteArray, hv.size ≤ 600 ∧ e = .returned (.tuple #[.string hv, .bool true]) ∧ Hid (hv = ⟨(hexOf t.data.toList).toArray⟩) ∧ Below w.heap.size w w' := by
  refine (implHex_yes t (by omega) w).mono ?_
  rintro e w1 ⟨rfl, hb⟩
  have hdl : t.data.toList.length = t.size := by rw [Array.length_toList]; rfl
  exact ⟨_, by rw [size_list, hexOf_length, hdl]; omega, rfl, hide rfl, hb⟩

theorem unhex_back (t hv : ByteArray) (ht : t.size ≤ 300) (hs : hv = ⟨(hexOf t.data.toList).toArray⟩) (w : World) :
    Calls Tryd.prog 14 #[.string hv] w fun e w' => e = .returned (.tuple #[.string t, .bool true]) ∧ Below w.heap.size w w' := by
  have hdl : t.data.toList.length = t.size := by rw [Array.length_toList]; rfl
  obtain ⟨h1, h2⟩ := hex_round t.data.toList
  rw [hdl] at h2
  refine (implUnhex_even hv t.size (by rw [hs, size_list, hexOf_length, hdl]) (by rw [hs, size_list, hexOf_length, hdl]; omega) w).mono ?_
  rintro e w1 ⟨he, _, hb⟩
  rw [hs] at he
  rw [h2, ba_list] at he
  exact ⟨he h1, hb⟩

theorem code_below {w w' : World} {a : Option Addr} {len : Nat} (h : CodeIn w w.heap.size a len) (hb : Below w.heap.size w w') : CodeIn w' w'.heap.size a len := by
  refine ⟨h.1, ?_⟩
  rcases h.2 with h0 | ⟨b, off, e, hlt, hz⟩
  · exact Or.inl h0
  · refine Or.inr ⟨b, off, e, Nat.lt_of_lt_of_le hlt hb.size, fun j hj => ?_⟩
    obtain ⟨z, h1, h2⟩ := hz j hj
    exact ⟨z, h1, by rw [hb.cell (by exact hlt)]; exact h2⟩

theorem var_z (z : Int) (n : Nat) (hz : z = (n : Int)) (hn : n ≤ 1000000000) (w : World) : Calls Tryd.prog 6 #[.int .i64 z] w fun e w' => ∃ sv : ByteArray, sv.size ≤ 5 ∧ e = .returned (.tuple #[.string sv, .bool true]) ∧ Hid (sv = ⟨(vtext n).toArray⟩) ∧ Below w.heap.size w w' := by
  subst hz; exact var_ex n hn w

theorem readVar_z (z : Int) (n : Nat) (hz : z = (n : Int)) (hn : n ≤ 1000000000) (sv : ByteArray) (hs : sv = ⟨(vtext n).toArray⟩) (w : World) :
    Calls Tryd.prog 7 #[.string (⟨#[120]⟩ ++ sv ++ ⟨#[121]⟩), .int .i64 1] w fun e w' => e = .returned (.tuple #[.int .i64 z, .int .i64 ((sv.size : Int) + 1), .bool true]) ∧ w = w' := by
  subst hz; exact readVar_back n hn sv hs w

theorem dec_z (z : Int) (n : Nat) (hz : z = (n : Int)) (hn : n ≤ 1000000000) (w : World) (htab : Lib.TabIs Tryd.prog w "internal/strconv.uint64pow10" .u64 Lib.pow10Tab) :
    Calls Tryd.prog 9 #[.int .i64 z] w fun e w' => ∃ dv : ByteArray, dv.size ≤ 20 ∧ e = .returned (.string dv) ∧ Hid (dv = ⟨(decN n).toArray⟩) ∧ Below w.heap.size w w' := by
  subst hz; exact dec_ex n hn w htab

theorem readDec_z (z : Int) (n : Nat) (hz : z = (n : Int)) (hn : n ≤ 1000000000) (dv : ByteArray) (hs : dv = ⟨(decN n).toArray⟩) (hsz : dv.size ≤ 20) (w : World) :
    Calls Tryd.prog 8 #[.string dv] w fun e w' => e = .returned (.tuple #[.int .i64 z, .bool true]) ∧ Below w.heap.size w w' := by
  subst hz; exact readDec_back n hn dv hs hsz w

set_option maxHeartbeats 4000000 in
set_option maxRecDepth 100000 in
theorem lawNumbers (a : Option Addr) (len cap : Nat) (w : World) (hd : 1048576 < len ∨ CodeIn w w.heap.size a len) (htab : Lib.TabIs Tryd.prog w "internal/strconv.uint64pow10" .u64 Lib.pow10Tab) :
    Calls Tryd.prog 3 #[.slice a len cap] w fun e w' => e = .returned (.bool true) ∧ Below w.heap.size w w' := by
  have HT := hide (Lib.tabBelow_of_tabIs htab)
  clear htab
  by_cases hbig : 1048576 < len
  · clear hd
    go_enter Tryd.func3, Tryd.ntmps3
    go_wp2_with fail
    refine (big_yes a len cap hbig _).mono ?_
    rintro e w1 ⟨rfl, rfl⟩
    go_wp2_with fail
    go_ret
    exact ⟨rfl, Below.refl _ _⟩
  · have HD : Hid (CodeIn w w.heap.size a len) := hide (hd.resolve_left hbig)
    clear hd
    go_enter Tryd.func3, Tryd.ntmps3
    go_wp2_with fail
    refine (big_no a len cap (by omega) _).mono ?_
    rintro e w1 ⟨rfl, rfl⟩
    go_wp2_with fail
    refine (drawVarText_any a len cap _ HD.out).mono ?_
    rintro e w1 ⟨z, hz1, hz2, rfl, hb1⟩
    have HB1 := hide hb1
    clear hb1
    by_cases hz : 0 ≤ z ∧ z ≤ 1000000000
    · obtain ⟨n, hn⟩ := Int.eq_ofNat_of_zero_le hz.1
      subst hn
      have hn9 : n ≤ 1000000000 := by omega
      have hq1 : decide ((n : Int) < 0) = false := by simp
      have hq2 : decide ((1000000000 : Int) < (n : Int)) = false := by simp; omega
      clear hz hz1 hz2
      go_wp2_with fail
      refine (var_z (n : Int) n rfl hn9 _).mono ?_
      rintro e w2 ⟨sv, hsv, rfl, HSv, hb2⟩
      have HB2 : Hid (Below w.heap.size w w2) := hide (HB1.out.trans (hb2.mono HB1.out.size))
      clear hb2
      go_wp2_with fail
      refine (readVar_z (n : Int) n rfl hn9 sv HSv.out _).mono ?_
      rintro e w3 ⟨rfl, rfl⟩
      go_wp2_with fail
      refine (dec_z (n : Int) n rfl hn9 _ (HT.out.on HB2.out).here).mono ?_
      rintro e w3 ⟨dv, hdv, rfl, HDv, hb3⟩
      have HB3 : Hid (Below w.heap.size w w3) := hide (HB2.out.trans (hb3.mono HB2.out.size))
      clear hb3
      go_wp2_with fail
      refine (readDec_z (n : Int) n rfl hn9 dv HDv.out hdv _).mono ?_
      rintro e w4 ⟨rfl, hb4⟩
      have HB4 : Hid (Below w.heap.size w w4) := hide (HB3.out.trans (hb4.mono HB3.out.size))
      clear hb4
      go_wp2_with fail
      refine (drawHex_any a len cap _ (code_below HD.out HB4.out)).mono ?_
      rintro e w5 ⟨t, ht, rfl, hb5⟩
      have HB5 : Hid (Below w.heap.size w w5) := hide (HB4.out.trans (hb5.mono HB4.out.size))
      clear hb5
      by_cases h300 : 300 < t.size
      · have HTs : Hid ((⟨#[97, 98, 99]⟩ : ByteArray).size ≤ 300) := hide (by show 3 ≤ 300; omega)
        go_wp2_with fail
        refine (short_ex ⟨#[97, 98, 99]⟩ HTs.out _).mono ?_
        rintro e w6 ⟨av, hav, rfl, HAv, hb6⟩
        have HB6 := hide hb6
        clear hb6
        go_wp2_with fail
        refine (readShort_back ⟨#[97, 98, 99]⟩ av HTs.out HAv.out _).mono ?_
        rintro e w7 ⟨rfl, hb7⟩
        have HB7 := hide hb7
        clear hb7
        go_wp2_with fail
        refine (hex_ex ⟨#[97, 98, 99]⟩ HTs.out _).mono ?_
        rintro e w8 ⟨hv, hhv, rfl, HHv, hb8⟩
        have HB8 := hide hb8
        clear hb8
        go_wp2_with fail
        refine (unhex_back ⟨#[97, 98, 99]⟩ hv HTs.out HHv.out _).mono ?_
        rintro e w9 ⟨rfl, hb9⟩
        have HB9 := hide hb9
        clear hb9
        go_wp2_with fail
        go_ret
        exact ⟨rfl, HB5.out.trans ((HB6.out.mono HB5.out.size).trans ((HB7.out.mono (Nat.le_trans HB5.out.size HB6.out.size)).trans ((HB8.out.mono (Nat.le_trans HB5.out.size (Nat.le_trans HB6.out.size HB7.out.size))).trans (HB9.out.mono (Nat.le_trans HB5.out.size (Nat.le_trans HB6.out.size (Nat.le_trans HB7.out.size HB8.out.size)))))))⟩
      · have HTs : Hid (t.size ≤ 300) := hide (by omega)
        go_wp2_with fail
        refine (short_ex t HTs.out _).mono ?_
        rintro e w6 ⟨av, hav, rfl, HAv, hb6⟩
        have HB6 := hide hb6
        clear hb6
        go_wp2_with fail
        refine (readShort_back t av HTs.out HAv.out _).mono ?_
        rintro e w7 ⟨rfl, hb7⟩
        have HB7 := hide hb7
        clear hb7
        go_wp2_with fail
        refine (hex_ex t HTs.out _).mono ?_
        rintro e w8 ⟨hv, hhv, rfl, HHv, hb8⟩
        have HB8 := hide hb8
        clear hb8
        go_wp2_with fail
        refine (unhex_back t hv HTs.out HHv.out _).mono ?_
        rintro e w9 ⟨rfl, hb9⟩
        have HB9 := hide hb9
        clear hb9
        go_wp2_with fail
        go_ret
        exact ⟨rfl, HB5.out.trans ((HB6.out.mono HB5.out.size).trans ((HB7.out.mono (Nat.le_trans HB5.out.size HB6.out.size)).trans ((HB8.out.mono (Nat.le_trans HB5.out.size (Nat.le_trans HB6.out.size HB7.out.size))).trans (HB9.out.mono (Nat.le_trans HB5.out.size (Nat.le_trans HB6.out.size (Nat.le_trans HB7.out.size HB8.out.size)))))))⟩
    · obtain ⟨n, hn⟩ : ∃ n : Nat, n = 12345 := ⟨_, rfl⟩
      have HZN : Hid ((12345 : Int) = (n : Int)) := hide (by omega)
      have HN9 : Hid (n ≤ 1000000000) := hide (by omega)
      clear hn
      by_cases hneg : z < 0
      · clear hz hz1 hz2
        go_wp2_with fail
        refine (var_z 12345 n HZN.out HN9.out _).mono ?_
        rintro e w2 ⟨sv, hsv, rfl, HSv, hb2⟩
        have HB2 : Hid (Below w.heap.size w w2) := hide (HB1.out.trans (hb2.mono HB1.out.size))
        clear hb2
        go_wp2_with fail
        refine (readVar_z 12345 n HZN.out HN9.out sv HSv.out _).mono ?_
        rintro e w3 ⟨rfl, rfl⟩
        go_wp2_with fail
        refine (dec_z 12345 n HZN.out HN9.out _ (HT.out.on HB2.out).here).mono ?_
        rintro e w3 ⟨dv, hdv, rfl, HDv, hb3⟩
        have HB3 : Hid (Below w.heap.size w w3) := hide (HB2.out.trans (hb3.mono HB2.out.size))
        clear hb3
        go_wp2_with fail
        refine (readDec_z 12345 n HZN.out HN9.out dv HDv.out hdv _).mono ?_
        rintro e w4 ⟨rfl, hb4⟩
        have HB4 : Hid (Below w.heap.size w w4) := hide (HB3.out.trans (hb4.mono HB3.out.size))
        clear hb4
        go_wp2_with fail
        refine (drawHex_any a len cap _ (code_below HD.out HB4.out)).mono ?_
        rintro e w5 ⟨t, ht, rfl, hb5⟩
        have HB5 : Hid (Below w.heap.size w w5) := hide (HB4.out.trans (hb5.mono HB4.out.size))
        clear hb5
        by_cases h300 : 300 < t.size
        · have HTs : Hid ((⟨#[97, 98, 99]⟩ : ByteArray).size ≤ 300) := hide (by show 3 ≤ 300; omega)
          go_wp2_with fail
          refine (short_ex ⟨#[97, 98, 99]⟩ HTs.out _).mono ?_
          rintro e w6 ⟨av, hav, rfl, HAv, hb6⟩
          have HB6 := hide hb6
          clear hb6
          go_wp2_with fail
          refine (readShort_back ⟨#[97, 98, 99]⟩ av HTs.out HAv.out _).mono ?_
          rintro e w7 ⟨rfl, hb7⟩
          have HB7 := hide hb7
          clear hb7
          go_wp2_with fail
          refine (hex_ex ⟨#[97, 98, 99]⟩ HTs.out _).mono ?_
          rintro e w8 ⟨hv, hhv, rfl, HHv, hb8⟩
          have HB8 := hide hb8
          clear hb8
          go_wp2_with fail
          refine (unhex_back ⟨#[97, 98, 99]⟩ hv HTs.out HHv.out _).mono ?_
          rintro e w9 ⟨rfl, hb9⟩
          have HB9 := hide hb9
          clear hb9
          go_wp2_with fail
          go_ret
          exact ⟨rfl, HB5.out.trans ((HB6.out.mono HB5.out.size).trans ((HB7.out.mono (Nat.le_trans HB5.out.size HB6.out.size)).trans ((HB8.out.mono (Nat.le_trans HB5.out.size (Nat.le_trans HB6.out.size HB7.out.size))).trans (HB9.out.mono (Nat.le_trans HB5.out.size (Nat.le_trans HB6.out.size (Nat.le_trans HB7.out.size HB8.out.size)))))))⟩
        · have HTs : Hid (t.size ≤ 300) := hide (by omega)
          go_wp2_with fail
          refine (short_ex t HTs.out _).mono ?_
          rintro e w6 ⟨av, hav, rfl, HAv, hb6⟩
          have HB6 := hide hb6
          clear hb6
          go_wp2_with fail
          refine (readShort_back t av HTs.out HAv.out _).mono ?_
          rintro e w7 ⟨rfl, hb7⟩
          have HB7 := hide hb7
          clear hb7
          go_wp2_with fail
          refine (hex_ex t HTs.out _).mono ?_
          rintro e w8 ⟨hv, hhv, rfl, HHv, hb8⟩
          have HB8 := hide hb8
          clear hb8
          go_wp2_with fail
          refine (unhex_back t hv HTs.out HHv.out _).mono ?_
          rintro e w9 ⟨rfl, hb9⟩
          have HB9 := hide hb9
          clear hb9
          go_wp2_with fail
          go_ret
          exact ⟨rfl, HB5.out.trans ((HB6.out.mono HB5.out.size).trans ((HB7.out.mono (Nat.le_trans HB5.out.size HB6.out.size)).trans ((HB8.out.mono (Nat.le_trans HB5.out.size (Nat.le_trans HB6.out.size HB7.out.size))).trans (HB9.out.mono (Nat.le_trans HB5.out.size (Nat.le_trans HB6.out.size (Nat.le_trans HB7.out.size HB8.out.size)))))))⟩
      · have hbigz : 1000000000 < z := by omega
        have hnn : ¬ z < 0 := hneg
        clear hz hz1 hz2 hneg
        go_wp2_with fail
        refine (var_z 12345 n HZN.out HN9.out _).mono ?_
        rintro e w2 ⟨sv, hsv, rfl, HSv, hb2⟩
        have HB2 : Hid (Below w.heap.size w w2) := hide (HB1.out.trans (hb2.mono HB1.out.size))
        clear hb2
        go_wp2_with fail
        refine (readVar_z 12345 n HZN.out HN9.out sv HSv.out _).mono ?_
        rintro e w3 ⟨rfl, rfl⟩
        go_wp2_with fail
        refine (dec_z 12345 n HZN.out HN9.out _ (HT.out.on HB2.out).here).mono ?_
        rintro e w3 ⟨dv, hdv, rfl, HDv, hb3⟩
        have HB3 : Hid (Below w.heap.size w w3) := hide (HB2.out.trans (hb3.mono HB2.out.size))
        clear hb3
        go_wp2_with fail
        refine (readDec_z 12345 n HZN.out HN9.out dv HDv.out hdv _).mono ?_
        rintro e w4 ⟨rfl, hb4⟩
        have HB4 : Hid (Below w.heap.size w w4) := hide (HB3.out.trans (hb4.mono HB3.out.size))
        clear hb4
        go_wp2_with fail
        refine (drawHex_any a len cap _ (code_below HD.out HB4.out)).mono ?_
        rintro e w5 ⟨t, ht, rfl, hb5⟩
        have HB5 : Hid (Below w.heap.size w w5) := hide (HB4.out.trans (hb5.mono HB4.out.size))
        clear hb5
        by_cases h300 : 300 < t.size
        · have HTs : Hid ((⟨#[97, 98, 99]⟩ : ByteArray).size ≤ 300) := hide (by show 3 ≤ 300; omega)
          go_wp2_with fail
          refine (short_ex ⟨#[97, 98, 99]⟩ HTs.out _).mono ?_
          rintro e w6 ⟨av, hav, rfl, HAv, hb6⟩
          have HB6 := hide hb6
          clear hb6
          go_wp2_with fail
          refine (readShort_back ⟨#[97, 98, 99]⟩ av HTs.out HAv.out _).mono ?_
          rintro e w7 ⟨rfl, hb7⟩
          have HB7 := hide hb7
          clear hb7
          go_wp2_with fail
          refine (hex_ex ⟨#[97, 98, 99]⟩ HTs.out _).mono ?_
          rintro e w8 ⟨hv, hhv, rfl, HHv, hb8⟩
          have HB8 := hide hb8
          clear hb8
          go_wp2_with fail
          refine (unhex_back ⟨#[97, 98, 99]⟩ hv HTs.out HHv.out _).mono ?_
          rintro e w9 ⟨rfl, hb9⟩
          have HB9 := hide hb9
          clear hb9
          go_wp2_with fail
          go_ret
          exact ⟨rfl, HB5.out.trans ((HB6.out.mono HB5.out.size).trans ((HB7.out.mono (Nat.le_trans HB5.out.size HB6.out.size)).trans ((HB8.out.mono (Nat.le_trans HB5.out.size (Nat.le_trans HB6.out.size HB7.out.size))).trans (HB9.out.mono (Nat.le_trans HB5.out.size (Nat.le_trans HB6.out.size (Nat.le_trans HB7.out.size HB8.out.size)))))))⟩
        · have HTs : Hid (t.size ≤ 300) := hide (by omega)
          go_wp2_with fail
          refine (short_ex t HTs.out _).mono ?_
          rintro e w6 ⟨av, hav, rfl, HAv, hb6⟩
          have HB6 := hide hb6
          clear hb6
          go_wp2_with fail
          refine (readShort_back t av HTs.out HAv.out _).mono ?_
          rintro e w7 ⟨rfl, hb7⟩
          have HB7 := hide hb7
          clear hb7
          go_wp2_with fail
          refine (hex_ex t HTs.out _).mono ?_
          rintro e w8 ⟨hv, hhv, rfl, HHv, hb8⟩
          have HB8 := hide hb8
          clear hb8
          go_wp2_with fail
          refine (unhex_back t hv HTs.out HHv.out _).mono ?_
          rintro e w9 ⟨rfl, hb9⟩
          have HB9 := hide hb9
          clear hb9
          go_wp2_with fail
          go_ret
          exact ⟨rfl, HB5.out.trans ((HB6.out.mono HB5.out.size).trans ((HB7.out.mono (Nat.le_trans HB5.out.size HB6.out.size)).trans ((HB8.out.mono (Nat.le_trans HB5.out.size (Nat.le_trans HB6.out.size HB7.out.size))).trans (HB9.out.mono (Nat.le_trans HB5.out.size (Nat.le_trans HB6.out.size (Nat.le_trans HB7.out.size HB8.out.size)))))))⟩
end Go.Proofs.YtimhnphodnnbeaaDoor
